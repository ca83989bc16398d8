import Derived.Test.YtbiobmdibiplfaaWj
import Derived.Test.YtbiobmdibiplfaaWa
set_option linter.unusedVariables false
set_option linter.unusedSimpArgs false
namespace Go.FX
open Go Go.RowKit
def infW : Nat := 2139095040
theorem flInf : Fl .f32 2139095040 2139095040 := ⟨by decide, by decide⟩
/-- The least cost of a row, or the infinity. -/
def leastV (row : List Nat) : Nat := if winI row (fun _ => true) < 0 then 2139095040 else row.getD (winI row fun _ => true).toNat 0
theorem leastV_neg {row : List Nat} (h : winI row (fun _ => true) < 0) : leastV row = 2139095040 := if_pos h
theorem leastV_pos {row : List Nat} {d : Nat} (h : winI row (fun _ => true) = d) : leastV row = row.getD d 0 := by
  unfold leastV
  rw [h, if_neg (by omega), Int.toNat_natCast]
end Go.FX
namespace Go.Proofs.Ytbiobmdibiplfaa
open Go.FX Go.RowKit Go.WideShapes Go.ChangeShapes
attribute [local go_sem ↓] Go.wp_at_zero Go.wp_at_succ

theorem implInf_any (w : World) : Calls Try.prog 88 #[] w (RF .f32 2139095040 w) := by
  go_enter Try.func88, Try.ntmps88
  go_wp2
  go_ret
  exact ⟨_, _, rfl, by first | rfl | exact (World.drewN_zero _).symm, by first | exact flInf | exact Fl.flR flInf flInf _⟩
theorem specInf_any (w : World) : Calls Try.prog 85 #[] w (RF .f32 2139095040 w) := by
  go_enter Try.func85, Try.ntmps85
  go_wp2
  go_ret
  exact ⟨_, _, rfl, by first | rfl | exact (World.drewN_zero _).symm, by first | exact flInf | exact Fl.flR flInf flInf _⟩
set_option maxHeartbeats 2000000 in
theorem leastFn_any (D : Nat) (w : World) : TellFn Try.prog 87 #[] #[] D leastV w := by
  intro w1 v row hb hv hl
  have hlt := winI_lt row (fun _ => true)
  obtain ⟨a, c, rfl, hnc, hcm⟩ := hv.shape
  unfold maxLen at hcm
  show Calls Try.prog 87 #[.slice a row.length c, .int .i64 (winI row fun _ => true)] w1 (RFb .f32 (leastV row) w1)
  by_cases hn : winI row (fun _ => true) < 0
  · have hV := Lib.hid (leastV_neg hn)
    generalize winI row (fun _ => true) = B at hn hlt ⊢
    clear hv hl
    generalize row.length = n at *
    go_enter Try.func87, Try.ntmps87
    go_wp2_with fail
    refine (implInf_any _).mono ?_
    rintro e w2 ⟨r, m, rfl, rfl, hr⟩
    go_wp2_with fail
    go_ret
    exact ⟨_, rfl, by ((repeat' (first | (refine bel_set ?_ ?_ _) | (refine bel_al ?_ ?_ _) | exact Below.refl _ _ | assumption | (refine below_drewN ?_ _) | (refine Below.drew ?_))) <;> (first | omega | (simp; done) | (simp; omega))), by rw [hV.out]; exact hr⟩
  · obtain ⟨d, hd⟩ := Int.eq_ofNat_of_zero_le (a := winI row fun _ => true) (by omega)
    have hV := Lib.hid (leastV_pos hd)
    have hd2 : d < row.length := by have := hlt.2; omega
    rw [hd]
    obtain ⟨bb, off, cc, z, ev, _, _, _, hz, hc⟩ := hv.cell hd2
    obtain rfl : a = some ⟨bb, off, none⟩ := (Value.slice.inj ev).1
    have hz' := Lib.hid hz
    clear ev hn hd hlt hv hl hz
    generalize row.length = n at *
    go_enter Try.func87, Try.ntmps87
    go_wp2_with fail
    go_ret
    exact ⟨_, rfl, by ((repeat' (first | (refine bel_set ?_ ?_ _) | (refine bel_al ?_ ?_ _) | exact Below.refl _ _ | assumption | (refine below_drewN ?_ _) | (refine Below.drew ?_))) <;> (first | omega | (simp; done) | (simp; omega))), by rw [hV.out]; exact hz'.out⟩
set_option maxRecDepth 100000 in
set_option maxHeartbeats 8000000 in
theorem specLeastCosts_any (W H D : Nat) (a : Option Addr) (n c : Nat) (cs : List Nat) (w : World) (hv : FC w (.slice a n c) cs) (b1 : 1 ≤ W) (b2 : W ≤ 24) (b3 : 1 ≤ H) (b4 : H ≤ 24) (b5 : H * W ≤ 256) (d1 : 1 ≤ D) (d2 : D ≤ 8) (hl : cs.length = H * W * D) :
    Calls Try.prog 44 #[.agg #[.int .i64 W, .int .i64 H, .int .i64 D, .slice a n c]] w (RPic 49 W H (seqL (fun i => leastV (rowC D cs i)) (H * W)) true w) := by
  obtain ⟨rfl, hnc, hcm⟩ := hv.sized
  have hval := Lib.hid (volB_mk b1 b2 b3 b4 b5 d1 d2 hl)
  have h1 := fun w1 hp => specVIs_any W H D a cs.length c w.heap.size w1 hp (by unfold maxLen at hcm; omega)
  have h3 := fun r w1 hr => specMFlat_any W H r 2139095040 hr w1 b1 b2 b3 b4 b5
  have hsw := fun w1 k hp hv hk => specWinner_any W H D a cs.length c w.heap.size cs k (-1) w1 hp hv hk b5 d1 d2 hl
  simp only [notD_none2] at hsw
  have h0 : 0 < H * W := Nat.mul_pos b3 b1
  obtain ⟨N, hN⟩ : ∃ N, N = H * W := ⟨_, rfl⟩
  rw [← hN] at h3 hsw h0 b5 hl ⊢
  obtain ⟨os, hos⟩ : ∃ os, os = seqL (fun _ => 2139095040) N := ⟨_, rfl⟩
  have hol : os.length = N := by rw [hos, seqL_len]
  have hog : ∀ k, k < N → os.getD k 0 = 2139095040 := fun k hk => by rw [hos, seqL_get _ _ _ hk]
  rw [← hos] at h3
  have hog := Lib.hid hog
  have hl' := Lib.hid hl
  have hw0 := Lib.hid (hN)
  clear hos hl hN
  go_enter Try.func44, Try.ntmps44
  go_wp2_with fail
  have hP1 := (Pw.new w W H D (.slice a cs.length c) 41).alloc (.cells #[.int .i64 0, .int .i64 0, .slice none 0 0] 34)
  have hN1 := Nv.new (w.alloc (.cells #[.int .i64 W, .int .i64 H, .int .i64 D, .slice a cs.length c] 41)) (.int .i64 0) (.int .i64 0) (.slice none 0 0) 34
  simp only [World.size_alloc] at hN1
  refine (h1 _ hP1).mono ?_
  rintro e w1 ⟨k0, rfl, rfl⟩
  rw [hval.out]
  obtain ⟨w0, hw0⟩ : ∃ w0, w0 = ((w.alloc (.cells #[.int .i64 W, .int .i64 H, .int .i64 D, .slice a cs.length c] 41)).alloc (.cells #[.int .i64 0, .int .i64 0, .slice none 0 0] 34)).drewN k0 := ⟨_, rfl⟩
  rw [← hw0]
  have hp0 : Pw w0 w.heap.size W H D (.slice a cs.length c) := by rw [hw0]; exact hP1.drewN k0
  have hn0 : Nv w0 (w.heap.size + 1) (.int .i64 0) (.int .i64 0) (.slice none 0 0) := by rw [hw0]; exact hN1.drewN k0
  have hb0 : Below w.heap.size w w0 := by rw [hw0]; exact below_drewN (below2 _ _ _) _
  have hlt0 : w.heap.size + 1 < w0.heap.size := hn0.1
  clear hw0 hP1 hN1
  obtain ⟨hp1, p0, p1, p2, p3⟩ := id hp0
  have hpv := Lib.hid (And.intro hp0 (And.intro (hv.below hb0) (And.intro hn0 hb0)))
  clear hp0 hn0 hb0 hv h1
  go_upto_region 3 with fail
  go_cut [4] (fun s4 wx => ∃ bo, s4 = .pointer (some ⟨bo, 0, none⟩) ∧ Mk 49 w0 bo W H os wx)
  case first =>
    go_region_held3 (fun w' => Below w0.heap.size w0 w' ∧ w0.heap.size ≤ w'.heap.size ∧ (∀ b o, b < w0.heap.size → w'.cell? ⟨b, o, none⟩ = w0.cell? ⟨b, o, none⟩)) (first | exact keepStart _ | assumption | exact ⟨by assumption, by assumption, by assumption⟩ | exact keepCall (by assumption) (by assumption) | exact keepAlloc (by assumption) | (refine keepSet ?_ (keepSet ?_ (keepSet ?_ (keepSet ?_ ?_))) <;> first | assumption | omega | (simp; done) | (simp; omega)) | (refine keepSet ?_ (keepSet ?_ (keepSet ?_ ?_)) <;> first | assumption | omega | (simp; done) | (simp; omega)) | (refine keepSet ?_ (keepSet ?_ ?_) <;> first | assumption | omega | (simp; done) | (simp; omega)) | (refine keepSet ?_ ?_ <;> first | assumption | omega | (simp; done) | (simp; omega)) | ((refine keepOf ?_; ((repeat' (first | (refine bel_set ?_ ?_ _) | (refine bel_al ?_ ?_ _) | exact Below.refl _ _ | assumption | exact And.left (by assumption) | (refine below_drewN ?_ _) | (refine Below.drew ?_))) <;> (first | omega | (simp; done) | (simp; omega))))))
      (first
        | (go_at_call 85; (with_reducible refine (specInf_any _).mono ?_); rintro e w1 ⟨r, m, rfl, rfl, hr⟩)
        | (go_at_call 84; (with_reducible refine (h3 _ _ hr).mono ?_); rintro e w1 ⟨a1, n1, c1, rfl, hb1, ho1⟩; have hI := keepCall (n := w0.heap.size) (W1 := w0) (by assumption) hb1; obtain ⟨hc, hf⟩ := bcell hb1; have hz := hb1.size; (try simp at hz); (try simp only [World.size_drew, World.cell?_drew] at hc); (try simp only [World.size_drew, World.frozen?_drew] at hf); first | (have hs := Nat.lt_of_succ_le hz) | (have hs := Nat.lt_of_lt_of_le hs hz) | skip))
    all_goals go_wp2_with fail
    all_goals go_meet
    all_goals first
      | exact ⟨_, rfl, Mk.start1 (undrewN hb1) ho1⟩
      | exact ⟨_, rfl, Mk.start2 (undrewN hb1) ho1⟩
      | exact ⟨_, rfl, Mk.start1 (undrew hb1) ho1⟩
      | exact ⟨_, rfl, Mk.start2 (undrew hb1) ho1⟩
  case rest =>
    obtain ⟨bo, rfl, hmk⟩ := hcut
    have h256 : N ≤ 256 := b5
    obtain ⟨a1, n1, c1, hN, ho, hne, hbo, hbl⟩ := id hmk
    have hln := ho.fc.sized.1.trans hol
    subst hln
    obtain ⟨l1, j0, j1, j2, jf⟩ := hN
    have hmk := Lib.hid hmk
    clear ho hne hbo hbl hog
    rename_i hog
    go_wp2_with fail
    clear p0 p1 p2 p3 j0 j1 j2 jf l1
    go_loopw [19] (fun i wr => ∃ k : Nat, k ≤ n1 ∧ i = .int .i64 k ∧ Hid (Mk 49 w0 bo W H (part2 (fun i => leastV (rowC D cs i)) os k) wr)) (fun i _ => n1 - (intOf i).toNat)
    case atStart => exact ⟨0, Nat.zero_le _, rfl, by rw [part2_zero]; exact hmk⟩
    case round =>
      clear hmk
      obtain ⟨k, hk, rfl, hmk⟩ := hrel
      obtain ⟨a2, n2, c2, hN, ho, hne, hbo, hbl⟩ := hmk.out
      by_cases hlk : k < n1
      · obtain ⟨lv, e0, e1, e2, e3⟩ := hpv.out.1.below hbl
        have hlen := part2_len (fun i => leastV (rowC D cs i)) os k (by omega)
        obtain ⟨g, cap, eg, hn2, rr⟩ := OC.own_form ho (by rw [hlen]; omega)
        obtain ⟨rfl, _, rfl⟩ := Value.slice.inj eg
        clear eg
        rw [hlen, hol] at hn2
        subst hn2
        obtain ⟨zold, holdF, hold⟩ := ho.row_at (k := k) (by rw [hlen]; omega)
        obtain ⟨_, j0, j1, j2, jf⟩ := id hN
        have hset := Lib.hid (part2_set (fun i => leastV (rowC D cs i)) os k (by omega))
        have hkeep := Lib.hid (part2_keep (fun i => leastV (rowC D cs i)) os k (by omega))
        have hput := Lib.hid (fun (r c : Nat) (hr : Fl .f32 r c) => Mk.put hN ho hne hbo hbl (k := k) (by rw [hlen]; omega) hr)
        have hfz : wr.frozen? ⟨g, k, none⟩ = false := rr _
        have hcall := hsw wr k (hpv.out.1.below hbl) (hpv.out.2.1.below hbl) hlk
        have hwl := winI_lt (rowC D cs k) (fun _ => true)
        rw [rowC_len] at hwl
        have hok := Lib.hid (hog k hlk)
        have hol' := Lib.hid hol
        by_cases hn : winI (rowC D cs k) (fun _ => true) < 0
        · have hV := Lib.hid (leastV_neg hn)
          generalize winI (rowC D cs k) (fun _ => true) = B at hn hcall hwl
          clear hN ho hne hbl holdF hlen rr hol hwl
          go_wp2_with fail
          refine hcall.mono ?_
          rintro e w2 ⟨m, rfl, rfl⟩
          go_wp2_with fail
          go_roundw
          case rel => exact ⟨k + 1, by omega, by go_num, by rw [← hkeep.out (by rw [hok.out]; exact hV.out)]; exact Lib.hid (hmk.out.drewN _)⟩
          case measure => simp [intOf]; omega
        · obtain ⟨d, hd⟩ := Int.eq_ofNat_of_zero_le (a := winI (rowC D cs k) fun _ => true) (by omega)
          have hV := Lib.hid (leastV_pos hd)
          have hd2 : d < D := by have := hwl.2; omega
          rw [hd] at hcall
          have hlt : k * D + d < cs.length := by
            have h1 : k * D + D ≤ n2 * D := by rw [← Nat.succ_mul]; exact Nat.mul_le_mul_right _ hlk
            rw [hl'.out]; omega
          obtain ⟨bb, off, cc, z, ev, _, _, hbz, hzf, hzc⟩ := (hpv.out.2.1.below hbl).cell hlt
          simp only [Value.slice.injEq, true_and] at ev
          obtain ⟨rfl, rfl⟩ := ev
          have hzV := Lib.hid (show Fl .f32 z (leastV (rowC D cs k)) by rw [hV.out, rowC_get _ _ hd2]; exact hzf)
          have hkD : (k : Int) * (D : Int) = ((k * D : Nat) : Int) := by rw [Int.natCast_mul]
          have hkD2 : k * D ≤ 256 * 8 := Nat.mul_le_mul (by omega) d2
          clear hN ho hne hbl holdF hlen rr hol hwl hn hd hzf
          generalize hq : k * D = kd at hkD hkD2 hlt hzc
          have g0 : IntKind.i64.wrap (kd : Int) = (kd : Int) := IntWalk.i64_in _ (by omega)
          have g1 : IntKind.i64.wrap ((kd : Int) + (d : Int)) = (kd : Int) + (d : Int) := IntWalk.i64_in _ (by omega)
          have g2 : (0 : Int) ≤ (kd : Int) + (d : Int) := by omega
          have g3 : (kd : Int) + (d : Int) < (cs.length : Int) := by omega
          have g4 : ((kd : Int) + (d : Int)).toNat = kd + d := by omega
          have g5 : (0 : Int) ≤ (k : Int) := Int.natCast_nonneg _
          have g6 : (k : Int) < (n2 : Int) := by omega
          have hq := Lib.hid hq
          go_wp2_with fail
          refine hcall.mono ?_
          rintro e w2 ⟨m, rfl, rfl⟩
          go_upto_region 9 with fail
          obtain ⟨V, hVw⟩ : ∃ V, V = wr.drewN m := ⟨_, rfl⟩
          rw [← hVw]
          have v0 : V.cell? ⟨w.heap.size, 0, none⟩ = some (.int .i64 W) := by rw [hVw]; exact e0
          have v1 : V.cell? ⟨w.heap.size, 1, none⟩ = some (.int .i64 H) := by rw [hVw]; exact e1
          have v2 : V.cell? ⟨w.heap.size, 2, none⟩ = some (.int .i64 D) := by rw [hVw]; exact e2
          have v3 : V.cell? ⟨w.heap.size, 3, none⟩ = some (.slice (some ⟨bb, off, none⟩) cs.length c) := by rw [hVw]; exact e3
          have v4 : V.cell? ⟨bo, 2, none⟩ = some (.slice (some ⟨g, 0, none⟩) n2 c2) := by rw [hVw]; exact j2
          have v5 : V.cell? ⟨bb, off + (kd + d), none⟩ = some (.float .f32 z) := by rw [hVw]; exact hzc
          have v6 : V.cell? ⟨g, k, none⟩ = some (.float .f32 zold) := by rw [hVw]; exact hold
          have v7 : V.frozen? ⟨g, k, none⟩ = false := by rw [hVw]; exact hfz
          have hVw' := Lib.hid hVw
          clear hVw e0 e1 e2 e3 j0 j1 j2 jf hzc hold hfz hcall
          refine wp_region_cls_tail 14 (by kernel_rfl) (by kernel_rfl) (by rfl) (by kernel_rfl) (by kernel_rfl) (fun w' => ∃ n, w' = V.drewN n) ⟨1, rfl⟩ [Eq1 ?q7283u0, Eq1 ?q7283u1, Eq1 ?q7283u2, Eq1 ?q7283u3, Eq1 ?q7283u4, Eq1 ?q7283u5, Eq1 ?q7283u6, Eq1 ?q7283u7, Eq1 ?q7283u8, Eq1 ?q7283u9, Eq1 ?q7283u10, Eq1 ?q7283u11, Eq1 ?q7283u12, Eq1 ?q7283u13] ?q7283main
          case q7283main =>
            simp only [List.take_succ_cons, List.take_zero]
            (refine wpR_pure ?_ (fun w hw => ?_) ?_; rfl; (obtain ⟨nn, rfl⟩ := hw; go_simp; (try with_reducible rfl)); (try simp only [Act.put, List.setIfInBounds_toArray, List.set_cons_zero, List.set_cons_succ]))
            (refine wpR_pure ?_ (fun w hw => ?_) ?_; rfl; (obtain ⟨nn, rfl⟩ := hw; go_simp; (try with_reducible rfl)); (try simp only [Act.put, List.setIfInBounds_toArray, List.set_cons_zero, List.set_cons_succ]))
            (refine wpR_pure ?_ (fun w hw => ?_) ?_; rfl; (obtain ⟨nn, rfl⟩ := hw; go_simp; (try with_reducible rfl)); (try simp only [Act.put, List.setIfInBounds_toArray, List.set_cons_zero, List.set_cons_succ]))
            (refine wpR_pure ?_ (fun w hw => ?_) ?_; rfl; (obtain ⟨nn, rfl⟩ := hw; go_simp; (try with_reducible rfl)); (try simp only [Act.put, List.setIfInBounds_toArray, List.set_cons_zero, List.set_cons_succ]))
            (refine wpR_pure ?_ (fun w hw => ?_) ?_; rfl; (obtain ⟨nn, rfl⟩ := hw; go_simp; (try with_reducible rfl)); (try simp only [Act.put, List.setIfInBounds_toArray, List.set_cons_zero, List.set_cons_succ]))
            (refine wpR_pure ?_ (fun w hw => ?_) ?_; rfl; (obtain ⟨nn, rfl⟩ := hw; go_simp; (try with_reducible rfl)); (try simp only [Act.put, List.setIfInBounds_toArray, List.set_cons_zero, List.set_cons_succ]))
            (refine wpR_pure ?_ (fun w hw => ?_) ?_; rfl; (obtain ⟨nn, rfl⟩ := hw; go_simp; (try with_reducible rfl)); (try simp only [Act.put, List.setIfInBounds_toArray, List.set_cons_zero, List.set_cons_succ]))
            (refine wpR_pure ?_ (fun w hw => ?_) ?_; rfl; (obtain ⟨nn, rfl⟩ := hw; go_simp; (try with_reducible rfl)); (try simp only [Act.put, List.setIfInBounds_toArray, List.set_cons_zero, List.set_cons_succ]))
            (refine wpR_pure ?_ (fun w hw => ?_) ?_; rfl; (obtain ⟨nn, rfl⟩ := hw; go_simp; (try with_reducible rfl)); (try simp only [Act.put, List.setIfInBounds_toArray, List.set_cons_zero, List.set_cons_succ]))
            (refine wpR_pure ?_ (fun w hw => ?_) ?_; rfl; (obtain ⟨nn, rfl⟩ := hw; go_simp; (try with_reducible rfl)); (try simp only [Act.put, List.setIfInBounds_toArray, List.set_cons_zero, List.set_cons_succ]))
            (refine wpR_pure ?_ (fun w hw => ?_) ?_; rfl; (obtain ⟨nn, rfl⟩ := hw; go_simp; (try with_reducible rfl)); (try simp only [Act.put, List.setIfInBounds_toArray, List.set_cons_zero, List.set_cons_succ]))
            (refine wpR_pure ?_ (fun w hw => ?_) ?_; rfl; (obtain ⟨nn, rfl⟩ := hw; go_simp; (try with_reducible rfl)); (try simp only [Act.put, List.setIfInBounds_toArray, List.set_cons_zero, List.set_cons_succ]))
            (refine wpR_pure ?_ (fun w hw => ?_) ?_; rfl; (obtain ⟨nn, rfl⟩ := hw; go_simp; (try with_reducible rfl)); (try simp only [Act.put, List.setIfInBounds_toArray, List.set_cons_zero, List.set_cons_succ]))
            (refine wpR_pure ?_ (fun w hw => ?_) ?_; rfl; (obtain ⟨nn, rfl⟩ := hw; go_simp; (try with_reducible rfl)); (try simp only [Act.put, List.setIfInBounds_toArray, List.set_cons_zero, List.set_cons_succ]))
            refine wpR_nil ?_
            rintro w' ⟨nn, rfl⟩
            refine wpAny_last 14 _ (by kernel_rfl) rfl rfl (by kernel_rfl) fun K hK => ?_
            go_simp
            refine hK _ _ ?_
            have hM := hput.out _ _ hzV.out
            rw [hset.out] at hM
            have hM := Lib.hid hM
            clear hput hset
            go_wp2_with fail
            go_roundw
            case rel => exact ⟨k + 1, by omega, by go_num, by rw [hVw'.out]; exact Lib.hid ((hM.out.drewN m).drewN _)⟩
            case measure => simp [intOf]; omega
      · obtain rfl : k = n1 := by omega
        obtain ⟨_, f0, f1, f2, f3⟩ := hN
        obtain ⟨_, r0, r1, r2, rf⟩ := hpv.out.2.2.1.below hbl
        have hoc := Lib.hid ho
        clear ho
        go_wp2_with fail
        refine bodyPost_ret (v := ?v) ?hr rfl ?post
        case hr => (simp [results, Try.results44, go_sem, f0, f1, f2, r0, r1, r2, rf]; try rfl)
        case post =>
          have h0 := hpv.out.2.2.2
          have hoo := hoc.out
          rw [← hol, part2_end, hol] at hoo
          refine ⟨_, _, _, rfl, ?_, ?_⟩
          · ((repeat' (first | (refine bel_set ?_ ?_ _) | (refine bel_al ?_ ?_ _) | exact Below.refl _ _ | assumption | (refine below_drewN ?_ _) | (refine Below.drew ?_) | (refine Below.trans ?_ (Below.mono hbl ?_)))) <;> (first | omega | (simp; done) | (simp; omega)))
          · (refine OC.mono (base := ?bb) ?hh ?hl; (case hh => ((repeat' (first | (refine OC.set ?_ _ ?_) | (refine OC.alloc ?_ _) | exact hoo | (refine OC.drewN ?_ _))) <;> (first | omega | (simp; done) | (simp; omega)))); (case hl => (first | omega | (simp; done) | (simp; omega))))
theorem pairLeastCosts (W H D : Int) (cs : List Nat) :
    ∃ (W' H' : Int) (cs' : List Nat) (ok : Bool),
      (∀ a n c w, FC w (.slice a n c) cs → Calls Try.prog 44 #[.agg #[.int .i64 W, .int .i64 H, .int .i64 D, .slice a n c]] w (RPic 49 W' H' cs' ok w)) ∧
      (∀ a n c w, FC w (.slice a n c) cs → Calls Try.prog 45 #[.agg #[.int .i64 W, .int .i64 H, .int .i64 D, .slice a n c]] w (RPic 49 W' H' cs' ok w)) ∧ cs'.length ≤ 256 :=
  pairLeastCosts_of leastV leastFn_any (fun W H D a n c cs w hv b1 b2 b3 b4 b5 d1 d2 hl => specLeastCosts_any W H D a n c cs w hv b1 b2 b3 b4 b5 d1 d2 hl) W H D cs
end Go.Proofs.Ytbiobmdibiplfaa
