import Derived.Test.YtblaojflcemfdaaWnn
import Derived.Test.YtblaojflcemfdaaWs
set_option linter.unusedVariables false
set_option linter.unusedSimpArgs false
namespace Go.Proofs.Ytblaojflcemfdaa
open Go.FX Go.RowKit Go.WideShapes Go.ChangeShapes
attribute [local go_sem ↓] Go.wp_at_zero Go.wp_at_succ
theorem bestTo_ext {row : List Nat} {p : Nat → Bool} {j : Nat} : ∀ m, j ≤ m → (∀ d, j ≤ d → d < m → validC row p d = false) → bestTo row p m = bestTo row p j
  | 0, h, _ => by obtain rfl : j = 0 := by omega
                  rfl
  | m + 1, h, hf => by
    by_cases e : j = m + 1
    · rw [e]
    · rw [bestTo_same (hf m (by omega) (by omega))]
      exact bestTo_ext m (by omega) fun d h1 h2 => hf d h1 (by omega)
theorem nearP_lo {pl re : Int} {d : Nat} (h : (d : Int) < pl - re) (row : List Nat) : validC row (nearP pl re) d = false := by
  unfold validC nearP
  rw [decide_eq_false (by omega)]; simp
theorem nearP_hi {pl re : Int} {d : Nat} (h : pl + re < (d : Int)) (row : List Nat) : validC row (nearP pl re) d = false := by
  unfold validC nearP
  rw [decide_eq_false (p := (d : Int) ≤ pl + re) (by omega)]; simp
theorem near_start {row : List Nat} {pl re : Int} {j : Nat} (h : ∀ d : Nat, d < j → (d : Int) < pl - re) : bestTo row (nearP pl re) j = -1 :=
  (bestTo_ext (j := 0) j (Nat.zero_le _) fun d _ hd => nearP_lo (h d hd) row)
theorem near_end {row : List Nat} {pl re : Int} {D j : Nat} (hl : row.length = D) (h : (j : Int) > pl + re ∨ (j : Int) ≥ D) (h2 : j ≤ D ∨ ∀ d : Nat, d < j → (d : Int) < pl - re) : bestTo row (nearP pl re) j = winI row (nearP pl re) := by
  unfold winI
  rw [hl]
  by_cases hj : j ≤ D
  · exact (bestTo_ext D hj fun d h3 h4 => by
      rcases h with h | h
      · exact nearP_hi (by omega) row
      · omega).symm
  · rcases h2 with h2 | h2
    · omega
    · rw [near_start h2, near_start fun d hd => h2 d (by omega)]
set_option maxRecDepth 100000 in
set_option maxHeartbeats 8000000 in
theorem specNear_any (W H D : Nat) (a : Option Addr) (n c bp : Nat) (cs : List Nat) (a' : Option Addr) (n' c' bm : Nat) (ms : List Nat) (re : Int) (w : World) (hp : Pw w bp W H D (.slice a n c)) (hv : FC w (.slice a n c) cs) (hq : Pv w bm W H (.slice a' n' c')) (hv' : FC w (.slice a' n' c') ms) (b1 : 1 ≤ W) (b2 : W ≤ 24) (b3 : 1 ≤ H) (b4 : H ≤ 24) (b5 : H * W ≤ 256) (d1 : 1 ≤ D) (d2 : D ≤ 8) (hl : cs.length = H * W * D) (hl' : ms.length = H * W) (r0 : 0 ≤ re) (r8 : re ≤ 8) :
    Calls Try.prog 31 #[.pointer (some ⟨bp, 0, none⟩), .pointer (some ⟨bm, 0, none⟩), .int .i64 re] w (RPic1 61 W H (seqL (nearI D cs ms re) (H * W)) w) := by
  obtain ⟨rfl, hnc, hcm⟩ := hv.sized
  obtain ⟨rfl, hnc', hcm'⟩ := hv'.sized
  have h3 := fun w1 => specMFlat_any W H 3212836864 3212836864 flM1n w1 b1 b2 b3 b4 b5
  have h0 : 0 < H * W := Nat.mul_pos b3 b1
  obtain ⟨N, hN⟩ : ∃ N, N = H * W := ⟨_, rfl⟩
  rw [← hN] at h3 h0 b5 hl hl' ⊢
  obtain ⟨os, hos⟩ : ∃ os, os = seqL (fun _ => 3212836864) N := ⟨_, rfl⟩
  have hol : os.length = N := by rw [hos, seqL_len]
  have hog : ∀ k, k < N → os.getD k 0 = 3212836864 := fun k hk => by rw [hos, seqL_get _ _ _ hk]
  rw [← hos] at h3
  have hog' := Lib.hid hog
  have hlc := Lib.hid hl
  have hlm := Lib.hid hl'
  clear hos hl hl' hN hog
  obtain ⟨w0, hw0⟩ : ∃ w0, w0 = w.alloc (.cells #[.int .i64 0, .int .i64 0, .slice none 0 0] 27) := ⟨_, rfl⟩
  have hp0 : Pw w0 bp W H D (.slice a cs.length c) := by rw [hw0]; exact hp.alloc _
  have hq0 : Pv w0 bm W H (.slice a' ms.length c') := by rw [hw0]; exact hq.alloc _
  have hn0 : Nv w0 w.heap.size (.int .i64 0) (.int .i64 0) (.slice none 0 0) := by rw [hw0]; exact Nv.new _ _ _ _ _
  have hb0 : Below w.heap.size w w0 := by rw [hw0]; exact below1 _ _
  have hlt0 : w.heap.size < w0.heap.size := hn0.1
  have hpv := Lib.hid (And.intro hp0 (And.intro (hv.below hb0) (And.intro hn0 (And.intro hb0 (And.intro hq0 (hv'.below hb0))))))
  obtain ⟨hp1, p0, p1, p2, p3⟩ := id hp0
  clear hp hv hq hv' hn0 hb0 hq0 hp0
  go_enter Try.func31, Try.ntmps31
  go_upto_region 1 with fail
  rw [← hw0]
  clear hw0
  go_cut [7] (fun s4 wx => ∃ bo, s4 = .pointer (some ⟨bo, 0, none⟩) ∧ Mk 61 w0 bo W H os wx)
  case first =>
    go_region_held3 (fun w' => Below w0.heap.size w0 w' ∧ w0.heap.size ≤ w'.heap.size ∧ (∀ b o, b < w0.heap.size → w'.cell? ⟨b, o, none⟩ = w0.cell? ⟨b, o, none⟩)) (first | exact keepStart _ | assumption | exact ⟨by assumption, by assumption, by assumption⟩ | exact keepCall (by assumption) (by assumption) | exact keepAlloc (by assumption) | (refine keepSet ?_ (keepSet ?_ (keepSet ?_ (keepSet ?_ ?_))) <;> first | assumption | omega | (simp; done) | (simp; omega)) | (refine keepSet ?_ (keepSet ?_ (keepSet ?_ ?_)) <;> first | assumption | omega | (simp; done) | (simp; omega)) | (refine keepSet ?_ (keepSet ?_ ?_) <;> first | assumption | omega | (simp; done) | (simp; omega)) | (refine keepSet ?_ ?_ <;> first | assumption | omega | (simp; done) | (simp; omega)) | ((refine keepOf ?_; ((repeat' (first | (refine bel_set ?_ ?_ _) | (refine bel_al ?_ ?_ _) | exact Below.refl _ _ | assumption | exact And.left (by assumption) | (refine below_drewN ?_ _) | (refine Below.drew ?_))) <;> (first | omega | (simp; done) | (simp; omega))))))
      (first | (go_at_call 57; (with_reducible refine (h3 _).mono ?_); rintro e w1 ⟨a1, n1, c1, rfl, hb1, ho1⟩; have hI := keepCall (n := w0.heap.size) (W1 := w0) (by assumption) hb1; obtain ⟨hc, hf⟩ := bcell hb1; have hz := hb1.size; (try simp at hz); (try simp only [World.size_drew, World.cell?_drew] at hc); (try simp only [World.size_drew, World.frozen?_drew] at hf); first | (have hs := Nat.lt_of_succ_le hz) | (have hs := Nat.lt_of_lt_of_le hs hz) | skip))
    all_goals go_wp2_with fail
    all_goals go_meet
    all_goals first
      | exact ⟨_, rfl, Mk.start1 (undrewN hb1) ho1⟩
      | exact ⟨_, rfl, Mk.start2 (undrewN hb1) ho1⟩
      | exact ⟨_, rfl, Mk.start1 (undrew hb1) ho1⟩
      | exact ⟨_, rfl, Mk.start2 (undrew hb1) ho1⟩
  case rest =>
    obtain ⟨bo, rfl, hmk⟩ := hcut
    obtain ⟨a1, n1, c1, hN, ho, hne, hbo, hbl⟩ := id hmk
    have hln := ho.fc.sized.1.trans hol
    subst hln
    obtain ⟨l1, j0, j1, j2, jf⟩ := hN
    have hmk := Lib.hid hmk
    clear ho hne hbo hbl
    go_wp2_with fail
    clear p0 p1 p2 p3 j0 j1 j2 jf l1
    go_loopw [25] (fun i wr => ∃ k : Nat, k ≤ n1 ∧ i = .int .i64 k ∧ Hid (Mk 61 w0 bo W H (part2 (nearI D cs ms re) os k) wr)) (fun i _ => n1 - (intOf i).toNat)
    case atStart => exact ⟨0, Nat.zero_le _, rfl, by rw [part2_zero]; exact hmk⟩
    case round =>
      clear hmk
      obtain ⟨k, hk, rfl, hmk⟩ := hrel
      obtain ⟨a2, n2, c2, hN, ho, hne, hbo, hbl⟩ := hmk.out
      by_cases hlk : k < n1
      · obtain ⟨lm, q0, q1, q2⟩ := hpv.out.2.2.2.2.1.below hbl
        obtain ⟨bb', off', cc', zm, ev', _, _, _, hzmf, hzmc⟩ := (hpv.out.2.2.2.2.2.below hbl).cell (k := k) (by rw [hlm.out]; exact hlk)
        simp only [Value.slice.injEq, true_and] at ev'
        obtain ⟨rfl, rfl⟩ := ev'
        have hlen := part2_len (nearI D cs ms re) os k (by omega)
        obtain ⟨g, cap, eg, hn2, rr⟩ := OC.own_form ho (by rw [hlen]; omega)
        obtain ⟨rfl, _, rfl⟩ := Value.slice.inj eg
        clear eg
        rw [hlen, hol] at hn2
        subst hn2
        obtain ⟨zold, holdF, hold⟩ := ho.row_at (k := k) (by rw [hlen]; omega)
        obtain ⟨_, j0, j1, j2, jf⟩ := id hN
        have hset := Lib.hid (part2_set (nearI D cs ms re) os k (by omega))
        have hkeep := Lib.hid (part2_keep (nearI D cs ms re) os k (by omega))
        have hput := Lib.hid (fun (r c : Nat) (hr : Fl .f32 r c) => Mk.put hN ho hne hbo hbl (k := k) (by rw [hlen]; omega) hr)
        have hfz : wr.frozen? ⟨g, k, none⟩ = false := rr _
        have hpl := placeI_fl hzmf
        have hI : nearI D cs ms re k = nearV (rowC D cs k) (placeI (ms.getD k 0)) re := rfl
        rw [← hpl] at hI
        have hpl1 := placeI_lo zm
        have hpl2 := placeI_top zm
        have hplc := specPlace_any zm
        generalize placeI zm = PL at hpl hI hpl1 hpl2 hplc
        have hok := Lib.hid (hog'.out k hlk)
        have hol' := Lib.hid hol
        have g5 : (0 : Int) ≤ (k : Int) := Int.natCast_nonneg _
        have g6 : (k : Int) < (n2 : Int) := by omega
        have g7 : (k : Int) < (ms.length : Int) := by have := hlm.out; omega
        by_cases hneg : PL < 0
        · have hV : Hid (nearI D cs ms re k = 3212836864) := Lib.hid (hI.trans (if_pos hneg))
          clear hN ho hne hbl holdF hlen rr hol hpl hI hzmf
          go_wp2_with fail
          refine (hplc _).mono ?_
          rintro e w2 ⟨m, rfl, rfl⟩
          go_wp2_with fail
          go_roundw
          case rel => exact ⟨k + 1, by omega, by go_num, by rw [← hkeep.out (by rw [hok.out]; exact hV.out)]; exact Lib.hid (hmk.out.drewN _)⟩
          case measure => simp [intOf]; omega
        · have hV : Hid (nearI D cs ms re k = fi (winI (rowC D cs k) (nearP PL re))) := Lib.hid (hI.trans (if_neg hneg))
          obtain ⟨LO, hLO⟩ : ∃ LO : Nat, (LO : Int) = if PL - re < 0 then 0 else PL - re := ⟨(if PL - re < 0 then (0 : Int) else PL - re).toNat, by split <;> omega⟩
          have s1 : IntKind.i64.wrap (PL - re) = PL - re := IntWalk.i64_in _ (by omega)
          have s2 : IntKind.i64.wrap (PL + re) = PL + re := IntWalk.i64_in _ (by omega)
          have s3 : IntKind.i64.wrap ((D : Int) - 1) = (D : Int) - 1 := IntWalk.i64_in _ (by omega)
          have hmax := fun w1 => l00Max_eq 0 (PL - re) (LO : Int) (by rw [hLO]) w1
          obtain ⟨HI, hHI⟩ : ∃ HI : Int, HI = if (D : Int) - 1 < PL + re then (D : Int) - 1 else PL + re := ⟨_, rfl⟩
          have hmin := fun w1 => l00Min_eq ((D : Int) - 1) (PL + re) HI hHI w1
          have hHI' := Lib.hid hHI
          have hLO' := Lib.hid hLO
          have hI9 : HI ≤ (D : Int) - 1 ∧ HI ≤ PL + re := by rw [hHI]; split <;> omega
          have hLb : LO ≤ 25 := by have := hLO; split at this <;> omega
          have hlen' := Lib.hid hlen
          have hN' := Lib.hid hN
          have hblw := Lib.hid hbl
          have hho := Lib.hid (And.intro ho (And.intro hne hbo))
          clear hN ho hne hbl holdF hlen rr hol hpl hI hzmf hkeep hok hHI hLO hbo
          obtain ⟨lp, e0, e1, e2, e3⟩ := hpv.out.1.below hblw.out
          go_wp2_with fail
          refine (hplc _).mono ?_
          rintro e w2 ⟨m, rfl, rfl⟩
          go_wp2_with fail
          refine (hmax _).mono ?_
          rintro e w2 ⟨rfl, rfl⟩
          go_wp2_with fail
          have hst : bestTo (rowC D cs k) (nearP PL re) LO = -1 := near_start fun d hd => by have h := hLO'.out; split at h <;> omega
          have hst := Lib.hid hst
          have hrl : Hid ((rowC D cs k).length = D) := Lib.hid (rowC_len _ _ _)
          have hcell : Hid (∀ d, d < D → ∃ z, Fl .f32 z ((rowC D cs k).getD d 0) ∧ ∃ bb off, a = some ⟨bb, off, none⟩ ∧ wr.cell? ⟨bb, off + (k * D + d), none⟩ = some (.float .f32 z)) := Lib.hid fun d hd => by
            have hlt : k * D + d < cs.length := by
              have h1 : k * D + D ≤ n2 * D := by rw [← Nat.succ_mul]; exact Nat.mul_le_mul_right _ hlk
              rw [hlc.out]; omega
            obtain ⟨bb, off, _, z, ev, _, _, _, hzf, hzc⟩ := (hpv.out.2.1.below hblw.out).cell hlt
            exact ⟨z, by rw [rowC_get _ _ hd]; exact hzf, bb, off, (Value.slice.inj ev).1, hzc⟩
          have hkb : k * D + D ≤ cs.length := by rw [hlc.out, ← Nat.succ_mul]; exact Nat.mul_le_mul_right _ hlk
          have hkD : (k : Int) * (D : Int) = ((k * D : Nat) : Int) := by rw [Int.natCast_mul]
          have hkD2 : k * D ≤ 256 * 8 := Nat.mul_le_mul (by omega) d2
          have hpP := Lib.hid (fun (d : Nat) (h1 : PL - re ≤ (d : Int)) (h2 : (d : Int) ≤ PL + re) => (show nearP PL re d = true by unfold nearP; rw [decide_eq_true h1, decide_eq_true h2]; rfl))
          generalize rowC D cs k = row at hst hrl hcell hV
          generalize hq : k * D = kd at hkD hkD2 hcell hkb
          have hq := Lib.hid hq
          clear hmax hplc
          obtain ⟨wo, rfl⟩ : ∃ wo : World, wo = wr := ⟨_, rfl⟩
          go_loopw [10, 11, 12] (fun b d _ wj => ∃ j n : Nat, d = .int .i64 j ∧ b = .int .i64 (bestTo row (nearP PL re) j) ∧ LO ≤ j ∧ (j = LO ∨ (j : Int) ≤ HI + 1) ∧ wj = wo.drewN n) (fun _ d _ _ => 100 - (intOf d).toNat)
          case atStart => exact ⟨LO, m, rfl, by rw [hst.out], Nat.le_refl _, .inl rfl, rfl⟩
          case round =>
            obtain ⟨j, nj, rfl, rfl, hj1, hj2, hwj⟩ := hrel
            have x0 : wr.cell? ⟨bp, 0, none⟩ = some (.int .i64 W) := by rw [hwj]; exact e0
            have x2 : wr.cell? ⟨bp, 2, none⟩ = some (.int .i64 D) := by rw [hwj]; exact e2
            have x3 : wr.cell? ⟨bp, 3, none⟩ = some (.slice a cs.length c) := by rw [hwj]; exact e3
            have hjb : j ≤ 26 := by omega
            by_cases hin : (j : Int) ≤ HI
            · have hjD : j < D := by omega
              obtain ⟨z, hz, bb, off, rfl, hzc0⟩ := hcell.out j hjD
              have hzc : wr.cell? ⟨bb, off + (kd + j), none⟩ = some (.float .f32 z) := by rw [hwj]; exact hzc0
              have hpj := hpP.out j (by have h := hLO'.out; split at h <;> omega) (by omega)
              have g0 : IntKind.i64.wrap (kd : Int) = (kd : Int) := IntWalk.i64_in _ (by omega)
              have f1 : IntKind.i64.wrap ((kd : Int) + (j : Int)) = (kd : Int) + (j : Int) := IntWalk.i64_in _ (by omega)
              have f2 : (0 : Int) ≤ (kd : Int) + (j : Int) := by omega
              have f3 : (kd : Int) + (j : Int) < (cs.length : Int) := by omega
              have f4 : ((kd : Int) + (j : Int)).toNat = kd + j := by omega
              have hwj' := Lib.hid hwj
              have hz' := Lib.hid hz
              clear hz hzc0
              obtain ⟨B0, hB0⟩ : ∃ x, x = bestTo row (nearP PL re) j := ⟨_, rfl⟩
              rw [← hB0]
              have hB0' := Lib.hid hB0
              clear hB0 hwj
              go_wp2_with fail
              refine (hmin _).mono ?_
              rintro e w4 ⟨rfl, hw4⟩
              obtain rfl := hw4.symm
              go_upto_region 11 with fail
              refine wp_region_cls (by kernel_rfl) (by kernel_rfl) (by kernel_rfl) (by kernel_rfl) (fun w' => ∃ n, w' = wr.drewN n) ⟨1, rfl⟩ [Eq1 ?q4727u0, Eq1 ?q4727u1, Eq1 ?q4727u2, Eq1 ?q4727u3, Eq1 ?q4727u4, Eq1 ?q4727u5, Eq1 ?q4727u6, Eq1 ?q4727u7, Eq1 ?q4727u8, Eq1 ?q4727u9, Eq1 ?q4727u10, Eq1 ?q4727u11, Eq1 ?q4727u12, Eq1 ?q4727u13, Eq1 ?q4727u14] ?q4727main
              case q4727main =>
                (refine wpR_pure ?_ (fun w hw => ?_) ?_; rfl; (obtain ⟨nn, rfl⟩ := hw; go_simp; (try with_reducible rfl)); (try simp only [Act.put, List.setIfInBounds_toArray, List.set_cons_zero, List.set_cons_succ]))
                (refine wpR_pure ?_ (fun w hw => ?_) ?_; rfl; (obtain ⟨nn, rfl⟩ := hw; go_simp; (try with_reducible rfl)); (try simp only [Act.put, List.setIfInBounds_toArray, List.set_cons_zero, List.set_cons_succ]))
                (refine wpR_pure ?_ (fun w hw => ?_) ?_; rfl; (obtain ⟨nn, rfl⟩ := hw; go_simp; (try with_reducible rfl)); (try simp only [Act.put, List.setIfInBounds_toArray, List.set_cons_zero, List.set_cons_succ]))
                (refine wpR_pure ?_ (fun w hw => ?_) ?_; rfl; (obtain ⟨nn, rfl⟩ := hw; go_simp; (try with_reducible rfl)); (try simp only [Act.put, List.setIfInBounds_toArray, List.set_cons_zero, List.set_cons_succ]))
                (refine wpR_pure ?_ (fun w hw => ?_) ?_; rfl; (obtain ⟨nn, rfl⟩ := hw; go_simp; (try with_reducible rfl)); (try simp only [Act.put, List.setIfInBounds_toArray, List.set_cons_zero, List.set_cons_succ]))
                (refine wpR_pure ?_ (fun w hw => ?_) ?_; rfl; (obtain ⟨nn, rfl⟩ := hw; go_simp; (try with_reducible rfl)); (try simp only [Act.put, List.setIfInBounds_toArray, List.set_cons_zero, List.set_cons_succ]))
                (refine wpR_pure ?_ (fun w hw => ?_) ?_; rfl; (obtain ⟨nn, rfl⟩ := hw; go_simp; (try with_reducible rfl)); (try simp only [Act.put, List.setIfInBounds_toArray, List.set_cons_zero, List.set_cons_succ]))
                (refine wpR_pure ?_ (fun w hw => ?_) ?_; rfl; (obtain ⟨nn, rfl⟩ := hw; go_simp; (try with_reducible rfl)); (try simp only [Act.put, List.setIfInBounds_toArray, List.set_cons_zero, List.set_cons_succ]))
                (refine wpR_pure ?_ (fun w hw => ?_) ?_; rfl; (obtain ⟨nn, rfl⟩ := hw; go_simp; (try with_reducible rfl)); (try simp only [Act.put, List.setIfInBounds_toArray, List.set_cons_zero, List.set_cons_succ]))
                (refine wpR_pure ?_ (fun w hw => ?_) ?_; rfl; (obtain ⟨nn, rfl⟩ := hw; go_simp; (try with_reducible rfl)); (try simp only [Act.put, List.setIfInBounds_toArray, List.set_cons_zero, List.set_cons_succ]))
                (refine wpR_pure ?_ (fun w hw => ?_) ?_; rfl; (obtain ⟨nn, rfl⟩ := hw; go_simp; (try with_reducible rfl)); (try simp only [Act.put, List.setIfInBounds_toArray, List.set_cons_zero, List.set_cons_succ]))
                (refine wpR_pure ?_ (fun w hw => ?_) ?_; rfl; (obtain ⟨nn, rfl⟩ := hw; go_simp; (try with_reducible rfl)); (try simp only [Act.put, List.setIfInBounds_toArray, List.set_cons_zero, List.set_cons_succ]))
                (refine wpR_pure ?_ (fun w hw => ?_) ?_; rfl; (obtain ⟨nn, rfl⟩ := hw; go_simp; (try with_reducible rfl)); (try simp only [Act.put, List.setIfInBounds_toArray, List.set_cons_zero, List.set_cons_succ]))
                (refine wpR_pure ?_ (fun w hw => ?_) ?_; rfl; (obtain ⟨nn, rfl⟩ := hw; go_simp; (try with_reducible rfl)); (try simp only [Act.put, List.setIfInBounds_toArray, List.set_cons_zero, List.set_cons_succ]))
                (refine wpR_pure ?_ (fun w hw => ?_) ?_; rfl; (obtain ⟨nn, rfl⟩ := hw; go_simp; (try with_reducible rfl)); (try simp only [Act.put, List.setIfInBounds_toArray, List.set_cons_zero, List.set_cons_succ]))
                refine wpR_nil ?_
                rintro w' ⟨nn, rfl⟩
                obtain ⟨V, hVw⟩ : ∃ V, V = wr.drewN nn := ⟨_, rfl⟩
                rw [← hVw]
                replace x0 : V.cell? ⟨bp, 0, none⟩ = some (.int .i64 W) := by rw [hVw]; exact x0
                replace x2 : V.cell? ⟨bp, 2, none⟩ = some (.int .i64 D) := by rw [hVw]; exact x2
                replace x3 : V.cell? ⟨bp, 3, none⟩ = some (.slice (some ⟨bb, off, none⟩) cs.length c) := by rw [hVw]; exact x3
                replace hzc : V.cell? ⟨bb, off + (kd + j), none⟩ = some (.float .f32 z) := by rw [hVw]; exact hzc
                have hcV := Lib.hid (fun (d z2 : Nat) (h : wo.cell? ⟨bb, off + (kd + d), none⟩ = some (.float .f32 z2)) => (show V.cell? ⟨bb, off + (kd + d), none⟩ = some (.float .f32 z2) by rw [hVw, hwj'.out]; exact h))
                have hVw' := Lib.hid hVw
                clear hVw
                cases hn : isN .f32 z with
                | true =>
                  have hval : Hid (bestTo row (nearP PL re) (j + 1) = B0) := Lib.hid (by rw [hB0'.out]; exact bestTo_same (by unfold validC; rw [← hz'.out.eq, isN_cn, hn]; rfl))
                  go_upto_region 12 with fail
                  refine wp_region_skip (by kernel_rfl) (by kernel_rfl) (by kernel_rfl) (by kernel_rfl) (fun w' => ∃ n, w' = V.drewN n) ⟨1, rfl⟩ [some (Eq1 ?q236u0), some (Eq1 ?q236u1), some (Eq1 ?q236u2), some (Eq1 ?q236u3), none, none, none, none, none, none, none, none, none, none, none, none, none, none, none, none, none, none, none, none, some (Eq1 ?q236u24)] ?q236main
                  case q236main =>
                    (refine wpS_pure ?_ (fun w hw => ?_) ?_; rfl; (obtain ⟨nn, rfl⟩ := hw; go_simp; (try with_reducible rfl)); (try simp only [Act.put, List.setIfInBounds_toArray, List.set_cons_zero, List.set_cons_succ]))
                    (refine wpS_pure ?_ (fun w hw => ?_) ?_; rfl; (obtain ⟨nn, rfl⟩ := hw; go_simp; (try with_reducible rfl)); (try simp only [Act.put, List.setIfInBounds_toArray, List.set_cons_zero, List.set_cons_succ]))
                    (refine wpS_pure ?_ (fun w hw => ?_) ?_; rfl; (obtain ⟨nn, rfl⟩ := hw; go_simp; (try with_reducible rfl)); (try simp only [Act.put, List.setIfInBounds_toArray, List.set_cons_zero, List.set_cons_succ]))
                    (refine wpS_pure ?_ (fun w hw => ?_) ?_; rfl; (obtain ⟨nn, rfl⟩ := hw; go_simp; (try with_reducible rfl)); (try simp only [Act.put, List.setIfInBounds_toArray, List.set_cons_zero, List.set_cons_succ]))
                    (refine wpS_skip ?_ ?_; rfl; (try simp only [Act.put, List.setIfInBounds_toArray, List.set_cons_zero, List.set_cons_succ]))
                    (refine wpS_skip ?_ ?_; rfl; (try simp only [Act.put, List.setIfInBounds_toArray, List.set_cons_zero, List.set_cons_succ]))
                    (refine wpS_skip ?_ ?_; rfl; (try simp only [Act.put, List.setIfInBounds_toArray, List.set_cons_zero, List.set_cons_succ]))
                    (refine wpS_skip ?_ ?_; rfl; (try simp only [Act.put, List.setIfInBounds_toArray, List.set_cons_zero, List.set_cons_succ]))
                    (refine wpS_skip ?_ ?_; rfl; (try simp only [Act.put, List.setIfInBounds_toArray, List.set_cons_zero, List.set_cons_succ]))
                    (refine wpS_skip ?_ ?_; rfl; (try simp only [Act.put, List.setIfInBounds_toArray, List.set_cons_zero, List.set_cons_succ]))
                    (refine wpS_skip ?_ ?_; rfl; (try simp only [Act.put, List.setIfInBounds_toArray, List.set_cons_zero, List.set_cons_succ]))
                    (refine wpS_skip ?_ ?_; rfl; (try simp only [Act.put, List.setIfInBounds_toArray, List.set_cons_zero, List.set_cons_succ]))
                    (refine wpS_skip ?_ ?_; rfl; (try simp only [Act.put, List.setIfInBounds_toArray, List.set_cons_zero, List.set_cons_succ]))
                    (refine wpS_skip ?_ ?_; rfl; (try simp only [Act.put, List.setIfInBounds_toArray, List.set_cons_zero, List.set_cons_succ]))
                    (refine wpS_skip ?_ ?_; rfl; (try simp only [Act.put, List.setIfInBounds_toArray, List.set_cons_zero, List.set_cons_succ]))
                    (refine wpS_skip ?_ ?_; rfl; (try simp only [Act.put, List.setIfInBounds_toArray, List.set_cons_zero, List.set_cons_succ]))
                    (refine wpS_skip ?_ ?_; rfl; (try simp only [Act.put, List.setIfInBounds_toArray, List.set_cons_zero, List.set_cons_succ]))
                    (refine wpS_skip ?_ ?_; rfl; (try simp only [Act.put, List.setIfInBounds_toArray, List.set_cons_zero, List.set_cons_succ]))
                    (refine wpS_skip ?_ ?_; rfl; (try simp only [Act.put, List.setIfInBounds_toArray, List.set_cons_zero, List.set_cons_succ]))
                    (refine wpS_skip ?_ ?_; rfl; (try simp only [Act.put, List.setIfInBounds_toArray, List.set_cons_zero, List.set_cons_succ]))
                    (refine wpS_skip ?_ ?_; rfl; (try simp only [Act.put, List.setIfInBounds_toArray, List.set_cons_zero, List.set_cons_succ]))
                    (refine wpS_skip ?_ ?_; rfl; (try simp only [Act.put, List.setIfInBounds_toArray, List.set_cons_zero, List.set_cons_succ]))
                    (refine wpS_skip ?_ ?_; rfl; (try simp only [Act.put, List.setIfInBounds_toArray, List.set_cons_zero, List.set_cons_succ]))
                    (refine wpS_skip ?_ ?_; rfl; (try simp only [Act.put, List.setIfInBounds_toArray, List.set_cons_zero, List.set_cons_succ]))
                    (refine wpS_pure ?_ (fun w hw => ?_) ?_; rfl; (obtain ⟨nn, rfl⟩ := hw; go_simp; (try with_reducible rfl)); (try simp only [Act.put, List.setIfInBounds_toArray, List.set_cons_zero, List.set_cons_succ]))
                    refine wpS_nil ?_
                    rintro w' ⟨nn, rfl⟩
                    go_wp2_with fail
                    go_roundw
                    case rel => exact ⟨j + 1, _, by go_num, by rw [hval.out], by omega, .inr (by omega), by rw [hVw'.out, hwj'.out]; first | rfl | (simp only [World.drewN_drewN]; rfl)⟩
                    case measure => simp [intOf]; omega
                | false =>
                  have hvd : Hid (validC row (nearP PL re) j = true) := Lib.hid (by unfold validC; rw [← hz'.out.eq, isN_cn, hn, hpj]; rfl)
                  rcases bestTo_inv row (nearP PL re) j with ⟨hb, _⟩ | ⟨b, hb, hbk, hbv, _⟩
                  · obtain rfl : B0 = -1 := hB0'.out.trans hb
                    have hval := Lib.hid (bestTo_first hvd.out hb)
                    clear hb
                    go_upto_region 12 with fail
                    refine wp_region_skip (by kernel_rfl) (by kernel_rfl) (by kernel_rfl) (by kernel_rfl) (fun w' => ∃ n, w' = V.drewN n) ⟨1, rfl⟩ [some (Eq1 ?q236x2u0), some (Eq1 ?q236x2u1), some (Eq1 ?q236x2u2), some (Eq1 ?q236x2u3), some (Eq1 ?q236x2u4), some (Eq1 ?q236x2u5), some (Eq1 ?q236x2u6), none, none, none, none, none, none, none, none, none, none, none, none, none, none, none, none, some (Eq1 ?q236x2u23), some (Eq1 ?q236x2u24)] ?q236x2main
                    case q236x2main =>
                      (refine wpS_pure ?_ (fun w hw => ?_) ?_; rfl; (obtain ⟨nn, rfl⟩ := hw; go_simp; (try with_reducible rfl)); (try simp only [Act.put, List.setIfInBounds_toArray, List.set_cons_zero, List.set_cons_succ]))
                      (refine wpS_pure ?_ (fun w hw => ?_) ?_; rfl; (obtain ⟨nn, rfl⟩ := hw; go_simp; (try with_reducible rfl)); (try simp only [Act.put, List.setIfInBounds_toArray, List.set_cons_zero, List.set_cons_succ]))
                      (refine wpS_pure ?_ (fun w hw => ?_) ?_; rfl; (obtain ⟨nn, rfl⟩ := hw; go_simp; (try with_reducible rfl)); (try simp only [Act.put, List.setIfInBounds_toArray, List.set_cons_zero, List.set_cons_succ]))
                      (refine wpS_pure ?_ (fun w hw => ?_) ?_; rfl; (obtain ⟨nn, rfl⟩ := hw; go_simp; (try with_reducible rfl)); (try simp only [Act.put, List.setIfInBounds_toArray, List.set_cons_zero, List.set_cons_succ]))
                      (refine wpS_pure ?_ (fun w hw => ?_) ?_; rfl; (obtain ⟨nn, rfl⟩ := hw; go_simp; (try with_reducible rfl)); (try simp only [Act.put, List.setIfInBounds_toArray, List.set_cons_zero, List.set_cons_succ]))
                      (refine wpS_pure ?_ (fun w hw => ?_) ?_; rfl; (obtain ⟨nn, rfl⟩ := hw; go_simp; (try with_reducible rfl)); (try simp only [Act.put, List.setIfInBounds_toArray, List.set_cons_zero, List.set_cons_succ]))
                      (refine wpS_pure ?_ (fun w hw => ?_) ?_; rfl; (obtain ⟨nn, rfl⟩ := hw; go_simp; (try with_reducible rfl)); (try simp only [Act.put, List.setIfInBounds_toArray, List.set_cons_zero, List.set_cons_succ]))
                      (refine wpS_skip ?_ ?_; rfl; (try simp only [Act.put, List.setIfInBounds_toArray, List.set_cons_zero, List.set_cons_succ]))
                      (refine wpS_skip ?_ ?_; rfl; (try simp only [Act.put, List.setIfInBounds_toArray, List.set_cons_zero, List.set_cons_succ]))
                      (refine wpS_skip ?_ ?_; rfl; (try simp only [Act.put, List.setIfInBounds_toArray, List.set_cons_zero, List.set_cons_succ]))
                      (refine wpS_skip ?_ ?_; rfl; (try simp only [Act.put, List.setIfInBounds_toArray, List.set_cons_zero, List.set_cons_succ]))
                      (refine wpS_skip ?_ ?_; rfl; (try simp only [Act.put, List.setIfInBounds_toArray, List.set_cons_zero, List.set_cons_succ]))
                      (refine wpS_skip ?_ ?_; rfl; (try simp only [Act.put, List.setIfInBounds_toArray, List.set_cons_zero, List.set_cons_succ]))
                      (refine wpS_skip ?_ ?_; rfl; (try simp only [Act.put, List.setIfInBounds_toArray, List.set_cons_zero, List.set_cons_succ]))
                      (refine wpS_skip ?_ ?_; rfl; (try simp only [Act.put, List.setIfInBounds_toArray, List.set_cons_zero, List.set_cons_succ]))
                      (refine wpS_skip ?_ ?_; rfl; (try simp only [Act.put, List.setIfInBounds_toArray, List.set_cons_zero, List.set_cons_succ]))
                      (refine wpS_skip ?_ ?_; rfl; (try simp only [Act.put, List.setIfInBounds_toArray, List.set_cons_zero, List.set_cons_succ]))
                      (refine wpS_skip ?_ ?_; rfl; (try simp only [Act.put, List.setIfInBounds_toArray, List.set_cons_zero, List.set_cons_succ]))
                      (refine wpS_skip ?_ ?_; rfl; (try simp only [Act.put, List.setIfInBounds_toArray, List.set_cons_zero, List.set_cons_succ]))
                      (refine wpS_skip ?_ ?_; rfl; (try simp only [Act.put, List.setIfInBounds_toArray, List.set_cons_zero, List.set_cons_succ]))
                      (refine wpS_skip ?_ ?_; rfl; (try simp only [Act.put, List.setIfInBounds_toArray, List.set_cons_zero, List.set_cons_succ]))
                      (refine wpS_skip ?_ ?_; rfl; (try simp only [Act.put, List.setIfInBounds_toArray, List.set_cons_zero, List.set_cons_succ]))
                      (refine wpS_skip ?_ ?_; rfl; (try simp only [Act.put, List.setIfInBounds_toArray, List.set_cons_zero, List.set_cons_succ]))
                      (refine wpS_pure ?_ (fun w hw => ?_) ?_; rfl; (obtain ⟨nn, rfl⟩ := hw; go_simp; (try with_reducible rfl)); (try simp only [Act.put, List.setIfInBounds_toArray, List.set_cons_zero, List.set_cons_succ]))
                      (refine wpS_pure ?_ (fun w hw => ?_) ?_; rfl; (obtain ⟨nn, rfl⟩ := hw; go_simp; (try with_reducible rfl)); (try simp only [Act.put, List.setIfInBounds_toArray, List.set_cons_zero, List.set_cons_succ]))
                      refine wpS_nil ?_
                      rintro w' ⟨nn, rfl⟩
                      go_wp2_with fail
                      go_roundw
                      case rel => exact ⟨j + 1, _, by go_num, by rw [hval.out], by omega, .inr (by omega), by rw [hVw'.out, hwj'.out]; first | rfl | (simp only [World.drewN_drewN]; rfl)⟩
                      case measure => simp [intOf]; omega
                  · obtain rfl : B0 = (b : Int) := hB0'.out.trans hb
                    obtain ⟨z2, hz2, bb2, off2, eb, hzc3⟩ := hcell.out b (by omega)
                    simp only [Option.some.injEq, Addr.mk.injEq, and_true] at eb
                    obtain ⟨rfl, rfl⟩ := eb
                    have hzc2 := hcV.out b z2 hzc3
                    have q1 : IntKind.i64.wrap ((kd : Int) + (b : Int)) = (kd : Int) + (b : Int) := IntWalk.i64_in _ (by omega)
                    have q2 : (0 : Int) ≤ (kd : Int) + (b : Int) := by omega
                    have q3 : (kd : Int) + (b : Int) < (cs.length : Int) := by omega
                    have q4 : ((kd : Int) + (b : Int)).toNat = kd + b := by omega
                    have q5 : ¬ (b : Int) < 0 := by omega
                    have q6 : decide ((b : Int) < 0) = false := decide_eq_false q5
                    have hls := Lib.hid (cLess_fl hz'.out hz2)
                    clear hz2 hzc3
                    cases tl : (FloatKind.f32.format.order z z2 == some Ordering.lt) with
                    | true =>
                      have hval := Lib.hid (bestTo_less hvd.out hb (hls.out.symm.trans tl))
                      clear hb
                      go_upto_region 12 with fail
                      refine wp_region_skip (by kernel_rfl) (by kernel_rfl) (by kernel_rfl) (by kernel_rfl) (fun w' => ∃ n, w' = V.drewN n) ⟨1, rfl⟩ [some (Eq1 ?q236x3u0), some (Eq1 ?q236x3u1), some (Eq1 ?q236x3u2), some (Eq1 ?q236x3u3), some (Eq1 ?q236x3u4), some (Eq1 ?q236x3u5), some (Eq1 ?q236x3u6), some (Eq1 ?q236x3u7), some (Eq1 ?q236x3u8), some (Eq1 ?q236x3u9), some (Eq1 ?q236x3u10), some (Eq1 ?q236x3u11), some (Eq1 ?q236x3u12), some (Eq1 ?q236x3u13), some (Eq1 ?q236x3u14), some (Eq1 ?q236x3u15), some (Eq1 ?q236x3u16), some (Eq1 ?q236x3u17), some (Eq1 ?q236x3u18), some (Eq1 ?q236x3u19), some (Eq1 ?q236x3u20), some (Eq1 ?q236x3u21), some (Eq1 ?q236x3u22), some (Eq1 ?q236x3u23), some (Eq1 ?q236x3u24)] ?q236x3main
                      case q236x3main =>
                        (refine wpS_pure ?_ (fun w hw => ?_) ?_; rfl; (obtain ⟨nn, rfl⟩ := hw; go_simp; (try with_reducible rfl)); (try simp only [Act.put, List.setIfInBounds_toArray, List.set_cons_zero, List.set_cons_succ]))
                        (refine wpS_pure ?_ (fun w hw => ?_) ?_; rfl; (obtain ⟨nn, rfl⟩ := hw; go_simp; (try with_reducible rfl)); (try simp only [Act.put, List.setIfInBounds_toArray, List.set_cons_zero, List.set_cons_succ]))
                        (refine wpS_pure ?_ (fun w hw => ?_) ?_; rfl; (obtain ⟨nn, rfl⟩ := hw; go_simp; (try with_reducible rfl)); (try simp only [Act.put, List.setIfInBounds_toArray, List.set_cons_zero, List.set_cons_succ]))
                        (refine wpS_pure ?_ (fun w hw => ?_) ?_; rfl; (obtain ⟨nn, rfl⟩ := hw; go_simp; (try with_reducible rfl)); (try simp only [Act.put, List.setIfInBounds_toArray, List.set_cons_zero, List.set_cons_succ]))
                        (refine wpS_pure ?_ (fun w hw => ?_) ?_; rfl; (obtain ⟨nn, rfl⟩ := hw; go_simp; (try with_reducible rfl)); (try simp only [Act.put, List.setIfInBounds_toArray, List.set_cons_zero, List.set_cons_succ]))
                        (refine wpS_pure ?_ (fun w hw => ?_) ?_; rfl; (obtain ⟨nn, rfl⟩ := hw; go_simp; (try with_reducible rfl)); (try simp only [Act.put, List.setIfInBounds_toArray, List.set_cons_zero, List.set_cons_succ]))
                        (refine wpS_pure ?_ (fun w hw => ?_) ?_; rfl; (obtain ⟨nn, rfl⟩ := hw; go_simp; (try with_reducible rfl)); (try simp only [Act.put, List.setIfInBounds_toArray, List.set_cons_zero, List.set_cons_succ]))
                        (refine wpS_pure ?_ (fun w hw => ?_) ?_; rfl; (obtain ⟨nn, rfl⟩ := hw; go_simp; (try with_reducible rfl)); (try simp only [Act.put, List.setIfInBounds_toArray, List.set_cons_zero, List.set_cons_succ]))
                        (refine wpS_pure ?_ (fun w hw => ?_) ?_; rfl; (obtain ⟨nn, rfl⟩ := hw; go_simp; (try with_reducible rfl)); (try simp only [Act.put, List.setIfInBounds_toArray, List.set_cons_zero, List.set_cons_succ]))
                        (refine wpS_pure ?_ (fun w hw => ?_) ?_; rfl; (obtain ⟨nn, rfl⟩ := hw; go_simp; (try with_reducible rfl)); (try simp only [Act.put, List.setIfInBounds_toArray, List.set_cons_zero, List.set_cons_succ]))
                        (refine wpS_pure ?_ (fun w hw => ?_) ?_; rfl; (obtain ⟨nn, rfl⟩ := hw; go_simp; (try with_reducible rfl)); (try simp only [Act.put, List.setIfInBounds_toArray, List.set_cons_zero, List.set_cons_succ]))
                        (refine wpS_pure ?_ (fun w hw => ?_) ?_; rfl; (obtain ⟨nn, rfl⟩ := hw; go_simp; (try with_reducible rfl)); (try simp only [Act.put, List.setIfInBounds_toArray, List.set_cons_zero, List.set_cons_succ]))
                        (refine wpS_pure ?_ (fun w hw => ?_) ?_; rfl; (obtain ⟨nn, rfl⟩ := hw; go_simp; (try with_reducible rfl)); (try simp only [Act.put, List.setIfInBounds_toArray, List.set_cons_zero, List.set_cons_succ]))
                        (refine wpS_pure ?_ (fun w hw => ?_) ?_; rfl; (obtain ⟨nn, rfl⟩ := hw; go_simp; (try with_reducible rfl)); (try simp only [Act.put, List.setIfInBounds_toArray, List.set_cons_zero, List.set_cons_succ]))
                        (refine wpS_pure ?_ (fun w hw => ?_) ?_; rfl; (obtain ⟨nn, rfl⟩ := hw; go_simp; (try with_reducible rfl)); (try simp only [Act.put, List.setIfInBounds_toArray, List.set_cons_zero, List.set_cons_succ]))
                        (refine wpS_pure ?_ (fun w hw => ?_) ?_; rfl; (obtain ⟨nn, rfl⟩ := hw; go_simp; (try with_reducible rfl)); (try simp only [Act.put, List.setIfInBounds_toArray, List.set_cons_zero, List.set_cons_succ]))
                        (refine wpS_pure ?_ (fun w hw => ?_) ?_; rfl; (obtain ⟨nn, rfl⟩ := hw; go_simp; (try with_reducible rfl)); (try simp only [Act.put, List.setIfInBounds_toArray, List.set_cons_zero, List.set_cons_succ]))
                        (refine wpS_pure ?_ (fun w hw => ?_) ?_; rfl; (obtain ⟨nn, rfl⟩ := hw; go_simp; (try with_reducible rfl)); (try simp only [Act.put, List.setIfInBounds_toArray, List.set_cons_zero, List.set_cons_succ]))
                        (refine wpS_pure ?_ (fun w hw => ?_) ?_; rfl; (obtain ⟨nn, rfl⟩ := hw; go_simp; (try with_reducible rfl)); (try simp only [Act.put, List.setIfInBounds_toArray, List.set_cons_zero, List.set_cons_succ]))
                        (refine wpS_pure ?_ (fun w hw => ?_) ?_; rfl; (obtain ⟨nn, rfl⟩ := hw; go_simp; (try with_reducible rfl)); (try simp only [Act.put, List.setIfInBounds_toArray, List.set_cons_zero, List.set_cons_succ]))
                        (refine wpS_pure ?_ (fun w hw => ?_) ?_; rfl; (obtain ⟨nn, rfl⟩ := hw; go_simp; (try with_reducible rfl)); (try simp only [Act.put, List.setIfInBounds_toArray, List.set_cons_zero, List.set_cons_succ]))
                        (refine wpS_pure ?_ (fun w hw => ?_) ?_; rfl; (obtain ⟨nn, rfl⟩ := hw; go_simp; (try with_reducible rfl)); (try simp only [Act.put, List.setIfInBounds_toArray, List.set_cons_zero, List.set_cons_succ]))
                        (refine wpS_pure ?_ (fun w hw => ?_) ?_; rfl; (obtain ⟨nn, rfl⟩ := hw; go_simp; (try with_reducible rfl)); (try simp only [Act.put, List.setIfInBounds_toArray, List.set_cons_zero, List.set_cons_succ]))
                        (refine wpS_pure ?_ (fun w hw => ?_) ?_; rfl; (obtain ⟨nn, rfl⟩ := hw; go_simp; (try with_reducible rfl)); (try simp only [Act.put, List.setIfInBounds_toArray, List.set_cons_zero, List.set_cons_succ]))
                        (refine wpS_pure ?_ (fun w hw => ?_) ?_; rfl; (obtain ⟨nn, rfl⟩ := hw; go_simp; (try with_reducible rfl)); (try simp only [Act.put, List.setIfInBounds_toArray, List.set_cons_zero, List.set_cons_succ]))
                        refine wpS_nil ?_
                        rintro w' ⟨nn, rfl⟩
                        go_wp2_with fail
                        go_roundw
                        case rel => exact ⟨j + 1, _, by go_num, by rw [hval.out], by omega, .inr (by omega), by rw [hVw'.out, hwj'.out]; first | rfl | (simp only [World.drewN_drewN]; rfl)⟩
                        case measure => simp [intOf]; omega
                    | false =>
                      have hval := Lib.hid (bestTo_keep hb (hls.out.symm.trans tl))
                      clear hb
                      go_upto_region 12 with fail
                      refine wp_region_skip (by kernel_rfl) (by kernel_rfl) (by kernel_rfl) (by kernel_rfl) (fun w' => ∃ n, w' = V.drewN n) ⟨1, rfl⟩ [some (Eq1 ?q236x4u0), some (Eq1 ?q236x4u1), some (Eq1 ?q236x4u2), some (Eq1 ?q236x4u3), some (Eq1 ?q236x4u4), some (Eq1 ?q236x4u5), some (Eq1 ?q236x4u6), some (Eq1 ?q236x4u7), some (Eq1 ?q236x4u8), some (Eq1 ?q236x4u9), some (Eq1 ?q236x4u10), some (Eq1 ?q236x4u11), some (Eq1 ?q236x4u12), some (Eq1 ?q236x4u13), some (Eq1 ?q236x4u14), some (Eq1 ?q236x4u15), some (Eq1 ?q236x4u16), some (Eq1 ?q236x4u17), some (Eq1 ?q236x4u18), some (Eq1 ?q236x4u19), some (Eq1 ?q236x4u20), some (Eq1 ?q236x4u21), some (Eq1 ?q236x4u22), some (Eq1 ?q236x4u23), some (Eq1 ?q236x4u24)] ?q236x4main
                      case q236x4main =>
                        (refine wpS_pure ?_ (fun w hw => ?_) ?_; rfl; (obtain ⟨nn, rfl⟩ := hw; go_simp; (try with_reducible rfl)); (try simp only [Act.put, List.setIfInBounds_toArray, List.set_cons_zero, List.set_cons_succ]))
                        (refine wpS_pure ?_ (fun w hw => ?_) ?_; rfl; (obtain ⟨nn, rfl⟩ := hw; go_simp; (try with_reducible rfl)); (try simp only [Act.put, List.setIfInBounds_toArray, List.set_cons_zero, List.set_cons_succ]))
                        (refine wpS_pure ?_ (fun w hw => ?_) ?_; rfl; (obtain ⟨nn, rfl⟩ := hw; go_simp; (try with_reducible rfl)); (try simp only [Act.put, List.setIfInBounds_toArray, List.set_cons_zero, List.set_cons_succ]))
                        (refine wpS_pure ?_ (fun w hw => ?_) ?_; rfl; (obtain ⟨nn, rfl⟩ := hw; go_simp; (try with_reducible rfl)); (try simp only [Act.put, List.setIfInBounds_toArray, List.set_cons_zero, List.set_cons_succ]))
                        (refine wpS_pure ?_ (fun w hw => ?_) ?_; rfl; (obtain ⟨nn, rfl⟩ := hw; go_simp; (try with_reducible rfl)); (try simp only [Act.put, List.setIfInBounds_toArray, List.set_cons_zero, List.set_cons_succ]))
                        (refine wpS_pure ?_ (fun w hw => ?_) ?_; rfl; (obtain ⟨nn, rfl⟩ := hw; go_simp; (try with_reducible rfl)); (try simp only [Act.put, List.setIfInBounds_toArray, List.set_cons_zero, List.set_cons_succ]))
                        (refine wpS_pure ?_ (fun w hw => ?_) ?_; rfl; (obtain ⟨nn, rfl⟩ := hw; go_simp; (try with_reducible rfl)); (try simp only [Act.put, List.setIfInBounds_toArray, List.set_cons_zero, List.set_cons_succ]))
                        (refine wpS_pure ?_ (fun w hw => ?_) ?_; rfl; (obtain ⟨nn, rfl⟩ := hw; go_simp; (try with_reducible rfl)); (try simp only [Act.put, List.setIfInBounds_toArray, List.set_cons_zero, List.set_cons_succ]))
                        (refine wpS_pure ?_ (fun w hw => ?_) ?_; rfl; (obtain ⟨nn, rfl⟩ := hw; go_simp; (try with_reducible rfl)); (try simp only [Act.put, List.setIfInBounds_toArray, List.set_cons_zero, List.set_cons_succ]))
                        (refine wpS_pure ?_ (fun w hw => ?_) ?_; rfl; (obtain ⟨nn, rfl⟩ := hw; go_simp; (try with_reducible rfl)); (try simp only [Act.put, List.setIfInBounds_toArray, List.set_cons_zero, List.set_cons_succ]))
                        (refine wpS_pure ?_ (fun w hw => ?_) ?_; rfl; (obtain ⟨nn, rfl⟩ := hw; go_simp; (try with_reducible rfl)); (try simp only [Act.put, List.setIfInBounds_toArray, List.set_cons_zero, List.set_cons_succ]))
                        (refine wpS_pure ?_ (fun w hw => ?_) ?_; rfl; (obtain ⟨nn, rfl⟩ := hw; go_simp; (try with_reducible rfl)); (try simp only [Act.put, List.setIfInBounds_toArray, List.set_cons_zero, List.set_cons_succ]))
                        (refine wpS_pure ?_ (fun w hw => ?_) ?_; rfl; (obtain ⟨nn, rfl⟩ := hw; go_simp; (try with_reducible rfl)); (try simp only [Act.put, List.setIfInBounds_toArray, List.set_cons_zero, List.set_cons_succ]))
                        (refine wpS_pure ?_ (fun w hw => ?_) ?_; rfl; (obtain ⟨nn, rfl⟩ := hw; go_simp; (try with_reducible rfl)); (try simp only [Act.put, List.setIfInBounds_toArray, List.set_cons_zero, List.set_cons_succ]))
                        (refine wpS_pure ?_ (fun w hw => ?_) ?_; rfl; (obtain ⟨nn, rfl⟩ := hw; go_simp; (try with_reducible rfl)); (try simp only [Act.put, List.setIfInBounds_toArray, List.set_cons_zero, List.set_cons_succ]))
                        (refine wpS_pure ?_ (fun w hw => ?_) ?_; rfl; (obtain ⟨nn, rfl⟩ := hw; go_simp; (try with_reducible rfl)); (try simp only [Act.put, List.setIfInBounds_toArray, List.set_cons_zero, List.set_cons_succ]))
                        (refine wpS_pure ?_ (fun w hw => ?_) ?_; rfl; (obtain ⟨nn, rfl⟩ := hw; go_simp; (try with_reducible rfl)); (try simp only [Act.put, List.setIfInBounds_toArray, List.set_cons_zero, List.set_cons_succ]))
                        (refine wpS_pure ?_ (fun w hw => ?_) ?_; rfl; (obtain ⟨nn, rfl⟩ := hw; go_simp; (try with_reducible rfl)); (try simp only [Act.put, List.setIfInBounds_toArray, List.set_cons_zero, List.set_cons_succ]))
                        (refine wpS_pure ?_ (fun w hw => ?_) ?_; rfl; (obtain ⟨nn, rfl⟩ := hw; go_simp; (try with_reducible rfl)); (try simp only [Act.put, List.setIfInBounds_toArray, List.set_cons_zero, List.set_cons_succ]))
                        (refine wpS_pure ?_ (fun w hw => ?_) ?_; rfl; (obtain ⟨nn, rfl⟩ := hw; go_simp; (try with_reducible rfl)); (try simp only [Act.put, List.setIfInBounds_toArray, List.set_cons_zero, List.set_cons_succ]))
                        (refine wpS_pure ?_ (fun w hw => ?_) ?_; rfl; (obtain ⟨nn, rfl⟩ := hw; go_simp; (try with_reducible rfl)); (try simp only [Act.put, List.setIfInBounds_toArray, List.set_cons_zero, List.set_cons_succ]))
                        (refine wpS_pure ?_ (fun w hw => ?_) ?_; rfl; (obtain ⟨nn, rfl⟩ := hw; go_simp; (try with_reducible rfl)); (try simp only [Act.put, List.setIfInBounds_toArray, List.set_cons_zero, List.set_cons_succ]))
                        (refine wpS_pure ?_ (fun w hw => ?_) ?_; rfl; (obtain ⟨nn, rfl⟩ := hw; go_simp; (try with_reducible rfl)); (try simp only [Act.put, List.setIfInBounds_toArray, List.set_cons_zero, List.set_cons_succ]))
                        (refine wpS_pure ?_ (fun w hw => ?_) ?_; rfl; (obtain ⟨nn, rfl⟩ := hw; go_simp; (try with_reducible rfl)); (try simp only [Act.put, List.setIfInBounds_toArray, List.set_cons_zero, List.set_cons_succ]))
                        (refine wpS_pure ?_ (fun w hw => ?_) ?_; rfl; (obtain ⟨nn, rfl⟩ := hw; go_simp; (try with_reducible rfl)); (try simp only [Act.put, List.setIfInBounds_toArray, List.set_cons_zero, List.set_cons_succ]))
                        refine wpS_nil ?_
                        rintro w' ⟨nn, rfl⟩
                        go_wp2_with fail
                        go_roundw
                        case rel => exact ⟨j + 1, _, by go_num, by rw [hval.out], by omega, .inr (by omega), by rw [hVw'.out, hwj'.out]; first | rfl | (simp only [World.drewN_drewN]; rfl)⟩
                        case measure => simp [intOf]; omega
            · have hw9 : Hid (bestTo row (nearP PL re) j = winI row (nearP PL re)) := Lib.hid (near_end hrl.out (by have h := hHI'.out; split at h <;> omega) (by
                rcases hj2 with h | h
                · by_cases hjd : j ≤ D
                  · exact .inl hjd
                  · exact .inr fun d hd => by have h2 := hLO'.out; split at h2 <;> omega
                · exact .inl (by omega)))
              have v4 : wr.cell? ⟨bo, 2, none⟩ = some (.slice (some ⟨g, 0, none⟩) n2 c2) := by rw [hwj]; exact j2
              have v6 : wr.cell? ⟨g, k, none⟩ = some (.float .f32 zold) := by rw [hwj]; exact hold
              have v7 : wr.frozen? ⟨g, k, none⟩ = false := by rw [hwj]; exact hfz
              have hT : Fl .f32 (fi (bestTo row (nearP PL re) j)) (nearI D cs ms re k) := by rw [hV.out, hw9.out]; exact fiFl2 _
              have hM := hput.out _ _ hT
              rw [hset.out] at hM
              have hM := Lib.hid (hM.drewN nj)
              generalize bestTo row (nearP PL re) j = WB at hM ⊢
              have hwj' := Lib.hid hwj
              clear hput hset hwj hT hw9 e0 e1 e2 e3 j0 j1 j2 jf hold hfz q0 q1 q2
              go_wp2_with fail
              refine (hmin _).mono ?_
              rintro e w4 ⟨rfl, hw4⟩
              obtain rfl := hw4.symm
              go_wp2_with fail
              go_roundw
              case rel => exact ⟨k + 1, by omega, by go_num, Lib.hid (by rw [hwj'.out]; exact hM.out)⟩
              case measure => simp [intOf]; omega
      · obtain rfl : k = n1 := by omega
        obtain ⟨_, f0, f1, f2, f3⟩ := hN
        obtain ⟨_, r0, r1, r2, rf⟩ := hpv.out.2.2.1.below hbl
        have hoc := Lib.hid ho
        clear ho
        go_wp2_with fail
        refine bodyPost_ret (v := ?v) ?hr rfl ?post
        case hr => (simp [results, Try.results31, go_sem, f0, f1, f2, r0, r1, r2, rf]; try rfl)
        case post =>
          have h0 := hpv.out.2.2.2.1
          have hoo := hoc.out
          rw [← hol, part2_end, hol] at hoo
          refine ⟨_, _, _, rfl, ?_, ?_⟩
          · ((repeat' (first | (refine bel_set ?_ ?_ _) | (refine bel_al ?_ ?_ _) | exact Below.refl _ _ | assumption | (refine below_drewN ?_ _) | (refine Below.drew ?_) | (refine Below.trans ?_ (Below.mono hbl ?_)))) <;> (first | omega | (simp; done) | (simp; omega)))
          · (refine OC.mono (base := ?bb) ?hh ?hl; (case hh => ((repeat' (first | (refine OC.set ?_ _ ?_) | (refine OC.alloc ?_ _) | exact hoo | (refine OC.drewN ?_ _))) <;> (first | omega | (simp; done) | (simp; omega)))); (case hl => (first | omega | (simp; done) | (simp; omega))))
end Go.Proofs.Ytblaojflcemfdaa
