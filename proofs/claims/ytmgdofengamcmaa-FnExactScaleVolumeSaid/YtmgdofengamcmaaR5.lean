import Derived.Test.YtmgdofengamcmaaR4
set_option linter.unusedVariables false
set_option linter.unusedSimpArgs false
namespace Go.Proofs.Ytmgdofengamcmaa
open Go.FX Go.RowKit Go.WideShapes Go.ChangeShapes

theorem scale_cells (W H D : Nat) (cs : List Nat) (cm : Nat) (hl : cs.length = H * W * D) : cubeL W D (fun x y d => fop .mul .f32 (costC W D cs x y d) cm) (H * W * D) = seqL (fun i => fop .mul .f32 (cs.getD i 0) cm) cs.length := by
  rw [hl]
  refine seqL_congr fun i hi => ?_
  obtain ⟨_, _, _, h4⟩ := cube_place hi
  show fop .mul .f32 (cs.getD ((i / D / W * W + i / D % W) * D + i % D) 0) cm = _
  rw [← h4]
set_option maxRecDepth 100000 in
set_option maxHeartbeats 4000000 in
theorem scale_fn (W H D : Nat) (a : Option Addr) (n c : Nat) (cs : List Nat) (m cm : Nat) (hm : Fl .f32 m cm) (bp bm : Nat) (w : World) (hv : FC w (.slice a n c) cs) (hp : Pw w bp W H D (.slice a n c)) (hlb : bm < w.heap.size) (hcb : w.cell? ⟨bm, 0, none⟩ = some (.float .f32 m)) (b1 : 1 ≤ W) (b2 : W ≤ 24) (b3 : 1 ≤ H) (b4 : H ≤ 24) (b5 : H * W ≤ 256) (d1 : 1 ≤ D) (d2 : D ≤ 8) (hl : cs.length = H * W * D) :
    CostFn Try.prog 74 #[] #[.pointer (some ⟨bp, 0, none⟩), .pointer (some ⟨bm, 0, none⟩)] W H D (fun x y d => fop .mul .f32 (costC W D cs x y d) cm) w := fun w1 x y d hb hx hy hd => by
  have hat := fun w2 (h : Below w1.heap.size w1 w2) => at_any W H D (.slice a n c) cs x y d w2 ((hv.below hb).below h) b1 b2 b4 b5 d1 d2 hl hx hy hd
  obtain ⟨l0, p0, p1, p2, p3⟩ := hp.below hb
  have q := (bcell hb).1 bm 0 hlb
  rw [hcb] at q
  have lb1 : bm < w1.heap.size := Nat.lt_of_lt_of_le hlb hb.size
  clear hcb hv hp hl hb
  show Calls Try.prog 74 #[.int .i64 x, .int .i64 y, .int .i64 d, .pointer (some ⟨bp, 0, none⟩), .pointer (some ⟨bm, 0, none⟩)] w1 _
  go_enter Try.func74, Try.ntmps74
  go_upto_region 1 with fail
  refine wp_region_cls (by kernel_rfl) (by kernel_rfl) (by kernel_rfl) (by kernel_rfl) (fun w' => Below w1.heap.size w1 w') (below_drewN (Below.refl _ _) 1) [Eq1 ?q6938u0, Eq1 ?q6938u1, Eq1 ?q6938u2, Eq1 ?q6938u3, FloatIs .f32 (costC W D cs x y d), Eq1 ?q6938u5, FloatIs .f32 (fop .mul .f32 (costC W D cs x y d) cm), FloatIs .f32 (fop .mul .f32 (costC W D cs x y d) cm)] ?q6938main
  case q6938main =>
    (refine wpR_pure ?_ (fun w hw => ?_) ?_; rfl; (obtain ⟨hwc, hwf⟩ := bcell2 hw; go_simp; (try with_reducible rfl)); (try simp only [Act.put, List.setIfInBounds_toArray, List.set_cons_zero, List.set_cons_succ]))
    (refine wpR_pure ?_ (fun w hw => ?_) ?_; rfl; (obtain ⟨hwc, hwf⟩ := bcell2 hw; go_simp; (try with_reducible rfl)); (try simp only [Act.put, List.setIfInBounds_toArray, List.set_cons_zero, List.set_cons_succ]))
    (refine wpR_pure ?_ (fun w hw => ?_) ?_; rfl; (obtain ⟨hwc, hwf⟩ := bcell2 hw; go_simp; (try with_reducible rfl)); (try simp only [Act.put, List.setIfInBounds_toArray, List.set_cons_zero, List.set_cons_succ]))
    (refine wpR_pure ?_ (fun w hw => ?_) ?_; rfl; (obtain ⟨hwc, hwf⟩ := bcell2 hw; go_simp; (try with_reducible rfl)); (try simp only [Act.put, List.setIfInBounds_toArray, List.set_cons_zero, List.set_cons_succ]))
    (refine wpR_cls ?_ (fun w hw => ?_) ?_; rfl; (go_simp; refine (hat _ hw).mono ?_; rintro _ _ ⟨_, rfl, hcb, hcr⟩; exact ⟨_, rfl, ⟨_, rfl, hcr⟩, Below.trans hw (hcb.mono hw.size)⟩); (rintro _ ⟨_, rfl, _⟩; (try simp only [Act.put, List.setIfInBounds_toArray, List.set_cons_zero, List.set_cons_succ])))
    (refine wpR_pure ?_ (fun w hw => ?_) ?_; rfl; (obtain ⟨hwc, hwf⟩ := bcell2 hw; go_simp; (try with_reducible rfl)); (try simp only [Act.put, List.setIfInBounds_toArray, List.set_cons_zero, List.set_cons_succ]))
    (refine wpR_cls ?_ (fun w hw => ?_) ?_; rfl; (go_simp; exact ⟨below_drewN hw _, _, rfl, Fl.flR (by assumption) (by assumption) _⟩); (rintro _ ⟨_, rfl, _⟩; (try simp only [Act.put, List.setIfInBounds_toArray, List.set_cons_zero, List.set_cons_succ])))
    (refine wpR_cls ?_ (fun w hw => ?_) ?_; rfl; (go_simp; first | exact ⟨_, rfl, by assumption⟩ | exact ⟨hw, _, rfl, by assumption⟩); (rintro _ ⟨_, rfl, _⟩; (try simp only [Act.put, List.setIfInBounds_toArray, List.set_cons_zero, List.set_cons_succ])))
    refine wpR_nil ?_
    intro w' hw'
    go_wp2_with fail
    go_ret
    exact ⟨_, rfl, hw', by assumption⟩
set_option maxHeartbeats 1000000 in
theorem implScaleVolume_any (W H D : Nat) (a : Option Addr) (n c : Nat) (cs : List Nat) (m cm : Nat) (hm : Fl .f32 m cm) (w : World) (hv : FC w (.slice a n c) cs) (b1 : 1 ≤ W) (b2 : W ≤ 24) (b3 : 1 ≤ H) (b4 : H ≤ 24) (b5 : H * W ≤ 256) (d1 : 1 ≤ D) (d2 : D ≤ 8) (hl : cs.length = H * W * D) :
    Calls Try.prog 31 #[.agg #[.int .i64 W, .int .i64 H, .int .i64 D, .slice a n c], .float .f32 m] w (RVol 22 W H D (seqL (fun i => fop .mul .f32 (cs.getD i 0) cm) cs.length) true w) := by
  obtain ⟨rfl, hnc, hcm⟩ := hv.sized
  have hval := volB_mk b1 b2 b3 b4 b5 d1 d2 hl
  have hd := fun w1 (hb : Below w.heap.size w w1) hp hlb hcb => buildFrom_any W H D a cs.length c hval hnc hcm b1 b2 b3 b4 b5 d1 d2 _ _ _ _ w1 (enters_of Try.func74 (by kernel_rfl) rfl) (scale_fn W H D a _ c cs m cm hm w.heap.size (w.heap.size + 1) w1 (hv.below hb) hp hlb hcb b1 b2 b3 b4 b5 d1 d2 hl)
  rw [scale_cells W H D cs cm hl] at hd
  clear hl hval
  go_enter Try.func31, Try.ntmps31
  go_wp2_with fail
  refine (hd _ (by ((repeat' (first | (refine bel_set ?_ ?_ _) | (refine bel_al ?_ ?_ _) | exact Below.refl _ _ | assumption | (refine below_drewN ?_ _) | (refine Below.drew ?_))) <;> (first | omega | (simp; done) | (simp; omega)))) (((Pw.new _ _ _ _ _ _).alloc _).alloc _) (by simp; try omega) (by go_simp)).mono ?_
  rintro e w1 ⟨a1, n1, c1, rfl, hb1, ho1⟩
  obtain ⟨l1, q0, q1, q2, q3, qf⟩ := (Nw.new _ _ _ _ _ _).below hb1
  have s1 := hb1.size
  simp only [World.size_alloc] at l1 q0 q1 q2 q3 qf s1
  go_wp2_with fail
  refine bodyPost_ret (v := ?v) ?hr rfl ?post
  case hr => (simp [results, Try.results31, go_sem, q0, q1, q2, q3, qf]; try rfl)
  case post =>
    refine ⟨_, _, _, rfl, ?_, ?_⟩
    · ((repeat' (first | (refine bel_set ?_ ?_ _) | (refine bel_al ?_ ?_ _) | exact Below.refl _ _ | assumption | (refine below_drewN ?_ _) | (refine Below.drew ?_) | (refine Below.trans ?_ (Below.mono hb1 ?_)))) <;> (first | omega | (simp; done) | (simp; omega)))
    · (refine OC.mono (base := ?bb) ?hh ?hl; (case hh => ((repeat' (first | (refine OC.set ?_ _ ?_) | (refine OC.alloc ?_ _) | exact ho1 | (refine OC.drewN ?_ _))) <;> (first | omega | (simp; done) | (simp; omega)))); (case hl => (first | omega | (simp; done) | (simp; omega))))
set_option maxRecDepth 100000 in
set_option maxHeartbeats 8000000 in
theorem specScaleVolume_any (W H D : Nat) (a : Option Addr) (n c : Nat) (cs : List Nat) (s sc : Nat) (hs : Fl .f32 s sc) (w : World) (hv : FC w (.slice a n c) cs) (b1 : 1 ≤ W) (b2 : W ≤ 24) (b3 : 1 ≤ H) (b4 : H ≤ 24) (b5 : H * W ≤ 256) (d1 : 1 ≤ D) (d2 : D ≤ 8) (hl : cs.length = H * W * D) :
    Calls Try.prog 30 #[.agg #[.int .i64 W, .int .i64 H, .int .i64 D, .slice a n c], .float .f32 s] w (RVol 22 W H D (seqL (fun i => fop .mul .f32 (cs.getD i 0) sc) cs.length) true w) := by
  obtain ⟨rfl, hnc, hcm⟩ := hv.sized
  have hval := Lib.hid (volB_mk b1 b2 b3 b4 b5 d1 d2 hl)
  have h1 := fun w1 hp => specVIs_any W H D a cs.length c w.heap.size w1 hp (by unfold maxLen at hcm; omega)
  have hcl : cs.length ≤ 2048 := by rw [hl]; exact Nat.mul_le_mul b5 d2
  have hcp : 0 < cs.length := by rw [hl]; exact Nat.mul_pos (Nat.mul_pos b3 b1) d1
  have h3 := fun w1 hp => specNew4_any W H D a cs.length c w.heap.size w1 hp hcl
  clear hl
  obtain ⟨os, hos⟩ : ∃ os, os = List.replicate cs.length 0 := ⟨_, rfl⟩
  have hol : os.length = cs.length := by rw [hos, List.length_replicate]
  rw [← hos] at h3
  clear hos
  go_enter Try.func30, Try.ntmps30
  go_wp2_with fail
  have hP1 := (Pw.new w W H D (.slice a cs.length c) 41).alloc (.cells #[.int .i64 0, .int .i64 0, .int .i64 0, .slice none 0 0] 41)
  have hN := Nw.new (w.alloc (.cells #[.int .i64 W, .int .i64 H, .int .i64 D, .slice a cs.length c] 41)) (.int .i64 0) (.int .i64 0) (.int .i64 0) (.slice none 0 0) 41
  simp only [World.size_alloc] at hN
  refine (h1 _ hP1).mono ?_
  rintro e w1 ⟨k, rfl, rfl⟩
  rw [hval.out]
  go_wp2_with fail
  obtain ⟨w0, hw0⟩ : ∃ w0, w0 = ((w.alloc (.cells #[.int .i64 W, .int .i64 H, .int .i64 D, .slice a cs.length c] 41)).alloc (.cells #[.int .i64 0, .int .i64 0, .int .i64 0, .slice none 0 0] 41)).drewN k := ⟨_, rfl⟩
  rw [← hw0]
  have hp0 : Pw w0 w.heap.size W H D (.slice a cs.length c) := by rw [hw0]; exact hP1.drewN k
  have hn0 : Nw w0 (w.heap.size + 1) (.int .i64 0) (.int .i64 0) (.int .i64 0) (.slice none 0 0) := by rw [hw0]; exact hN.drewN k
  have hb0 : Below w.heap.size w w0 := by rw [hw0]; exact below_drewN (below2 _ _ _) _
  have hlt0 : w.heap.size + 1 < w0.heap.size := hn0.1
  clear hw0 hP1 hN
  refine (h3 _ hp0).mono ?_
  rintro e w1 ⟨a1, n1, c1, rfl, hb1, ho1⟩
  obtain ⟨bo, hbo0⟩ : ∃ b, b = w1.heap.size := ⟨_, rfl⟩
  have hmk := Lib.hid (Mv.start1 (W := (W : Int)) (H := (H : Int)) (D := (D : Int)) (T := 41) hb1 ho1)
  rw [← hbo0] at hmk
  have hln := ho1.fc.sized.1.trans hol
  have hpv := Lib.hid (And.intro hp0 (And.intro hn0 (And.intro (hv.below hb0) hb0)))
  clear hb1 ho1 hn0 hb0 hp0 h3 h1 hv
  subst hln
  go_wp2_with fail
  rw [← hbo0]
  clear hbo0
  obtain ⟨_, e0, e1, e2, e3⟩ := hpv.out.1.below (hmk.out.choose_spec.choose_spec.choose_spec.2.2.2.2)
  go_loopw [7] (fun i wr => ∃ k : Nat, k ≤ cs.length ∧ i = .int .i64 k ∧ Hid (Mv 22 w0 bo W H D (partL (fun i => fop .mul .f32 (cs.getD i 0) sc) os k) wr)) (fun i _ => cs.length - (intOf i).toNat)
  case atStart => exact ⟨0, Nat.zero_le _, rfl, by rw [partL_zero]; exact hmk⟩
  case round =>
    clear hmk e0 e1 e2 e3
    obtain ⟨k, hk, rfl, hmk⟩ := hrel
    obtain ⟨a2, n2, c2, hN, ho, hne, hbo, hbl⟩ := hmk.out
    obtain ⟨_, e0, e1, e2, e3⟩ := hpv.out.1.below hbl
    by_cases hlk : k < cs.length
    · have hlen := partL_len (fun i => fop .mul .f32 (cs.getD i 0) sc) os k (by omega)
      obtain ⟨g, cap, eg, hn2, rr⟩ := OC.own_form ho (by rw [hlen]; omega)
      obtain ⟨rfl, _, rfl⟩ := Value.slice.inj eg
      clear eg
      rw [hlen, hol] at hn2
      subst hn2
      obtain ⟨zold, holdF, hold⟩ := ho.row_at (k := k) (by rw [hlen]; omega)
      obtain ⟨_, j0, j1, j2, j3, jf⟩ := id hN
      obtain ⟨b1', off1, cc1, z1, ev1, _, _, _, hz1f, hz1c⟩ := (hpv.out.2.2.1.below hbl).cell hlk
      simp only [Value.slice.injEq, true_and] at ev1
      obtain ⟨rfl, rfl⟩ := ev1
      obtain ⟨x1, hx1⟩ : ∃ x, x = cs.getD k 0 := ⟨_, rfl⟩
      rw [← hx1] at hz1f
      have hset := Lib.hid (partL_set (fun i => fop .mul .f32 (cs.getD i 0) sc) os k (by omega))
      have hput := Lib.hid (fun (r : Nat) (hr : Fl .f32 r (fop .mul .f32 x1 sc)) => Mv.put hN ho hne hbo hbl (k := k) (by rw [hlen]; omega) hr)
      have hfz : wr.frozen? ⟨g, k, none⟩ = false := rr _
      have i1 : (0 : Int) ≤ (k : Int) := Int.natCast_nonneg _
      have i2 : (k : Int) < (cs.length : Int) := by omega
      have hx1' := Lib.hid hx1
      have hol' := Lib.hid hol
      clear hN ho hne hbl holdF hlen hmk rr hx1 hol
      go_wp2_with fail
      refine wp_region_cls_tail 11 (by kernel_rfl) (by kernel_rfl) (by rfl) (by kernel_rfl) (by kernel_rfl) (fun w' => ∃ n, w' = wr.drewN n) ⟨1, rfl⟩ [Eq1 ?q6595u0, Eq1 ?q6595u1, Eq1 ?q6595u2, Eq1 ?q6595u3, Eq1 ?q6595u4, Eq1 ?q6595u5, Eq1 ?q6595u6, Eq1 ?q6595u7, Eq1 ?q6595u8, FloatIs .f32 (fop .mul .f32 x1 sc), Eq1 ?q6595u10] ?q6595main
      case q6595main =>
        simp only [List.take_succ_cons, List.take_zero]
        (refine wpR_pure ?_ (fun w hw => ?_) ?_; rfl; (obtain ⟨nn, rfl⟩ := hw; go_simp; (try with_reducible rfl)); (try simp only [Act.put, List.setIfInBounds_toArray, List.set_cons_zero, List.set_cons_succ]))
        (refine wpR_pure ?_ (fun w hw => ?_) ?_; rfl; (obtain ⟨nn, rfl⟩ := hw; go_simp; (try with_reducible rfl)); (try simp only [Act.put, List.setIfInBounds_toArray, List.set_cons_zero, List.set_cons_succ]))
        (refine wpR_pure ?_ (fun w hw => ?_) ?_; rfl; (obtain ⟨nn, rfl⟩ := hw; go_simp; (try with_reducible rfl)); (try simp only [Act.put, List.setIfInBounds_toArray, List.set_cons_zero, List.set_cons_succ]))
        (refine wpR_pure ?_ (fun w hw => ?_) ?_; rfl; (obtain ⟨nn, rfl⟩ := hw; go_simp; (try with_reducible rfl)); (try simp only [Act.put, List.setIfInBounds_toArray, List.set_cons_zero, List.set_cons_succ]))
        (refine wpR_pure ?_ (fun w hw => ?_) ?_; rfl; (obtain ⟨nn, rfl⟩ := hw; go_simp; (try with_reducible rfl)); (try simp only [Act.put, List.setIfInBounds_toArray, List.set_cons_zero, List.set_cons_succ]))
        (refine wpR_pure ?_ (fun w hw => ?_) ?_; rfl; (obtain ⟨nn, rfl⟩ := hw; go_simp; (try with_reducible rfl)); (try simp only [Act.put, List.setIfInBounds_toArray, List.set_cons_zero, List.set_cons_succ]))
        (refine wpR_pure ?_ (fun w hw => ?_) ?_; rfl; (obtain ⟨nn, rfl⟩ := hw; go_simp; (try with_reducible rfl)); (try simp only [Act.put, List.setIfInBounds_toArray, List.set_cons_zero, List.set_cons_succ]))
        (refine wpR_pure ?_ (fun w hw => ?_) ?_; rfl; (obtain ⟨nn, rfl⟩ := hw; go_simp; (try with_reducible rfl)); (try simp only [Act.put, List.setIfInBounds_toArray, List.set_cons_zero, List.set_cons_succ]))
        (refine wpR_pure ?_ (fun w hw => ?_) ?_; rfl; (obtain ⟨nn, rfl⟩ := hw; go_simp; (try with_reducible rfl)); (try simp only [Act.put, List.setIfInBounds_toArray, List.set_cons_zero, List.set_cons_succ]))
        (refine wpR_cls ?_ (fun w hw => ?_) ?_; rfl; (obtain ⟨nn, rfl⟩ := hw; go_simp; exact ⟨⟨_, rfl⟩, _, rfl, Fl.flR (by assumption) (by assumption) _⟩); (rintro _ ⟨_, rfl, _⟩; (try simp only [Act.put, List.setIfInBounds_toArray, List.set_cons_zero, List.set_cons_succ])))
        (refine wpR_pure ?_ (fun w hw => ?_) ?_; rfl; (obtain ⟨nn, rfl⟩ := hw; go_simp; (try with_reducible rfl)); (try simp only [Act.put, List.setIfInBounds_toArray, List.set_cons_zero, List.set_cons_succ]))
        refine wpR_nil ?_
        rintro w' ⟨nn, rfl⟩
        refine wpAny_last 11 _ (by kernel_rfl) rfl rfl (by kernel_rfl) fun K hK => ?_
        go_simp
        refine hK _ _ ?_
        have hM := hput.out _ (by assumption)
        have hs := hset.out
        rw [← hx1'.out] at hs
        rw [hs] at hM
        have hM := Lib.hid hM
        clear hput hset hs
        go_wp2_with fail
        go_roundw
        case rel => exact ⟨k + 1, by omega, by go_num, by first | exact hM | exact Lib.hid (hM.out.drewN _)⟩
        case measure => simp [intOf]; omega
    · obtain rfl : k = cs.length := by omega
      obtain ⟨_, f0, f1, f2, f3, f4⟩ := hN
      obtain ⟨_, r0, r1, r2, r3, rf⟩ := hpv.out.2.1.below hbl
      have hoc := Lib.hid ho
      clear ho
      go_wp2_with fail
      refine bodyPost_ret (v := ?v) ?hr rfl ?post
      case hr => (simp [results, Try.results30, go_sem, f0, f1, f2, f3, r0, r1, r2, r3, rf]; try rfl)
      case post =>
        have h0 := hpv.out.2.2.2
        have hoo := hoc.out
        rw [← hol, partL_end, hol] at hoo
        refine ⟨_, _, _, rfl, ?_, ?_⟩
        · ((repeat' (first | (refine bel_set ?_ ?_ _) | (refine bel_al ?_ ?_ _) | exact Below.refl _ _ | assumption | (refine below_drewN ?_ _) | (refine Below.drew ?_) | (refine Below.trans ?_ (Below.mono hbl ?_)))) <;> (first | omega | (simp; done) | (simp; omega)))
        · (refine OC.mono (base := ?bb) ?hh ?hl; (case hh => ((repeat' (first | (refine OC.set ?_ _ ?_) | (refine OC.alloc ?_ _) | exact hoo | (refine OC.drewN ?_ _))) <;> (first | omega | (simp; done) | (simp; omega)))); (case hl => (first | omega | (simp; done) | (simp; omega))))

theorem specScaleVolume_no (W H D : Int) (a : Option Addr) (n c : Nat) (m : Nat) (w : World) (hnc : n ≤ c) (hcm : c ≤ maxLen) (hval : volB W H D n = false) :
    Calls Try.prog 30 #[.agg #[.int .i64 W, .int .i64 H, .int .i64 D, .slice a n c], .float .f32 m] w (RVol 22 0 0 0 [] false w) := by
  have h1 := fun w1 hp => specVIs_any W H D a n c w.heap.size w1 hp (by unfold maxLen at hcm; omega)
  have hval := Lib.hid hval
  go_enter Try.func30, Try.ntmps30
  go_wp2_with fail
  refine (h1 _ ((Pw.new _ _ _ _ _ _).alloc _)).mono ?_
  rintro e w1 ⟨k, rfl, rfl⟩
  rw [hval.out]
  go_wp2_with fail
  refine bodyPost_ret (v := ?v) ?hr rfl ?post
  case hr => (simp [results, Try.results30, go_sem]; try rfl)
  case post => exact ⟨_, _, _, rfl, by ((repeat' (first | (refine bel_set ?_ ?_ _) | (refine bel_al ?_ ?_ _) | exact Below.refl _ _ | assumption | (refine below_drewN ?_ _) | (refine Below.drew ?_))) <;> (first | omega | (simp; done) | (simp; omega))), OC.nil _ _ _⟩

theorem implScaleVolume_no (W H D : Int) (a : Option Addr) (n c : Nat) (m : Nat) (w : World) (hnc : n ≤ c) (hcm : c ≤ maxLen) (hval : volB W H D n = false) :
    Calls Try.prog 31 #[.agg #[.int .i64 W, .int .i64 H, .int .i64 D, .slice a n c], .float .f32 m] w (RVol 22 0 0 0 [] false w) := by
  have hd := fun w1 first cap => buildFrom_no W H D a n c hnc hcm hval (.func 74) first cap w1
  go_enter Try.func31, Try.ntmps31
  go_wp2_with fail
  refine (hd _ _ _).mono ?_
  rintro e w1 ⟨a1, n1, c1, rfl, hb1, ho1⟩
  obtain ⟨l1, q0, q1, q2, q3, qf⟩ := (Nw.new _ _ _ _ _ _).below hb1
  have s1 := hb1.size
  simp only [World.size_alloc] at l1 q0 q1 q2 q3 qf s1
  go_wp2_with fail
  refine bodyPost_ret (v := ?v) ?hr rfl ?post
  case hr => (simp [results, Try.results31, go_sem, q0, q1, q2, q3, qf]; try rfl)
  case post =>
    refine ⟨_, _, _, rfl, ?_, ?_⟩
    · ((repeat' (first | (refine bel_set ?_ ?_ _) | (refine bel_al ?_ ?_ _) | exact Below.refl _ _ | assumption | (refine below_drewN ?_ _) | (refine Below.drew ?_) | (refine Below.trans ?_ (Below.mono hb1 ?_)))) <;> (first | omega | (simp; done) | (simp; omega)))
    · (refine OC.mono (base := ?bb) ?hh ?hl; (case hh => ((repeat' (first | (refine OC.set ?_ _ ?_) | (refine OC.alloc ?_ _) | exact ho1 | (refine OC.drewN ?_ _))) <;> (first | omega | (simp; done) | (simp; omega)))); (case hl => (first | omega | (simp; done) | (simp; omega))))

theorem pairScaleVolume (W H D : Int) (cs : List Nat) (m : Nat) (hm : m < width .f32) :
    ∃ (W' H' D' : Int) (cs' : List Nat) (ok : Bool),
      (∀ a n c w, FC w (.slice a n c) cs → Calls Try.prog 30 #[.agg #[.int .i64 W, .int .i64 H, .int .i64 D, .slice a n c], .float .f32 m] w (RVol 22 W' H' D' cs' ok w)) ∧
      (∀ a n c w, FC w (.slice a n c) cs → Calls Try.prog 31 #[.agg #[.int .i64 W, .int .i64 H, .int .i64 D, .slice a n c], .float .f32 m] w (RVol 22 W' H' D' cs' ok w)) ∧ cs'.length ≤ 2048 := by
  cases hv : volB W H D cs.length with
  | false =>
    refine ⟨0, 0, 0, [], false, fun a n c w hv => ?_, fun a n c w hv => ?_, by simp⟩
    · obtain ⟨rfl, h1, h2⟩ := hv.sized
      exact specScaleVolume_no W H D a _ c m w h1 h2 (by assumption)
    · obtain ⟨rfl, h1, h2⟩ := hv.sized
      exact implScaleVolume_no W H D a _ c m w h1 h2 (by assumption)
  | true =>
    obtain ⟨Wn, Hn, Dn, rfl, rfl, rfl, b1, b2, b3, b4, b5, d1, d2, hl⟩ := volB_parts hv
    exact ⟨_, _, _, _, _, fun a n c w hv => specScaleVolume_any Wn Hn Dn a n c cs m _ (Fl.of hm) w hv b1 b2 b3 b4 b5 d1 d2 hl, fun a n c w hv => implScaleVolume_any Wn Hn Dn a n c cs m _ (Fl.of hm) w hv b1 b2 b3 b4 b5 d1 d2 hl, by rw [seqL_len, hl]; exact Nat.mul_le_mul b5 d2⟩

end Go.Proofs.Ytmgdofengamcmaa
