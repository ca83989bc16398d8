import Derived.Test.YthnidpmolafmaaaWa
import Derived.Deep.DrawnRows
set_option linter.unusedVariables false
set_option linter.unusedSimpArgs false
namespace Go.FX
open Go Go.RowKit
def lessF (p q : Nat) : Nat := if holeB p || holeB q then 3212836864 else fop .sub .f32 p q
theorem lessF_l {p q : Nat} (h : holeB p = true) : lessF p q = 3212836864 := by unfold lessF; rw [h]; rfl
theorem lessF_r {p q : Nat} (h : holeB q = true) : lessF p q = 3212836864 := by unfold lessF; rw [h, Bool.or_true]; rfl
theorem RPic.back {E : TypeId} {W H : Int} {cs : List Nat} {ok : Bool} {w0 w1 : World} {e : Ending} {w' : World} (hb : Below w0.heap.size w0 w1) (h : RPic E W H cs ok w1 e w') : RPic E W H cs ok w0 e w' := by
  obtain ⟨a, n, c, he, h1, h2⟩ := h
  exact ⟨a, n, c, he, hb.trans (h1.mono hb.size), h2.mono hb.size⟩
theorem lessF_no {p q : Nat} (h : holeB p = false) (h' : holeB q = false) : lessF p q = fop .sub .f32 p q := by unfold lessF; rw [h, h']; rfl
end Go.FX
namespace Go.Proofs.Ythnidpmolafmaaa
open Go.FX Go.RowKit Go.WideShapes Go.ChangeShapes
attribute [local go_sem ↓] Go.wp_at_zero Go.wp_at_succ

theorem lessM_cells (W H : Nat) (cs cs' : List Nat) (b1 : 1 ≤ W) (hl : cs.length = H * W) : gridL W (fun x y => lessF (atC W H cs x y) (atC W H cs' x y)) (H * W) = seqL (fun i => lessF (cs.getD i 0) (cs'.getD i 0)) cs.length := by
  rw [gridL_seq, hl]
  exact seqL_congr fun i hi => by rw [atC_lin cs b1 hi, atC_lin cs' b1 hi]
set_option maxRecDepth 100000 in
set_option maxHeartbeats 4000000 in
theorem lessM_fn (W H : Nat) (a : Option Addr) (n c : Nat) (cs : List Nat) (a' : Option Addr) (n' c' : Nat) (cs' : List Nat) (bp bq : Nat) (w : World) (hv : FC w (.slice a n c) cs) (hp : Pv w bp W H (.slice a n c)) (hv' : FC w (.slice a' n' c') cs') (hp' : Pv w bq W H (.slice a' n' c')) (b1 : 1 ≤ W) (b2 : W ≤ 24) (b3 : 1 ≤ H) (b4 : H ≤ 24) (hl : cs.length = H * W) (hl' : cs'.length = H * W) :
    GreyFn Try.prog 62 #[] #[.pointer (some ⟨bp, 0, none⟩), .pointer (some ⟨bq, 0, none⟩)] W H (fun x y => lessF (atC W H cs x y) (atC W H cs' x y)) w := fun w1 x y hb hx hy => by
  have hat := fun w2 (h : Below w1.heap.size w1 w2) => mapAt_any W H (.slice a n c) cs x y w2 ((hv.below hb).below h) b1 b2 b4 hl hx hy
  have hat' := fun w2 (h : Below w1.heap.size w1 w2) => mapAt_any W H (.slice a' n' c') cs' x y w2 ((hv'.below hb).below h) b1 b2 b4 hl' hx hy
  have hP := hp.below hb
  have hQ := hp'.below hb
  obtain ⟨g1, e1⟩ : ∃ g, g = atC W H cs x y := ⟨_, rfl⟩
  obtain ⟨g2, e2⟩ : ∃ g, g = atC W H cs' x y := ⟨_, rfl⟩
  rw [← e1] at hat
  rw [← e2] at hat'
  have hE : Hid (lessF (atC W H cs x y) (atC W H cs' x y) = lessF g1 g2) := Lib.hid (by rw [e1, e2])
  clear hv hp hv' hp' hl hl' hb e1 e2
  obtain ⟨l0, p0, p1, p2⟩ := id hP
  obtain ⟨l1, q0, q1, q2⟩ := id hQ
  show Calls Try.prog 62 #[.int .i64 x, .int .i64 y, .pointer (some ⟨bp, 0, none⟩), .pointer (some ⟨bq, 0, none⟩)] w1 _
  cases hA : holeB g1 with
  | true =>
    have hA' := Lib.hid hA
    clear hA
    go_enter Try.func62, Try.ntmps62
    go_wp2_with fail
    refine (hat _ (by ((repeat' (first | (refine bel_set ?_ ?_ _) | (refine bel_al ?_ ?_ _) | exact Below.refl _ _ | assumption | (refine below_drewN ?_ _) | (refine Below.drew ?_))) <;> (first | omega | (simp; done) | (simp; omega))))).mono ?_
    rintro e w2 ⟨r1, rfl, hb2, hr1⟩
    go_wp2_with fail
    refine (isHole_any _ _).mono ?_
    rintro e w' ⟨rfl, rfl⟩
    rw [holeB_fl hr1, hA'.out]
    go_wp2_with fail
    go_ret
    exact ⟨_, rfl, hb2, by rw [hE.out, lessF_l hA'.out]; exact flM1⟩
  | false =>
    have hA' := Lib.hid hA
    clear hA
    cases hB : holeB g2 with
    | true =>
      have hB' := Lib.hid hB
      clear hB
      go_enter Try.func62, Try.ntmps62
      go_wp2_with fail
      refine (hat _ (by ((repeat' (first | (refine bel_set ?_ ?_ _) | (refine bel_al ?_ ?_ _) | exact Below.refl _ _ | assumption | (refine below_drewN ?_ _) | (refine Below.drew ?_))) <;> (first | omega | (simp; done) | (simp; omega))))).mono ?_
      rintro e w2 ⟨r1, rfl, hb2, hr1⟩
      obtain ⟨k1, s0, s1, s2⟩ := hQ.below hb2
      go_wp2_with fail
      refine (isHole_any _ _).mono ?_
      rintro e w' ⟨rfl, rfl⟩
      rw [holeB_fl hr1, hA'.out]
      go_wp2_with fail
      refine (hat' _ (by ((repeat' (first | (refine bel_set ?_ ?_ _) | (refine bel_al ?_ ?_ _) | exact Below.refl _ _ | assumption | (refine below_drewN ?_ _) | (refine Below.drew ?_) | (refine Below.trans ?_ (Below.mono hb2 ?_)))) <;> (first | omega | (simp; done) | (simp; omega))))).mono ?_
      rintro e w3 ⟨r2, rfl, hb3, hr2⟩
      go_wp2_with fail
      refine (isHole_any _ _).mono ?_
      rintro e w' ⟨rfl, rfl⟩
      rw [holeB_fl hr2, hB'.out]
      go_wp2_with fail
      go_ret
      exact ⟨_, rfl, hb2.trans (hb3.mono hb2.size), by rw [hE.out, lessF_r hB'.out]; exact flM1⟩
    | false =>
      have hB' := Lib.hid hB
      clear hB
      go_enter Try.func62, Try.ntmps62
      go_wp2_with fail
      refine (hat _ (by ((repeat' (first | (refine bel_set ?_ ?_ _) | (refine bel_al ?_ ?_ _) | exact Below.refl _ _ | assumption | (refine below_drewN ?_ _) | (refine Below.drew ?_))) <;> (first | omega | (simp; done) | (simp; omega))))).mono ?_
      rintro e w2 ⟨r1, rfl, hb2, hr1⟩
      obtain ⟨k1, s0, s1, s2⟩ := hQ.below hb2
      go_wp2_with fail
      refine (isHole_any _ _).mono ?_
      rintro e w' ⟨rfl, rfl⟩
      rw [holeB_fl hr1, hA'.out]
      go_wp2_with fail
      refine (hat' _ (by ((repeat' (first | (refine bel_set ?_ ?_ _) | (refine bel_al ?_ ?_ _) | exact Below.refl _ _ | assumption | (refine below_drewN ?_ _) | (refine Below.drew ?_) | (refine Below.trans ?_ (Below.mono hb2 ?_)))) <;> (first | omega | (simp; done) | (simp; omega))))).mono ?_
      rintro e w3 ⟨r2, rfl, hb3, hr2⟩
      have hb13 : Below w1.heap.size w1 w3 := hb2.trans (hb3.mono hb2.size)
      go_wp2_with fail
      refine (isHole_any _ _).mono ?_
      rintro e w' ⟨rfl, rfl⟩
      rw [holeB_fl hr2, hB'.out]
      clear s0 s1 s2 p0 p1 p2 q0 q1 q2
      obtain ⟨l3, p0, p1, p2⟩ := hP.below hb13
      obtain ⟨l4, q0, q1, q2⟩ := hQ.below hb13
      clear hb2 hb3 hr1 hr2
      go_wp2_with fail
      refine wp_region_cls (by kernel_rfl) (by kernel_rfl) (by kernel_rfl) (by kernel_rfl) (fun w' => Below w3.heap.size w3 w') (below_drewN (Below.refl _ _) 1) [Eq1 ?q1226u0, Eq1 ?q1226u1, Eq1 ?q1226u2, FloatIs .f32 (g1), Eq1 ?q1226u4, Eq1 ?q1226u5, Eq1 ?q1226u6, FloatIs .f32 (g2), FloatIs .f32 (fop .sub .f32 g1 g2), FloatIs .f32 (fop .sub .f32 g1 g2)] ?q1226main
      case q1226main =>
        (refine wpR_pure ?_ (fun w hw => ?_) ?_; rfl; (obtain ⟨hwc, hwf⟩ := bcell2 hw; go_simp; (try with_reducible rfl)); (try simp only [Act.put, List.setIfInBounds_toArray, List.set_cons_zero, List.set_cons_succ]))
        (refine wpR_pure ?_ (fun w hw => ?_) ?_; rfl; (obtain ⟨hwc, hwf⟩ := bcell2 hw; go_simp; (try with_reducible rfl)); (try simp only [Act.put, List.setIfInBounds_toArray, List.set_cons_zero, List.set_cons_succ]))
        (refine wpR_pure ?_ (fun w hw => ?_) ?_; rfl; (obtain ⟨hwc, hwf⟩ := bcell2 hw; go_simp; (try with_reducible rfl)); (try simp only [Act.put, List.setIfInBounds_toArray, List.set_cons_zero, List.set_cons_succ]))
        (refine wpR_cls ?_ (fun w hw => ?_) ?_; rfl; (go_simp; refine (hat _ (hb13.trans (hw.mono hb13.size))).mono ?_; rintro _ _ ⟨_, rfl, hcb, hcr⟩; exact ⟨_, rfl, ⟨_, rfl, hcr⟩, Below.trans hw (hcb.mono hw.size)⟩); (rintro _ ⟨_, rfl, _⟩; (try simp only [Act.put, List.setIfInBounds_toArray, List.set_cons_zero, List.set_cons_succ])))
        (refine wpR_pure ?_ (fun w hw => ?_) ?_; rfl; (obtain ⟨hwc, hwf⟩ := bcell2 hw; go_simp; (try with_reducible rfl)); (try simp only [Act.put, List.setIfInBounds_toArray, List.set_cons_zero, List.set_cons_succ]))
        (refine wpR_pure ?_ (fun w hw => ?_) ?_; rfl; (obtain ⟨hwc, hwf⟩ := bcell2 hw; go_simp; (try with_reducible rfl)); (try simp only [Act.put, List.setIfInBounds_toArray, List.set_cons_zero, List.set_cons_succ]))
        (refine wpR_pure ?_ (fun w hw => ?_) ?_; rfl; (obtain ⟨hwc, hwf⟩ := bcell2 hw; go_simp; (try with_reducible rfl)); (try simp only [Act.put, List.setIfInBounds_toArray, List.set_cons_zero, List.set_cons_succ]))
        (refine wpR_cls ?_ (fun w hw => ?_) ?_; rfl; (go_simp; refine (hat' _ (hb13.trans (hw.mono hb13.size))).mono ?_; rintro _ _ ⟨_, rfl, hcb, hcr⟩; exact ⟨_, rfl, ⟨_, rfl, hcr⟩, Below.trans hw (hcb.mono hw.size)⟩); (rintro _ ⟨_, rfl, _⟩; (try simp only [Act.put, List.setIfInBounds_toArray, List.set_cons_zero, List.set_cons_succ])))
        (refine wpR_cls ?_ (fun w hw => ?_) ?_; rfl; (go_simp; exact ⟨below_drewN hw _, _, rfl, Fl.flR (by assumption) (by assumption) _⟩); (rintro _ ⟨_, rfl, _⟩; (try simp only [Act.put, List.setIfInBounds_toArray, List.set_cons_zero, List.set_cons_succ])))
        (refine wpR_cls ?_ (fun w hw => ?_) ?_; rfl; (go_simp; first | exact ⟨_, rfl, by assumption⟩ | exact ⟨hw, _, rfl, by assumption⟩); (rintro _ ⟨_, rfl, _⟩; (try simp only [Act.put, List.setIfInBounds_toArray, List.set_cons_zero, List.set_cons_succ])))
        refine wpR_nil ?_
        intro w' hw'
        go_wp2_with fail
        go_ret
        exact ⟨_, rfl, hb13.trans (hw'.mono hb13.size), by rw [hE.out, lessF_no hA'.out hB'.out]; assumption⟩
set_option maxHeartbeats 2000000 in
theorem implLessMaps_of (W H : Int) (a : Option Addr) (n c : Nat) (X Y : Int) (a' : Option Addr) (n' c' : Nat) (W' H' : Int) (cs' : List Nat) (ok : Bool) (w : World)
    (hd : ∀ w0, Pv w0 w.heap.size W H (.slice a n c) → Pv w0 (w.heap.size + 1) X Y (.slice a' n' c') → Below w.heap.size w w0 → ∀ w1, Below w0.heap.size w0 w1 → Calls Try.prog 61 #[.agg #[.int .i64 W, .int .i64 H, .slice a n c], .agg #[.int .i64 X, .int .i64 Y, .slice a' n' c'], .func (.func 62) #[] #[.pointer (some ⟨w.heap.size, 0, none⟩), .pointer (some ⟨w.heap.size + 1, 0, none⟩)]] w1 (RPic 35 W' H' cs' ok w0)) :
    Calls Try.prog 23 #[.agg #[.int .i64 W, .int .i64 H, .slice a n c], .agg #[.int .i64 X, .int .i64 Y, .slice a' n' c']] w (RPic 35 W' H' cs' ok w) := by
  have hP := ((Pv.new w W H (.slice a n c) 26).alloc (.cells #[.int .i64 X, .int .i64 Y, .slice a' n' c'] 26)).alloc (.cells #[.int .i64 0, .int .i64 0, .slice none 0 0] 26)
  have hQ := (Pv.new (w.alloc (.cells #[.int .i64 W, .int .i64 H, .slice a n c] 26)) X Y (.slice a' n' c') 26).alloc (.cells #[.int .i64 0, .int .i64 0, .slice none 0 0] 26)
  have hN := Nv.new ((w.alloc (.cells #[.int .i64 W, .int .i64 H, .slice a n c] 26)).alloc (.cells #[.int .i64 X, .int .i64 Y, .slice a' n' c'] 26)) (.int .i64 0) (.int .i64 0) (.slice none 0 0) 26
  simp only [World.size_alloc] at hQ hN
  go_enter Try.func23, Try.ntmps23
  go_upto_region 1 with fail
  obtain ⟨w0, hw0⟩ : ∃ w0, w0 = (((w.alloc (.cells #[.int .i64 W, .int .i64 H, .slice a n c] 26)).alloc (.cells #[.int .i64 X, .int .i64 Y, .slice a' n' c'] 26)).alloc (.cells #[.int .i64 0, .int .i64 0, .slice none 0 0] 26)) := ⟨_, rfl⟩
  have hb0 : Below w.heap.size w w0 := by rw [hw0]; exact below3 _ _ _ _
  rw [← hw0] at hP hQ hN ⊢
  clear hw0
  have hd := hd w0 hP hQ hb0
  obtain ⟨l1, p0, p1, p2⟩ := id hP
  obtain ⟨l2, q0, q1, q2⟩ := id hQ
  have l3 := hN.1
  go_cut [4, 5] (fun s4 s5 wx => ∃ a3 n3 c3, s4 = .pointer (some ⟨w.heap.size + 1 + 1, 0, none⟩) ∧ s5 = .bool ok ∧ Nv wx (w.heap.size + 1 + 1) (.int .i64 W') (.int .i64 H') (.slice a3 n3 c3) ∧ Below w.heap.size w wx ∧ OC wx w.heap.size 35 (.slice a3 n3 c3) cs')
  case first =>
    go_region_with
      (first
        | (go_at_call 53; (with_reducible refine (mapPic_any _ _ _ _ _ _).mono ?_); rintro e w1 ⟨rfl, hb1⟩; have hJ : Below w0.heap.size w0 w1 := (by ((repeat' (first | (refine bel_set ?_ ?_ _) | (refine bel_al ?_ ?_ _) | exact Below.refl _ _ | assumption | (refine below_drewN ?_ _) | (refine Below.drew ?_) | (refine Below.trans ?_ (Below.mono hb1 ?_)))) <;> (first | omega | (simp; done) | (simp; omega)))); obtain ⟨_, pa, pb, pc⟩ := hP.below hJ)
        | (go_at_call 61; (with_reducible refine (hd _ (by ((repeat' (first | (refine bel_set ?_ ?_ _) | (refine bel_al ?_ ?_ _) | exact Below.refl _ _ | assumption | (refine below_drewN ?_ _) | (refine Below.drew ?_) | (refine Below.trans ?_ (Below.mono hb1 ?_)))) <;> (first | omega | (simp; done) | (simp; omega))))).mono ?_); rintro e w2 ⟨a2, n2, c2, rfl, hb2, ho2⟩; have hN2 := hN.below hb2; obtain ⟨_, r0, r1, r2, rf⟩ := id hN2))
    all_goals go_wp2_with fail
    all_goals go_meet
    all_goals exact ⟨_, _, _, rfl, rfl, hN2.set0.set1.set2, bel_set (bel_set (bel_set (hb0.trans (hb2.mono hb0.size)) (by simp; omega) _) (by simp; omega) _) (by simp; omega) _, OC.mono (OC.set (OC.set (OC.set ho2 _ (by exact l3)) _ (by exact l3)) _ (by exact l3)) hb0.size⟩
  case rest =>
    obtain ⟨a3, n3, c3, rfl, rfl, hN3, hb3, ho3⟩ := hcut
    obtain ⟨_, r0, r1, r2, rf⟩ := hN3
    go_wp2_with fail
    refine bodyPost_ret (v := ?v) ?hr rfl ?post
    case hr => (simp [results, Try.results23, go_sem, r0, r1, r2, rf]; try rfl)
    case post => exact ⟨_, _, _, rfl, hb3, ho3⟩
theorem implLessMaps_any (W H : Nat) (a : Option Addr) (n c : Nat) (cs : List Nat) (a' : Option Addr) (n' c' : Nat) (cs' : List Nat) (w : World) (hv : FC w (.slice a n c) cs) (hv' : FC w (.slice a' n' c') cs') (b1 : 1 ≤ W) (b2 : W ≤ 24) (b3 : 1 ≤ H) (b4 : H ≤ 24) (b5 : H * W ≤ 256) (hl : cs.length = H * W) (hl' : cs'.length = H * W) :
    Calls Try.prog 23 #[.agg #[.int .i64 W, .int .i64 H, .slice a n c], .agg #[.int .i64 W, .int .i64 H, .slice a' n' c']] w (RPic 35 W H (seqL (fun i => lessF (cs.getD i 0) (cs'.getD i 0)) cs.length) true w) := by
  obtain ⟨rfl, hnc, hcm⟩ := hv.sized
  obtain ⟨rfl, hnc', hcm'⟩ := hv'.sized
  rw [← lessM_cells W H cs cs' b1 hl]
  refine implLessMaps_of _ _ _ _ _ _ _ _ _ _ _ _ _ _ w fun w0 hP hQ hb0 w1 hb1 => ?_
  have hG := lessM_fn W H a _ c cs a' _ c' cs' _ _ w0 (hv.below hb0) hP (hv'.below hb0) hQ b1 b2 b3 b4 hl hl'
  refine (redrawWith_of _ _ _ _ _ _ _ _ _ _ hnc hcm hnc' hcm' _ _ _ _ _ _ _ w1 (pairM_self (validB_mk b1 b2 b3 b4 b5 hl) (validB_mk b1 b2 b3 b4 b5 hl')) fun w2 hb2 => redraw_of _ _ _ _ _ _ _ _ _ _ _ _ w2 fun w3 hb3 => redrawAs_of _ _ _ _ _ _ _ _ _ _ _ _ _ _ w3 fun w4 hb4 => ?_).mono fun e w' h => RPic.back hb1 h
  exact drawFrom_any W H a cs.length c (validB_mk b1 b2 b3 b4 b5 hl) hnc hcm W H b1 b2 b3 b4 b5 _ _ _ _ w4 (enters_of Try.func62 (by kernel_rfl) rfl) (hG.later (hb1.trans ((hb2.trans ((hb3.trans (hb4.mono hb3.size)).mono hb2.size)).mono hb1.size)))
theorem implLessMaps_no (W H : Int) (a : Option Addr) (n c : Nat) (X Y : Int) (a' : Option Addr) (n' c' : Nat) (w : World) (hnc : n ≤ c) (hcm : c ≤ maxLen) (hnc' : n' ≤ c') (hcm' : c' ≤ maxLen) (hval : pairB W H n X Y n' = false) :
    Calls Try.prog 23 #[.agg #[.int .i64 W, .int .i64 H, .slice a n c], .agg #[.int .i64 X, .int .i64 Y, .slice a' n' c']] w (RPic 35 0 0 [] false w) :=
  implLessMaps_of _ _ _ _ _ _ _ _ _ _ _ _ _ _ w fun w0 hP hQ hb0 w1 hb1 => (redrawWith_no _ _ _ _ _ _ _ _ _ _ hnc hcm hnc' hcm' _ _ _ w1 hval).mono fun e w' h => RPic.back hb1 h
set_option maxRecDepth 100000 in
set_option maxHeartbeats 8000000 in
theorem specLessMaps_any (W H : Nat) (a : Option Addr) (n c : Nat) (cs : List Nat) (a' : Option Addr) (n' c' : Nat) (cs' : List Nat) (w : World) (hv : FC w (.slice a n c) cs) (hv' : FC w (.slice a' n' c') cs') (b1 : 1 ≤ W) (b2 : W ≤ 24) (b3 : 1 ≤ H) (b4 : H ≤ 24) (b5 : H * W ≤ 256) (hl : cs.length = H * W) (hl' : cs'.length = H * W) :
    Calls Try.prog 22 #[.agg #[.int .i64 W, .int .i64 H, .slice a n c], .agg #[.int .i64 W, .int .i64 H, .slice a' n' c']] w (RPic 35 W H (seqL (fun i => lessF (cs.getD i 0) (cs'.getD i 0)) cs.length) true w) := by
  obtain ⟨rfl, hnc, hcm⟩ := hv.sized
  obtain ⟨rfl, hnc', hcm'⟩ := hv'.sized
  have hval := Lib.hid (pairM_self (validB_mk b1 b2 b3 b4 b5 hl) (validB_mk b1 b2 b3 b4 b5 hl'))
  have h1 := fun w1 hp hp' => specAlikeM_any W H a cs.length c w.heap.size W H a' cs'.length c' (w.heap.size + 1) w1 hp hp' (by omega) (by unfold maxLen at hcm; omega) (by unfold maxLen at hcm'; omega)
  have h3 := fun w1 => specMFlat_any W H 3212836864 3212836864 flM1 w1 b1 b2 b3 b4 b5
  rw [← hl] at h3
  obtain ⟨os, hos⟩ : ∃ os, os = seqL (fun _ => 3212836864) cs.length := ⟨_, rfl⟩
  have hol : os.length = cs.length := by rw [hos, seqL_len]
  have hog : ∀ k, k < cs.length → os.getD k 0 = 3212836864 := fun k hk => by rw [hos, seqL_get _ _ _ hk]
  rw [← hos] at h3
  have hog := Lib.hid hog
  have hll := Lib.hid (hl'.trans hl.symm)
  have h256 : cs.length ≤ 256 := by omega
  have h0 : 0 < cs.length := by rw [hl]; exact Nat.mul_pos b3 b1
  clear hos hl hl'
  go_enter Try.func22, Try.ntmps22
  go_wp2_with fail
  have hP1 := ((Pv.new w W H (.slice a cs.length c) 26).alloc (.cells #[.int .i64 W, .int .i64 H, .slice a' cs'.length c'] 26)).alloc (.cells #[.int .i64 0, .int .i64 0, .slice none 0 0] 26)
  have hP2 := (Pv.new (w.alloc (.cells #[.int .i64 W, .int .i64 H, .slice a cs.length c] 26)) W H (.slice a' cs'.length c') 26).alloc (.cells #[.int .i64 0, .int .i64 0, .slice none 0 0] 26)
  have hN := Nv.new ((w.alloc (.cells #[.int .i64 W, .int .i64 H, .slice a cs.length c] 26)).alloc (.cells #[.int .i64 W, .int .i64 H, .slice a' cs'.length c'] 26)) (.int .i64 0) (.int .i64 0) (.slice none 0 0) 26
  simp only [World.size_alloc] at hP2 hN
  refine (h1 _ hP1 hP2).mono ?_
  rintro e w1 ⟨k0, rfl, rfl⟩
  rw [hval.out]
  obtain ⟨w0, hw0⟩ : ∃ w0, w0 = (((w.alloc (.cells #[.int .i64 W, .int .i64 H, .slice a cs.length c] 26)).alloc (.cells #[.int .i64 W, .int .i64 H, .slice a' cs'.length c'] 26)).alloc (.cells #[.int .i64 0, .int .i64 0, .slice none 0 0] 26)).drewN k0 := ⟨_, rfl⟩
  rw [← hw0]
  have hp0 : Pv w0 w.heap.size W H (.slice a cs.length c) := by rw [hw0]; exact hP1.drewN k0
  have hq0 : Pv w0 (w.heap.size + 1) W H (.slice a' cs'.length c') := by rw [hw0]; exact hP2.drewN k0
  have hn0 : Nv w0 (w.heap.size + 1 + 1) (.int .i64 0) (.int .i64 0) (.slice none 0 0) := by rw [hw0]; exact hN.drewN k0
  have hb0 : Below w.heap.size w w0 := by rw [hw0]; exact below_drewN (below3 _ _ _ _) _
  have hlt0 : w.heap.size + 1 + 1 < w0.heap.size := hn0.1
  clear hw0 hP1 hP2 hN
  obtain ⟨hp1, p0, p1, p2⟩ := id hp0
  have hpv := Lib.hid (And.intro hp0 (And.intro (hv.below hb0) (And.intro hn0 (And.intro hq0 (And.intro (hv'.below hb0) hb0)))))
  clear hp0 hn0 hb0 hq0 hv hv' h1
  go_wp2_with fail
  refine (h3 _).mono ?_
  rintro e w1 ⟨a1, n1, c1, rfl, hb1, ho1⟩
  obtain ⟨bo, hbo0⟩ : ∃ b, b = w1.heap.size := ⟨_, rfl⟩
  have hmk := Lib.hid (Mk.start1 (W := (W : Int)) (H := (H : Int)) (T := 26) hb1 ho1)
  rw [← hbo0] at hmk
  have hln := ho1.fc.sized.1.trans hol
  clear hb1 ho1 h3
  subst hln
  go_wp2_with fail
  rw [← hbo0]
  clear hbo0 p0 p1 p2
  go_loopw [19] (fun i wr => ∃ k : Nat, k ≤ cs.length ∧ i = .int .i64 k ∧ Hid (Mk 35 w0 bo W H (part2 (fun i => lessF (cs.getD i 0) (cs'.getD i 0)) os k) wr)) (fun i _ => cs.length - (intOf i).toNat)
  case atStart => exact ⟨0, Nat.zero_le _, rfl, by rw [part2_zero]; exact hmk⟩
  case round =>
    clear hmk
    obtain ⟨k, hk, rfl, hmk⟩ := hrel
    obtain ⟨a2, n2, c2, hN, ho, hne, hbo, hbl⟩ := hmk.out
    by_cases hlk : k < cs.length
    · obtain ⟨_, e0, e1, e2⟩ := hpv.out.1.below hbl
      obtain ⟨_, g0, g1, g2⟩ := hpv.out.2.2.2.1.below hbl
      have hlen := part2_len (fun i => lessF (cs.getD i 0) (cs'.getD i 0)) os k (by omega)
      obtain ⟨g, cap, eg, hn2, rr⟩ := OC.own_form ho (by rw [hlen]; omega)
      obtain ⟨rfl, _, rfl⟩ := Value.slice.inj eg
      clear eg
      rw [hlen, hol] at hn2
      subst hn2
      obtain ⟨zold, holdF, hold⟩ := ho.row_at (k := k) (by rw [hlen]; omega)
      obtain ⟨_, j0, j1, j2, jf⟩ := id hN
      obtain ⟨b1', off1, cc1, z1, ev1, _, _, _, hz1f, hz1c⟩ := (hpv.out.2.1.below hbl).cell hlk
      obtain ⟨b2', off2, cc2, z2, ev2, _, _, _, hz2f, hz2c⟩ := (hpv.out.2.2.2.2.1.below hbl).cell (k := k) (by rw [hll.out]; exact hlk)
      simp only [Value.slice.injEq, true_and] at ev1 ev2
      obtain ⟨rfl, rfl⟩ := ev1
      obtain ⟨rfl, rfl⟩ := ev2
      obtain ⟨x1, hx1⟩ : ∃ x, x = cs.getD k 0 := ⟨_, rfl⟩
      obtain ⟨x2, hx2⟩ : ∃ x, x = cs'.getD k 0 := ⟨_, rfl⟩
      rw [← hx1] at hz1f
      rw [← hx2] at hz2f
      have hset := Lib.hid (part2_set (fun i => lessF (cs.getD i 0) (cs'.getD i 0)) os k (by omega))
      have hkeep := Lib.hid (part2_keep (fun i => lessF (cs.getD i 0) (cs'.getD i 0)) os k (by omega))
      have hput := Lib.hid (fun (r : Nat) (hr : Fl .f32 r (fop .sub .f32 x1 x2)) => Mk.put hN ho hne hbo hbl (k := k) (by rw [hlen]; omega) hr)
      have hfz : wr.frozen? ⟨g, k, none⟩ = false := rr _
      have i1 : (0 : Int) ≤ (k : Int) := Int.natCast_nonneg _
      have i2 : (k : Int) < (cs.length : Int) := by omega
      have i3 : (k : Int) < (cs'.length : Int) := by have := hll.out; omega
      have hx1' := Lib.hid hx1
      have hx2' := Lib.hid hx2
      have hol' := Lib.hid hol
      have hh1 := Lib.hid (holeB_fl hz1f)
      have hh2 := Lib.hid (holeB_fl hz2f)
      have hok := Lib.hid (hog.out k hlk)
      clear hN ho hne hbl holdF hlen rr hx1 hx2 hol
      cases hA : holeB x1 with
      | true =>
        have hA' := Lib.hid hA
        clear hA
        go_wp2_with fail
        refine (specHole_any _ _).mono ?_
        rintro e w' ⟨rfl, rfl⟩
        rw [hh1.out, hA'.out]
        go_wp2_with fail
        go_roundw
        case rel => exact ⟨k + 1, by omega, by go_num, by rw [← hkeep.out (by rw [hok.out, ← hx1'.out]; exact lessF_l hA'.out)]; exact hmk⟩
        case measure => simp [intOf]; omega
      | false =>
        have hA' := Lib.hid hA
        clear hA
        cases hB : holeB x2 with
        | true =>
          have hB' := Lib.hid hB
          clear hB
          go_wp2_with fail
          refine (specHole_any _ _).mono ?_
          rintro e w' ⟨rfl, rfl⟩
          rw [hh1.out, hA'.out]
          go_wp2_with fail
          refine (specHole_any _ _).mono ?_
          rintro e w' ⟨rfl, rfl⟩
          rw [hh2.out, hB'.out]
          go_wp2_with fail
          go_roundw
          case rel => exact ⟨k + 1, by omega, by go_num, by rw [← hkeep.out (by rw [hok.out, ← hx2'.out]; exact lessF_r hB'.out)]; exact hmk⟩
          case measure => simp [intOf]; omega
        | false =>
          have hB' := Lib.hid hB
          clear hB
          go_wp2_with fail
          refine (specHole_any _ _).mono ?_
          rintro e w' ⟨rfl, rfl⟩
          rw [hh1.out, hA'.out]
          go_wp2_with fail
          refine (specHole_any _ _).mono ?_
          rintro e w' ⟨rfl, rfl⟩
          rw [hh2.out, hB'.out]
          go_wp2_with fail
          refine wp_region_cls_tail 15 (by kernel_rfl) (by kernel_rfl) (by rfl) (by kernel_rfl) (by kernel_rfl) (fun w' => ∃ n, w' = wr.drewN n) ⟨1, rfl⟩ [Eq1 ?q827u0, Eq1 ?q827u1, Eq1 ?q827u2, Eq1 ?q827u3, Eq1 ?q827u4, Eq1 ?q827u5, Eq1 ?q827u6, Eq1 ?q827u7, Eq1 ?q827u8, Eq1 ?q827u9, Eq1 ?q827u10, Eq1 ?q827u11, Eq1 ?q827u12, FloatIs .f32 (fop .sub .f32 x1 x2), Eq1 ?q827u14] ?q827main
          case q827main =>
            simp only [List.take_succ_cons, List.take_zero]
            (refine wpR_pure ?_ (fun w hw => ?_) ?_; rfl; (obtain ⟨nn, rfl⟩ := hw; go_simp; (try with_reducible rfl)); (try simp only [Act.put, List.setIfInBounds_toArray, List.set_cons_zero, List.set_cons_succ]))
            (refine wpR_pure ?_ (fun w hw => ?_) ?_; rfl; (obtain ⟨nn, rfl⟩ := hw; go_simp; (try with_reducible rfl)); (try simp only [Act.put, List.setIfInBounds_toArray, List.set_cons_zero, List.set_cons_succ]))
            (refine wpR_pure ?_ (fun w hw => ?_) ?_; rfl; (obtain ⟨nn, rfl⟩ := hw; go_simp; (try with_reducible rfl)); (try simp only [Act.put, List.setIfInBounds_toArray, List.set_cons_zero, List.set_cons_succ]))
            (refine wpR_pure ?_ (fun w hw => ?_) ?_; rfl; (obtain ⟨nn, rfl⟩ := hw; go_simp; (try with_reducible rfl)); (try simp only [Act.put, List.setIfInBounds_toArray, List.set_cons_zero, List.set_cons_succ]))
            (refine wpR_pure ?_ (fun w hw => ?_) ?_; rfl; (obtain ⟨nn, rfl⟩ := hw; go_simp; (try with_reducible rfl)); (try simp only [Act.put, List.setIfInBounds_toArray, List.set_cons_zero, List.set_cons_succ]))
            (refine wpR_pure ?_ (fun w hw => ?_) ?_; rfl; (obtain ⟨nn, rfl⟩ := hw; go_simp; (try with_reducible rfl)); (try simp only [Act.put, List.setIfInBounds_toArray, List.set_cons_zero, List.set_cons_succ]))
            (refine wpR_pure ?_ (fun w hw => ?_) ?_; rfl; (obtain ⟨nn, rfl⟩ := hw; go_simp; (try with_reducible rfl)); (try simp only [Act.put, List.setIfInBounds_toArray, List.set_cons_zero, List.set_cons_succ]))
            (refine wpR_pure ?_ (fun w hw => ?_) ?_; rfl; (obtain ⟨nn, rfl⟩ := hw; go_simp; (try with_reducible rfl)); (try simp only [Act.put, List.setIfInBounds_toArray, List.set_cons_zero, List.set_cons_succ]))
            (refine wpR_pure ?_ (fun w hw => ?_) ?_; rfl; (obtain ⟨nn, rfl⟩ := hw; go_simp; (try with_reducible rfl)); (try simp only [Act.put, List.setIfInBounds_toArray, List.set_cons_zero, List.set_cons_succ]))
            (refine wpR_pure ?_ (fun w hw => ?_) ?_; rfl; (obtain ⟨nn, rfl⟩ := hw; go_simp; (try with_reducible rfl)); (try simp only [Act.put, List.setIfInBounds_toArray, List.set_cons_zero, List.set_cons_succ]))
            (refine wpR_pure ?_ (fun w hw => ?_) ?_; rfl; (obtain ⟨nn, rfl⟩ := hw; go_simp; (try with_reducible rfl)); (try simp only [Act.put, List.setIfInBounds_toArray, List.set_cons_zero, List.set_cons_succ]))
            (refine wpR_pure ?_ (fun w hw => ?_) ?_; rfl; (obtain ⟨nn, rfl⟩ := hw; go_simp; (try with_reducible rfl)); (try simp only [Act.put, List.setIfInBounds_toArray, List.set_cons_zero, List.set_cons_succ]))
            (refine wpR_pure ?_ (fun w hw => ?_) ?_; rfl; (obtain ⟨nn, rfl⟩ := hw; go_simp; (try with_reducible rfl)); (try simp only [Act.put, List.setIfInBounds_toArray, List.set_cons_zero, List.set_cons_succ]))
            (refine wpR_cls ?_ (fun w hw => ?_) ?_; rfl; (obtain ⟨nn, rfl⟩ := hw; go_simp; exact ⟨⟨_, rfl⟩, _, rfl, Fl.flR (by assumption) (by assumption) _⟩); (rintro _ ⟨_, rfl, _⟩; (try simp only [Act.put, List.setIfInBounds_toArray, List.set_cons_zero, List.set_cons_succ])))
            (refine wpR_pure ?_ (fun w hw => ?_) ?_; rfl; (obtain ⟨nn, rfl⟩ := hw; go_simp; (try with_reducible rfl)); (try simp only [Act.put, List.setIfInBounds_toArray, List.set_cons_zero, List.set_cons_succ]))
            refine wpR_nil ?_
            rintro w' ⟨nn, rfl⟩
            refine wpAny_last 15 _ (by kernel_rfl) rfl rfl (by kernel_rfl) fun K hK => ?_
            go_simp
            refine hK _ _ ?_
            have hM := hput.out _ (by assumption)
            have he : fop .sub .f32 x1 x2 = lessF (cs.getD k 0) (cs'.getD k 0) := by rw [← hx1'.out, ← hx2'.out]; exact (lessF_no hA'.out hB'.out).symm
            rw [he, hset.out] at hM
            have hM := Lib.hid hM
            clear hput hset he
            go_wp2_with fail
            go_roundw
            case rel => exact ⟨k + 1, by omega, by go_num, by first | exact hM | exact Lib.hid (hM.out.drewN _)⟩
            case measure => simp [intOf]; omega
    · obtain rfl : k = cs.length := by omega
      obtain ⟨_, f0, f1, f2, f3⟩ := hN
      obtain ⟨_, r0, r1, r2, rf⟩ := hpv.out.2.2.1.below hbl
      have hoc := Lib.hid ho
      clear ho
      go_wp2_with fail
      refine bodyPost_ret (v := ?v) ?hr rfl ?post
      case hr => (simp [results, Try.results22, go_sem, f0, f1, f2, r0, r1, r2, rf]; try rfl)
      case post =>
        have h0 := hpv.out.2.2.2.2.2
        have hoo := hoc.out
        rw [← hol, part2_end, hol] at hoo
        refine ⟨_, _, _, rfl, ?_, ?_⟩
        · ((repeat' (first | (refine bel_set ?_ ?_ _) | (refine bel_al ?_ ?_ _) | exact Below.refl _ _ | assumption | (refine below_drewN ?_ _) | (refine Below.drew ?_) | (refine Below.trans ?_ (Below.mono hbl ?_)))) <;> (first | omega | (simp; done) | (simp; omega)))
        · (refine OC.mono (base := ?bb) ?hh ?hl; (case hh => ((repeat' (first | (refine OC.set ?_ _ ?_) | (refine OC.alloc ?_ _) | exact hoo | (refine OC.drewN ?_ _))) <;> (first | omega | (simp; done) | (simp; omega)))); (case hl => (first | omega | (simp; done) | (simp; omega))))
theorem specLessMaps_no (W H : Int) (a : Option Addr) (n c : Nat) (W' H' : Int) (a' : Option Addr) (n' c' : Nat) (w : World) (hnc : n ≤ c) (hcm : c ≤ maxLen) (hnc' : n' ≤ c') (hcm' : c' ≤ maxLen) (hval : pairB W H n W' H' n' = false) :
    Calls Try.prog 22 #[.agg #[.int .i64 W, .int .i64 H, .slice a n c], .agg #[.int .i64 W', .int .i64 H', .slice a' n' c']] w (RPic 35 0 0 [] false w) := by
  have h1 := fun w1 hp hp' => specAlikeM_any W H a n c w.heap.size W' H' a' n' c' (w.heap.size + 1) w1 hp hp' (by omega) (by unfold maxLen at hcm; omega) (by unfold maxLen at hcm'; omega)
  have hval := Lib.hid hval
  go_enter Try.func22, Try.ntmps22
  go_wp2_with fail
  have hP1 := ((Pv.new w W H (.slice a n c) 26).alloc (.cells #[.int .i64 W', .int .i64 H', .slice a' n' c'] 26)).alloc (.cells #[.int .i64 0, .int .i64 0, .slice none 0 0] 26)
  have hP2 := (Pv.new (w.alloc (.cells #[.int .i64 W, .int .i64 H, .slice a n c] 26)) W' H' (.slice a' n' c') 26).alloc (.cells #[.int .i64 0, .int .i64 0, .slice none 0 0] 26)
  simp only [World.size_alloc] at hP2
  refine (h1 _ hP1 hP2).mono ?_
  rintro e w1 ⟨k, rfl, rfl⟩
  rw [hval.out]
  go_wp2_with fail
  refine bodyPost_ret (v := ?v) ?hr rfl ?post
  case hr => (simp [results, Try.results22, go_sem]; try rfl)
  case post => exact ⟨_, _, _, rfl, by ((repeat' (first | (refine bel_set ?_ ?_ _) | (refine bel_al ?_ ?_ _) | exact Below.refl _ _ | assumption | (refine below_drewN ?_ _) | (refine Below.drew ?_))) <;> (first | omega | (simp; done) | (simp; omega))), OC.nil _ _ _⟩
theorem pairLessMaps (W H : Int) (cs : List Nat) (W' H' : Int) (cs' : List Nat) :
    ∃ (W2 H2 : Int) (cs2 : List Nat) (ok : Bool),
      (∀ a n c a' n' c' w, FC w (.slice a n c) cs → FC w (.slice a' n' c') cs' → Calls Try.prog 22 #[.agg #[.int .i64 W, .int .i64 H, .slice a n c], .agg #[.int .i64 W', .int .i64 H', .slice a' n' c']] w (RPic 35 W2 H2 cs2 ok w)) ∧
      (∀ a n c a' n' c' w, FC w (.slice a n c) cs → FC w (.slice a' n' c') cs' → Calls Try.prog 23 #[.agg #[.int .i64 W, .int .i64 H, .slice a n c], .agg #[.int .i64 W', .int .i64 H', .slice a' n' c']] w (RPic 35 W2 H2 cs2 ok w)) ∧ cs2.length ≤ 256 := by
  cases hv : pairB W H cs.length W' H' cs'.length with
  | false =>
    refine ⟨0, 0, [], false, fun a n c a' n' c' w hv hv' => ?_, fun a n c a' n' c' w hv hv' => ?_, by simp⟩
    · obtain ⟨rfl, h1, h2⟩ := hv.sized
      obtain ⟨rfl, h3, h4⟩ := hv'.sized
      exact specLessMaps_no W H a _ c W' H' a' _ c' w h1 h2 h3 h4 (by assumption)
    · obtain ⟨rfl, h1, h2⟩ := hv.sized
      obtain ⟨rfl, h3, h4⟩ := hv'.sized
      exact implLessMaps_no W H a _ c W' H' a' _ c' w h1 h2 h3 h4 (by assumption)
  | true =>
    unfold pairB at hv
    simp only [Bool.and_eq_true, decide_eq_true_eq] at hv
    obtain ⟨hv, hv', rfl, rfl⟩ := hv
    obtain ⟨Wn, Hn, rfl, rfl, b1, b2, b3, b4, b5, hl⟩ := validB_parts hv
    obtain ⟨Wm, Hm, e1, e2, _, _, _, _, _, hl'⟩ := validB_parts hv'
    obtain rfl : Wm = Wn := by omega
    obtain rfl : Hm = Hn := by omega
    exact ⟨_, _, _, _, fun a n c a' n' c' w hv hv' => specLessMaps_any Wm Hm a n c cs a' n' c' cs' w hv hv' b1 b2 b3 b4 b5 hl hl', fun a n c a' n' c' w hv hv' => implLessMaps_any Wm Hm a n c cs a' n' c' cs' w hv hv' b1 b2 b3 b4 b5 hl hl', by rw [seqL_len]; omega⟩
end Go.Proofs.Ythnidpmolafmaaa
