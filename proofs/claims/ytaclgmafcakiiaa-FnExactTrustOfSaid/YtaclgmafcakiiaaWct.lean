import Derived.Test.YtaclgmafcakiiaaWcm
import Derived.Test.YtaclgmafcakiiaaWa
set_option linter.unusedVariables false
set_option linter.unusedSimpArgs false
namespace Go.FX
open Go Go.RowKit
theorem flOne : Fl .f32 1065353216 1065353216 := ⟨by decide, by decide⟩
theorem flZ : Fl .f32 0 0 := ⟨by decide, by decide⟩
def isInf (m : Nat) : Bool := FloatKind.f32.format.order m 2139095040 == some Ordering.eq
def quoT (m l : Nat) : Nat := fop .quo .f32 m (fop .add .f32 m l)
/-- How sure a winner is. -/
def trustB (m l : Nat) : Nat := if isInf m then 1065353216 else if isN .f32 (quoT m l) then 0 else quoT m l
theorem trustB_inf {m l : Nat} (h : isInf m = true) : trustB m l = 1065353216 := if_pos h
theorem trustB_nan {m l : Nat} (h : isInf m = false) (h2 : isN .f32 (quoT m l) = true) : trustB m l = 0 := by unfold trustB; rw [if_neg (by rw [h]; simp), if_pos h2]
theorem trustB_num {m l : Nat} (h : isInf m = false) (h2 : isN .f32 (quoT m l) = false) : trustB m l = quoT m l := by unfold trustB; rw [if_neg (by rw [h]; simp), if_neg (by rw [h2]; simp)]
theorem isInf_fl {r m i : Nat} (hr : Fl .f32 r m) (hi : Fl .f32 i 2139095040) : (FloatKind.f32.format.order r i == some Ordering.eq) = isInf m := by unfold isInf; rw [hr.order hi]
end Go.FX
namespace Go.Proofs.Ytaclgmafcakiiaa
open Go.FX Go.RowKit Go.WideShapes Go.ChangeShapes
attribute [local go_sem ↓] Go.wp_at_zero Go.wp_at_succ

set_option maxHeartbeats 2000000 in
theorem trust_any {r s m l : Nat} (w : World) (hr : Fl .f32 r m) (hs : Fl .f32 s l) : Calls Try.prog 36 #[.float .f32 r, .float .f32 s] w (RF .f32 (trustB m l) w) := by
  cases hI : isInf m with
  | true =>
    have hI' := Lib.hid hI
    clear hI
    go_enter Try.func36, Try.ntmps36
    go_wp2_with fail
    refine (implInf_any _).mono ?_
    rintro e w1 ⟨i, n1, rfl, rfl, hi⟩
    have ht := (isInf_fl hr hi).trans hI'.out
    go_wp2_with fail
    go_ret
    exact ⟨_, _, rfl, by first | rfl | (simp only [World.drewN_drewN]; rfl), by rw [trustB_inf hI'.out]; exact flOne⟩
  | false =>
    have hI' := Lib.hid hI
    clear hI
    cases hN : isN .f32 (quoT m l) with
    | true =>
      have hN' := Lib.hid hN
      clear hN
      go_enter Try.func36, Try.ntmps36
      go_wp2_with fail
      refine (implInf_any _).mono ?_
      rintro e w1 ⟨i, n1, rfl, rfl, hi⟩
      have ht := (isInf_fl hr hi).trans hI'.out
      go_wp2_with fail
      refine (isNaN_any _ _).mono ?_
      rintro e w2 ⟨rfl, rfl⟩
      rw [← isN_cn, (hr.flR (op := .quo) (hr.flR (op := .add) hs _) _).eq, show fop .quo .f32 m (fop .add .f32 m l) = quoT m l from rfl, hN'.out]
      go_wp2_with fail
      go_ret
      exact ⟨_, _, rfl, by first | rfl | (simp only [World.drewN_drewN]; rfl), by rw [trustB_nan hI'.out hN'.out]; exact flZ⟩
    | false =>
      have hN' := Lib.hid hN
      clear hN
      go_enter Try.func36, Try.ntmps36
      go_wp2_with fail
      refine (implInf_any _).mono ?_
      rintro e w1 ⟨i, n1, rfl, rfl, hi⟩
      have ht := (isInf_fl hr hi).trans hI'.out
      go_wp2_with fail
      refine (isNaN_any _ _).mono ?_
      rintro e w2 ⟨rfl, rfl⟩
      rw [← isN_cn, (hr.flR (op := .quo) (hr.flR (op := .add) hs _) _).eq, show fop .quo .f32 m (fop .add .f32 m l) = quoT m l from rfl, hN'.out]
      go_wp2_with fail
      go_ret
      exact ⟨_, _, rfl, by first | rfl | (simp only [World.drewN_drewN]; rfl), by rw [trustB_num hI'.out hN'.out]; exact hr.flR (hr.flR hs _) _⟩
theorem RF.rfbT {P : Program} {g : Nat} {args : Array Value} {c : Nat} {w : World} (h : Calls P g args w (RF .f32 c w)) : Calls P g args w (RFb .f32 c w) :=
  h.mono fun e w' ⟨r, n, h1, h2, h3⟩ => ⟨r, h1, by rw [h2]; exact below_drewN (Below.refl _ _) _, h3⟩
set_option maxRecDepth 100000 in
set_option maxHeartbeats 4000000 in
theorem trust_fn (W H : Nat) (a : Option Addr) (n c : Nat) (cs : List Nat) (a' : Option Addr) (n' c' : Nat) (cs' : List Nat) (bp bq : Nat) (w : World) (hv : FC w (.slice a n c) cs) (hp : Pv w bp W H (.slice a n c)) (hv' : FC w (.slice a' n' c') cs') (hp' : Pv w bq W H (.slice a' n' c')) (b1 : 1 ≤ W) (b2 : W ≤ 24) (b3 : 1 ≤ H) (b4 : H ≤ 24) (hl : cs.length = H * W) (hl' : cs'.length = H * W) :
    GreyFn Try.prog 35 #[] #[.pointer (some ⟨bp, 0, none⟩), .pointer (some ⟨bq, 0, none⟩)] W H (fun x y => trustB (atC W H cs x y) (atC W H cs' x y)) w := fun w1 x y hb hx hy => by
  have hat := fun w2 (h : Below w1.heap.size w1 w2) => mapAt_any W H (.slice a n c) cs x y w2 ((hv.below hb).below h) b1 b2 b4 hl hx hy
  have hat' := fun w2 (h : Below w1.heap.size w1 w2) => mapAt_any W H (.slice a' n' c') cs' x y w2 ((hv'.below hb).below h) b1 b2 b4 hl' hx hy
  have hP := hp.below hb
  have hQ := hp'.below hb
  obtain ⟨g1, e1⟩ : ∃ g, g = atC W H cs x y := ⟨_, rfl⟩
  obtain ⟨g2, e2⟩ : ∃ g, g = atC W H cs' x y := ⟨_, rfl⟩
  rw [← e1] at hat
  rw [← e2] at hat'
  have hE : Hid (trustB (atC W H cs x y) (atC W H cs' x y) = trustB g1 g2) := Lib.hid (by rw [e1, e2])
  clear hv hp hv' hp' hl hl' hb e1 e2
  obtain ⟨l0, p0, p1, p2⟩ := id hP
  obtain ⟨l1, q0, q1, q2⟩ := id hQ
  show Calls Try.prog 35 #[.int .i64 x, .int .i64 y, .pointer (some ⟨bp, 0, none⟩), .pointer (some ⟨bq, 0, none⟩)] w1 _
  go_enter Try.func35, Try.ntmps35
  go_upto_region 1 with fail
  refine wp_region_cls (by kernel_rfl) (by kernel_rfl) (by kernel_rfl) (by kernel_rfl) (fun w' => Below w1.heap.size w1 w') (below_drewN (Below.refl _ _) 1) [Eq1 ?q2938u0, Eq1 ?q2938u1, Eq1 ?q2938u2, FloatIs .f32 (g1), Eq1 ?q2938u4, Eq1 ?q2938u5, Eq1 ?q2938u6, FloatIs .f32 (g2), FloatIs .f32 (trustB g1 g2), FloatIs .f32 (trustB g1 g2)] ?q2938main
  case q2938main =>
    (refine wpR_pure ?_ (fun w hw => ?_) ?_; rfl; (obtain ⟨hwc, hwf⟩ := bcell2 hw; go_simp; (try with_reducible rfl)); (try simp only [Act.put, List.setIfInBounds_toArray, List.set_cons_zero, List.set_cons_succ]))
    (refine wpR_pure ?_ (fun w hw => ?_) ?_; rfl; (obtain ⟨hwc, hwf⟩ := bcell2 hw; go_simp; (try with_reducible rfl)); (try simp only [Act.put, List.setIfInBounds_toArray, List.set_cons_zero, List.set_cons_succ]))
    (refine wpR_pure ?_ (fun w hw => ?_) ?_; rfl; (obtain ⟨hwc, hwf⟩ := bcell2 hw; go_simp; (try with_reducible rfl)); (try simp only [Act.put, List.setIfInBounds_toArray, List.set_cons_zero, List.set_cons_succ]))
    (refine wpR_cls ?_ (fun w hw => ?_) ?_; rfl; (go_simp; refine (hat _ hw).mono ?_; rintro _ _ ⟨_, rfl, hcb, hcr⟩; exact ⟨_, rfl, ⟨_, rfl, hcr⟩, Below.trans hw (hcb.mono hw.size)⟩); (rintro _ ⟨_, rfl, _⟩; (try simp only [Act.put, List.setIfInBounds_toArray, List.set_cons_zero, List.set_cons_succ])))
    (refine wpR_pure ?_ (fun w hw => ?_) ?_; rfl; (obtain ⟨hwc, hwf⟩ := bcell2 hw; go_simp; (try with_reducible rfl)); (try simp only [Act.put, List.setIfInBounds_toArray, List.set_cons_zero, List.set_cons_succ]))
    (refine wpR_pure ?_ (fun w hw => ?_) ?_; rfl; (obtain ⟨hwc, hwf⟩ := bcell2 hw; go_simp; (try with_reducible rfl)); (try simp only [Act.put, List.setIfInBounds_toArray, List.set_cons_zero, List.set_cons_succ]))
    (refine wpR_pure ?_ (fun w hw => ?_) ?_; rfl; (obtain ⟨hwc, hwf⟩ := bcell2 hw; go_simp; (try with_reducible rfl)); (try simp only [Act.put, List.setIfInBounds_toArray, List.set_cons_zero, List.set_cons_succ]))
    (refine wpR_cls ?_ (fun w hw => ?_) ?_; rfl; (go_simp; refine (hat' _ hw).mono ?_; rintro _ _ ⟨_, rfl, hcb, hcr⟩; exact ⟨_, rfl, ⟨_, rfl, hcr⟩, Below.trans hw (hcb.mono hw.size)⟩); (rintro _ ⟨_, rfl, _⟩; (try simp only [Act.put, List.setIfInBounds_toArray, List.set_cons_zero, List.set_cons_succ])))
    (refine wpR_cls ?_ (fun w hw => ?_) ?_; rfl; (go_simp; refine (RF.rfbT (trust_any _ (by assumption) (by assumption))).mono ?_; rintro _ _ ⟨_, rfl, hcb, hcr⟩; exact ⟨_, rfl, ⟨_, rfl, hcr⟩, Below.trans hw (hcb.mono hw.size)⟩); (rintro _ ⟨_, rfl, _⟩; (try simp only [Act.put, List.setIfInBounds_toArray, List.set_cons_zero, List.set_cons_succ])))
    (refine wpR_cls ?_ (fun w hw => ?_) ?_; rfl; (go_simp; first | exact ⟨_, rfl, by assumption⟩ | exact ⟨hw, _, rfl, by assumption⟩); (rintro _ ⟨_, rfl, _⟩; (try simp only [Act.put, List.setIfInBounds_toArray, List.set_cons_zero, List.set_cons_succ])))
    refine wpR_nil ?_
    intro w' hw'
    go_wp2_with fail
    go_ret
    exact ⟨_, rfl, hw', by show Fl _ _ (trustB (atC W H cs x y) (atC W H cs' x y)); rw [hE.out]; assumption⟩
def trustI (D : Nat) (cs : List Nat) (i : Nat) : Nat := trustB (marginV (rowC D cs i)) (leastV (rowC D cs i))
theorem trust_cells (W H D : Nat) (cs : List Nat) (b1 : 1 ≤ W) :
    gridL W (fun x y => trustB (atC W H (seqL (fun i => marginV (rowC D cs i)) (H * W)) x y) (atC W H (seqL (fun i => leastV (rowC D cs i)) (H * W)) x y)) (H * W) = seqL (trustI D cs) (H * W) := by
  rw [gridL_seq]
  exact seqL_congr fun i hi => by rw [atC_lin _ b1 hi, atC_lin _ b1 hi, seqL_get _ _ _ hi, seqL_get _ _ _ hi]; rfl
theorem implMargins_val (W H D : Nat) (a : Option Addr) (n c : Nat) (cs : List Nat) (w : World) (hv : FC w (.slice a n c) cs) (b1 : 1 ≤ W) (b2 : W ≤ 24) (b3 : 1 ≤ H) (b4 : H ≤ 24) (b5 : H * W ≤ 256) (d1 : 1 ≤ D) (d2 : D ≤ 8) (hl : cs.length = H * W * D) :
    Calls Try.prog 32 #[.agg #[.int .i64 W, .int .i64 H, .int .i64 D, .slice a n c]] w (RPic 37 W H (seqL (fun i => marginV (rowC D cs i)) (H * W)) true w) := by
  rw [← tell_cells W H D cs marginV b1]
  exact implMarginsOf_of _ _ _ _ _ _ _ _ _ _ w fun w1 hb => tellWinners_any W H D a n c cs _ _ _ marginV w1 (hv.below hb) b1 b2 b3 b4 b5 d1 d2 hl (enters_of Try.func55 (by kernel_rfl) rfl) (marginFn_any _ d2 _)
theorem implLeast_val (W H D : Nat) (a : Option Addr) (n c : Nat) (cs : List Nat) (w : World) (hv : FC w (.slice a n c) cs) (b1 : 1 ≤ W) (b2 : W ≤ 24) (b3 : 1 ≤ H) (b4 : H ≤ 24) (b5 : H * W ≤ 256) (d1 : 1 ≤ D) (d2 : D ≤ 8) (hl : cs.length = H * W * D) :
    Calls Try.prog 33 #[.agg #[.int .i64 W, .int .i64 H, .int .i64 D, .slice a n c]] w (RPic 37 W H (seqL (fun i => leastV (rowC D cs i)) (H * W)) true w) := by
  rw [← tell_cells W H D cs leastV b1]
  exact implLeastCosts_of _ _ _ _ _ _ _ _ _ _ w fun w1 hb => tellWinners_any W H D a n c cs _ _ _ leastV w1 (hv.below hb) b1 b2 b3 b4 b5 d1 d2 hl (enters_of Try.func59 (by kernel_rfl) rfl) (leastFn_any _ _)
set_option maxRecDepth 100000 in
set_option maxHeartbeats 4000000 in
theorem implTrustOf_any (W H D : Nat) (a : Option Addr) (n c : Nat) (cs : List Nat) (w : World) (hv : FC w (.slice a n c) cs) (b1 : 1 ≤ W) (b2 : W ≤ 24) (b3 : 1 ≤ H) (b4 : H ≤ 24) (b5 : H * W ≤ 256) (d1 : 1 ≤ D) (d2 : D ≤ 8) (hl : cs.length = H * W * D) :
    Calls Try.prog 16 #[.agg #[.int .i64 W, .int .i64 H, .int .i64 D, .slice a n c]] w (RPic 37 W H (seqL (trustI D cs) (H * W)) true w) := by
  have hM := fun w1 (hb : Below w.heap.size w w1) => implMargins_val W H D a n c cs w1 (hv.below hb) b1 b2 b3 b4 b5 d1 d2 hl
  have hLc := fun w1 (hb : Below w.heap.size w w1) => implLeast_val W H D a n c cs w1 (hv.below hb) b1 b2 b3 b4 b5 d1 d2 hl
  rw [← trust_cells W H D cs b1]
  obtain ⟨ms, hms⟩ : ∃ m, m = seqL (fun i => marginV (rowC D cs i)) (H * W) := ⟨_, rfl⟩
  obtain ⟨ls, hls⟩ : ∃ m, m = seqL (fun i => leastV (rowC D cs i)) (H * W) := ⟨_, rfl⟩
  have hml : ms.length = H * W := by rw [hms, seqL_len]
  have hll : ls.length = H * W := by rw [hls, seqL_len]
  rw [← hms] at hM ⊢
  rw [← hls] at hLc ⊢
  clear hms hls hl
  obtain ⟨rfl, hnc, hcm⟩ := hv.sized
  clear hv
  obtain ⟨w0, hw0⟩ : ∃ u, u = (w.alloc (.cells #[.int .i64 W, .int .i64 H, .int .i64 D, .slice a cs.length c] 30)).alloc (.cells #[.int .i64 0, .int .i64 0, .slice none 0 0] 27) := ⟨_, rfl⟩
  have PV : Pw w0 w.heap.size W H D (.slice a cs.length c) := by rw [hw0]; exact (Pw.new _ _ _ _ _ _).alloc _
  have PN : Nv w0 (w.heap.size + 1) (.int .i64 0) (.int .i64 0) (.slice none 0 0) := by
    have h := Nv.new (w.alloc (.cells #[.int .i64 W, .int .i64 H, .int .i64 D, .slice a cs.length c] 30)) (.int .i64 0) (.int .i64 0) (.slice none 0 0) 27
    rw [hw0]; simpa only [World.size_alloc] using h
  have hb0 : Below w.heap.size w w0 := by rw [hw0]; exact below2 _ _ _
  have hPV := Lib.hid PV
  have hPN := Lib.hid PN
  have l0 := PN.1
  clear PV PN
  go_enter Try.func16, Try.ntmps16
  go_wp2_with fail
  rw [← hw0]
  clear hw0
  refine (hM _ hb0).mono ?_
  rintro e w1 ⟨a1, n1, c1, rfl, hb1, ho1⟩
  obtain ⟨X, hX⟩ : ∃ X, X = w1.alloc (.cells #[.int .i64 W, .int .i64 H, .slice a1 n1 c1] 27) := ⟨_, rfl⟩
  have hP1 : Pv X w1.heap.size W H (.slice a1 n1 c1) := by rw [hX]; exact Pv.new _ _ _ _ _
  have ho1X : FC X (.slice a1 n1 c1) ms := by rw [hX]; exact (ho1.alloc _).fc
  have hbX : Below w0.heap.size w0 X := by rw [hX]; exact hb1.alloc hb1.size _
  obtain ⟨_, p0, p1, p2, p3⟩ := hPV.out.below hbX
  have lX := hP1.1
  have s1 := hb1.size
  clear ho1 hb1
  go_upto_region 4 with fail
  rw [← hX]
  clear hX
  go_wp2_with fail
  refine (hLc _ (hb0.trans (hbX.mono hb0.size))).mono ?_
  rintro e w2 ⟨a2, n2, c2, rfl, hb2, ho2⟩
  obtain ⟨Y, hY⟩ : ∃ Y, Y = w2.alloc (.cells #[.int .i64 W, .int .i64 H, .slice a2 n2 c2] 27) := ⟨_, rfl⟩
  have hP2 : Pv Y w2.heap.size W H (.slice a2 n2 c2) := by rw [hY]; exact Pv.new _ _ _ _ _
  have ho2Y : FC Y (.slice a2 n2 c2) ls := by rw [hY]; exact (ho2.alloc _).fc
  have hbY : Below X.heap.size X Y := by rw [hY]; exact hb2.alloc hb2.size _
  have hP1Y := hP1.below hbY
  have hb0Y := hbX.trans (hbY.mono hbX.size)
  obtain ⟨_, q0, q1, q2⟩ := id hP1Y
  have hfn := trust_fn W H a1 n1 c1 ms a2 n2 c2 ls w1.heap.size w2.heap.size Y (ho1X.below hbY) hP1Y ho2Y hP2 b1 b2 b3 b4 hml hll
  obtain ⟨en1, hn1, hc1⟩ := ho1X.sized
  have hrd := redraw_of W H a1 n1 c1 _ _ _ _ _ _ _ Y fun w3 hb3 => redrawAs_of _ _ _ _ _ _ _ _ _ _ _ _ _ _ w3 fun w4 hb4 => drawFrom_any W H a1 n1 c1 (by rw [en1]; exact validB_mk b1 b2 b3 b4 b5 hml) hn1 hc1 W H b1 b2 b3 b4 b5 _ _ _ _ w4 (enters_of Try.func35 (by kernel_rfl) rfl) (hfn.later (hb3.trans (hb4.mono hb3.size)))
  clear en1 hn1 hc1 hfn ho2 hb2 ho1X ho2Y p0 p1 p2 p3
  go_upto_region 5 with fail
  rw [← hY]
  clear hY
  go_wp2_with fail
  refine hrd.mono ?_
  rintro e w3 ⟨a3, n3, c3, rfl, hb3, ho3⟩
  have hb03 := hb0Y.trans (hb3.mono hb0Y.size)
  obtain ⟨l4, r0, r1, r2, rf⟩ := hPN.out.below hb03
  have s3 := hb03.size
  have sY := hb0Y.size
  go_wp2_with fail
  refine bodyPost_ret (v := ?v) ?hr rfl ?post
  case hr => (simp [results, Try.results16, go_sem, r0, r1, r2, rf]; try rfl)
  case post =>
    refine ⟨_, _, _, rfl, ?_, ?_⟩
    · have hbb := hb0.trans (hb03.mono hb0.size); ((repeat' (first | (refine bel_set ?_ ?_ _) | (refine bel_al ?_ ?_ _) | exact Below.refl _ _ | assumption | (refine below_drewN ?_ _) | (refine Below.drew ?_) | (refine Below.trans ?_ (Below.mono hbb ?_)))) <;> (first | omega | (simp; done) | (simp; omega)))
    · (refine OC.mono (base := ?bb) ?hh ?hl; (case hh => ((repeat' (first | (refine OC.set ?_ _ ?_) | (refine OC.alloc ?_ _) | exact ho3 | (refine OC.drewN ?_ _))) <;> (first | omega | (simp; done) | (simp; omega)))); (case hl => (first | omega | (simp; done) | (simp; omega))))
theorem implTrustOf_no (W H D : Int) (a : Option Addr) (n c : Nat) (w : World) (hnc : n ≤ c) (hcm : c ≤ maxLen) (hval : volB W H D n = false) :
    Calls Try.prog 16 #[.agg #[.int .i64 W, .int .i64 H, .int .i64 D, .slice a n c]] w (RPic 37 0 0 [] false w) := by
  have hM := fun w1 => implMarginsOf_of W H D a n c _ _ _ _ w1 fun w2 _ => tellWinners_no W H D a n c _ _ _ w2 hnc hcm hval
  clear hval
  go_enter Try.func16, Try.ntmps16
  go_wp2_with fail
  refine (hM _).mono ?_
  rintro e w1 ⟨a1, n1, c1, rfl, hb1, ho1⟩
  have hn := (Nv.new _ _ _ _ _).below hb1
  have s1 := hb1.size
  simp only [World.size_alloc] at hn s1
  obtain ⟨X, hX⟩ : ∃ X, X = w1.alloc (.cells #[.int .i64 0, .int .i64 0, .slice a1 n1 c1] 27) := ⟨_, rfl⟩
  have hnX : Nv X (w.heap.size + 1) (.int .i64 0) (.int .i64 0) (.slice none 0 0) := by rw [hX]; exact hn.alloc _
  have hbX : Below w.heap.size w X := by
    rw [hX]; exact ((below2 _ _ _).trans (hb1.mono (by simp; omega))).alloc (by omega) _
  obtain ⟨l1, q0, q1, q2, qf⟩ := id hnX
  go_upto_region 2 with fail
  rw [← hX]
  clear hX
  go_wp2_with fail
  refine bodyPost_ret (v := ?v) ?hr rfl ?post
  case hr => (simp [results, Try.results16, go_sem, q0, q1, q2, qf]; try rfl)
  case post => exact ⟨_, _, _, rfl, by ((repeat' (first | (refine bel_set ?_ ?_ _) | (refine bel_al ?_ ?_ _) | exact Below.refl _ _ | assumption | (refine below_drewN ?_ _) | (refine Below.drew ?_) | (refine Below.trans ?_ (Below.mono hbX ?_)))) <;> (first | omega | (simp; done) | (simp; omega))), OC.nil _ _ _⟩
set_option maxRecDepth 100000 in
set_option maxHeartbeats 8000000 in
theorem specTrustOf_any (W H D : Nat) (a : Option Addr) (n c : Nat) (cs : List Nat) (w : World) (hv : FC w (.slice a n c) cs) (b1 : 1 ≤ W) (b2 : W ≤ 24) (b3 : 1 ≤ H) (b4 : H ≤ 24) (b5 : H * W ≤ 256) (d1 : 1 ≤ D) (d2 : D ≤ 8) (hl : cs.length = H * W * D) :
    Calls Try.prog 15 #[.agg #[.int .i64 W, .int .i64 H, .int .i64 D, .slice a n c]] w (RPic 37 W H (seqL (trustI D cs) (H * W)) true w) := by
  obtain ⟨rfl, hnc, hcm⟩ := hv.sized
  have hval := Lib.hid (volB_mk b1 b2 b3 b4 b5 d1 d2 hl)
  have h1 := fun w1 hp => specVIs_any W H D a cs.length c w.heap.size w1 hp (by unfold maxLen at hcm; omega)
  have h3 := fun w1 => specMFlat_any W H 1065353216 1065353216 flOne w1 b1 b2 b3 b4 b5
  have hsw := fun w1 k hp hv hk => specMargin_any W H D a cs.length c w.heap.size cs k w1 hp hv hk b5 d1 d2 hl
  have hww := fun w1 k hp hv hk => specWinner_any W H D a cs.length c w.heap.size cs k (-1) w1 hp hv hk b5 d1 d2 hl
  simp only [notD_none2] at hww
  have h0 : 0 < H * W := Nat.mul_pos b3 b1
  obtain ⟨N, hN⟩ : ∃ N, N = H * W := ⟨_, rfl⟩
  rw [← hN] at h3 hsw hww h0 b5 hl ⊢
  obtain ⟨os, hos⟩ : ∃ os, os = seqL (fun _ => 1065353216) N := ⟨_, rfl⟩
  have hol : os.length = N := by rw [hos, seqL_len]
  have hog : ∀ k, k < N → os.getD k 0 = 1065353216 := fun k hk => by rw [hos, seqL_get _ _ _ hk]
  rw [← hos] at h3
  have hog' := Lib.hid hog
  have hl' := Lib.hid hl
  clear hos hl hN hog
  go_enter Try.func15, Try.ntmps15
  go_wp2_with fail
  have hP1 := (Pw.new w W H D (.slice a cs.length c) 30).alloc (.cells #[.int .i64 0, .int .i64 0, .slice none 0 0] 27)
  have hN1 := Nv.new (w.alloc (.cells #[.int .i64 W, .int .i64 H, .int .i64 D, .slice a cs.length c] 30)) (.int .i64 0) (.int .i64 0) (.slice none 0 0) 27
  simp only [World.size_alloc] at hN1
  refine (h1 _ hP1).mono ?_
  rintro e w1 ⟨k0, rfl, rfl⟩
  rw [hval.out]
  obtain ⟨w0, hw0⟩ : ∃ w0, w0 = ((w.alloc (.cells #[.int .i64 W, .int .i64 H, .int .i64 D, .slice a cs.length c] 30)).alloc (.cells #[.int .i64 0, .int .i64 0, .slice none 0 0] 27)).drewN k0 := ⟨_, rfl⟩
  rw [← hw0]
  have hp0 : Pw w0 w.heap.size W H D (.slice a cs.length c) := by rw [hw0]; exact hP1.drewN k0
  have hn0 : Nv w0 (w.heap.size + 1) (.int .i64 0) (.int .i64 0) (.slice none 0 0) := by rw [hw0]; exact hN1.drewN k0
  have hb0 : Below w.heap.size w w0 := by rw [hw0]; exact below_drewN (below2 _ _ _) _
  have hlt0 : w.heap.size + 1 < w0.heap.size := hn0.1
  clear hw0 hP1 hN1
  obtain ⟨hp1, p0, p1, p2, p3⟩ := id hp0
  have hpv := Lib.hid (And.intro hp0 (And.intro (hv.below hb0) (And.intro hn0 hb0)))
  clear hp0 hn0 hb0 hv h1
  go_wp2_with fail
  refine (h3 _).mono ?_
  rintro e w1 ⟨a1, n1, c1, rfl, hb1, ho1⟩
  obtain ⟨bo, hbo0⟩ : ∃ b, b = w1.heap.size := ⟨_, rfl⟩
  have hmk := Lib.hid (Mk.start1 (W := (W : Int)) (H := (H : Int)) (T := 27) hb1 ho1)
  rw [← hbo0] at hmk
  have hln := ho1.fc.sized.1.trans hol
  clear hb1 ho1 h3
  subst hln
  go_wp2_with fail
  rw [← hbo0]
  clear hbo0 p0 p1 p2 p3
  go_loopw [21] (fun i wr => ∃ k : Nat, k ≤ n1 ∧ i = .int .i64 k ∧ Hid (Mk 37 w0 bo W H (part2 (trustI D cs) os k) wr)) (fun i _ => n1 - (intOf i).toNat)
  case atStart => exact ⟨0, Nat.zero_le _, rfl, by rw [part2_zero]; exact hmk⟩
  case round =>
    clear hmk
    obtain ⟨k, hk, rfl, hmk⟩ := hrel
    obtain ⟨a2, n2, c2, hN, ho, hne, hbo, hbl⟩ := hmk.out
    by_cases hlk : k < n1
    · obtain ⟨lv, e0, e1, e2, e3⟩ := hpv.out.1.below hbl
      have hlen := part2_len (trustI D cs) os k (by omega)
      obtain ⟨g, cap, eg, hn2, rr⟩ := OC.own_form ho (by rw [hlen]; omega)
      obtain ⟨rfl, _, rfl⟩ := Value.slice.inj eg
      clear eg
      rw [hlen, hol] at hn2
      subst hn2
      obtain ⟨zold, holdF, hold⟩ := ho.row_at (k := k) (by rw [hlen]; omega)
      obtain ⟨_, j0, j1, j2, jf⟩ := id hN
      have hset := Lib.hid (part2_set (trustI D cs) os k (by omega))
      have hkeep := Lib.hid (part2_keep (trustI D cs) os k (by omega))
      have hput := Lib.hid (fun (r c : Nat) (hr : Fl .f32 r c) => Mk.put hN ho hne hbo hbl (k := k) (by rw [hlen]; omega) hr)
      have hfz : wr.frozen? ⟨g, k, none⟩ = false := rr _
      have hcall := hsw wr k (hpv.out.1.below hbl) (hpv.out.2.1.below hbl) hlk
      have hcallw := fun m => hww (wr.drewN m) k ((hpv.out.1.below hbl).drewN m) ((hpv.out.2.1.below hbl).drewN m) hlk
      have hwl := winI_lt (rowC D cs k) (fun _ => true)
      rw [rowC_len] at hwl
      have hok := Lib.hid (hog'.out k hlk)
      have hF : Hid (trustI D cs k = trustB (marginV (rowC D cs k)) (leastV (rowC D cs k))) := Lib.hid rfl
      have hol' := Lib.hid hol
      have g5 : (0 : Int) ≤ (k : Int) := Int.natCast_nonneg _
      have g6 : (k : Int) < (n2 : Int) := by omega
      cases hI : isInf (marginV (rowC D cs k)) with
      | true =>
        have hV := Lib.hid (trustB_inf (l := leastV (rowC D cs k)) hI)
        have hI' := Lib.hid hI
        generalize marginV (rowC D cs k) = M at hcall hV hI' hF
        clear hN ho hne hbl holdF hlen rr hol hwl hI e0 e1 e2 e3 hcallw
        go_wp2_with fail
        refine hcall.mono ?_
        rintro e w2 ⟨r, m, rfl, rfl, hr⟩
        go_wp2_with fail
        refine (specInf_any _).mono ?_
        rintro e w2 ⟨r2, m2, rfl, rfl, hr2⟩
        have ht := (isInf_fl hr hr2).trans hI'.out
        go_wp2_with fail
        go_roundw
        case rel => exact ⟨k + 1, by omega, by go_num, by rw [← hkeep.out (by rw [hok.out, hF.out]; exact hV.out)]; first | exact Lib.hid (hmk.out.drewN _) | exact Lib.hid ((hmk.out.drewN _).drewN _)⟩
        case measure => simp [intOf]; omega
      | false =>
        -- the margin is a difference: there is a winner
        have hpos : ¬ winI (rowC D cs k) (fun _ => true) < 0 := fun hlt0' => by
          have hs : second (rowC D cs k) < 0 := Int.not_le.1 fun h => by
            have := second_first (row := rowC D cs k) (Int.not_lt.2 h)
            omega
          rw [marginV_neg hs] at hI
          exact absurd hI (by decide)
        obtain ⟨d, hd⟩ := Int.eq_ofNat_of_zero_le (a := winI (rowC D cs k) fun _ => true) (by omega)
        have hLv := leastV_pos hd
        have hd2 : d < D := by have := hwl.2; omega
        rw [hd] at hcallw
        rw [rowC_get _ _ hd2] at hLv
        have hlt : k * D + d < cs.length := by
          have h1 : k * D + D ≤ n2 * D := by rw [← Nat.succ_mul]; exact Nat.mul_le_mul_right _ hlk
          rw [hl'.out]; omega
        obtain ⟨bb, off, cc, z, ev, _, _, hbz, hzf, hzc⟩ := (hpv.out.2.1.below hbl).cell hlt
        simp only [Value.slice.injEq, true_and] at ev
        obtain ⟨rfl, rfl⟩ := ev
        rw [← hLv] at hzf
        have hI' := Lib.hid hI
        generalize marginV (rowC D cs k) = M at hcall hI' hF
        generalize leastV (rowC D cs k) = LC at hzf hF
        have hzf' := Lib.hid hzf
        have hkD : (k : Int) * (D : Int) = ((k * D : Nat) : Int) := by rw [Int.natCast_mul]
        have hkD2 : k * D ≤ 256 * 8 := Nat.mul_le_mul (by omega) d2
        clear hN ho hne hbl holdF hlen rr hol hwl hI hpos hd hLv hzf hkeep hok
        generalize hq : k * D = kd at hkD hkD2 hlt hzc
        have g0 : IntKind.i64.wrap (kd : Int) = (kd : Int) := IntWalk.i64_in _ (by omega)
        have g1 : IntKind.i64.wrap ((kd : Int) + (d : Int)) = (kd : Int) + (d : Int) := IntWalk.i64_in _ (by omega)
        have g2 : (0 : Int) ≤ (kd : Int) + (d : Int) := by omega
        have g3 : (kd : Int) + (d : Int) < (cs.length : Int) := by omega
        have g4 : ((kd : Int) + (d : Int)).toNat = kd + d := by omega
        have hq := Lib.hid hq
        go_wp2_with fail
        refine hcall.mono ?_
        rintro e w2 ⟨r, m, rfl, rfl, hr⟩
        go_wp2_with fail
        refine (specInf_any _).mono ?_
        rintro e w2 ⟨r2, m2, rfl, rfl, hr2⟩
        have ht := (isInf_fl hr hr2).trans hI'.out
        go_wp2_with fail
        refine (hcallw _).mono ?_
        rintro e w2 ⟨m3, rfl, rfl⟩
        go_wp2_with fail
        refine (specInf_any _).mono ?_
        rintro e w2 ⟨r3, m4, rfl, rfl, hr3⟩
        have hQ : Hid (∀ w1 w2, Fl .f32 (flR .quo .f32 r (flR .add .f32 r z w1) w2) (quoT M LC)) := Lib.hid fun w1 w2 => hr.flR (hr.flR hzf'.out w1) w2
        clear hr hr2 hr3 hcall hcallw
        go_upto_region 14 with fail
        have hq1 := hQ.out (wr.drewN (m + m2 + m3 + m4)) (wr.drewN (m + m2 + m3 + m4 + flN .add .f32 r z))
        generalize flR .quo .f32 r (flR .add .f32 r z (wr.drewN (m + m2 + m3 + m4))) (wr.drewN (m + m2 + m3 + m4 + flN .add .f32 r z)) = q at hq1 ⊢
        generalize hKK : m + m2 + m3 + m4 + flN .add .f32 r z + flN .quo .f32 r (flR .add .f32 r z (wr.drewN (m + m2 + m3 + m4))) = KK
        clear hKK
        obtain ⟨V, hVw⟩ : ∃ V, V = wr.drewN KK := ⟨_, rfl⟩
        rw [← hVw]
        have v4 : V.cell? ⟨bo, 2, none⟩ = some (.slice (some ⟨g, 0, none⟩) n2 c2) := by rw [hVw]; exact j2
        have v6 : V.cell? ⟨g, k, none⟩ = some (.float .f32 zold) := by rw [hVw]; exact hold
        have v7 : V.frozen? ⟨g, k, none⟩ = false := by rw [hVw]; exact hfz
        cases hN : isN .f32 (quoT M LC) with
        | true =>
          have hn : isN .f32 q = true := by rw [← isN_cn, hq1.eq]; exact hN
          have h5 : (FloatKind.f32.format.order q q == some Ordering.eq) = false := by rw [order_nan_left hn]; rfl
          have hT : Fl .f32 0 (trustI D cs k) := by rw [hF.out, trustB_nan hI'.out hN]; exact flZ
          have hM := hput.out _ _ hT
          rw [hset.out] at hM
          have hM := Lib.hid (hM.drewN KK)
          have hVw' := Lib.hid hVw
          clear hput hset hQ hq1 hN hVw hT hF hI'
          go_wp2_with fail
          go_roundw
          case rel => exact ⟨k + 1, by omega, by go_num, Lib.hid (by rw [hVw'.out]; exact hM.out)⟩
          case measure => simp [intOf]; omega
        | false =>
          have hn : isN .f32 q = false := by rw [← isN_cn, hq1.eq]; exact hN
          have h5 : (FloatKind.f32.format.order q q == some Ordering.eq) = true := by rw [eq_key hn hn]; exact decide_eq_true rfl
          have hT : Fl .f32 q (trustI D cs k) := by rw [hF.out, trustB_num hI'.out hN]; exact hq1
          have hM := hput.out _ _ hT
          rw [hset.out] at hM
          have hM := Lib.hid (hM.drewN KK)
          have hVw' := Lib.hid hVw
          clear hput hset hQ hq1 hN hVw hT hF hI'
          go_wp2_with fail
          go_roundw
          case rel => exact ⟨k + 1, by omega, by go_num, Lib.hid (by rw [hVw'.out]; exact hM.out)⟩
          case measure => simp [intOf]; omega
    · obtain rfl : k = n1 := by omega
      obtain ⟨_, f0, f1, f2, f3⟩ := hN
      obtain ⟨_, r0, r1, r2, rf⟩ := hpv.out.2.2.1.below hbl
      have hoc := Lib.hid ho
      clear ho
      go_wp2_with fail
      refine bodyPost_ret (v := ?v) ?hr rfl ?post
      case hr => (simp [results, Try.results15, go_sem, f0, f1, f2, r0, r1, r2, rf]; try rfl)
      case post =>
        have h0 := hpv.out.2.2.2
        have hoo := hoc.out
        rw [← hol, part2_end, hol] at hoo
        refine ⟨_, _, _, rfl, ?_, ?_⟩
        · ((repeat' (first | (refine bel_set ?_ ?_ _) | (refine bel_al ?_ ?_ _) | exact Below.refl _ _ | assumption | (refine below_drewN ?_ _) | (refine Below.drew ?_) | (refine Below.trans ?_ (Below.mono hbl ?_)))) <;> (first | omega | (simp; done) | (simp; omega)))
        · (refine OC.mono (base := ?bb) ?hh ?hl; (case hh => ((repeat' (first | (refine OC.set ?_ _ ?_) | (refine OC.alloc ?_ _) | exact hoo | (refine OC.drewN ?_ _))) <;> (first | omega | (simp; done) | (simp; omega)))); (case hl => (first | omega | (simp; done) | (simp; omega))))
theorem specTrustOf_no (W H D : Int) (a : Option Addr) (n c : Nat) (w : World) (hcm : c ≤ maxLen) (hnc : n ≤ c) (hv : volB W H D n = false) :
    Calls Try.prog 15 #[.agg #[.int .i64 W, .int .i64 H, .int .i64 D, .slice a n c]] w (RPic 37 0 0 [] false w) := by
  have h1 := fun w1 hp => specVIs_any W H D a n c w.heap.size w1 hp (by unfold maxLen at hcm; omega)
  have hv := Lib.hid hv
  go_enter Try.func15, Try.ntmps15
  go_wp2_with fail
  refine (h1 _ ((Pw.new _ _ _ _ _ _).alloc _)).mono ?_
  rintro e w1 ⟨k, rfl, rfl⟩
  rw [hv.out]
  go_wp2_with fail
  refine bodyPost_ret (v := ?v) ?hr rfl ?post
  case hr => (simp [results, Try.results15, go_sem]; try rfl)
  case post => exact ⟨_, _, _, rfl, by ((repeat' (first | (refine bel_set ?_ ?_ _) | (refine bel_al ?_ ?_ _) | exact Below.refl _ _ | assumption | (refine below_drewN ?_ _) | (refine Below.drew ?_))) <;> (first | omega | (simp; done) | (simp; omega))), OC.nil _ _ _⟩
theorem pairTrustOf (W H D : Int) (cs : List Nat) :
    ∃ (W' H' : Int) (cs' : List Nat) (ok : Bool),
      (∀ a n c w, FC w (.slice a n c) cs → Calls Try.prog 15 #[.agg #[.int .i64 W, .int .i64 H, .int .i64 D, .slice a n c]] w (RPic 37 W' H' cs' ok w)) ∧
      (∀ a n c w, FC w (.slice a n c) cs → Calls Try.prog 16 #[.agg #[.int .i64 W, .int .i64 H, .int .i64 D, .slice a n c]] w (RPic 37 W' H' cs' ok w)) ∧ cs'.length ≤ 256 := by
  cases hv : volB W H D cs.length with
  | false =>
    refine ⟨0, 0, [], false, fun a n c w hv' => ?_, fun a n c w hv' => ?_, by simp⟩
    · obtain ⟨rfl, h1, h2⟩ := hv'.sized
      exact specTrustOf_no W H D a _ c w h2 h1 hv
    · obtain ⟨rfl, h1, h2⟩ := hv'.sized
      exact implTrustOf_no W H D a _ c w h1 h2 hv
  | true =>
    obtain ⟨Wn, Hn, Dn, rfl, rfl, rfl, b1, b2, b3, b4, b5, d1, d2, hl⟩ := volB_parts hv
    exact ⟨_, _, _, _, fun a n c w hv => specTrustOf_any Wn Hn Dn a n c cs w hv b1 b2 b3 b4 b5 d1 d2 hl, fun a n c w hv => implTrustOf_any Wn Hn Dn a n c cs w hv b1 b2 b3 b4 b5 d1 d2 hl, by rw [seqL_len]; exact b5⟩
end Go.Proofs.Ytaclgmafcakiiaa
