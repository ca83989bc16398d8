import Derived.Test.YtnbilmlpngcobaaSh
set_option linter.unusedVariables false
set_option linter.unusedSimpArgs false
namespace Go.Proofs.Ytnbilmlpngcobaa
open Go.FX Go.RowKit Go.WideShapes Go.ChangeShapes
set_option maxRecDepth 100000 in
set_option maxHeartbeats 4000000 in
theorem sSample_any (W H : Nat) (a : Option Addr) (n c bp : Nat) (cs : List Nat) (x y : Nat) (lx : x < width .f32) (ly : y < width .f32) (hx : smpB x = true) (hy : smpB y = true) (w : World) (hp : Pv w bp W H (.slice a n c)) (hv : FC w (.slice a n c) cs) (b1 : 1 ≤ W) (b2 : W ≤ 24) (b3 : 1 ≤ H) (b4 : H ≤ 24) (hl : cs.length = H * W) :
    Calls Try.prog 84 #[.pointer (some ⟨bp, 0, none⟩), .float .f32 x, .float .f32 y] w (RFb .f32 (smpF W H cs x y) w) := by
  have hnx := isF_not (smp_fin hx)
  have hny := isF_not (smp_fin hy)
  have hcvx := fun w => (cv_wideS hnx w).1
  have hcnx := (cv_wideS hnx default).2
  have hcvy := fun w => (cv_wideS hny w).1
  have hcny := (cv_wideS hny default).2
  have hfx := Fl.of lx
  have hfy := Fl.of ly
  have hflx := fun w => floor_any x hx w
  have hfly := fun w => floor_any y hy w
  have hCx := fun w => flo_conv x hx w
  have hCy := fun w => flo_conv y hy w
  obtain ⟨_, gx1, gx2⟩ := flo_int x hx
  obtain ⟨_, gy1, gy2⟩ := flo_int y hy
  have hat := fun u v w1 (hb : Below w.heap.size w w1) => specAt_any W H a n c bp cs u v w1 (hp.below hb) (hv.below hb) b1 b2 b3 b4 hl
  have h00 := hat (floI x) (floI y)
  have h10 := hat (floI x + 1) (floI y)
  have h01 := hat (floI x) (floI y + 1)
  have h11 := hat (floI x + 1) (floI y + 1)
  rw [show smpF W H cs x y = betF (betF (atC W H cs (floI x) (floI y)) (atC W H cs (floI x + 1) (floI y)) (lefF x)) (betF (atC W H cs (floI x) (floI y + 1)) (atC W H cs (floI x + 1) (floI y + 1)) (lefF x)) (lefF y) from rfl]
  have hLx := Lib.hid (show lefF x = fop .sub .f32 (cn .f32 x) (fi (floI x)) from rfl)
  have hLy := Lib.hid (show lefF y = fop .sub .f32 (cn .f32 y) (fi (floI y)) from rfl)
  clear hx hy hnx hny hat hp hv hl
  generalize lefF x = fx at *
  generalize lefF y = fy at *
  generalize atC W H cs (floI x) (floI y) = A00 at *
  generalize atC W H cs (floI x + 1) (floI y) = A10 at *
  generalize atC W H cs (floI x) (floI y + 1) = A01 at *
  generalize atC W H cs (floI x + 1) (floI y + 1) = A11 at *
  generalize floI x = u at *
  generalize rteB (sgn FloatKind.f32.format x) (floN (wide x)) = rbx at *
  generalize wide x = zx at *
  generalize floI y = v at *
  generalize rteB (sgn FloatKind.f32.format y) (floN (wide y)) = rby at *
  generalize wide y = zy at *
  have m1 : IntKind.i64.wrap (u + 1) = u + 1 := IntWalk.i64_in _ (by omega)
  have m2 : IntKind.i64.wrap (v + 1) = v + 1 := IntWalk.i64_in _ (by omega)
  have hU := fiFl2 u
  have hV := fiFl2 v
  have hX : ∀ w1, Fl .f32 (Go.FX.flR .sub .f32 x (fi u) w1) fx := fun w1 => by rw [hLx.out]; exact hfx.flR hU _
  have hY : ∀ w1, Fl .f32 (Go.FX.flR .sub .f32 y (fi v) w1) fy := fun w1 => by rw [hLy.out]; exact hfy.flR hV _
  go_enter Try.func84, Try.ntmps84
  go_wp2_with (first | (simp only [hcvx, hcnx, hCx]) | fail)
  refine (hflx _).mono ?_
  rintro e w1 ⟨rfl, rfl⟩
  go_wp2_with (first | (simp only [hcvy, hcny, hCx, hCy]) | fail)
  refine (hfly _).mono ?_
  rintro e w1 ⟨rfl, rfl⟩
  go_wp2_with (simp only [hCy])
  refine (h00 _ (by ((repeat' (first | (refine bel_set ?_ ?_ _) | (refine bel_al ?_ ?_ _) | exact Below.refl _ _ | assumption | (refine below_drewN ?_ _) | (refine Below.drew ?_))) <;> (first | omega | (simp; done) | (simp; omega))))).mono ?_
  rintro e w1 ⟨r1, k1, rfl, rfl, hr1⟩
  go_wp2_with fail
  refine (h10 _ (by ((repeat' (first | (refine bel_set ?_ ?_ _) | (refine bel_al ?_ ?_ _) | exact Below.refl _ _ | assumption | (refine below_drewN ?_ _) | (refine Below.drew ?_))) <;> (first | omega | (simp; done) | (simp; omega))))).mono ?_
  rintro e w1 ⟨r2, k2, rfl, rfl, hr2⟩
  go_wp2_with fail
  refine (h01 _ (by ((repeat' (first | (refine bel_set ?_ ?_ _) | (refine bel_al ?_ ?_ _) | exact Below.refl _ _ | assumption | (refine below_drewN ?_ _) | (refine Below.drew ?_))) <;> (first | omega | (simp; done) | (simp; omega))))).mono ?_
  rintro e w1 ⟨r3, k3, rfl, rfl, hr3⟩
  go_wp2_with fail
  refine (h11 _ (by ((repeat' (first | (refine bel_set ?_ ?_ _) | (refine bel_al ?_ ?_ _) | exact Below.refl _ _ | assumption | (refine below_drewN ?_ _) | (refine Below.drew ?_))) <;> (first | omega | (simp; done) | (simp; omega))))).mono ?_
  rintro e w1 ⟨r4, k4, rfl, rfl, hr4⟩
  go_wp2_with fail
  go_ret
  refine ⟨_, rfl, by ((repeat' (first | (refine bel_set ?_ ?_ _) | (refine bel_al ?_ ?_ _) | exact Below.refl _ _ | assumption | (refine below_drewN ?_ _) | (refine Below.drew ?_))) <;> (first | omega | (simp; done) | (simp; omega))), ?_⟩
  exact (hr1.flR ((hX _).flR (hr2.flR hr1 _) _) _).flR ((hY _).flR ((hr3.flR ((hX _).flR (hr4.flR hr3 _) _) _).flR (hr1.flR ((hX _).flR (hr2.flR hr1 _) _) _) _) _) _
end Go.Proofs.Ytnbilmlpngcobaa
