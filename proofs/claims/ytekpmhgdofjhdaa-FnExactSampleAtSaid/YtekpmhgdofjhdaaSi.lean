import Derived.Test.YtekpmhgdofjhdaaSh
set_option linter.unusedVariables false
set_option linter.unusedSimpArgs false
namespace Go.Proofs.Ytekpmhgdofjhdaa
open Go.FX Go.RowKit Go.WideShapes Go.ChangeShapes
set_option maxRecDepth 100000 in
set_option maxHeartbeats 4000000 in
theorem sSample_any (W H : Nat) (a : Option Addr) (n c bp : Nat) (cs : List Nat) (x y : Nat) (lx : x < width .f32) (ly : y < width .f32) (hx : smpB x = true) (hy : smpB y = true) (w : World) (hp : Pv w bp W H (.slice a n c)) (hv : FC w (.slice a n c) cs) (b1 : 1 ≤ W) (b2 : W ≤ 24) (b3 : 1 ≤ H) (b4 : H ≤ 24) (hl : cs.length = H * W) :
    Calls Try.prog 83 #[.pointer (some ⟨bp, 0, none⟩), .float .f32 x, .float .f32 y] w (RFb .f32 (smpF W H cs x y) w) := by
  have hnx := isF_not (smp_fin hx)
  have hny := isF_not (smp_fin hy)
  have hcvx := fun w => (cv_wideS hnx w).1
  have hcnx := (cv_wideS hnx default).2
  have hcvy := fun w => (cv_wideS hny w).1
  have hcny := (cv_wideS hny default).2
  have hfx := Fl.of lx
  have hfy := Fl.of ly
  have hflx := fun w => floor_any x hx w
  have hfly := fun w => floor_any y hy w
  have hCx := fun w => flo_conv x hx w
  have hCy := fun w => flo_conv y hy w
  obtain ⟨_, gx1, gx2⟩ := flo_int x hx
  obtain ⟨_, gy1, gy2⟩ := flo_int y hy
  have hat := fun u v w1 (hb : Below w.heap.size w w1) => specAt_any W H a n c bp cs u v w1 (hp.below hb) (hv.below hb) b1 b2 b3 b4 hl
  have h00 := hat (floI x) (floI y)
  have h10 := hat (floI x + 1) (floI y)
  have h01 := hat (floI x) (floI y + 1)
  have h11 := hat (floI x + 1) (floI y + 1)
  rw [show smpF W H cs x y = betF (betF (atC W H cs (floI x) (floI y)) (atC W H cs (floI x + 1) (floI y)) (lefF x)) (betF (atC W H cs (floI x) (floI y + 1)) (atC W H cs (floI x + 1) (floI y + 1)) (lefF x)) (lefF y) from rfl]
  have hLx := Lib.hid (show lefF x = fop .sub .f32 (cn .f32 x) (fi (floI x)) from rfl)
  have hLy := Lib.hid (show lefF y = fop .sub .f32 (cn .f32 y) (fi (floI y)) from rfl)
  clear hx hy hnx hny hat hp hv hl
  generalize lefF x = fx at *
  generalize lefF y = fy at *
  generalize atC W H cs (floI x) (floI y) = A00 at *
  generalize atC W H cs (floI x + 1) (floI y) = A10 at *
  generalize atC W H cs (floI x) (floI y + 1) = A01 at *
  generalize atC W H cs (floI x + 1) (floI y + 1) = A11 at *
  generalize floI x = u at *
  generalize rteB (sgn FloatKind.f32.format x) (floN (wide x)) = rbx at *
  generalize wide x = zx at *
  generalize floI y = v at *
  generalize rteB (sgn FloatKind.f32.format y) (floN (wide y)) = rby at *
  generalize wide y = zy at *
  have m1 : IntKind.i64.wrap (u + 1) = u + 1 := IntWalk.i64_in _ (by omega)
  have m2 : IntKind.i64.wrap (v + 1) = v + 1 := IntWalk.i64_in _ (by omega)
  have hU := fiFl2 u
  have hV := fiFl2 v
  have hX : ∀ w1, Fl .f32 (Go.FX.flR .sub .f32 x (fi u) w1) fx := fun w1 => by rw [hLx.out]; exact hfx.flR hU _
  have hY : ∀ w1, Fl .f32 (Go.FX.flR .sub .f32 y (fi v) w1) fy := fun w1 => by rw [hLy.out]; exact hfy.flR hV _
  go_enter Try.func83, Try.ntmps83
  go_wp2_with (first | (simp only [hcvx, hcnx, hCx]) | fail)
  refine (hflx _).mono ?_
  rintro e w1 ⟨rfl, rfl⟩
  go_wp2_with (first | (simp only [hcvy, hcny, hCx, hCy]) | fail)
  refine (hfly _).mono ?_
  rintro e w1 ⟨rfl, rfl⟩
  go_wp2_with (simp only [hCy])
  refine (h00 _ (by ((repeat' (first | (refine bel_set ?_ ?_ _) | (refine bel_al ?_ ?_ _) | exact Below.refl _ _ | assumption | (refine below_drewN ?_ _) | (refine Below.drew ?_))) <;> (first | omega | (simp; done) | (simp; omega))))).mono ?_
  rintro e w1 ⟨r1, k1, rfl, rfl, hr1⟩
  go_wp2_with fail
  refine (h10 _ (by ((repeat' (first | (refine bel_set ?_ ?_ _) | (refine bel_al ?_ ?_ _) | exact Below.refl _ _ | assumption | (refine below_drewN ?_ _) | (refine Below.drew ?_))) <;> (first | omega | (simp; done) | (simp; omega))))).mono ?_
  rintro e w1 ⟨r2, k2, rfl, rfl, hr2⟩
  go_wp2_with fail
  refine (h01 _ (by ((repeat' (first | (refine bel_set ?_ ?_ _) | (refine bel_al ?_ ?_ _) | exact Below.refl _ _ | assumption | (refine below_drewN ?_ _) | (refine Below.drew ?_))) <;> (first | omega | (simp; done) | (simp; omega))))).mono ?_
  rintro e w1 ⟨r3, k3, rfl, rfl, hr3⟩
  go_wp2_with fail
  refine (h11 _ (by ((repeat' (first | (refine bel_set ?_ ?_ _) | (refine bel_al ?_ ?_ _) | exact Below.refl _ _ | assumption | (refine below_drewN ?_ _) | (refine Below.drew ?_))) <;> (first | omega | (simp; done) | (simp; omega))))).mono ?_
  rintro e w1 ⟨r4, k4, rfl, rfl, hr4⟩
  go_wp2_with fail
  go_ret
  refine ⟨_, rfl, by ((repeat' (first | (refine bel_set ?_ ?_ _) | (refine bel_al ?_ ?_ _) | exact Below.refl _ _ | assumption | (refine below_drewN ?_ _) | (refine Below.drew ?_))) <;> (first | omega | (simp; done) | (simp; omega))), ?_⟩
  exact (hr1.flR ((hX _).flR (hr2.flR hr1 _) _) _).flR ((hY _).flR ((hr3.flR ((hX _).flR (hr4.flR hr3 _) _) _).flR (hr1.flR ((hX _).flR (hr2.flR hr1 _) _) _) _) _) _
theorem specSample_any (W H : Nat) (a : Option Addr) (n c : Nat) (cs : List Nat) (x y : Nat) (w : World) (hv : FC w (.slice a n c) cs) (b1 : 1 ≤ W) (b2 : W ≤ 24) (b3 : 1 ≤ H) (b4 : H ≤ 24) (b5 : H * W ≤ 256) (hl : cs.length = H * W) (lx : x < width .f32) (ly : y < width .f32) :
    Calls Try.prog 54 #[.agg #[.int .i64 W, .int .i64 H, .slice a n c], .float .f32 x, .float .f32 y] w (RFBb (sel (smpB x && smpB y) (smpF W H cs x y)) (smpB x && smpB y) w) := by
  obtain ⟨rfl, hnc, hcm⟩ := hv.sized
  have hval := Lib.hid (validB_mk b1 b2 b3 b4 b5 hl)
  have h1 := fun w1 hp => specIs_any W H a cs.length c w.heap.size w1 hp (by unfold maxLen at hcm; omega)
  have hpx := fun w => sPlace_any x lx w
  have hpy := fun w => sPlace_any y ly w
  cases hx : smpB x with
  | false =>
    have hx' := Lib.hid hx
    rw [show sel (false && smpB y) (smpF W H cs x y) = 0 from rfl, show (false && smpB y) = false from rfl]
    clear hx hl
    go_enter Try.func54, Try.ntmps54
    go_wp2_with fail
    refine (h1 _ (Pv.new _ _ _ _ _)).mono ?_
    rintro e w1 ⟨k, rfl, rfl⟩
    rw [hval.out]
    go_wp2_with fail
    refine (hpx _).mono ?_
    rintro e w1 ⟨rfl, rfl⟩
    rw [hx'.out]
    go_wp2_with fail
    go_ret2
    exact ⟨_, rfl, by ((repeat' (first | (refine bel_set ?_ ?_ _) | (refine bel_al ?_ ?_ _) | exact Below.refl _ _ | assumption | (refine below_drewN ?_ _) | (refine Below.drew ?_))) <;> (first | omega | (simp; done) | (simp; omega))), fl00⟩
  | true =>
    cases hy : smpB y with
    | false =>
      have hx' := Lib.hid hx
      have hy' := Lib.hid hy
      rw [show sel (true && false) (smpF W H cs x y) = 0 from rfl, show (true && false) = false from rfl]
      clear hx hy hl
      go_enter Try.func54, Try.ntmps54
      go_wp2_with fail
      refine (h1 _ (Pv.new _ _ _ _ _)).mono ?_
      rintro e w1 ⟨k, rfl, rfl⟩
      rw [hval.out]
      go_wp2_with fail
      refine (hpx _).mono ?_
      rintro e w1 ⟨rfl, rfl⟩
      rw [hx'.out]
      go_wp2_with fail
      refine (hpy _).mono ?_
      rintro e w1 ⟨rfl, rfl⟩
      rw [hy'.out]
      go_wp2_with fail
      go_ret2
      exact ⟨_, rfl, by ((repeat' (first | (refine bel_set ?_ ?_ _) | (refine bel_al ?_ ?_ _) | exact Below.refl _ _ | assumption | (refine below_drewN ?_ _) | (refine Below.drew ?_))) <;> (first | omega | (simp; done) | (simp; omega))), fl00⟩
    | true =>
      have h3 := fun w1 (hb : Below w.heap.size w w1) hp => sSample_any W H a cs.length c w.heap.size cs x y lx ly hx hy w1 hp (hv.below hb) b1 b2 b3 b4 hl
      have hx' := Lib.hid hx
      have hy' := Lib.hid hy
      rw [show sel (true && true) (smpF W H cs x y) = smpF W H cs x y from rfl, show (true && true) = true from rfl]
      clear hx hy hl
      generalize smpF W H cs x y = A at *
      go_enter Try.func54, Try.ntmps54
      go_wp2_with fail
      refine (h1 _ (Pv.new _ _ _ _ _)).mono ?_
      rintro e w1 ⟨k, rfl, rfl⟩
      rw [hval.out]
      go_wp2_with fail
      refine (hpx _).mono ?_
      rintro e w1 ⟨rfl, rfl⟩
      rw [hx'.out]
      go_wp2_with fail
      refine (hpy _).mono ?_
      rintro e w1 ⟨rfl, rfl⟩
      rw [hy'.out]
      go_wp2_with fail
      refine (h3 _ (by ((repeat' (first | (refine bel_set ?_ ?_ _) | (refine bel_al ?_ ?_ _) | exact Below.refl _ _ | assumption | (refine below_drewN ?_ _) | (refine Below.drew ?_))) <;> (first | omega | (simp; done) | (simp; omega)))) ((Pv.new _ _ _ _ _).drewN _)).mono ?_
      rintro e w3 ⟨r, rfl, hb3, hr⟩
      have s3 := hb3.size
      simp at s3
      go_wp2_with fail
      go_ret2
      exact ⟨_, rfl, by ((repeat' (first | (refine bel_set ?_ ?_ _) | (refine bel_al ?_ ?_ _) | exact Below.refl _ _ | assumption | (refine below_drewN ?_ _) | (refine Below.drew ?_) | (refine Below.trans ?_ (Below.mono hb3 ?_)))) <;> (first | omega | (simp; done) | (simp; omega))), hr⟩
theorem specSample_no1 (W H : Int) (a : Option Addr) (n c : Nat) (x y : Nat) (w : World) (hnc : n ≤ c) (hcm : c ≤ maxLen) (hval : validB W H n = false) :
    Calls Try.prog 54 #[.agg #[.int .i64 W, .int .i64 H, .slice a n c], .float .f32 x, .float .f32 y] w (RFBb 0 false w) := by
  have h1 := fun w1 hp => specIs_any W H a n c w.heap.size w1 hp (by unfold maxLen at hcm; omega)
  have hval := Lib.hid hval
  go_enter Try.func54, Try.ntmps54
  go_wp2_with fail
  refine (h1 _ (Pv.new _ _ _ _ _)).mono ?_
  rintro e w1 ⟨k, rfl, rfl⟩
  rw [hval.out]
  go_wp2_with fail
  go_ret2
  exact ⟨_, rfl, by ((repeat' (first | (refine bel_set ?_ ?_ _) | (refine bel_al ?_ ?_ _) | exact Below.refl _ _ | assumption | (refine below_drewN ?_ _) | (refine Below.drew ?_))) <;> (first | omega | (simp; done) | (simp; omega))), fl00⟩
theorem pairSampleAt (W H : Int) (cs : List Nat) (x y : Nat) (lx : x < width .f32) (ly : y < width .f32) :
    ∃ (g : Nat) (ok : Bool),
      (∀ a n c w, FC w (.slice a n c) cs → Calls Try.prog 54 #[.agg #[.int .i64 W, .int .i64 H, .slice a n c], .float .f32 x, .float .f32 y] w (RFBb g ok w)) ∧
      (∀ a n c w, FC w (.slice a n c) cs → Calls Try.prog 56 #[.agg #[.int .i64 W, .int .i64 H, .slice a n c], .float .f32 x, .float .f32 y] w (RFBb g ok w)) := by
  cases hval : validB W H cs.length with
  | true =>
    obtain ⟨wn, hn, rfl, rfl, b1, b2, b3, b4, b5, hl⟩ := validB_parts hval
    exact ⟨_, _, fun a n c w hv => specSample_any wn hn a n c cs x y w hv b1 b2 b3 b4 b5 hl lx ly, fun a n c w hv => implSample_any wn hn a n c cs x y w hv b1 b2 b3 b4 b5 hl lx ly⟩
  | false =>
    refine ⟨0, false, fun a n c w hv => ?_, fun a n c w hv => ?_⟩
    · obtain ⟨rfl, h1, h2⟩ := hv.sized
      exact specSample_no1 W H a _ c x y w h1 h2 hval
    · obtain ⟨rfl, h1, h2⟩ := hv.sized
      exact implSample_no1 W H a _ c x y w h1 h2 hval
end Go.Proofs.Ytekpmhgdofjhdaa
