import Derived.Test.YtnbilmlpngcobaaSf
import Derived.Test.YtnbilmlpngcobaaPq
set_option linter.unusedVariables false
set_option linter.unusedSimpArgs false
namespace Go.FX
open Go Go.RowKit
def betF (a b s : Nat) : Nat := fop .add .f32 a (fop .mul .f32 s (fop .sub .f32 b a))
/-- What is left of a number. -/
def lefF (x : Nat) : Nat := fop .sub .f32 (cn .f32 x) (fi (floI x))
def smpF (W H : Nat) (cs : List Nat) (x y : Nat) : Nat :=
  betF (betF (atC W H cs (floI x) (floI y)) (atC W H cs (floI x + 1) (floI y)) (lefF x)) (betF (atC W H cs (floI x) (floI y + 1)) (atC W H cs (floI x + 1) (floI y + 1)) (lefF x)) (lefF y)
theorem smpB_cn (x : Nat) : smpB (cn .f32 x) = smpB x := by
  by_cases h : isN .f32 x = true
  · rw [cn_of_nan h]
    rw [isN_f32] at h
    unfold smpB
    simp at h
    rw [decide_eq_false (show ¬ x % 2147483648 ≤ 1148846080 by omega)]
    decide
  · rw [cn_of_not (by simpa using h)]
theorem Fl.smp {r c : Nat} (h : Fl .f32 r c) : smpB r = smpB c := by rw [← h.eq, smpB_cn]
theorem Fl.same {r c : Nat} (h : Fl .f32 r c) (hn : isN .f32 c = false) : r = c := by
  have e := h.eq
  have h1 : isN .f32 r = false := by rw [← isN_cn, e]; exact hn
  rw [cn_of_not h1] at e
  exact e
end Go.FX
namespace Go.Proofs.Ytnbilmlpngcobaa
open Go.FX Go.RowKit Go.WideShapes Go.ChangeShapes
set_option maxHeartbeats 2000000 in
theorem about2_any (W H : Nat) (v : Value) (cs : List Nat) (x y : Int) (w : World) (hv : FC w v cs) (b1 : 1 ≤ W) (b2 : W ≤ 24) (b3 : 1 ≤ H) (b4 : H ≤ 24) (hl : cs.length = H * W)
    (x1 : -2000 ≤ x) (x2 : x ≤ 2000) (y1 : -2000 ≤ y) (y2 : y ≤ 2000) :
    Calls Try.prog 163 #[.agg #[.int .i64 W, .int .i64 H, v], .int .i64 x, .int .i64 y] w (RFb .f32 (atC W H cs x y) w) := by
  obtain ⟨u, hu⟩ : ∃ u : Nat, nearI (W - 1) x = u := Int.eq_ofNat_of_zero_le (nearI_ge _ _ (by omega))
  obtain ⟨t, ht⟩ : ∃ t : Nat, nearI (H - 1) y = t := Int.eq_ofNat_of_zero_le (nearI_ge _ _ (by omega))
  have hul := nearI_le ((W : Int) - 1) x (by omega)
  have htl := nearI_le ((H : Int) - 1) y (by omega)
  rw [hu] at hul
  rw [ht] at htl
  have hat : atC W H cs x y = cs.getD (t * W + u) 0 := by
    unfold atC
    rw [hu, ht]
    congr 1
    rw [show (u : Int) + (W : Int) * (t : Int) = ((t * W + u : Nat) : Int) by push_cast; rw [Int.mul_comm, Int.add_comm]]; rfl
  have hlt : t * W + u < cs.length := by
    have h1 : t * W + W ≤ H * W := by rw [← Nat.succ_mul]; exact Nat.mul_le_mul_right _ (by omega)
    rw [hl]; omega
  obtain ⟨b, off, c, z, rfl, hnc, hcm, hb, hz, hcell⟩ := hv.cell hlt
  rw [← hat] at hz
  rw [hl] at hnc ⊢
  have hrow := fun w1 yi hyi => row_any W H b off c t yi hyi w1 b1 b2 b4 (by omega) hnc hcm
  have hcell' := fun w1 (hb1 : Below w.heap.size w w1) => ((bcell hb1).1 b (off + (t * W + u)) hb).trans hcell
  rw [← Nat.add_assoc] at hcell'
  have Hz := Lib.hid hz
  have hl0 := hb
  clear hz hat hcell hv hlt hl hnc hcm
  unfold nearI at hu ht
  have body : ∀ (idx : Nat), u = idx → (∀ w1, Below w.heap.size w w1 → w1.cell? ⟨b, off + t * W + idx, none⟩ = some (.float .f32 z)) := fun idx hi => hi ▸ hcell'
  clear hcell'
  generalize hal : t * W = al at hrow body
  clear hal
  by_cases cy1 : y < 0
  · rw [if_pos cy1] at ht
    obtain rfl : t = 0 := by omega
    clear ht
    by_cases cx1 : x < 0
    · rw [if_pos cx1] at hu
      have hc0 := body 0 (by omega)
      simp only [Nat.add_zero] at hc0
      have hc := Lib.hid hc0
      have hpos : 0 < W := b1
      clear body hu hc0
      go_enter Try.func163, Try.ntmps163
      go_wp2_with (go_at_call 176; refine (hrow _ _ (by first | rfl | omega)).mono ?_; rintro e w1 ⟨rfl, hb1⟩; obtain ⟨l1, q0, q1, q2, qf⟩ := (Nv.new _ _ _ _ _).below hb1; have hcl := hc.out w1 (by ((repeat' (first | (refine bel_set ?_ ?_ _) | (refine bel_al ?_ ?_ _) | exact Below.refl _ _ | assumption | (refine below_drewN ?_ _) | (refine Below.drew ?_) | (refine Below.trans ?_ (Below.mono hb1 ?_)))) <;> (first | omega | (simp; done) | (simp; omega)))))
      go_ret
      exact ⟨_, rfl, by ((repeat' (first | (refine bel_set ?_ ?_ _) | (refine bel_al ?_ ?_ _) | exact Below.refl _ _ | assumption | (refine below_drewN ?_ _) | (refine Below.drew ?_) | (refine Below.trans ?_ (Below.mono hb1 ?_)))) <;> (first | omega | (simp; done) | (simp; omega))), Hz.out⟩
    · rw [if_neg cx1] at hu
      by_cases cx2 : (W : Int) - 1 < x
      · rw [if_pos cx2] at hu
        have hc := Lib.hid (body (W - 1) (by omega))
        clear body hu
        go_enter Try.func163, Try.ntmps163
        go_wp2_with (go_at_call 176; refine (hrow _ _ (by first | rfl | omega)).mono ?_; rintro e w1 ⟨rfl, hb1⟩; obtain ⟨l1, q0, q1, q2, qf⟩ := (Nv.new _ _ _ _ _).below hb1; have hcl := hc.out w1 (by ((repeat' (first | (refine bel_set ?_ ?_ _) | (refine bel_al ?_ ?_ _) | exact Below.refl _ _ | assumption | (refine below_drewN ?_ _) | (refine Below.drew ?_) | (refine Below.trans ?_ (Below.mono hb1 ?_)))) <;> (first | omega | (simp; done) | (simp; omega)))))
        go_ret
        exact ⟨_, rfl, by ((repeat' (first | (refine bel_set ?_ ?_ _) | (refine bel_al ?_ ?_ _) | exact Below.refl _ _ | assumption | (refine below_drewN ?_ _) | (refine Below.drew ?_) | (refine Below.trans ?_ (Below.mono hb1 ?_)))) <;> (first | omega | (simp; done) | (simp; omega))), Hz.out⟩
      · rw [if_neg cx2] at hu
        obtain rfl : x = u := by omega
        have hc := Lib.hid (body u rfl)
        clear body hu
        go_enter Try.func163, Try.ntmps163
        go_wp2_with (go_at_call 176; refine (hrow _ _ (by first | rfl | omega)).mono ?_; rintro e w1 ⟨rfl, hb1⟩; obtain ⟨l1, q0, q1, q2, qf⟩ := (Nv.new _ _ _ _ _).below hb1; have hcl := hc.out w1 (by ((repeat' (first | (refine bel_set ?_ ?_ _) | (refine bel_al ?_ ?_ _) | exact Below.refl _ _ | assumption | (refine below_drewN ?_ _) | (refine Below.drew ?_) | (refine Below.trans ?_ (Below.mono hb1 ?_)))) <;> (first | omega | (simp; done) | (simp; omega)))))
        go_ret
        exact ⟨_, rfl, by ((repeat' (first | (refine bel_set ?_ ?_ _) | (refine bel_al ?_ ?_ _) | exact Below.refl _ _ | assumption | (refine below_drewN ?_ _) | (refine Below.drew ?_) | (refine Below.trans ?_ (Below.mono hb1 ?_)))) <;> (first | omega | (simp; done) | (simp; omega))), Hz.out⟩
  · rw [if_neg cy1] at ht
    by_cases cy2 : (H : Int) - 1 < y
    · rw [if_pos cy2] at ht
      have ht' := Lib.hid ht
      clear ht
      by_cases cx1 : x < 0
      · rw [if_pos cx1] at hu
        have hc0 := body 0 (by omega)
        simp only [Nat.add_zero] at hc0
        have hc := Lib.hid hc0
        have hpos : 0 < W := b1
        clear body hu hc0
        go_enter Try.func163, Try.ntmps163
        go_wp2_with (go_at_call 176; refine (hrow _ _ (by have := ht'.out; omega)).mono ?_; rintro e w1 ⟨rfl, hb1⟩; obtain ⟨l1, q0, q1, q2, qf⟩ := (Nv.new _ _ _ _ _).below hb1; have hcl := hc.out w1 (by ((repeat' (first | (refine bel_set ?_ ?_ _) | (refine bel_al ?_ ?_ _) | exact Below.refl _ _ | assumption | (refine below_drewN ?_ _) | (refine Below.drew ?_) | (refine Below.trans ?_ (Below.mono hb1 ?_)))) <;> (first | omega | (simp; done) | (simp; omega)))))
        go_ret
        exact ⟨_, rfl, by ((repeat' (first | (refine bel_set ?_ ?_ _) | (refine bel_al ?_ ?_ _) | exact Below.refl _ _ | assumption | (refine below_drewN ?_ _) | (refine Below.drew ?_) | (refine Below.trans ?_ (Below.mono hb1 ?_)))) <;> (first | omega | (simp; done) | (simp; omega))), Hz.out⟩
      · rw [if_neg cx1] at hu
        by_cases cx2 : (W : Int) - 1 < x
        · rw [if_pos cx2] at hu
          have hc := Lib.hid (body (W - 1) (by omega))
          clear body hu
          go_enter Try.func163, Try.ntmps163
          go_wp2_with (go_at_call 176; refine (hrow _ _ (by have := ht'.out; omega)).mono ?_; rintro e w1 ⟨rfl, hb1⟩; obtain ⟨l1, q0, q1, q2, qf⟩ := (Nv.new _ _ _ _ _).below hb1; have hcl := hc.out w1 (by ((repeat' (first | (refine bel_set ?_ ?_ _) | (refine bel_al ?_ ?_ _) | exact Below.refl _ _ | assumption | (refine below_drewN ?_ _) | (refine Below.drew ?_) | (refine Below.trans ?_ (Below.mono hb1 ?_)))) <;> (first | omega | (simp; done) | (simp; omega)))))
          go_ret
          exact ⟨_, rfl, by ((repeat' (first | (refine bel_set ?_ ?_ _) | (refine bel_al ?_ ?_ _) | exact Below.refl _ _ | assumption | (refine below_drewN ?_ _) | (refine Below.drew ?_) | (refine Below.trans ?_ (Below.mono hb1 ?_)))) <;> (first | omega | (simp; done) | (simp; omega))), Hz.out⟩
        · rw [if_neg cx2] at hu
          obtain rfl : x = u := by omega
          have hc := Lib.hid (body u rfl)
          clear body hu
          go_enter Try.func163, Try.ntmps163
          go_wp2_with (go_at_call 176; refine (hrow _ _ (by have := ht'.out; omega)).mono ?_; rintro e w1 ⟨rfl, hb1⟩; obtain ⟨l1, q0, q1, q2, qf⟩ := (Nv.new _ _ _ _ _).below hb1; have hcl := hc.out w1 (by ((repeat' (first | (refine bel_set ?_ ?_ _) | (refine bel_al ?_ ?_ _) | exact Below.refl _ _ | assumption | (refine below_drewN ?_ _) | (refine Below.drew ?_) | (refine Below.trans ?_ (Below.mono hb1 ?_)))) <;> (first | omega | (simp; done) | (simp; omega)))))
          go_ret
          exact ⟨_, rfl, by ((repeat' (first | (refine bel_set ?_ ?_ _) | (refine bel_al ?_ ?_ _) | exact Below.refl _ _ | assumption | (refine below_drewN ?_ _) | (refine Below.drew ?_) | (refine Below.trans ?_ (Below.mono hb1 ?_)))) <;> (first | omega | (simp; done) | (simp; omega))), Hz.out⟩
    · rw [if_neg cy2] at ht
      have ht' := Lib.hid ht
      clear ht
      by_cases cx1 : x < 0
      · rw [if_pos cx1] at hu
        have hc0 := body 0 (by omega)
        simp only [Nat.add_zero] at hc0
        have hc := Lib.hid hc0
        have hpos : 0 < W := b1
        clear body hu hc0
        go_enter Try.func163, Try.ntmps163
        go_wp2_with (go_at_call 176; refine (hrow _ _ (by have := ht'.out; omega)).mono ?_; rintro e w1 ⟨rfl, hb1⟩; obtain ⟨l1, q0, q1, q2, qf⟩ := (Nv.new _ _ _ _ _).below hb1; have hcl := hc.out w1 (by ((repeat' (first | (refine bel_set ?_ ?_ _) | (refine bel_al ?_ ?_ _) | exact Below.refl _ _ | assumption | (refine below_drewN ?_ _) | (refine Below.drew ?_) | (refine Below.trans ?_ (Below.mono hb1 ?_)))) <;> (first | omega | (simp; done) | (simp; omega)))))
        go_ret
        exact ⟨_, rfl, by ((repeat' (first | (refine bel_set ?_ ?_ _) | (refine bel_al ?_ ?_ _) | exact Below.refl _ _ | assumption | (refine below_drewN ?_ _) | (refine Below.drew ?_) | (refine Below.trans ?_ (Below.mono hb1 ?_)))) <;> (first | omega | (simp; done) | (simp; omega))), Hz.out⟩
      · rw [if_neg cx1] at hu
        by_cases cx2 : (W : Int) - 1 < x
        · rw [if_pos cx2] at hu
          have hc := Lib.hid (body (W - 1) (by omega))
          clear body hu
          go_enter Try.func163, Try.ntmps163
          go_wp2_with (go_at_call 176; refine (hrow _ _ (by have := ht'.out; omega)).mono ?_; rintro e w1 ⟨rfl, hb1⟩; obtain ⟨l1, q0, q1, q2, qf⟩ := (Nv.new _ _ _ _ _).below hb1; have hcl := hc.out w1 (by ((repeat' (first | (refine bel_set ?_ ?_ _) | (refine bel_al ?_ ?_ _) | exact Below.refl _ _ | assumption | (refine below_drewN ?_ _) | (refine Below.drew ?_) | (refine Below.trans ?_ (Below.mono hb1 ?_)))) <;> (first | omega | (simp; done) | (simp; omega)))))
          go_ret
          exact ⟨_, rfl, by ((repeat' (first | (refine bel_set ?_ ?_ _) | (refine bel_al ?_ ?_ _) | exact Below.refl _ _ | assumption | (refine below_drewN ?_ _) | (refine Below.drew ?_) | (refine Below.trans ?_ (Below.mono hb1 ?_)))) <;> (first | omega | (simp; done) | (simp; omega))), Hz.out⟩
        · rw [if_neg cx2] at hu
          obtain rfl : x = u := by omega
          have hc := Lib.hid (body u rfl)
          clear body hu
          go_enter Try.func163, Try.ntmps163
          go_wp2_with (go_at_call 176; refine (hrow _ _ (by have := ht'.out; omega)).mono ?_; rintro e w1 ⟨rfl, hb1⟩; obtain ⟨l1, q0, q1, q2, qf⟩ := (Nv.new _ _ _ _ _).below hb1; have hcl := hc.out w1 (by ((repeat' (first | (refine bel_set ?_ ?_ _) | (refine bel_al ?_ ?_ _) | exact Below.refl _ _ | assumption | (refine below_drewN ?_ _) | (refine Below.drew ?_) | (refine Below.trans ?_ (Below.mono hb1 ?_)))) <;> (first | omega | (simp; done) | (simp; omega)))))
          go_ret
          exact ⟨_, rfl, by ((repeat' (first | (refine bel_set ?_ ?_ _) | (refine bel_al ?_ ?_ _) | exact Below.refl _ _ | assumption | (refine below_drewN ?_ _) | (refine Below.drew ?_) | (refine Below.trans ?_ (Below.mono hb1 ?_)))) <;> (first | omega | (simp; done) | (simp; omega))), Hz.out⟩
theorem run_aflo {b : Nat} {s : Bool} {m : Nat} {p : Int} (h : FloatKind.f64.format.read b = .number s m p) (w : World) :
    (callFunc 169 #[.float .f64 b]).run Try.prog w = .ok (.value (.float .f64 (FloatKind.f64.encode ((FloatKind.f64.format.read b).integral .down)))) w := by
  have h' : FloatKind.f64.decode b = .number s m p := h
  have key : ∀ (A : Bool → Nat → Sem Value) (d : Ieee.Datum), d = .number s m p → (match d with
      | .nan u t => A u t
      | d => pure (.float .f64 (FloatKind.f64.encode (d.integral .down)))).run Try.prog w = .ok (.float .f64 (FloatKind.f64.encode (d.integral .down))) w := fun A d hd => by subst hd; rfl
  have e : (Extern.MathFloor.toIntegral "math.archFloor" .down #[.float .f64 b]).run Try.prog w = .ok (.float .f64 (FloatKind.f64.encode ((FloatKind.f64.decode b).integral .down))) w := key _ (FloatKind.f64.decode b) h'
  rw [run_callFunc_extern (e := Extern.MathFloor.toIntegral "math.archFloor" .down) Try.func169 (by kernel_rfl) (by kernel_rfl) (by kernel_rfl) (by kernel_rfl), e]
  rfl
theorem floor_any (x : Nat) (hs : smpB x = true) (w : World) : Calls Try.prog 144 #[.float .f64 (wide x)] w (fun e w' => e = .returned (.float .f64 (rteB (sgn FloatKind.f32.format x) (floN (wide x)))) ∧ w = w') := by
  obtain ⟨m, p, hr, he, _⟩ := flo_mid x hs
  have hR : ∀ w, (callFunc 169 #[.float .f64 (wide x)]).run Try.prog w = .ok (.value (.float .f64 (rteB (sgn FloatKind.f32.format x) (floN (wide x))))) w := fun w => by rw [run_aflo hr, he]
  clear hr he hs
  generalize rteB (sgn FloatKind.f32.format x) (floN (wide x)) = rb at *
  generalize wide x = y at *
  go_enter Try.func144, Try.ntmps144
  go_wp2_with (simp only [hR])
  go_ret
  exact ⟨rfl, rfl⟩
/-- The conversions around a floor. -/
theorem flo_conv (x : Nat) (hs : smpB x = true) (w : World) : (convert 76 2 (.float .f64 (rteB (sgn FloatKind.f32.format x) (floN (wide x))))).run Try.prog w = .ok (.int .i64 (floI x)) w :=
  run_convert_float_int w 76 2 .f64 .i64 _ _ (by rw [Try.underlying76]; rfl) Try.underlying2 (flo_int x hs).1
theorem fiFl2 (k : Int) : Fl .f32 (fi k) (fi k) := ⟨fi_lt k, cn_of_not (fi_not k)⟩
set_option maxHeartbeats 1000000 in
theorem split_any (x : Nat) (lx : x < width .f32) (hs : smpB x = true) (w : World) : Calls Try.prog 154 #[.float .f32 x] w (fun e w' => ∃ r n, e = .returned (.tuple #[.int .i64 (floI x), .float .f32 r]) ∧ w' = w.drewN n ∧ Fl .f32 r (lefF x)) := by
  have hn := isF_not (smp_fin hs)
  have hcv := fun w => (cv_wideS hn w).1
  have hcn := (cv_wideS hn default).2
  have hfx := Fl.of lx
  have hfl := fun w => floor_any x hs w
  have hC := fun w => flo_conv x hs w
  obtain ⟨_, g1, g2⟩ := flo_int x hs
  have hL := Lib.hid (show lefF x = fop .sub .f32 (cn .f32 x) (fi (floI x)) from rfl)
  clear hs hn
  generalize floI x = u at *
  generalize rteB (sgn FloatKind.f32.format x) (floN (wide x)) = rb at *
  generalize wide x = y at *
  have hU := fiFl2 u
  go_enter Try.func154, Try.ntmps154
  go_wp2_with (first | (simp only [hcv, hcn, hC]) | fail)
  refine (hfl _).mono ?_
  rintro e w2 ⟨rfl, rfl⟩
  go_wp2_with (simp only [hC])
  go_ret2
  exact ⟨_, _, rfl, rfl, by rw [hL.out]; exact hfx.flR hU _⟩
theorem absS_any {r c : Nat} (h : Fl .f32 r c) (w1 : World) : Calls Try.prog 111 #[.float .f32 r] w1 (RFb .f32 (cn .f32 (c % 2147483648)) w1) := by
  have h' := Lib.hid h
  clear h
  go_enter Try.func111, Try.ntmps111
  go_wp2
  go_ret
  exact ⟨_, rfl, by first | exact Below.refl _ _ | exact below_drewN (Below.refl _ _) _ | exact below_drewN (below_drewN (Below.refl _ _) _) _, by rw [andNot_abs _ (cvR_lt' r w1)]; exact abs_narrow h'.out _ _⟩
theorem flK : Fl .f32 1148846080 1148846080 := ⟨by decide, by decide⟩
theorem le_smp {r x : Nat} (h : Fl .f32 r (cn .f32 (cn .f32 x % 2147483648))) : (FloatKind.f32.format.order r 1148846080 == some Ordering.lt || FloatKind.f32.format.order r 1148846080 == some Ordering.eq) = smpB x := by
  rw [h.order flK, order_sub_l (cn_cn .f32 (cn .f32 x % 2147483648)), ← smpB_cn x]
  exact le2_abs1000 (cn .f32 x)
theorem isSampled_any (x : Nat) (lx : x < width .f32) (w : World) : Calls Try.prog 153 #[.float .f32 x] w (RBb (smpB x) w) := by
  have hfx := Fl.of lx
  go_enter Try.func153, Try.ntmps153
  go_wp2_with fail
  refine (absS_any hfx _).mono ?_
  rintro e w2 ⟨r, rfl, hb2, hr⟩
  have hle := Lib.hid (le_smp hr)
  go_wp2_with fail
  go_ret
  exact ⟨by rw [← hle.out]; rfl, hb2⟩
theorem between_any {a b s ca cb cs : Nat} (ha : Fl .f32 a ca) (hb : Fl .f32 b cb) (hs : Fl .f32 s cs) (w : World) : Calls Try.prog 155 #[.float .f32 a, .float .f32 b, .float .f32 s] w (RFb .f32 (betF ca cb cs) w) := by
  go_enter Try.func155, Try.ntmps155
  go_wp2_with fail
  go_ret
  exact ⟨_, rfl, by ((repeat' (first | (refine bel_set ?_ ?_ _) | (refine bel_al ?_ ?_ _) | exact Below.refl _ _ | assumption | (refine below_drewN ?_ _) | (refine Below.drew ?_))) <;> (first | omega | (simp; done) | (simp; omega))), ha.flR (hs.flR (hb.flR ha _) _) _⟩
set_option maxRecDepth 100000 in
set_option maxHeartbeats 2000000 in
theorem btwCells_any (W H : Nat) (a : Option Addr) (n c : Nat) (cs : List Nat) (u v : Int) (s sc : Nat) (w : World) (hv : FC w (.slice a n c) cs) (b1 : 1 ≤ W) (b2 : W ≤ 24) (b3 : 1 ≤ H) (b4 : H ≤ 24) (hl : cs.length = H * W)
    (x1 : -1001 ≤ u) (x2 : u ≤ 1001) (y1 : -1001 ≤ v) (y2 : v ≤ 1001) (hs : Fl .f32 s sc) :
    Calls Try.prog 156 #[.agg #[.int .i64 W, .int .i64 H, .slice a n c], .int .i64 u, .int .i64 v, .float .f32 s] w (RFb .f32 (betF (atC W H cs u v) (atC W H cs (u + 1) v) sc) w) := by
  obtain ⟨V, hV⟩ : ∃ V, V = w.alloc (.cells #[.int .i64 W, .int .i64 H, .slice a n c] 47) := ⟨_, rfl⟩
  have hv1 : FC V (.slice a n c) cs := by rw [hV]; exact hv.alloc _
  have PV : Pv V w.heap.size W H (.slice a n c) := by rw [hV]; exact Pv.new _ _ _ _ _
  have bV : Below w.heap.size w V := by rw [hV]; exact below1 _ _
  have h1 := fun w2 (h : Below V.heap.size V w2) => about2_any W H (.slice a n c) cs u v w2 (hv1.below h) b1 b2 b3 b4 hl (by omega) (by omega) (by omega) (by omega)
  have h2 := fun w2 (h : Below V.heap.size V w2) => about2_any W H (.slice a n c) cs (u + 1) v w2 (hv1.below h) b1 b2 b3 b4 hl (by omega) (by omega) (by omega) (by omega)
  obtain ⟨g1, e1⟩ : ∃ g, g = atC W H cs u v := ⟨_, rfl⟩
  obtain ⟨g2, e2⟩ : ∃ g, g = atC W H cs (u + 1) v := ⟨_, rfl⟩
  rw [← e1, ← e2]
  rw [← e1] at h1
  rw [← e2] at h2
  have m1 : IntKind.i64.wrap (u + 1) = u + 1 := IntWalk.i64_in _ (by omega)
  obtain ⟨_, p0, p1, p2⟩ := PV
  clear hv hv1 hl e1 e2
  go_enter Try.func156, Try.ntmps156
  go_upto_region 1 with fail
  rw [← hV]
  clear hV
  refine wp_region_cls (by kernel_rfl) (by kernel_rfl) (by kernel_rfl) (by kernel_rfl) (fun w' => Below V.heap.size V w') (below_drewN (Below.refl _ _) 1) [Eq1 ?q2706u0, Eq1 ?q2706u1, Eq1 ?q2706u2, FloatIs .f32 (g1), Eq1 ?q2706u4, Eq1 ?q2706u5, Eq1 ?q2706u6, Eq1 ?q2706u7, FloatIs .f32 (g2), Eq1 ?q2706u9, FloatIs .f32 (betF g1 g2 sc), FloatIs .f32 (betF g1 g2 sc)] ?q2706main
  case q2706main =>
    (refine wpR_pure ?_ (fun w hw => ?_) ?_; rfl; (obtain ⟨hwc, hwf⟩ := bcell2 hw; go_simp; (try with_reducible rfl)); (try simp only [Act.put, List.setIfInBounds_toArray, List.set_cons_zero, List.set_cons_succ]))
    (refine wpR_pure ?_ (fun w hw => ?_) ?_; rfl; (obtain ⟨hwc, hwf⟩ := bcell2 hw; go_simp; (try with_reducible rfl)); (try simp only [Act.put, List.setIfInBounds_toArray, List.set_cons_zero, List.set_cons_succ]))
    (refine wpR_pure ?_ (fun w hw => ?_) ?_; rfl; (obtain ⟨hwc, hwf⟩ := bcell2 hw; go_simp; (try with_reducible rfl)); (try simp only [Act.put, List.setIfInBounds_toArray, List.set_cons_zero, List.set_cons_succ]))
    (refine wpR_cls ?_ (fun w hw => ?_) ?_; rfl; (go_simp; refine (h1 _ hw).mono ?_; rintro _ _ ⟨_, rfl, hcb, hcr⟩; exact ⟨_, rfl, ⟨_, rfl, hcr⟩, Below.trans hw (hcb.mono hw.size)⟩); (rintro _ ⟨_, rfl, _⟩; (try simp only [Act.put, List.setIfInBounds_toArray, List.set_cons_zero, List.set_cons_succ])))
    (refine wpR_pure ?_ (fun w hw => ?_) ?_; rfl; (obtain ⟨hwc, hwf⟩ := bcell2 hw; go_simp; (try with_reducible rfl)); (try simp only [Act.put, List.setIfInBounds_toArray, List.set_cons_zero, List.set_cons_succ]))
    (refine wpR_pure ?_ (fun w hw => ?_) ?_; rfl; (obtain ⟨hwc, hwf⟩ := bcell2 hw; go_simp; (try with_reducible rfl)); (try simp only [Act.put, List.setIfInBounds_toArray, List.set_cons_zero, List.set_cons_succ]))
    (refine wpR_pure ?_ (fun w hw => ?_) ?_; rfl; (obtain ⟨hwc, hwf⟩ := bcell2 hw; go_simp; (try with_reducible rfl)); (try simp only [Act.put, List.setIfInBounds_toArray, List.set_cons_zero, List.set_cons_succ]))
    (refine wpR_pure ?_ (fun w hw => ?_) ?_; rfl; (obtain ⟨hwc, hwf⟩ := bcell2 hw; go_simp; (try with_reducible rfl)); (try simp only [Act.put, List.setIfInBounds_toArray, List.set_cons_zero, List.set_cons_succ]))
    (refine wpR_cls ?_ (fun w hw => ?_) ?_; rfl; (go_simp; refine (h2 _ hw).mono ?_; rintro _ _ ⟨_, rfl, hcb, hcr⟩; exact ⟨_, rfl, ⟨_, rfl, hcr⟩, Below.trans hw (hcb.mono hw.size)⟩); (rintro _ ⟨_, rfl, _⟩; (try simp only [Act.put, List.setIfInBounds_toArray, List.set_cons_zero, List.set_cons_succ])))
    (refine wpR_pure ?_ (fun w hw => ?_) ?_; rfl; (obtain ⟨hwc, hwf⟩ := bcell2 hw; go_simp; (try with_reducible rfl)); (try simp only [Act.put, List.setIfInBounds_toArray, List.set_cons_zero, List.set_cons_succ]))
    (refine wpR_cls ?_ (fun w hw => ?_) ?_; rfl; (go_simp; refine (between_any (by assumption) (by assumption) hs _).mono ?_; rintro _ _ ⟨_, rfl, hcb, hcr⟩; exact ⟨_, rfl, ⟨_, rfl, hcr⟩, Below.trans hw (hcb.mono hw.size)⟩); (rintro _ ⟨_, rfl, _⟩; (try simp only [Act.put, List.setIfInBounds_toArray, List.set_cons_zero, List.set_cons_succ])))
    (refine wpR_cls ?_ (fun w hw => ?_) ?_; rfl; (go_simp; first | exact ⟨_, rfl, by assumption⟩ | exact ⟨hw, _, rfl, by assumption⟩); (rintro _ ⟨_, rfl, _⟩; (try simp only [Act.put, List.setIfInBounds_toArray, List.set_cons_zero, List.set_cons_succ])))
    refine wpR_nil ?_
    intro w' hw'
    go_wp2_with fail
    go_ret
    exact ⟨_, rfl, bV.trans (hw'.mono bV.size), by assumption⟩
theorem implSample_no1 (W H : Int) (a : Option Addr) (n c : Nat) (x y : Nat) (w : World) (hnc : n ≤ c) (hcm : c ≤ maxLen) (hval : validB W H n = false) :
    Calls Try.prog 89 #[.agg #[.int .i64 W, .int .i64 H, .slice a n c], .float .f32 x, .float .f32 y] w (RFBb 0 false w) := by
  have h1 := fun w1 => validPic_any W H (.slice a n c) n w1 ⟨a, c, rfl, hnc, hcm⟩
  have hval := Lib.hid hval
  clear hnc hcm
  go_enter Try.func89, Try.ntmps89
  go_wp2_with fail
  refine (h1 _).mono ?_
  rintro e w1 ⟨rfl, hb1⟩
  rw [hval.out]
  go_wp2_with fail
  go_ret2
  exact ⟨_, rfl, by ((repeat' (first | (refine bel_set ?_ ?_ _) | (refine bel_al ?_ ?_ _) | exact Below.refl _ _ | assumption | (refine below_drewN ?_ _) | (refine Below.drew ?_) | (refine Below.trans ?_ (Below.mono hb1 ?_)))) <;> (first | omega | (simp; done) | (simp; omega))), fl00⟩
end Go.Proofs.Ytnbilmlpngcobaa
