import Derived.Test.YtblaojflcemfdaaWa
import Derived.Deep.DrawnRows
set_option linter.unusedVariables false
set_option linter.unusedSimpArgs false
namespace Go.FX
open Go Go.RowKit
def scaledF (c b : Nat) : Nat := if holeB c then 3212836864 else fop .mul .f32 c b
theorem scaledF_l {c b : Nat} (h : holeB c = true) : scaledF c b = 3212836864 := by unfold scaledF; rw [h]; rfl
theorem scaledF_no {c b : Nat} (h : holeB c = false) : scaledF c b = fop .mul .f32 c b := by unfold scaledF; rw [h]; rfl
theorem flH : Fl .f32 1056964608 1056964608 := ⟨by decide, by decide⟩
theorem flT : Fl .f32 1073741824 1073741824 := ⟨by decide, by decide⟩
end Go.FX
namespace Go.Proofs.Ytblaojflcemfdaa
open Go.FX Go.RowKit Go.WideShapes Go.ChangeShapes
attribute [local go_sem ↓] Go.wp_at_zero Go.wp_at_succ

theorem scaled_any (v c b cb : Nat) (hv : Fl .f32 v c) (hb : Fl .f32 b cb) (w : World) : Calls Try.prog 72 #[.float .f32 v, .float .f32 b] w (RFb .f32 (scaledF c cb) w) := by
  have hh := Lib.hid (holeB_fl hv)
  cases hA : holeB c with
  | true =>
    have hA' := Lib.hid hA
    clear hA
    go_enter Try.func72, Try.ntmps72
    go_wp2_with fail
    refine (isHole_any _ _).mono ?_
    rintro e w' ⟨rfl, rfl⟩
    rw [hh.out, hA'.out]
    go_wp2_with fail
    go_ret
    exact ⟨_, rfl, Below.refl _ _, by rw [scaledF_l hA'.out]; exact flM1⟩
  | false =>
    have hA' := Lib.hid hA
    clear hA
    go_enter Try.func72, Try.ntmps72
    go_wp2_with fail
    refine (isHole_any _ _).mono ?_
    rintro e w' ⟨rfl, rfl⟩
    rw [hh.out, hA'.out]
    go_wp2_with fail
    go_ret
    exact ⟨_, rfl, below_drewN (Below.refl _ _) _, by rw [scaledF_no hA'.out]; exact hv.flR hb _⟩
end Go.Proofs.Ytblaojflcemfdaa
