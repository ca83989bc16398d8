import Derived.Test.YtbiobmdibiplfaaPa
import Derived.Deep.DeepCutAuto
set_option linter.unusedVariables false
set_option linter.unusedSimpArgs false
namespace Go.FX
open Go Go.RowKit
theorem keepDrewN {n : Nat} {W1 W : World} (hS : Below n W1 W ∧ n ≤ W.heap.size ∧ (∀ b o, b < n → W.cell? ⟨b, o, none⟩ = W1.cell? ⟨b, o, none⟩)) (k : Nat) :
    Below n W1 (W.drewN k) ∧ n ≤ (W.drewN k).heap.size ∧ (∀ b o, b < n → (W.drewN k).cell? ⟨b, o, none⟩ = W1.cell? ⟨b, o, none⟩) := ⟨below_drewN hS.1 k, hS.2.1, hS.2.2⟩
end Go.FX
namespace Go.Proofs.Ytbiobmdibiplfaa
open Go.FX Go.RowKit Go.WideShapes Go.ChangeShapes

theorem half_any {x c : Nat} (w : World) (hx : Fl .f32 x c) : Calls Try.prog 159 #[.float .f32 x] w (RFb .f32 (fop .mul .f32 c 1056964608) w) := by
  have h5 : Fl .f32 1056964608 1056964608 := ⟨by decide, by decide⟩
  go_enter Try.func159, Try.ntmps159
  go_wp2
  go_ret
  exact ⟨_, rfl, below_drewN (Below.refl _ _) _, hx.flR h5 _⟩

end Go.Proofs.Ytbiobmdibiplfaa
