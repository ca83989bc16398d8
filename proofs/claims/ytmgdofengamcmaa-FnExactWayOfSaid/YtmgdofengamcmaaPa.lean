import Derived.Test.YtmgdofengamcmaaPd
set_option linter.unusedVariables false
set_option linter.unusedSimpArgs false
namespace Go.Proofs.Ytmgdofengamcmaa
open Go.FX Go.RowKit Go.WideShapes Go.ChangeShapes

theorem sizeB_mk {W H : Nat} (b1 : 1 ≤ W) (b2 : W ≤ 24) (b3 : 1 ≤ H) (b4 : H ≤ 24) (b5 : H * W ≤ 256) : sizeB W H = true := by
  have := validB_mk (n := H * W) b1 b2 b3 b4 b5 rfl
  unfold validB at this
  simp only [Bool.and_eq_true] at this
  exact this.1


end Go.Proofs.Ytmgdofengamcmaa
