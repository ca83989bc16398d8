import Derived.Test.YtbiobmdibiplfaaVf
import Derived.Test.YtbiobmdibiplfaaVb
import Derived.Deep.DrawnRows
set_option linter.unusedVariables false
set_option linter.unusedSimpArgs false
namespace Go.FX
open Go Go.RowKit
theorem keepOf {W w' : World} (h : Below W.heap.size W w') : Below W.heap.size W w' ∧ W.heap.size ≤ w'.heap.size ∧ (∀ b o, b < W.heap.size → w'.cell? ⟨b, o, none⟩ = W.cell? ⟨b, o, none⟩) := ⟨h, h.size, (bcell h).1⟩
end Go.FX
namespace Go.Proofs.Ytbiobmdibiplfaa
open Go.FX Go.RowKit Go.WideShapes Go.ChangeShapes
attribute [local go_sem ↓] Go.wp_at_zero Go.wp_at_succ

end Go.Proofs.Ytbiobmdibiplfaa
