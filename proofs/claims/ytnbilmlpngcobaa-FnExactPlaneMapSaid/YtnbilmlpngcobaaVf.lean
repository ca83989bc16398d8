import Derived.Test.YtnbilmlpngcobaaVa
import Derived.Test.YtnbilmlpngcobaaPl
import Derived.Test.YtnbilmlpngcobaaPi
set_option linter.unusedVariables false
set_option linter.unusedSimpArgs false
namespace Go.FX
open Go Go.RowKit
/-- A variable that was made by a literal of two integers, its slice nil. -/
theorem Mk.start0 {E T : TypeId} {w0 : World} {W H : Int} : Mk E w0 w0.heap.size W H [] (w0.alloc (.cells #[.int .i64 W, .int .i64 H, .slice none 0 0] T)) :=
  ⟨none, 0, 0, Nv.new w0 _ _ _ T, OC.nil _ _ _, fun e => by simp [Value.ownBlock] at e, Nat.le_refl _, below1 w0 _⟩
end Go.FX
namespace Go.Proofs.Ytnbilmlpngcobaa
open Go.FX Go.RowKit Go.WideShapes Go.ChangeShapes

end Go.Proofs.Ytnbilmlpngcobaa
