import Derived.Test.YtbiobmdibiplfaaVa
import Derived.OwnWalk
import Derived.Shelf.Abstract
set_option linter.unusedVariables false
set_option linter.unusedSimpArgs false
namespace Go.FX
open Go Go.RowKit
/-- What is asked of a function value that tells costs. -/
def CostFn (P : Program) (g : Nat) (first cap : Array Value) (W H D : Nat) (G : Nat → Nat → Nat → Nat) (w : World) : Prop :=
  ∀ (w1 : World) (x y d : Nat), Below w.heap.size w w1 → x < W → y < H → d < D → Calls P g (first ++ (#[.int .i64 x, .int .i64 y, .int .i64 d] ++ cap)) w1 (RFb .f32 (G x y d) w1)
theorem CostFn.later {P : Program} {g : Nat} {first cap : Array Value} {W H D : Nat} {G : Nat → Nat → Nat → Nat} {w w' : World} (h : CostFn P g first cap W H D G w) (hb : Below w.heap.size w w') : CostFn P g first cap W H D G w' :=
  fun w1 x y d h1 hx hy hd => h w1 x y d (hb.trans (h1.mono hb.size)) hx hy hd
end Go.FX
namespace Go.Proofs.Ytbiobmdibiplfaa
open Go.FX Go.RowKit Go.WideShapes Go.ChangeShapes

end Go.Proofs.Ytbiobmdibiplfaa
