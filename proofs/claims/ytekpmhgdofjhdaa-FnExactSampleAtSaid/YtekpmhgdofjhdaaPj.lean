import Derived.Test.YtekpmhgdofjhdaaPl
import Derived.Test.YtekpmhgdofjhdaaPi
import Derived.Test.YtekpmhgdofjhdaaPq
import Derived.Test.YtekpmhgdofjhdaaRc
import Derived.IntWalk
set_option linter.unusedVariables false
set_option linter.unusedSimpArgs false
namespace Go.Proofs.Ytekpmhgdofjhdaa
open Go.FX Go.RowKit Go.WideShapes Go.ChangeShapes

/-- Two valid pictures of one size. -/
def pairB (W H : Int) (n : Nat) (W' H' : Int) (n' : Nat) : Bool := validB W H n && (validB W' H' n' && (decide (W = W') && decide (H = H')))
end Go.Proofs.Ytekpmhgdofjhdaa
