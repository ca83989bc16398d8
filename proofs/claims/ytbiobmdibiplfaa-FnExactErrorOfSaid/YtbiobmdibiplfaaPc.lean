import Derived.Test.YtbiobmdibiplfaaPl
import Derived.Test.YtbiobmdibiplfaaPi
set_option linter.unusedVariables false
set_option linter.unusedSimpArgs false
namespace Go.FX
open Go Go.RowKit
theorem atC_lin {W H k : Nat} (cs : List Nat) (hW : 1 ≤ W) (hk : k < H * W) : atC W H cs ((k % W : Nat) : Int) ((k / W : Nat) : Int) = cs.getD k 0 := by
  have h1 : k % W < W := Nat.mod_lt _ (by omega)
  have h2 : k / W < H := Nat.div_lt_of_lt_mul (by rw [Nat.mul_comm]; exact hk)
  rw [atC_in cs (Int.natCast_nonneg _) (Int.ofNat_lt.2 h1) (Int.natCast_nonneg _) (Int.ofNat_lt.2 h2)]
  congr 1
  have := Nat.mod_add_div k W
  rw [show ((k % W : Nat) : Int) + (W : Int) * ((k / W : Nat) : Int) = ((k % W + W * (k / W) : Nat) : Int) by push_cast; rfl, this]; rfl
end Go.FX
namespace Go.Proofs.Ytbiobmdibiplfaa
open Go.FX Go.RowKit Go.WideShapes Go.ChangeShapes

end Go.Proofs.Ytbiobmdibiplfaa
