import Derived.Test.YtekpmhgdofjhdaaPq
import Derived.Test.YtekpmhgdofjhdaaVg
import Derived.IntWalk
set_option linter.unusedVariables false
set_option linter.unusedSimpArgs false
namespace Go.FX
open Go Go.RowKit
def idxB (n m : Int) : Bool := decide (0 ≤ n ∧ n < m)
def inB (x lo hi : Int) : Bool := decide (lo ≤ x ∧ x ≤ hi)
theorem inB_idx (x m : Int) : inB x 0 (m - 1) = idxB x m := by unfold inB idxB; congr 1; simp; omega
theorem inB_deep (D : Int) : inB D 1 8 = deepB D := rfl
theorem quiet_add_same {P : Program} {f : FuncId} {args : Array Value} {w : World} {a n : Nat} {v : Value}
    (h : Calls P f args (w.drewN (a + n)) fun e w' => e = .returned v ∧ w' = w.drewN (a + n)) :
    Calls P f args (w.drewN (a + n)) fun e w'' => e = .returned v ∧ ∃ m, w'' = w.drewN (a + m) :=
  h.mono fun _ _ ⟨he, hm⟩ => ⟨he, n, hm⟩
end Go.FX
namespace Go.Proofs.Ytekpmhgdofjhdaa
open Go.FX Go.RowKit Go.WideShapes Go.ChangeShapes

theorem specIn_any (x lo hi : Int) (w : World) : Calls Try.prog 101 #[.int .i64 x, .int .i64 lo, .int .i64 hi] w fun e w' => e = .returned (.bool (inB x lo hi)) ∧ w' = w := by
  by_cases h1 : lo ≤ x
  · by_cases h2 : x ≤ hi
    all_goals
      go_enter Try.func101, Try.ntmps101
      go_wp2
      go_ret
      exact ⟨by simp [inB, h1, h2], rfl⟩
  · go_enter Try.func101, Try.ntmps101
    go_wp2
    go_ret
    exact ⟨by simp [inB]; intros; omega, rfl⟩

end Go.Proofs.Ytekpmhgdofjhdaa
