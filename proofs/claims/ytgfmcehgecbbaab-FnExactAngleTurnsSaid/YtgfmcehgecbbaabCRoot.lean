import Derived.Test.YtgfmcehgecbbaabBase
import Derived.Test.YtgfmcehgecbbaabFb
set_option linter.unusedVariables false
set_option linter.unusedSimpArgs false
namespace Go.Proofs.Ytgfmcehgecbbaab
open Go.FX Go.RowKit

@[go_sem] theorem run_msqrt (b : Nat) (w : World) : (callFunc 78 #[.float .f64 b]).run Try.prog w = .ok (.value (.float .f64 (sqR b w))) (w.drewN (sqN b)) := by
  rw [run_callFunc_extern (e := Extern.MathSqrt.sqrt) Try.func78 (by kernel_rfl) (by kernel_rfl) (by kernel_rfl) (by kernel_rfl), run_sqrt_ext]
  rfl
theorem implRoot_any {x c : Nat} (w : World) (h : Fl .f32 x c) : Calls Try.prog 37 #[.float .f32 x] w (RF .f32 (rootF c) w) := by
  go_enter Try.func37, Try.ntmps37
  go_wp2
  go_ret
  exact ⟨_, _, rfl, rfl, h.root _ _ _⟩
theorem l01Sqrt_any {x c : Nat} (w : World) (h : Fl .f32 x c) : Calls Try.prog 64 #[.float .f32 x] w (RF .f32 (rootF c) w) := by
  go_enter Try.func64, Try.ntmps64
  go_wp2
  go_ret
  exact ⟨_, _, rfl, rfl, h.root _ _ _⟩
end Go.Proofs.Ytgfmcehgecbbaab
