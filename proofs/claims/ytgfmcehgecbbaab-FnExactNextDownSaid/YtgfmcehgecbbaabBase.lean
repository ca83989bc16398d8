import Derived.Test.YtgfmcehgecbbaabRows
import Derived.Test.YtgfmcehgecbbaabFo
import Derived.WalkKit
import Derived.WalkLawsBesides
import Derived.WalkSpells
import Derived.ProofKit
import Derived.OpenShut
import Derived.ShutString
import Derived.ChangeOld
import Derived.Below
import Derived.Lib.Hide
namespace Go.Proofs.Ytgfmcehgecbbaab
open Go.FX Go.RowKit

theorem own : ownKnob Try.prog.godebug = none := by kernel_rfl
theorem laidOut : laidOutB Try.prog = true := by kernel_rfl
@[go_sem] theorem run_f32bits (b : Nat) (w : World) : (callFunc 55 #[.float .f32 b]).run Try.prog w = .ok (.value (.int .u32 b)) w := by kernel_rfl
@[go_sem] theorem run_f32from (n : Int) (w : World) : (callFunc 54 #[.int .u32 n]).run Try.prog w = .ok (.value (.float .f32 n.toNat)) w := by kernel_rfl
@[go_sem] theorem run_f64bits (b : Nat) (w : World) : (callFunc 74 #[.float .f64 b]).run Try.prog w = .ok (.value (.int .u64 b)) w := by kernel_rfl
@[go_sem] theorem run_f64from (n : Int) (w : World) : (callFunc 73 #[.int .u64 n]).run Try.prog w = .ok (.value (.float .f64 n.toNat)) w := by kernel_rfl

/-- Two floats of one canonical value are the same. -/
theorem sameFloat_any {a b c : Nat} (ha : Fl .f64 a c) (hb : Fl .f64 b c) (w : World) : Calls Try.prog 17 #[.float .f64 a, .float .f64 b] w (RB true w) := by
  by_cases hn : isN .f64 c = true
  · have h1 : isN .f64 a = true := by rw [← isN_cn, ha.eq]; exact hn
    have h2 : isN .f64 b = true := by rw [← isN_cn, hb.eq]; exact hn
    go_enter Try.func17, Try.ntmps17
    go_wp2
    go_ret
    exact ⟨0, rfl, rfl⟩
  · have h1 : isN .f64 a = false := by rw [← isN_cn, ha.eq]; simpa using hn
    have h2 : isN .f64 b = false := by rw [← isN_cn, hb.eq]; simpa using hn
    obtain rfl : a = b := by
      have e1 := ha.eq
      have e2 := hb.eq
      rw [cn_of_not h1] at e1
      rw [cn_of_not h2] at e2
      rw [e1, e2]
    go_enter Try.func17, Try.ntmps17
    go_wp2
    all_goals (go_ret; first | exact ⟨_, rfl, rfl⟩ | exact ⟨0, rfl, rfl⟩ | exact ⟨_, by simp, rfl⟩)

theorem isNaN_any (x : Nat) (w : World) : Calls Try.prog 59 #[.float .f32 x] w (fun e w' => e = .returned (.bool (isN .f32 x)) ∧ w = w') := by
  go_enter Try.func59, Try.ntmps59
  go_wp2
  go_ret
  exact ⟨rfl, rfl⟩
end Go.Proofs.Ytgfmcehgecbbaab
