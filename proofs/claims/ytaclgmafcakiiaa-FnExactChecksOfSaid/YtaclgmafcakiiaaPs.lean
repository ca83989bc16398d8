import Derived.Test.YtaclgmafcakiiaaPa
import Derived.Deep.DeepCutAuto
import Derived.Deep.QuietTactic
import Derived.BigQuiet
set_option linter.unusedVariables false
set_option linter.unusedSimpArgs false
namespace Go.Proofs.Ytaclgmafcakiiaa
open Go.FX Go.RowKit Go.WideShapes Go.ChangeShapes

theorem specSize_any (W H : Int) (w : World) : Calls Try.prog 44 #[.int .i64 W, .int .i64 H] w fun e w' => e = .returned (.bool (sizeB W H)) ∧ w = w' := by
  by_cases h1 : 1 ≤ W
  · by_cases h2 : W ≤ 24
    · by_cases h3 : 1 ≤ H
      · by_cases h4 : H ≤ 24
        · have a1 := area_lo h1 h3
          have a2 := area_hi h1 h2 h3 h4
          by_cases h5 : W * H ≤ 256
          all_goals
            go_enter Try.func44, Try.ntmps44
            go_wp2
            go_ret
            exact ⟨by simp [sizeB, h1, h2, h3, h4, h5], rfl⟩
        · go_enter Try.func44, Try.ntmps44
          go_wp2
          go_ret
          exact ⟨by simp [sizeB]; intros; omega, rfl⟩
      · go_enter Try.func44, Try.ntmps44
        go_wp2
        go_ret
        exact ⟨by simp [sizeB]; intros; omega, rfl⟩
    · go_enter Try.func44, Try.ntmps44
      go_wp2
      go_ret
      exact ⟨by simp [sizeB]; intros; omega, rfl⟩
  · go_enter Try.func44, Try.ntmps44
    go_wp2
    go_ret
    exact ⟨by simp [sizeB]; intros; omega, rfl⟩

theorem l00Min_eq (a b r : Int) (hr : r = if a < b then a else b) (w : World) : Calls Try.prog 63 #[.int .i64 a, .int .i64 b] w fun e w' => e = .returned (.int .i64 r) ∧ w' = w := by
  subst hr
  by_cases h : a < b
  all_goals
    go_enter Try.func63, Try.ntmps63
    go_wp2
    go_ret
    exact ⟨by simp [h], rfl⟩
end Go.Proofs.Ytaclgmafcakiiaa
