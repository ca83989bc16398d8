import Derived.Test.YtmbohiebjgafoaaPa
import Derived.Deep.DeepCutAuto
import Derived.Deep.QuietTactic
import Derived.BigQuiet
set_option linter.unusedVariables false
set_option linter.unusedSimpArgs false
namespace Go.Proofs.Ytmbohiebjgafoaa
open Go.FX Go.RowKit Go.WideShapes Go.ChangeShapes

theorem specSize_any (W H : Int) (w : World) : Calls Try.prog 80 #[.int .i64 W, .int .i64 H] w fun e w' => e = .returned (.bool (sizeB W H)) ∧ w = w' := by
  by_cases h1 : 1 ≤ W
  · by_cases h2 : W ≤ 24
    · by_cases h3 : 1 ≤ H
      · by_cases h4 : H ≤ 24
        · have a1 := area_lo h1 h3
          have a2 := area_hi h1 h2 h3 h4
          by_cases h5 : W * H ≤ 256
          all_goals
            go_enter Try.func80, Try.ntmps80
            go_wp2
            go_ret
            exact ⟨by simp [sizeB, h1, h2, h3, h4, h5], rfl⟩
        · go_enter Try.func80, Try.ntmps80
          go_wp2
          go_ret
          exact ⟨by simp [sizeB]; intros; omega, rfl⟩
      · go_enter Try.func80, Try.ntmps80
        go_wp2
        go_ret
        exact ⟨by simp [sizeB]; intros; omega, rfl⟩
    · go_enter Try.func80, Try.ntmps80
      go_wp2
      go_ret
      exact ⟨by simp [sizeB]; intros; omega, rfl⟩
  · go_enter Try.func80, Try.ntmps80
    go_wp2
    go_ret
    exact ⟨by simp [sizeB]; intros; omega, rfl⟩

set_option maxHeartbeats 1000000 in
theorem specIs_any (W H : Int) (a : Option Addr) (n c b : Nat) (w : World) (hp : Pv w b W H (.slice a n c)) (hn : n ≤ 9223372036854775807) :
    Calls Try.prog 68 #[.pointer (some ⟨b, 0, none⟩)] w (RB (validB W H n) w) := by
  obtain ⟨hb, q0, q1, q2⟩ := hp
  cases hs : sizeB W H with
  | true =>
    obtain ⟨g1, g2, g3, g4, g5⟩ := sizeB_iff.1 hs
    have a1 := area_lo g1 g3
    by_cases h5 : (n : Int) = W * H
    all_goals
      go_enter Try.func68, Try.ntmps68
      go_wp2_with fail
      go_quiet ((go_at_call 80; exact Calls.quiet_of_same ((specSize_any _ _ _).mono fun _ _ ⟨he, hw⟩ => ⟨he.trans (by rw [hs]), hw.symm⟩)))
      go_wp2
      go_ret
      exact ⟨_, by simp [validB, hs, h5], rfl⟩
  | false =>
    go_enter Try.func68, Try.ntmps68
    go_wp2_with fail
    go_quiet ((go_at_call 80; exact Calls.quiet_of_same ((specSize_any _ _ _).mono fun _ _ ⟨he, hw⟩ => ⟨he.trans (by rw [hs]), hw.symm⟩)))
    go_wp2
    go_ret
    exact ⟨_, by simp [validB, hs], rfl⟩

theorem l00Min_eq (a b r : Int) (hr : r = if a < b then a else b) (w : World) : Calls Try.prog 114 #[.int .i64 a, .int .i64 b] w fun e w' => e = .returned (.int .i64 r) ∧ w' = w := by
  subst hr
  by_cases h : a < b
  all_goals
    go_enter Try.func114, Try.ntmps114
    go_wp2
    go_ret
    exact ⟨by simp [h], rfl⟩
theorem l00Max_eq (a b r : Int) (hr : r = if b < a then a else b) (w : World) : Calls Try.prog 113 #[.int .i64 a, .int .i64 b] w fun e w' => e = .returned (.int .i64 r) ∧ w' = w := by
  subst hr
  by_cases h : b < a
  all_goals
    go_enter Try.func113, Try.ntmps113
    go_wp2
    go_ret
    exact ⟨by simp [h], rfl⟩

end Go.Proofs.Ytmbohiebjgafoaa
