import Derived.Test.YtgfmcehgecbbaabBase
set_option linter.unusedVariables false
namespace Go.Proofs.Ytgfmcehgecbbaab
open Go.FX Go.RowKit

/-- The next greater number, by the bits. -/
def nextR (x : Nat) : Nat := if isN .f32 x = true then x else if x = 2139095040 then x else if x % 2147483648 = 0 then 1 else if x < 2147483648 then x + 1 else x - 1
theorem nextR_lt {x : Nat} (hx : x < 4294967296) : nextR x < width .f32 := by
  unfold nextR width
  by_cases hn : isN .f32 x = true
  · simp [hn]; omega
  · have hn' : isN .f32 x = false := by simpa using hn
    have hb := hn'
    rw [isN_f32] at hb; simp at hb
    simp only [hn', Bool.false_eq_true, if_false]
    repeat' split
    all_goals omega

theorem implNext_any (x : Nat) (w : World) (hx : x < 4294967296) : Calls Try.prog 43 #[.float .f32 x] w (RF .f32 (cn .f32 (nextR x)) w) := by
  have hl := nextR_lt hx
  by_cases hn : isN .f32 x = true
  · have e : Hid (nextR x = x) := Lib.hid (by unfold nextR; simp [hn])
    go_enter Try.func43, Try.ntmps43
    go_wp2
    go_ret
    exact RF.of0 (by rw [e.out] at hl; exact hl) (by rw [e.out])
  · have hn' : isN .f32 x = false := by simpa using hn
    have t0 := eq0 hn'
    have t1 := gt0 hn' hx
    have t2 := eqInf hn' hx
    have e0 : nextR x = if x = 2139095040 then x else if x % 2147483648 = 0 then 1 else if x < 2147483648 then x + 1 else x - 1 := by unfold nextR; simp [hn']
    have e : Hid _ := Lib.hid e0
    clear e0 hl
    have hl := nextR_lt hx
    have hb := hn'
    rw [isN_f32] at hb; simp only [decide_eq_false_iff_not, Nat.not_lt] at hb
    by_cases c1 : x = 2139095040
    · subst c1
      go_enter Try.func43, Try.ntmps43
      go_wp2
      go_ret
      exact RF.of0 (by decide) (by rw [e.out]; rfl)
    · go_enter Try.func43, Try.ntmps43
      go_wp2
      all_goals
        go_ret
        have e2 := e.out
        rw [if_neg c1] at e2
        first
          | (rw [if_pos (by assumption)] at e2; exact RF.of0 (by rw [← e2]; exact hl) (by rw [e2]))
          | (rw [if_neg (by assumption), if_pos (by omega)] at e2; exact RF.of0 (by rw [← e2]; exact hl) (by rw [e2]))
          | (rw [if_neg (by assumption), if_neg (by omega)] at e2; exact RF.of0 (by rw [← e2]; exact hl) (by rw [e2]))

theorem specNext_any (x : Nat) (w : World) (hx : x < 4294967296) : Calls Try.prog 42 #[.float .f32 x] w (RF .f32 (cn .f32 (nextR x)) w) := by
  have hl := nextR_lt hx
  by_cases hn : isN .f32 x = true
  · have e : Hid (nextR x = x) := Lib.hid (by unfold nextR; simp [hn])
    go_enter Try.func42, Try.ntmps42
    go_wp2
    go_ret
    exact RF.of0 (by rw [e.out] at hl; exact hl) (by rw [e.out])
  · have hn' : isN .f32 x = false := by simpa using hn
    have t0 := eq0 hn'
    have t1 := gt0 hn' hx
    have t2 := eqInf hn' hx
    have e0 : nextR x = if x = 2139095040 then x else if x % 2147483648 = 0 then 1 else if x < 2147483648 then x + 1 else x - 1 := by unfold nextR; simp [hn']
    have e : Hid _ := Lib.hid e0
    clear e0 hl
    have hl := nextR_lt hx
    have hb := hn'
    rw [isN_f32] at hb; simp only [decide_eq_false_iff_not, Nat.not_lt] at hb
    by_cases c1 : x = 2139095040
    · subst c1
      go_enter Try.func42, Try.ntmps42
      go_wp2
      go_ret
      exact RF.of0 (by decide) (by rw [e.out]; rfl)
    · go_enter Try.func42, Try.ntmps42
      go_wp2
      all_goals
        go_ret
        have e2 := e.out
        rw [if_neg c1] at e2
        first
          | (rw [if_pos (by assumption)] at e2; exact RF.of0 (by rw [← e2]; exact hl) (by rw [e2]))
          | (rw [if_neg (by assumption), if_pos (by omega)] at e2; exact RF.of0 (by rw [← e2]; exact hl) (by rw [e2]))
          | (rw [if_neg (by assumption), if_neg (by omega)] at e2; exact RF.of0 (by rw [← e2]; exact hl) (by rw [e2]))
end Go.Proofs.Ytgfmcehgecbbaab
