import Derived.Test.YtgfmcehgecbbaabBase
set_option linter.unusedVariables false
namespace Go.Proofs.Ytgfmcehgecbbaab
open Go.FX Go.RowKit

def flushR (x : Nat) : Nat := if x % 2147483648 < 8388608 then x / 2147483648 * 2147483648 else x

theorem specFlush_any (x : Nat) (w : World) (hx : x < 4294967296) : Calls Try.prog 53 #[.float .f32 x] w (RF .f32 (cn .f32 (flushR x)) w) := by
  by_cases hn : isN .f32 x = true
  · have e : Hid (flushR x = x) := Lib.hid (by
      have hn' := hn
      rw [isN_f32] at hn'; simp at hn'
      unfold flushR; rw [if_neg (by omega)])
    have t : (bits BinOp.and IntKind.i64 2143289344 2139095040 == 0) = false := by decide
    go_enter Try.func53, Try.ntmps53
    go_wp2
    go_ret
    rw [e.out]
    exact RF.of0 hx rfl
  · have hn' : isN .f32 x = false := by simpa using hn
    have t0 := exp_zero hx
    have t1 := sign_i64 hx
    by_cases c : x % 2147483648 < 8388608
    · have e : Hid (flushR x = x / 2147483648 * 2147483648) := Lib.hid (by unfold flushR; rw [if_pos c])
      go_enter Try.func53, Try.ntmps53
      go_wp2
      go_ret
      rw [e.out]
      refine RF.of0 ?_ ?_
      · show _ < 4294967296
        omega
      · congr 1 <;> omega
    · have e : Hid (flushR x = x) := Lib.hid (by unfold flushR; rw [if_neg c])
      go_enter Try.func53, Try.ntmps53
      go_wp2
      go_ret
      rw [e.out]
      exact RF.of0 hx rfl

/-- Whether a number is subnormal. -/
def isSub (x : Nat) : Bool := decide (x % 2147483648 ≠ 0 ∧ x % 2147483648 < 8388608)
theorem implSub_any (x : Nat) (w : World) (hx : x < 4294967296) : Calls Try.prog 31 #[.float .f32 x] w (RB (isSub x) w) := by
  by_cases hn : isN .f32 x = true
  · have hn2 := hn
    rw [isN_f32] at hn2; simp at hn2
    have t0 : (FloatKind.f32.format.order x 0 != some Ordering.eq) = true := by rw [order_nan_left hn]; rfl
    have e : Hid (isSub x = false) := Lib.hid (by unfold isSub; simp; omega)
    go_enter Try.func31, Try.ntmps31
    go_wp2
    all_goals (go_ret; exact RB.of (by rw [e.out]; simp; omega))
  · have hn' : isN .f32 x = false := by simpa using hn
    by_cases c0 : x % 2147483648 = 0
    · have t0 : (FloatKind.f32.format.order x 0 != some Ordering.eq) = false := by
        have := eq0 hn'
        simp only [bne, this]; simp [c0]
      have e : Hid (isSub x = false) := Lib.hid (by unfold isSub; simp; omega)
      go_enter Try.func31, Try.ntmps31
      go_wp2
      all_goals (go_ret; first | exact RB.of0 (by rw [e.out]) | exact RB.of (by rw [e.out]))
    · have t0 : (FloatKind.f32.format.order x 0 != some Ordering.eq) = true := by
        have := eq0 hn'
        simp only [bne, this]; simp [c0]
      have e : Hid (isSub x = decide (x % 2147483648 < 8388608)) := Lib.hid (by unfold isSub; simp [c0])
      go_enter Try.func31, Try.ntmps31
      go_wp2
      all_goals (go_ret; exact RB.of (by rw [e.out]))

theorem implFlush_any (x : Nat) (w : World) (hx : x < 4294967296) : Calls Try.prog 29 #[.float .f32 x] w (RF .f32 (cn .f32 (flushR x)) w) := by
  have t1 := sign_u32 hx
  by_cases c : isSub x = true
  · have c2 := c
    unfold isSub at c2; simp only [decide_eq_true_eq] at c2
    have e : Hid (flushR x = x / 2147483648 * 2147483648) := Lib.hid (by unfold flushR; rw [if_pos (by omega)])
    go_enter Try.func29, Try.ntmps29
    go_wp2_with (first | (go_at_call 31; refine (implSub_any _ _ hx).mono ?_; rintro e w' ⟨n, rfl, rfl⟩) | go_in)
    go_ret
    rw [e.out]
    refine RF.of ?_ ?_
    · show _ < 4294967296
      omega
    · congr 1 <;> omega
  · have c' : isSub x = false := by simpa using c
    have c2 := c'
    unfold isSub at c2; simp only [decide_eq_false_iff_not] at c2
    have e : Hid (flushR x = x) := Lib.hid (by unfold flushR; split <;> omega)
    clear c2
    go_enter Try.func29, Try.ntmps29
    go_wp2_with (first | (go_at_call 31; refine (implSub_any _ _ hx).mono ?_; rintro e w' ⟨n, rfl, rfl⟩) | go_in)
    go_ret
    rw [e.out]
    exact RF.of hx rfl

theorem specSub_any (x : Nat) (w : World) (hx : x < 4294967296) : Calls Try.prog 30 #[.float .f32 x] w (RB (isSub x) w) := by
  by_cases hn : isN .f32 x = true
  · have hn2 := hn
    rw [isN_f32] at hn2; simp at hn2
    have t0 : (FloatKind.f32.format.order x 0 != some Ordering.eq) = true := by rw [order_nan_left hn]; rfl
    have t : (bits BinOp.and IntKind.i64 2143289344 2139095040 == 0) = false := by decide
    have e : Hid (isSub x = false) := Lib.hid (by unfold isSub; simp; omega)
    go_enter Try.func30, Try.ntmps30
    go_wp2
    all_goals (go_ret; exact RB.of0 (by rw [e.out]))
  · have hn' : isN .f32 x = false := by simpa using hn
    have t1 := exp_zero hx
    by_cases c0 : x % 2147483648 = 0
    · have t0 : (FloatKind.f32.format.order x 0 != some Ordering.eq) = false := by
        have := eq0 hn'
        simp only [bne, this]; simp [c0]
      have e : Hid (isSub x = false) := Lib.hid (by unfold isSub; simp; omega)
      go_enter Try.func30, Try.ntmps30
      go_wp2
      all_goals (go_ret; exact RB.of0 (by rw [e.out]))
    · have t0 : (FloatKind.f32.format.order x 0 != some Ordering.eq) = true := by
        have := eq0 hn'
        simp only [bne, this]; simp [c0]
      have e : Hid (isSub x = decide (x % 2147483648 < 8388608)) := Lib.hid (by unfold isSub; simp [c0])
      go_enter Try.func30, Try.ntmps30
      go_wp2
      all_goals (go_ret; exact RB.of0 (by rw [e.out]))
end Go.Proofs.Ytgfmcehgecbbaab
