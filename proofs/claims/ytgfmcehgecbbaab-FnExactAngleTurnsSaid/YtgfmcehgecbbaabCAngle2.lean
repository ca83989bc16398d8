import Derived.Test.YtgfmcehgecbbaabCAngle
set_option linter.unusedVariables false
set_option linter.unusedSimpArgs false
namespace Go.Proofs.Ytgfmcehgecbbaab
open Go.FX Go.RowKit

set_option maxHeartbeats 1000000 in
theorem implAngle_any (y x : Nat) (w : World) (ly : y < 4294967296) (lx : x < 4294967296) (fy : isF .f32 y = true) (fx : isF .f32 x = true) (hz : ¬ (x % 2147483648 = 0 ∧ y % 2147483648 = 0)) :
    Calls Try.prog 41 #[.float .f32 y, .float .f32 x] w (RF .f32 (cv .f64 .f32 (angS (FX.wide y) (FX.wide x))) w) := by
  have cx := cvR_fin fx
  have cy := cvR_fin fy
  have ax := andNot_abs _ (wide_lt x)
  have ay := andNot_abs _ (wide_lt y)
  have tx := fin_abs (wide_canon x)
  have ty := fin_abs (wide_canon y)
  rw [fx] at tx
  rw [fy] at ty
  have nx := isN_wide x
  have ny := isN_wide y
  rw [isF_not fx] at nx
  rw [isF_not fy] at ny
  have hx' : Fl .f64 (FX.wide x % 9223372036854775808) (FX.wide x % 9223372036854775808) := ⟨Nat.lt_of_le_of_lt (Nat.mod_le _ _) (wide_lt x), cn_of_not (by rw [isN_abs]; exact nx)⟩
  have hy' : Fl .f64 (FX.wide y % 9223372036854775808) (FX.wide y % 9223372036854775808) := ⟨Nat.lt_of_le_of_lt (Nat.mod_le _ _) (wide_lt y), cn_of_not (by rw [isN_abs]; exact ny)⟩
  have zx := eq0 (isF_not fx)
  have zy := eq0 (isF_not fy)
  have hov : cvOver .f64 .f32 (angS (FX.wide y) (FX.wide x)) = false := (angS_le (wide_fin fy) (wide_fin fx)).not_over (by omega)
  have key : ∀ r w1, Fl .f64 r (angS (FX.wide y) (FX.wide x)) → Fl .f32 (cvR .f64 r .f32 w1) (cv .f64 .f32 (angS (FX.wide y) (FX.wide x))) := fun r w1 h => h.narrow hov w1
  have hkey := Lib.hid key
  have ox := order_wide0 x
  have oy := order_wide0 y
  clear key hov nx ny
  by_cases h0 : x % 2147483648 = 0
  all_goals by_cases h1 : (FloatKind.f32.format.order x 0 == some Ordering.lt) = true
  all_goals by_cases h2 : (FloatKind.f32.format.order y 0 == some Ordering.lt) = true
  all_goals
    have hang : Hid (angS (FX.wide y) (FX.wide x) = _) := Lib.hid (by unfold angS; simp only [ox, oy, h1, h2, if_true, if_false, Bool.false_eq_true]; rfl)
    have hzz : x % 2147483648 = 0 → y % 2147483648 ≠ 0 := fun h h' => hz ⟨h, h'⟩
    go_enter Try.func41, Try.ntmps41
    go_wp2_with (first | (go_at_call 70; refine (implQ_any _ _ _ hy' hx').mono ?_; rintro e w' ⟨r, n, rfl, rfl, hr⟩) | go_in)
    go_ret
    refine ⟨_, _, rfl, rfl, ?_⟩
    refine hkey.out _ _ ?_
    rw [hang.out]
    first
      | exact hr
      | exact Fl.neg hr
      | exact (fl_lit (by decide)).flR hr _
      | exact Fl.neg ((fl_lit (by decide)).flR hr _)
end Go.Proofs.Ytgfmcehgecbbaab
