import Derived.Test.YtbiobmdibiplfaaPj
import Derived.Test.YtbiobmdibiplfaaRp
import Derived.IntWalk
set_option linter.unusedVariables false
set_option linter.unusedSimpArgs false
namespace Go.FX
open Go Go.RowKit Ieee
theorem le2_key {x y : Nat} (hx : isN .f32 x = false) (hy : isN .f32 y = false) : le2 x y = decide (key .f32 x ≤ key .f32 y) := by
  unfold le2
  rw [lt_key hx hy, eq_key hx hy, ← Bool.decide_or, decide_eq_decide]
  omega
theorem le2_nan_l {x y : Nat} (h : isN .f32 x = true) : le2 x y = false := by unfold le2; rw [order_nan_left h]; rfl
theorem le2_nan_r {x y : Nat} (h : isN .f32 y = true) : le2 x y = false := by unfold le2; rw [order_nan_right h]; rfl
theorem key_opp (x : Nat) : key .f32 (opp .f32 x) = - key .f32 x := by
  have h := opp_parts .f32 x
  unfold key
  rw [h.1, h.2]
  cases sgn FloatKind.f32.format x <;> simp
theorem key_abs (x : Nat) : key .f32 (x % 2147483648) = if key .f32 x < 0 then - key .f32 x else key .f32 x := by
  have h := abs_parts32 x
  unfold key
  rw [h.1, h.2]
  cases sgn FloatKind.f32.format x <;> simp <;> omega
/-- An absolute value is at most n just if the number and its opposite are. -/
theorem le2_abs (x n : Nat) : le2 (x % 2147483648) n = (le2 x n && le2 (neg .f32 x) n) := by
  by_cases hx : isN .f32 x = true
  · rw [le2_nan_l hx, le2_nan_l (by rw [isN_abs32]; exact hx)]; rfl
  · have hx : isN .f32 x = false := by simpa using hx
    by_cases hn : isN .f32 n = true
    · rw [le2_nan_r hn, le2_nan_r hn, le2_nan_r hn]; rfl
    · have hn : isN .f32 n = false := by simpa using hn
      have hg : neg .f32 x = opp .f32 x := by unfold neg; rw [hx]; rfl
      rw [hg, le2_key (by rw [isN_abs32]; exact hx) hn, le2_key hx hn, le2_key (by rw [isN_opp]; exact hx) hn, key_opp, key_abs, ← Bool.decide_and, decide_eq_decide]
      split <;> omega
/-- Is the absolute value of d at most n? -/
def nearB (d n : Nat) : Bool := le2 d n && le2 (neg .f32 d) n
theorem nearB_fl {d n dc nc : Nat} (hd : Fl .f32 d dc) (hn : Fl .f32 n nc) : nearB d n = nearB dc nc := by
  have e : neg .f32 d = neg .f32 dc := by rw [← hd.eq, neg_cn]
  unfold nearB le2
  rw [e, hd.order hn, show FloatKind.f32.format.order (neg .f32 dc) n = FloatKind.f32.format.order (neg .f32 dc) nc by rw [← hn.eq, ← order_cn _ (neg .f32 dc) n, ← order_cn _ (neg .f32 dc) (cn .f32 n), cn_cn]]
theorem near64 {d n : Nat} (w : World) :
    (FloatKind.f64.format.order (cvR .f32 d .f64 w % 9223372036854775808) (FX.wide n) == some Ordering.lt || FloatKind.f64.format.order (cvR .f32 d .f64 w % 9223372036854775808) (FX.wide n) == some Ordering.eq) = nearB d n := by
  unfold nearB
  rw [← le2_abs]
  unfold le2
  by_cases hn : isN .f32 n = true
  · rw [order_nan_right (by rw [isN_wide]; exact hn), order_nan_right hn]
  · rw [order_abs (cn_wideR d w) (by simpa using hn)]
/-- How many of the first are not near. -/
def cntN (F : Nat → Bool) : Nat → Nat
  | 0 => 0
  | k + 1 => cntN F k + (if F k then 0 else 1)
theorem cntN_le (F : Nat → Bool) : ∀ k, cntN F k ≤ k
  | 0 => Nat.le_refl _
  | k + 1 => by unfold cntN; have := cntN_le F k; split <;> omega
theorem cntN_yes {F : Nat → Bool} {k : Nat} (h : F k = true) : cntN F (k + 1) = cntN F k := by show cntN F k + (if F k then 0 else 1) = _; rw [h]; rfl
theorem cntN_no {F : Nat → Bool} {k : Nat} (h : F k = false) : cntN F (k + 1) = cntN F k + 1 := by show cntN F k + (if F k then 0 else 1) = _; rw [h]; rfl
def unF (cs cs' : List Nat) (nc : Nat) (k : Nat) : Bool := nearB (fop .sub .f32 (cs.getD k 0) (cs'.getD k 0)) nc
end Go.FX
namespace Go.Proofs.Ytbiobmdibiplfaa
open Go.FX Go.RowKit Go.WideShapes Go.ChangeShapes

end Go.Proofs.Ytbiobmdibiplfaa
