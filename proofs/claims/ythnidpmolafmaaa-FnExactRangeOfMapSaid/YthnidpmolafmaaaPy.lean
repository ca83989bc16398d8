import Derived.Test.YthnidpmolafmaaaPq
set_option linter.unusedVariables false
set_option linter.unusedSimpArgs false
namespace Go.FX
open Go Go.RowKit
/-! Ranks: a digit for each cell of the window but its middle. -/
def rkStep (B : Int → Int → Bool) (x y : Int) (r : Nat) (acc i : Nat) : Nat :=
  if i % (2 * r + 1) = r ∧ i / (2 * r + 1) = r then acc else acc * 2 + (if B (x - r + ((i % (2 * r + 1) : Nat) : Int)) (y - r + ((i / (2 * r + 1) : Nat) : Int)) then 1 else 0)
def rk (B : Int → Int → Bool) (x y : Int) (r k : Nat) : Nat := (List.range k).foldl (rkStep B x y r) 0
theorem rk_zero (B : Int → Int → Bool) (x y : Int) (r : Nat) : rk B x y r 0 = 0 := rfl
theorem rk_succ (B : Int → Int → Bool) (x y : Int) (r k : Nat) : rk B x y r (k + 1) = rkStep B x y r (rk B x y r k) k := by
  unfold rk; rw [List.range_succ, List.foldl_append]; rfl
theorem rk_lt (B : Int → Int → Bool) (x y : Int) (r : Nat) : ∀ k, rk B x y r k < 2 ^ k := by
  intro k
  induction k with
  | zero => simp [rk]
  | succ k ih =>
    rw [rk_succ, Nat.pow_succ]
    unfold rkStep
    split
    · omega
    · split <;> omega
theorem rk_bound (B : Int → Int → Bool) (x y : Int) (r k : Nat) (h : k ≤ 25) : rk B x y r k < 33554432 :=
  Nat.lt_of_lt_of_le (rk_lt B x y r k) (Nat.le_trans (Nat.pow_le_pow_right (by decide) h) (by decide))
theorem rk_at (B : Int → Int → Bool) (x y : Int) (r : Nat) {i j : Nat} (hi : i < 2 * r + 1) :
    rk B x y r (j * (2 * r + 1) + (i + 1)) = if i = r ∧ j = r then rk B x y r (j * (2 * r + 1) + i) else rk B x y r (j * (2 * r + 1) + i) * 2 + (if B (x - r + (i : Int)) (y - r + (j : Int)) then 1 else 0) := by
  rw [← Nat.add_assoc, rk_succ]
  unfold rkStep
  rw [place_mod j hi, place_div j hi]
def RIb (i : Int) (w : World) (e : Ending) (w' : World) : Prop := e = .returned (.int .i64 i) ∧ Below w.heap.size w w'
def RIBb (i : Int) (ok : Bool) (w : World) (e : Ending) (w' : World) : Prop := e = .returned (.tuple #[.int .i64 i, .bool ok]) ∧ Below w.heap.size w w'
theorem int_eq {a b : Int} (h : a = b) : Value.int .i64 a = .int .i64 b := by rw [h]
/-- Is the grey about a place less than that of the cell? -/
def lessC (W H : Nat) (cs : List Nat) (x y u v : Int) : Bool := FloatKind.f32.format.order (atC W H cs u v) (atC W H cs x y) == some Ordering.lt
end Go.FX
namespace Go.Proofs.Ythnidpmolafmaaa
open Go.FX Go.RowKit Go.WideShapes Go.ChangeShapes

end Go.Proofs.Ythnidpmolafmaaa
