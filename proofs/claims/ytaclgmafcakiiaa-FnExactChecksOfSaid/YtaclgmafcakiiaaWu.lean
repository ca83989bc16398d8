import Derived.Test.YtaclgmafcakiiaaWy
import Derived.ChangeKeysEq
set_option linter.unusedVariables false
set_option linter.unusedSimpArgs false
namespace Go.FX
open Go Go.RowKit
def feq (a b : Nat) : Bool := FloatKind.f32.format.order a b == some Ordering.eq
/-- Are the arrays of the first eight equal? -/
def eq8 (xs ys : List Nat) : Bool := feq (xs.getD 0 0) (ys.getD 0 0) && (feq (xs.getD 1 0) (ys.getD 1 0) && (feq (xs.getD 2 0) (ys.getD 2 0) && (feq (xs.getD 3 0) (ys.getD 3 0) && (feq (xs.getD 4 0) (ys.getD 4 0) && (feq (xs.getD 5 0) (ys.getD 5 0) && (feq (xs.getD 6 0) (ys.getD 6 0) && feq (xs.getD 7 0) (ys.getD 7 0)))))))
theorem run_part_float {P : Program} {e : TypeId} {k : FloatKind} (hu : P.underlying e = some (.float k)) (xs : Array Value) (off : Nat) (v : Value) (hx : xs[off]? = some v) (w : World) : (part e xs off).run P w = .ok v w := by
  simp [part, isAgg, run_underlying hu, hx]
theorem run_equal_float {P : Program} {e : TypeId} (hu : P.underlying e = some (.float .f32)) (d a b : Nat) (w : World) : (Op.equalIn (d + 1) e (.float .f32 a) (.float .f32 b)).run P w = .ok (feq a b) w := by
  simp [Op.equalIn, run_underlying hu, Op.floatEq, feq]
theorem run_eqItems_step {P : Program} {e : TypeId} (hu : P.underlying e = some (.float .f32)) (d : Nat) (xs ys : Array Value) (i a b : Nat) (is : List Nat) (w : World) (hx : xs[i * 1]? = some (.float .f32 a)) (hy : ys[i * 1]? = some (.float .f32 b)) (r : Bool)
    (h : (Op.eqItems (d + 1) e 1 xs ys is).run P w = .ok r w) : (Op.eqItems (d + 1) e 1 xs ys (i :: is)).run P w = .ok (feq a b && r) w := by
  simp only [Op.eqItems, Sem.run_bind, run_part_float hu xs _ _ hx, run_part_float hu ys _ _ hy, run_equal_float hu, Result.andThen_ok]
  cases feq a b with
  | true => simpa using h
  | false => simp
theorem run_eq8 {P : Program} {t e : TypeId} {i : TypeInfo} (ht : P.underlying t = some (.array 8 e)) (hu : P.underlying e = some (.float .f32)) (hi : P.info? e = some i) (hc : P.cellsOf e = 1) (xs ys : List Nat) (w : World) :
    (Op.equalIn 10000 t (arr8 xs) (arr8 ys)).run P w = .ok (eq8 xs ys) w := by
  unfold arr8
  rw [run_equalIn_array w 9999 _ _ ht hi, hc]
  show (Op.eqItems 9999 e 1 _ _ [0, 1, 2, 3, 4, 5, 6, 7]).run P w = _
  unfold eq8
  refine run_eqItems_step hu 9998 _ _ 0 _ _ _ w rfl rfl _ ?_
  refine run_eqItems_step hu 9998 _ _ 1 _ _ _ w rfl rfl _ ?_
  refine run_eqItems_step hu 9998 _ _ 2 _ _ _ w rfl rfl _ ?_
  refine run_eqItems_step hu 9998 _ _ 3 _ _ _ w rfl rfl _ ?_
  refine run_eqItems_step hu 9998 _ _ 4 _ _ _ w rfl rfl _ ?_
  refine run_eqItems_step hu 9998 _ _ 5 _ _ _ w rfl rfl _ ?_
  refine run_eqItems_step hu 9998 _ _ 6 _ _ _ w rfl rfl _ ?_
  have := run_eqItems_step hu 9998 (#[Value.float .f32 (xs.getD 0 0), .float .f32 (xs.getD 1 0), .float .f32 (xs.getD 2 0), .float .f32 (xs.getD 3 0), .float .f32 (xs.getD 4 0), .float .f32 (xs.getD 5 0), .float .f32 (xs.getD 6 0), .float .f32 (xs.getD 7 0)]) (#[Value.float .f32 (ys.getD 0 0), .float .f32 (ys.getD 1 0), .float .f32 (ys.getD 2 0), .float .f32 (ys.getD 3 0), .float .f32 (ys.getD 4 0), .float .f32 (ys.getD 5 0), .float .f32 (ys.getD 6 0), .float .f32 (ys.getD 7 0)]) 7 _ _ [] w rfl rfl true (by simp [Op.eqItems])
  rwa [Bool.and_true] at this
/-- Rows whose arrays are equal have one winner. -/
theorem feq_key {a b : Nat} (h : feq a b = true) : isN .f32 a = false ∧ isN .f32 b = false ∧ key .f32 a = key .f32 b := by
  unfold feq at h
  cases ha : isN .f32 a with
  | true => rw [order_nan_left ha] at h; cases h
  | false =>
    cases hb : isN .f32 b with
    | true => rw [order_nan_right hb] at h; cases h
    | false => rw [eq_key ha hb, decide_eq_true_eq] at h; exact ⟨rfl, rfl, h⟩
theorem winI_feq {xs ys : List Nat} (hl : xs.length = ys.length) (h : ∀ d, d < xs.length → feq (xs.getD d 0) (ys.getD d 0) = true) (p : Nat → Bool) : winI xs p = winI ys p := by
  have hv : ∀ d, d < xs.length → validC xs p d = validC ys p d := fun d hd => by
    obtain ⟨h1, h2, _⟩ := feq_key (h d hd)
    unfold validC; rw [h1, h2]
  have hc : ∀ d e, d < xs.length → e < xs.length → cLess (xs.getD d 0) (xs.getD e 0) = cLess (ys.getD d 0) (ys.getD e 0) := fun d e hd he => by
    obtain ⟨h1, h2, h3⟩ := feq_key (h d hd)
    obtain ⟨k1, k2, k3⟩ := feq_key (h e he)
    unfold cLess; rw [lt_key h1 k1, lt_key h2 k2, h3, k3]
  unfold winI
  rw [← hl]
  have hb : ∀ k, k ≤ xs.length → bestTo xs p k = bestTo ys p k := by
    intro k
    induction k with
    | zero => intro _; rfl
    | succ k ih =>
      intro hk
      have ih := ih (by omega)
      show (if _ then _ else _) = (if _ then _ else _)
      rw [← ih, hv k (by omega)]
      rcases bestTo_inv xs p k with ⟨h1, _⟩ | ⟨b, h1, h2, _⟩
      · rw [h1]; rfl
      · rw [h1, Int.toNat_natCast, hc k b (by omega) (by omega)]
  exact hb _ (Nat.le_refl _)
end Go.FX
