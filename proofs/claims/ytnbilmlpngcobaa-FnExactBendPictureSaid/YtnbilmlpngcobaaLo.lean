import Derived.Test.YtnbilmlpngcobaaLz
set_option linter.unusedVariables false
set_option linter.unusedSimpArgs false
namespace Go.FX
open Go Go.RowKit Ieee
/-! A product with 1 is the number. -/
theorem log2_mul (m k : Nat) (hm : m ≠ 0) : (m * 2 ^ k).log2 = m.log2 + k := by
  obtain ⟨l1, l2⟩ := log2_spec m hm
  have hp : 0 < 2 ^ k := Nat.two_pow_pos k
  refine log2_of ?_ ?_
  · rw [Nat.pow_add]; exact Nat.mul_le_mul_right _ l1
  · rw [show m.log2 + k + 1 = (m.log2 + 1) + k by omega, Nat.pow_add]; exact Nat.mul_lt_mul_of_pos_right l2 hp
theorem cut_scale (s : Bool) (m d k : Nat) (hm : m ≠ 0) : Toward.even.cut s (m * 2 ^ k) (d + k) = Toward.even.cut s m d := by
  have hp : 0 < 2 ^ k := Nat.two_pow_pos k
  unfold Toward.cut
  have e : min (d + k) ((m * 2 ^ k).log2 + 2) = min d (m.log2 + 2) + k := by rw [log2_mul m k hm]; omega
  simp only [e, Nat.shiftLeft_eq, Nat.one_mul]
  generalize min d (m.log2 + 2) = g
  rw [Nat.pow_add, Nat.mul_comm (2 ^ g) (2 ^ k), Nat.mul_comm m (2 ^ k), Nat.mul_div_mul_left _ _ hp, Nat.mul_mod_mul_left]
  have e1 : decide (2 ^ k * 2 ^ g < 2 * (2 ^ k * (m % 2 ^ g))) = decide (2 ^ g < 2 * (m % 2 ^ g)) := by
    rw [decide_eq_decide, Nat.mul_left_comm 2 (2 ^ k)]
    exact Nat.mul_lt_mul_left hp
  have e2 : (2 ^ k * 2 ^ g == 2 * (2 ^ k * (m % 2 ^ g))) = (2 ^ g == 2 * (m % 2 ^ g)) := by
    rw [Bool.eq_iff_iff, beq_iff_eq, beq_iff_eq, Nat.mul_left_comm 2 (2 ^ k)]
    exact Nat.mul_left_cancel_iff hp
  rw [e1, e2]
theorem nearest_shift (f : Format) (s : Bool) (m k : Nat) (p : Int) : f.nearest s (m * 2 ^ k) (p - k) = f.nearest s m p := by
  by_cases hm : m = 0
  · subst hm; unfold Format.nearest; simp
  · have hp : 0 < 2 ^ k := Nat.two_pow_pos k
    unfold Format.nearest
    rw [if_neg hm, if_neg (Nat.mul_ne_zero hm (by omega)), log2_mul m k hm]
    have e : p - (k : Int) + ((m.log2 + k : Nat) : Int) - (f.fractionBits : Int) = p + (m.log2 : Int) - (f.fractionBits : Int) := by omega
    simp only [e]
    generalize max (p + (m.log2 : Int) - (f.fractionBits : Int)) f.leastPlace = last
    have hc : Toward.even.cut s ((m * 2 ^ k) <<< (p - (k : Int) - last).toNat) (last - (p - (k : Int))).toNat = Toward.even.cut s (m <<< (p - last).toNat) (last - p).toNat := by
      by_cases h1 : last ≤ p - (k : Int)
      · rw [show (last - (p - (k : Int))).toNat = 0 by omega, show (last - p).toNat = 0 by omega, Nat.shiftLeft_eq, Nat.shiftLeft_eq, Nat.mul_assoc, ← Nat.pow_add, show k + (p - (k : Int) - last).toNat = (p - last).toNat by omega]
      · by_cases h2 : last ≤ p
        · rw [show (p - (k : Int) - last).toNat = 0 by omega, show (last - p).toNat = 0 by omega, Nat.shiftLeft_zero, cut_zero, Nat.shiftLeft_eq]
          obtain ⟨j, hj⟩ : ∃ j : Nat, j = (last - (p - (k : Int))).toNat := ⟨_, rfl⟩
          rw [← hj, show m * 2 ^ k = (m * 2 ^ (p - last).toNat) * 2 ^ j by rw [Nat.mul_assoc, ← Nat.pow_add, show (p - last).toNat + j = k by omega]]
          exact cut_pow s _ j (Nat.mul_ne_zero hm (by have := Nat.two_pow_pos (p - last).toNat; omega))
        · rw [show (p - (k : Int) - last).toNat = 0 by omega, show (p - last).toNat = 0 by omega, Nat.shiftLeft_zero, Nat.shiftLeft_zero, show (last - (p - (k : Int))).toNat = (last - p).toNat + k by omega]
          exact cut_scale s m _ k hm
    rw [hc]
theorem word_back (x : Nat) (hx : x < width .f32) : FloatKind.f32.format.word (sgn FloatKind.f32.format x) (rng FloatKind.f32.format x) = x := by
  have hs : rng FloatKind.f32.format x < FloatKind.f32.format.signWeight := Nat.mod_lt _ (Nat.two_pow_pos _)
  obtain ⟨a, b⟩ := read_of_word FloatKind.f32.format (sgn FloatKind.f32.format x) (r := rng FloatKind.f32.format x) hs
  refine eq_of_parts (k := .f32) ?_ hx a b
  rw [width_eq]; exact FloatKind.f32.format.word_lt _ hs
/-- A number that is read is written back. -/
theorem nearest_read {x m : Nat} {p : Int} (h1 : rng FloatKind.f32.format x < 2139095040) (hx : x < width .f32) (hp : 0 ≤ p + (149 : Nat)) (hmag : m * 2 ^ (p + (149 : Nat)).toNat = rmag FloatKind.f32.format (rng FloatKind.f32.format x)) :
    FloatKind.f32.format.nearest (sgn FloatKind.f32.format x) m p = x := by
  obtain ⟨k, hk⟩ : ∃ k : Nat, k = (p + (149 : Nat)).toNat := ⟨_, rfl⟩
  rw [← hk] at hmag
  have e5 := nearest_shift FloatKind.f32.format (sgn FloatKind.f32.format x) m k p
  rw [hmag, show p - (k : Int) = -149 by omega] at e5
  rw [← e5]
  by_cases h0 : rng FloatKind.f32.format x = 0
  · have hz : rmag FloatKind.f32.format 0 = 0 := by decide
    have hw := word_back x hx
    rw [h0] at hw ⊢
    rw [hz]
    unfold Format.nearest
    rw [if_pos rfl]
    exact hw
  · rw [nearest_rmag _ _ h1 h0]
    exact word_back x hx
theorem read_one : FloatKind.f32.format.read 1065353216 = .number false (2 ^ 23) (-23) := by decide
theorem product_num (s t : Bool) (m n : Nat) (i j : Int) : (Datum.number s m i).product (.number t n j) = some (.number (s != t) (m * n) (i + j)) := rfl
theorem product_inf (s t : Bool) (n : Nat) (j : Int) (h : n ≠ 0) : (Datum.infinity s).product (.number t n j) = some (.infinity (s != t)) := by
  cases n with
  | zero => exact absurd rfl h
  | succ n => rfl
theorem mul_one_inf (x : Nat) (hx : x < width .f32) (h1 : rng FloatKind.f32.format x = 2139095040) : FloatKind.f32.format.mul x 1065353216 = some x := by
  have hi : rng FloatKind.f32.format x = FloatKind.f32.format.infRung := h1.trans inf32.symm
  unfold Format.mul
  rw [read_one, read_inf .f32 x hi]
  have hw := word_back x hx
  rw [hi] at hw
  rw [product_inf (sgn FloatKind.f32.format x) false (2 ^ 23) (-23) (by decide), Bool.bne_false]
  exact congrArg some hw
theorem mul_one_fin (x : Nat) (hx : x < width .f32) (h1 : rng FloatKind.f32.format x < 2139095040) : FloatKind.f32.format.mul x 1065353216 = some x := by
  obtain ⟨m, p, e, hp, hmag⟩ := read_fin FloatKind.f32.format 149 (by decide) x (by rw [inf32]; exact h1)
  unfold Format.mul
  rw [read_one, e, product_num, Bool.bne_false]
  have hE : p + (-23 : Int) = p - ((23 : Nat) : Int) := by omega
  rw [hE, Option.map_some]
  refine congrArg some ?_
  have h2 := nearest_shift FloatKind.f32.format (sgn FloatKind.f32.format x) m 23 p
  have h3 := nearest_read h1 hx hp hmag
  exact h2.trans h3
theorem fop_mul_one (x : Nat) (hx : x < width .f32) : fop .mul .f32 x 1065353216 = cn .f32 x := by
  by_cases hn : isN .f32 x = true
  · rw [fop_nan_left _ _ _ hn, cn_of_nan hn]
  · have hn : isN .f32 x = false := by simpa using hn
    rw [cn_of_not hn]
    have hr : rng FloatKind.f32.format x ≤ 2139095040 := by
      have := hn; rw [isN_iff] at this; rw [inf32] at this; simp at this; omega
    have hm : FloatKind.f32.format.mul x 1065353216 = some x := by
      rcases Nat.eq_or_lt_of_le hr with h1 | h1
      · exact mul_one_inf x hx h1
      · exact mul_one_fin x hx h1
    unfold fop floatBits
    rw [hm]
    rfl
end Go.FX
