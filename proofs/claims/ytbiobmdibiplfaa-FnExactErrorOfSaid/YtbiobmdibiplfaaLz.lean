import Derived.Test.YtbiobmdibiplfaaCu
set_option linter.unusedVariables false
set_option linter.unusedSimpArgs false
namespace Go.FX
open Go Go.RowKit Ieee
/-! What 0 - x is. -/
theorem bin32 : FloatKind.f32.format.binade = 8388608 := by decide
theorem least32 : FloatKind.f32.format.leastPlace = -149 := by decide
theorem frac32 : FloatKind.f32.format.fractionBits = 23 := by decide
theorem log2_of {n k : Nat} (h1 : 2 ^ k ≤ n) (h2 : n < 2 ^ (k + 1)) : n.log2 = k := by
  have h0 : n ≠ 0 := by have := Nat.two_pow_pos k; omega
  obtain ⟨l1, l2⟩ := log2_spec n h0
  have a := (Nat.pow_lt_pow_iff_right (by decide : 1 < 2)).1 (Nat.lt_of_le_of_lt h1 l2)
  have b := (Nat.pow_lt_pow_iff_right (by decide : 1 < 2)).1 (Nat.lt_of_le_of_lt l1 h2)
  omega
theorem cut_pow (s : Bool) (m k : Nat) (hm : m ≠ 0) : Toward.even.cut s (m * 2 ^ k) k = m := by
  have hp : 0 < 2 ^ k := Nat.two_pow_pos k
  have hM : m * 2 ^ k ≠ 0 := Nat.mul_ne_zero hm (by omega)
  obtain ⟨l1, l2⟩ := log2_spec (m * 2 ^ k) hM
  have hk : k ≤ (m * 2 ^ k).log2 := by
    have : 2 ^ k < 2 ^ ((m * 2 ^ k).log2 + 1) := Nat.lt_of_le_of_lt (Nat.le_mul_of_pos_left _ (by omega)) l2
    have := (Nat.pow_lt_pow_iff_right (by decide : 1 < 2)).1 this
    omega
  unfold Toward.cut
  have e : min k ((m * 2 ^ k).log2 + 2) = k := by omega
  have e3 : (1 : Nat) <<< k = 2 ^ k := by rw [Nat.shiftLeft_eq, Nat.one_mul]
  have e4 : ¬ 2 ^ k = 0 := by omega
  simp only [e, e3, Nat.mul_div_cancel _ hp, Nat.mul_mod_left, Nat.mul_zero, Nat.not_lt_zero, decide_false, Bool.false_or, beq_eq_false_iff_ne.2 e4, Bool.false_and, Bool.toNat_false, Nat.add_zero]
theorem nearest_rmag (s : Bool) (r : Nat) (hr : r < 2139095040) (h0 : r ≠ 0) : FloatKind.f32.format.nearest s (rmag FloatKind.f32.format r) (-149) = FloatKind.f32.format.word s r := by
  unfold Format.nearest rmag
  rw [bin32, frac32, least32, inf32]
  by_cases h : r < 8388608
  · rw [if_pos h, if_neg h0]
    obtain ⟨l1, l2⟩ := log2_spec r h0
    have hl : r.log2 ≤ 22 := by
      have : 2 ^ r.log2 < 2 ^ 23 := Nat.lt_of_le_of_lt l1 (by omega)
      have := (Nat.pow_lt_pow_iff_right (by decide : 1 < 2)).1 this
      omega
    have e : max (-149 + (r.log2 : Int) - ((23 : Nat) : Int)) (-149) = -149 := by omega
    simp only [e]
    rw [show (-149 - -149 : Int).toNat = 0 by decide, cut_zero, Nat.shiftLeft_zero, Nat.zero_mul, Nat.zero_add, Nat.min_eq_left (by omega)]
  · rw [if_neg h]
    obtain ⟨m, hm⟩ : ∃ m, m = 8388608 + r % 8388608 := ⟨_, rfl⟩
    obtain ⟨k, hk⟩ : ∃ k, k = r / 8388608 - 1 := ⟨_, rfl⟩
    rw [← hm, ← hk]
    have hm0 : m ≠ 0 := by omega
    have hp : 0 < 2 ^ k := Nat.two_pow_pos k
    rw [if_neg (Nat.mul_ne_zero hm0 (by omega))]
    have hl : (m * 2 ^ k).log2 = 23 + k := by
      refine log2_of ?_ ?_
      · rw [Nat.pow_add]; exact Nat.mul_le_mul_right _ (by omega)
      · rw [show 23 + k + 1 = 24 + k by omega, Nat.pow_add]; exact Nat.mul_lt_mul_of_pos_right (by omega) hp
    rw [hl]
    have e : max (-149 + ((23 + k : Nat) : Int) - ((23 : Nat) : Int)) (-149) = -149 + (k : Int) := by omega
    simp only [e]
    rw [show (-149 - (-149 + (k : Int))).toNat = 0 by omega, show (-149 + (k : Int) - -149).toNat = k by omega, Nat.shiftLeft_zero, cut_pow s m k hm0]
    congr 1
    omega
theorem sub_zero_low (x : Nat) (hs : sgn FloatKind.f32.format x = true ∨ rng FloatKind.f32.format x = 0) (hx : rng FloatKind.f32.format x ≤ 2139095040) : floatBits .sub .f32 0 x = some (FloatKind.f32.format.word false (rng FloatKind.f32.format x)) := by
  have r0 : FloatKind.f32.format.read 0 = .number false 0 (-149) := by decide
  unfold floatBits Format.sub
  rw [r0]
  rcases Nat.eq_or_lt_of_le hx with h1 | h1
  · have hi : rng FloatKind.f32.format x = FloatKind.f32.format.infRung := h1.trans inf32.symm
    have hs' : sgn FloatKind.f32.format x = true := by rcases hs with h | h; · exact h
                                                       · rw [h1] at h; cases h
    rw [read_inf .f32 x hi, hs', h1]
    simp [Datum.opposite, Datum.sum, Format.write, inf32]
  · obtain ⟨m, p, e, hp, hmag⟩ := read_fin FloatKind.f32.format 149 (by decide) x (by rw [inf32]; exact h1)
    rw [e]
    simp only [Datum.opposite, Datum.sum]
    have hmin : min (-149) p = -149 := by omega
    rw [hmin, show (-149 - -149 : Int).toNat = 0 by decide, show (p - -149).toNat = (p + (149 : Nat)).toNat by omega]
    have hT : ∀ t, signed t m (p + (149 : Nat)).toNat = if t then -(rmag FloatKind.f32.format (rng FloatKind.f32.format x) : Int) else (rmag FloatKind.f32.format (rng FloatKind.f32.format x) : Int) := fun t => by
      unfold signed
      rw [Nat.shiftLeft_eq, hmag]
    have hz : signed false 0 0 = 0 := by decide
    rw [hz, hT, Int.zero_add]
    by_cases h0 : rng FloatKind.f32.format x = 0
    · rw [h0]
      cases sgn FloatKind.f32.format x <;> decide
    · have hs' : sgn FloatKind.f32.format x = true := by rcases hs with h | h; · exact h
                                                         · exact absurd h h0
      have hne : rmag FloatKind.f32.format (rng FloatKind.f32.format x) ≠ 0 := by
        have hb : 0 < FloatKind.f32.format.binade := by decide
        unfold rmag
        split
        · exact h0
        · exact Nat.mul_ne_zero (by omega) (by have := Nat.two_pow_pos (rng FloatKind.f32.format x / FloatKind.f32.format.binade - 1); omega)
      rw [hs']
      simp only [Bool.not_true, Bool.false_eq_true, if_false]
      rw [if_neg (by omega), Int.natAbs_natCast, decide_eq_false (by omega)]
      simp only [Option.map_some, Format.write]
      rw [nearest_rmag false _ h1 h0]
/-- The size of a number, as the model takes it. -/
def sizeF (x : Nat) : Nat := if le2 x 0 = true then fop .sub .f32 0 x else x
theorem sub_zero_abs {x : Nat} (h : le2 x 0 = true) : fop .sub .f32 0 x = x % 2147483648 := by
  have hn : isN .f32 x = false := by
    cases hh : isN .f32 x with
    | true => rw [le2_nan_l hh] at h; cases h
    | false => rfl
  rw [le2_key hn (by decide), decide_eq_true_eq, show key .f32 0 = 0 by decide] at h
  have hr : rng FloatKind.f32.format x ≤ 2139095040 := by
    have := hn; rw [isN_iff] at this; rw [inf32] at this; simp at this; omega
  have hs : sgn FloatKind.f32.format x = true ∨ rng FloatKind.f32.format x = 0 := by
    unfold key at h
    cases hh : sgn FloatKind.f32.format x with
    | true => exact .inl rfl
    | false => rw [hh] at h; right; simp at h; exact h
  unfold fop
  rw [sub_zero_low x hs hr, Option.getD_some, rng32]
  show FloatKind.f32.format.word false (x % 2147483648) = _
  unfold Format.word
  simp
theorem sizeF_abs (x : Nat) (hw : x < 4294967296) : cn .f32 (sizeF x) = cn .f32 (x % 2147483648) := by
  unfold sizeF
  split
  · rename_i h; rw [sub_zero_abs h]
  · rename_i h
    cases hh : isN .f32 x with
    | true => unfold cn; rw [hh, isN_abs32, hh]; rfl
    | false =>
      have h : ¬ key .f32 x ≤ 0 := by
        intro hk; apply h; rw [le2_key hh (by decide), show key .f32 0 = 0 by decide, decide_eq_true hk]
      have : sgn FloatKind.f32.format x = false := by
        unfold key at h
        cases hs : sgn FloatKind.f32.format x with
        | false => rfl
        | true => exfalso; rw [hs, if_pos rfl] at h; omega
      rw [sgn32] at this
      have h2 : x / 2147483648 % 2 ≠ 1 := by simpa using this
      rw [Nat.mod_eq_of_lt (by omega)]
theorem le2_size (x n : Nat) (hw : x < 4294967296) : le2 (sizeF x) n = nearB x n := by
  have h : le2 (sizeF x) n = le2 (x % 2147483648) n := by
    unfold le2
    rw [← order_cn _ (sizeF x) n, ← order_cn _ (x % 2147483648) n, sizeF_abs x hw]
  rw [h, le2_abs]; rfl
end Go.FX
