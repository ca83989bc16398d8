import Derived.Test.YtbiobmdibiplfaaLn
set_option linter.unusedVariables false
set_option linter.unusedSimpArgs false
namespace Go.FX
open Go Ieee

/-! Sharp bounds: what is at most 2 ^ e before rounding is at most 2 ^ e after it. -/
/-- 'm times 2 ^ p is at most 2 ^ e'. -/
def Vle (m : Nat) (p e : Int) : Prop := m = 0 ∨ (p ≤ e ∧ m ≤ 2 ^ (e - p).toNat)

theorem cut_exact (s : Bool) (B d : Nat) : Toward.even.cut s (B * 2 ^ d) d ≤ B := by
  unfold Toward.cut
  simp only [Nat.shiftLeft_eq, Nat.one_mul]
  by_cases hB : B = 0
  · subst hB; simp
  have hp : 0 < 2 ^ d := Nat.two_pow_pos _
  have hn : B * 2 ^ d ≠ 0 := Nat.mul_ne_zero hB (Nat.ne_of_gt hp)
  have hd : d ≤ (B * 2 ^ d).log2 := (Nat.le_log2 hn).2 (Nat.le_mul_of_pos_left _ (Nat.pos_of_ne_zero hB))
  rw [Nat.min_eq_left (by omega), Nat.mul_div_cancel _ hp, Nat.mul_mod_left]
  have h0 : (decide (2 ^ d < 2 * 0) || (2 ^ d == 2 * 0 && B % 2 == 1)) = false := by
    have h2 : (2 ^ d == 2 * 0) = false := by simp
    simp [h2]
  rw [h0]; simp

theorem near_sharp (s : Bool) (m : Nat) (p : Int) {q : Nat} (h1 : 2 ≤ q) (h2 : q ≤ 2046) (h : Vle m p ((q : Int) - 1023)) :
    sgn FloatKind.f64.format (FloatKind.f64.format.nearest s m p) = s ∧ rng FloatKind.f64.format (FloatKind.f64.format.nearest s m p) ≤ q * 4503599627370496 := by
  by_cases hm : m = 0
  · exact near_le s m p h1 h2 (.inl hm)
  rcases h with h | ⟨hp, hle⟩
  · exact absurd h hm
  rcases Nat.lt_or_ge m (2 ^ ((q : Int) - 1023 - p).toNat) with hlt | hge
  · refine near_le s m p h1 h2 (.inr ?_)
    have := (Nat.log2_lt hm).2 hlt
    omega
  · have he : m = 2 ^ ((q : Int) - 1023 - p).toNat := Nat.le_antisymm hle hge
    have fb : (FloatKind.f64.format.fractionBits : Int) = 52 := by decide
    have lp : FloatKind.f64.format.leastPlace = -1074 := by decide
    have bb : FloatKind.f64.format.binade = 4503599627370496 := by decide
    have hlog : m.log2 = ((q : Int) - 1023 - p).toNat := by rw [he]; exact Nat.log2_two_pow
    refine ⟨near_sgn s m p, ?_⟩
    generalize hl : max (p + (m.log2 : Int) - 52) (-1074 : Int) = last
    have hlast : last = (q : Int) - 1075 := by omega
    have hk : Toward.even.cut s (m <<< (p - last).toNat) (last - p).toNat ≤ 2 ^ 52 := by
      have e1 : m <<< (p - last).toNat = 2 ^ 52 * 2 ^ (last - p).toNat := by
        rw [Nat.shiftLeft_eq, he, ← Nat.pow_add, ← Nat.pow_add]; congr 1; omega
      rw [e1]; exact cut_exact _ _ _
    have e : FloatKind.f64.format.nearest s m p = FloatKind.f64.format.word s (min ((last - -1074).toNat * 4503599627370496 + Toward.even.cut s (m <<< (p - last).toNat) (last - p).toNat) FloatKind.f64.format.infRung) := by
      unfold Format.nearest
      rw [if_neg hm]
      simp only [fb, lp, bb, hl]
    generalize Toward.even.cut s (m <<< (p - last).toNat) (last - p).toNat = k at hk e
    have hw : min ((last - -1074).toNat * 4503599627370496 + k) FloatKind.f64.format.infRung < FloatKind.f64.format.signWeight := by
      have : FloatKind.f64.format.infRung < FloatKind.f64.format.signWeight := by decide
      exact Nat.lt_of_le_of_lt (Nat.min_le_right _ _) this
    rw [e, (read_of_word FloatKind.f64.format s hw).2]
    refine Nat.le_trans (Nat.min_le_left _ _) ?_
    have h3 : (last - -1074).toNat = q - 1 := by omega
    rw [h3]
    have e3 : (2 : Nat) ^ 52 = 4503599627370496 := by decide
    rw [e3] at hk
    have h4 : (q - 1) * 4503599627370496 + 4503599627370496 = q * 4503599627370496 := by omega
    rw [← h4]
    exact Nat.add_le_add_left hk _

/-- What is read of a number at most 2 ^ (q - 1023). -/
theorem read_vle {x q : Nat} (h : rng FloatKind.f64.format x ≤ q * 4503599627370496) (h1 : 1 ≤ q) (h2 : q ≤ 2046) :
    ∃ m p, FloatKind.f64.format.read x = .number (sgn FloatKind.f64.format x) m p ∧ Vle m p ((q : Int) - 1023) := by
  have bb : FloatKind.f64.format.binade = 4503599627370496 := by decide
  have hf : rng FloatKind.f64.format x < FloatKind.f64.format.infRung := by have := fin_of_le h2 h; simpa [isF] using this
  obtain ⟨m, p, e, hp, hv⟩ := read_fin FloatKind.f64.format 1074 (by decide) x hf
  refine ⟨m, p, e, ?_⟩
  by_cases hm : m = 0
  · exact .inl hm
  · right
    have h3 := rmag_le FloatKind.f64.format h
    have h4 : rmag FloatKind.f64.format (q * 4503599627370496) = 2 ^ (52 + (q - 1)) := by
      have := rmag_word (f := FloatKind.f64.format) (t := FloatKind.f64.format.binade) (q := q - 1) (Nat.le_refl _) (by omega)
      rw [bb] at this
      have e2 : (q - 1) * 4503599627370496 + 4503599627370496 = q * 4503599627370496 := by omega
      rw [e2] at this; rw [this, Nat.pow_add]
    rw [← hv, h4] at h3
    have h5 : 2 ^ (p + (1074 : Nat)).toNat ≤ 2 ^ (52 + (q - 1)) := Nat.le_trans (Nat.le_mul_of_pos_left _ (Nat.pos_of_ne_zero hm)) h3
    have h6 := (Nat.pow_le_pow_iff_right (by decide : 1 < 2)).1 h5
    refine ⟨by omega, ?_⟩
    have h7 : 52 + (q - 1) = ((q : Int) - 1023 - p).toNat + (p + (1074 : Nat)).toNat := by omega
    rw [h7, Nat.pow_add] at h3
    exact Nat.le_of_mul_le_mul_right h3 (Nat.two_pow_pos _)

theorem vle_mul {m n : Nat} {i j a b : Int} (h1 : Vle m i a) (h2 : Vle n j b) : Vle (m * n) (i + j) (a + b) := by
  rcases h1 with h1 | ⟨h1, h1'⟩
  · left; simp [h1]
  · rcases h2 with h2 | ⟨h2, h2'⟩
    · left; simp [h2]
    · right
      refine ⟨by omega, ?_⟩
      have : (a + b - (i + j)).toNat = (a - i).toNat + (b - j).toNat := by omega
      rw [this, Nat.pow_add]
      exact Nat.mul_le_mul h1' h2'

theorem vle_shift {m : Nat} {i a base : Int} (h : Vle m i a) (hb : base ≤ i) (ha : base ≤ a) : m * 2 ^ (i - base).toNat ≤ 2 ^ (a - base).toNat := by
  rcases h with h | ⟨h, h'⟩
  · subst h; simp
  · have : (a - base).toNat = (a - i).toNat + (i - base).toNat := by omega
    rw [this, Nat.pow_add]
    exact Nat.mul_le_mul_right _ h'

theorem vle_sum {s t : Bool} {m n : Nat} {i j a : Int} (h1 : Vle m i a) (h2 : Vle n j a) :
    Vle (signed s m (i - min i j).toNat + signed t n (j - min i j).toNat).natAbs (min i j) (a + 1) := by
  generalize hb : min i j = base
  have hT := Int.natAbs_add_le (signed s m (i - base).toNat) (signed t n (j - base).toNat)
  rw [signed_abs, signed_abs] at hT
  by_cases h0 : (signed s m (i - base).toNat + signed t n (j - base).toNat).natAbs = 0
  · exact .inl h0
  · right
    have ha : base ≤ a := by
      rcases h1 with h1 | ⟨h1, _⟩
      · rcases h2 with h2 | ⟨h2, _⟩
        · exfalso; apply h0; subst h1; subst h2; simp at hT; simp [hT]
        · omega
      · omega
    have a1 := vle_shift h1 (base := base) (by omega) ha
    have a2 := vle_shift h2 (base := base) (by omega) ha
    refine ⟨by omega, ?_⟩
    have e : (a + 1 - base).toNat = (a - base).toNat + 1 := by omega
    rw [e, Nat.pow_succ]; omega
end Go.FX
