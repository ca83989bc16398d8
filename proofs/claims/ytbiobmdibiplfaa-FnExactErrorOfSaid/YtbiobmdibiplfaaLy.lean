import Derived.Test.YtbiobmdibiplfaaLz
import Derived.Test.YtbiobmdibiplfaaFb
set_option linter.unusedVariables false
set_option linter.unusedSimpArgs false
namespace Go.FX
open Go Go.RowKit Ieee
/-! Narrowing what was widened gives it back. -/
theorem log2_mul_pow (m a : Nat) (hm : m ≠ 0) : (m * 2 ^ a).log2 = m.log2 + a := by
  obtain ⟨l1, l2⟩ := log2_spec m hm
  refine log2_of ?_ ?_
  · rw [Nat.pow_add]; exact Nat.mul_le_mul_right _ l1
  · rw [show m.log2 + a + 1 = (m.log2 + 1) + a by omega, Nat.pow_add]; exact Nat.mul_lt_mul_of_pos_right l2 (Nat.two_pow_pos a)
set_option exponentiation.threshold 4096 in
theorem nearest_val (s : Bool) (mm k m : Nat) (p : Int) (hp : 0 ≤ p + 1074) (hm0 : mm ≠ 0) (h24 : mm < 16777216) (hn : 8388608 ≤ mm ∨ k = 0) (hinf : k * 8388608 + mm ≤ 2139095040) (he : m * 2 ^ (p + 1074).toNat = mm * 2 ^ (k + 925)) :
    FloatKind.f32.format.nearest s m p = FloatKind.f32.format.word s (k * 8388608 + mm) := by
  obtain ⟨P, hP⟩ : ∃ P, P = (p + 1074).toNat := ⟨_, rfl⟩
  rw [← hP] at he
  have hpP : p = (P : Int) - 1074 := by omega
  have hm : m ≠ 0 := by
    intro h
    rw [h, Nat.zero_mul] at he
    exact Nat.mul_ne_zero hm0 (by have := Nat.two_pow_pos (k + 925); omega) he.symm
  have hlog : m.log2 + P = mm.log2 + (k + 925) := by rw [← log2_mul_pow m P hm, he, log2_mul_pow mm _ hm0]
  have hmml : mm.log2 ≤ 23 ∧ (8388608 ≤ mm → mm.log2 = 23) := by
    obtain ⟨l1, l2⟩ := log2_spec mm hm0
    have a : 2 ^ mm.log2 < 2 ^ 24 := Nat.lt_of_le_of_lt l1 (by omega)
    have a := (Nat.pow_lt_pow_iff_right (by decide : 1 < 2)).1 a
    refine ⟨by omega, fun h => ?_⟩
    have b : 2 ^ 23 < 2 ^ (mm.log2 + 1) := Nat.lt_of_le_of_lt (by omega) l2
    have b := (Nat.pow_lt_pow_iff_right (by decide : 1 < 2)).1 b
    omega
  have hlast : max (p + (m.log2 : Int) - ((23 : Nat) : Int)) (-149) = (k : Int) - 149 := by
    rcases hn with h | h
    · have := hmml.2 h; omega
    · subst h; have := hmml.1; omega
  unfold Format.nearest
  rw [bin32, frac32, least32, inf32, if_neg hm]
  simp only [hlast]
  rw [show ((k : Int) - 149 - -149).toNat = k by omega]
  have hkept : Toward.even.cut s (m <<< (p - ((k : Int) - 149)).toNat) ((k : Int) - 149 - p).toNat = mm := by
    by_cases hc : k + 925 ≤ P
    · obtain ⟨a, ha⟩ : ∃ a, P = k + 925 + a := ⟨P - (k + 925), by omega⟩
      have e1 : (p - ((k : Int) - 149)).toNat = a := by omega
      have e2 : ((k : Int) - 149 - p).toNat = 0 := by omega
      rw [e1, e2, cut_zero, Nat.shiftLeft_eq]
      rw [ha, Nat.pow_add, Nat.mul_comm (2 ^ (k + 925)), ← Nat.mul_assoc] at he
      exact Nat.eq_of_mul_eq_mul_right (Nat.two_pow_pos _) he
    · obtain ⟨b, hb⟩ : ∃ b, k + 925 = P + b := ⟨k + 925 - P, by omega⟩
      have e1 : (p - ((k : Int) - 149)).toNat = 0 := by omega
      have e2 : ((k : Int) - 149 - p).toNat = b := by omega
      rw [e1, e2, Nat.shiftLeft_zero]
      rw [hb, Nat.pow_add, Nat.mul_comm (2 ^ P), ← Nat.mul_assoc] at he
      rw [Nat.eq_of_mul_eq_mul_right (Nat.two_pow_pos _) he]
      exact cut_pow s mm b hm0
  rw [hkept, Nat.min_eq_left hinf]
set_option exponentiation.threshold 4096 in
theorem narrow_wide {z y : Nat} (hz : isN .f32 z = false) (hw : WideOf z y) : floatToFloatBits .f64 y .f32 = some (FloatKind.f32.format.word (sgn FloatKind.f32.format z) (rng FloatKind.f32.format z)) := by
  obtain ⟨n1, n2, hs, hcase⟩ := hw
  have ne : ¬ (FloatKind.f64 = FloatKind.f32) := by decide
  have rw32 : ∀ (s : Bool) (r : Nat), r < FloatKind.f32.format.infRung → ∃ m' p', FloatKind.f32.format.read (FloatKind.f32.format.word s r) = .number s m' p' := fun s r hr => by
    obtain ⟨r1, r2⟩ := read_of_word FloatKind.f32.format s (r := r) (Nat.lt_trans hr FloatKind.f32.format.infRung_lt)
    obtain ⟨m', p', e', _⟩ := read_fin FloatKind.f32.format 149 (by decide) (FloatKind.f32.format.word s r) (by rw [r2]; exact hr)
    rw [r1] at e'
    exact ⟨m', p', e'⟩
  rcases hcase with ⟨c1, c2⟩ | ⟨c1, c2, c3⟩
  · unfold floatToFloatBits FloatKind.decode FloatKind.encode
    rw [if_neg ne, read_inf .f64 y c2, hs, c1]
    rfl
  · obtain ⟨m, p, e, hp, hmag⟩ := read_fin FloatKind.f64.format 1074 (by decide) y c2
    rw [c3] at hmag
    have hr := c1
    rw [inf32] at hr
    unfold floatToFloatBits FloatKind.decode FloatKind.encode
    rw [if_neg ne, e, hs]
    obtain ⟨r, hrr⟩ : ∃ r, r = rng FloatKind.f32.format z := ⟨_, rfl⟩
    rw [← hrr] at hmag hr c1 ⊢
    have hword : FloatKind.f32.format.write (.number (sgn FloatKind.f32.format z) m p) = FloatKind.f32.format.word (sgn FloatKind.f32.format z) r := by
      show FloatKind.f32.format.nearest _ m p = _
      by_cases h0 : r = 0
      · subst h0
        have hm : m = 0 := by
          have hz : rmag FloatKind.f32.format 0 = 0 := by decide
          rw [hz, Nat.zero_mul] at hmag
          rcases Nat.mul_eq_zero.1 hmag with h | h
          · exact h
          · have := Nat.two_pow_pos (p + (1074 : Nat)).toNat; omega
        unfold Format.nearest
        rw [if_pos hm]
      · by_cases h : r < 8388608
        · have hmg : rmag FloatKind.f32.format r = r := by unfold rmag; rw [bin32, if_pos h]
          rw [hmg] at hmag
          have := nearest_val (sgn FloatKind.f32.format z) r 0 m p (by omega) h0 (by omega) (.inr rfl) (by omega) (by rw [Nat.zero_add]; exact hmag)
          rw [this, Nat.zero_mul, Nat.zero_add]
        · have hmg : rmag FloatKind.f32.format r = (8388608 + r % 8388608) * 2 ^ (r / 8388608 - 1) := by unfold rmag; rw [bin32, if_neg h]
          rw [hmg, Nat.mul_assoc, ← Nat.pow_add] at hmag
          have e2 : (r / 8388608 - 1) * 8388608 + (8388608 + r % 8388608) = r := by omega
          have := nearest_val (sgn FloatKind.f32.format z) (8388608 + r % 8388608) (r / 8388608 - 1) m p (by omega) (by omega) (by omega) (.inl (by omega)) (by omega) hmag
          rw [this, e2]
    obtain ⟨m', p', e'⟩ := rw32 (sgn FloatKind.f32.format z) r c1
    simp only [hword, e']
    rfl
theorem cv_back {z : Nat} (hz : isN .f32 z = false) (hl : z < width .f32) : cv .f64 .f32 (wide z) = z ∧ cvOver .f64 .f32 (wide z) = false := by
  have hw := wide_spec hz
  have h := narrow_wide hz hw
  rw [word_parts .f32 hl] at h
  have hn : isN .f64 (wide z) = false := by rw [isN_wide]; exact hz
  refine ⟨?_, ?_⟩
  · unfold cv; rw [cn_of_not hn, h]; rfl
  · unfold cvOver; rw [h]; simp
/-- The program's absolute value. -/
theorem abs_narrow {x c : Nat} (h : Fl .f32 x c) (w1 w2 : World) : Fl .f32 (cvR .f64 (cvR .f32 x .f64 w1 % 9223372036854775808) .f32 w2) (cn .f32 (c % 2147483648)) := by
  have hwx := h.wide w1
  cases hc : isN .f32 c with
  | true =>
    have hy : isN .f64 (cvR .f32 x .f64 w1) = true := by rw [← isN_cn, hwx.eq, isN_wide]; exact hc
    have hy2 : isN .f64 (cvR .f32 x .f64 w1 % 9223372036854775808) = true := by rw [isN_abs]; exact hy
    have hF : Fl .f64 (cvR .f32 x .f64 w1 % 9223372036854775808) (qn .f64) := ⟨Nat.lt_of_le_of_lt (Nat.mod_le _ _) hwx.lt, by unfold cn; rw [hy2]; rfl⟩
    have e : cn .f32 (c % 2147483648) = cv .f64 .f32 (qn .f64) := by
      have : isN .f32 (c % 2147483648) = true := by rw [isN_abs32]; exact hc
      unfold cn; rw [this, if_pos rfl]; decide
    rw [e]
    exact hF.narrow (by decide) w2
  | false =>
    have hcl : c % 2147483648 < width .f32 := Nat.lt_of_lt_of_le (Nat.mod_lt _ (by decide)) (by decide)
    have hab : isN .f32 (c % 2147483648) = false := by rw [isN_abs32]; exact hc
    obtain ⟨e1, e2⟩ := cv_back hab hcl
    have hy : isN .f64 (cvR .f32 x .f64 w1) = false := by rw [← isN_cn, hwx.eq, isN_wide]; exact hc
    have hyw : cvR .f32 x .f64 w1 = wide c := by rw [← hwx.eq]; exact (cn_of_not hy).symm
    have hF : Fl .f64 (cvR .f32 x .f64 w1 % 9223372036854775808) (wide (c % 2147483648)) := by
      refine ⟨Nat.lt_of_le_of_lt (Nat.mod_le _ _) hwx.lt, ?_⟩
      rw [hyw, ← wide_abs hc]
      exact cn_of_not (by rw [isN_wide]; exact hab)
    have := hF.narrow e2 w2
    rw [e1] at this
    rw [cn_of_not hab]
    exact this
end Go.FX
