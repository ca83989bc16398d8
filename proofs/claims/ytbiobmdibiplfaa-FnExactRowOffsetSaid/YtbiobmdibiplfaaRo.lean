import Derived.Test.YtbiobmdibiplfaaLz
set_option linter.unusedVariables false
set_option linter.unusedSimpArgs false
namespace Go.FX
open Go Go.RowKit Ieee
/-! Sums that begin with +0 are never -0, and what is added to them may be either zero. -/
theorem word_ne (s : Bool) (r : Nat) (h1 : 1 ≤ r) (h2 : r ≤ 2139095040) : FloatKind.f32.format.word s r ≠ 2147483648 := by
  have hw : FloatKind.f32.format.signWeight = 2147483648 := by decide
  unfold Format.word
  rw [hw]
  split <;> omega
theorem nearest_nz (s : Bool) (n : Nat) (p : Int) (hn : n ≠ 0) (hp : -149 ≤ p) : FloatKind.f32.format.nearest s n p ≠ 2147483648 := by
  unfold Format.nearest
  rw [if_neg hn, bin32, frac32, least32, inf32]
  obtain ⟨last, hl⟩ : ∃ l, l = max (p + (n.log2 : Int) - ((23 : Nat) : Int)) (-149) := ⟨_, rfl⟩
  simp only [← hl]
  obtain ⟨kept, hk⟩ : ∃ k, k = Toward.even.cut s (n <<< (p - last).toNat) (last - p).toNat := ⟨_, rfl⟩
  rw [← hk]
  refine word_ne s _ ?_ (Nat.min_le_right _ _)
  have h1 : 1 ≤ (last - -149).toNat * 8388608 + kept := by
    by_cases h : last = -149
    · have h0 : (last - p).toNat = 0 := by omega
      rw [h0, cut_zero, Nat.shiftLeft_eq] at hk
      have hp2 := Nat.two_pow_pos (p - last).toNat
      have : 0 < n * 2 ^ (p - last).toNat := Nat.mul_pos (Nat.pos_of_ne_zero hn) hp2
      omega
    · have h2 : 1 ≤ (last - -149).toNat := by omega
      omega
  exact Nat.le_min.2 ⟨h1, by decide⟩
theorem parts_zero {s : Nat} (hs : s < width .f32) (h0 : rng FloatKind.f32.format s = 0) (h1 : sgn FloatKind.f32.format s = true) : s = 2147483648 := by
  rw [rng32] at h0
  rw [sgn32] at h1
  have hw : width .f32 = 4294967296 := rfl
  rw [hw] at hs
  have : s / 2147483648 % 2 = 1 := by simpa using h1
  omega
theorem rmag_zero {r : Nat} (h : rmag FloatKind.f32.format r = 0) : r = 0 := by
  have hb : 0 < FloatKind.f32.format.binade := by decide
  unfold rmag at h
  split at h
  · exact h
  · have := Nat.two_pow_pos (r / FloatKind.f32.format.binade - 1)
    exact absurd h (Nat.mul_ne_zero (by omega) (by omega))
theorem signed_zero (t : Bool) (j : Nat) : signed t 0 j = 0 := by unfold signed; cases t <;> simp
theorem signed_none {t : Bool} {m j : Nat} (h : signed t m j = 0) : m = 0 := by
  unfold signed at h
  rw [Nat.shiftLeft_eq] at h
  obtain ⟨q, hq⟩ : ∃ q, q = m * 2 ^ j := ⟨_, rfl⟩
  rw [← hq] at h
  have h3 : q = 0 := by
    cases t with
    | true => simp only [if_true] at h; omega
    | false => simp only [Bool.false_eq_true, if_false] at h; omega
  rw [hq] at h3
  have := Nat.two_pow_pos j
  rcases Nat.mul_eq_zero.1 h3 with h4 | h4
  · exact h4
  · omega
theorem add_either {s : Nat} (hs : s < width .f32) (h : s ≠ 2147483648) : fop .add .f32 s 2147483648 = fop .add .f32 s 0 := by
  have r0 : FloatKind.f32.format.read 0 = .number false 0 (-149) := by decide
  have r1 : FloatKind.f32.format.read 2147483648 = .number true 0 (-149) := by decide
  unfold fop floatBits Format.add
  rw [r0, r1]
  congr 2
  rcases Nat.lt_trichotomy (rng FloatKind.f32.format s) FloatKind.f32.format.infRung with h1 | h1 | h1
  · obtain ⟨m, p, e, hp, hmag⟩ := read_fin FloatKind.f32.format 149 (by decide) s h1
    rw [e]
    simp only [Datum.sum, signed_zero, Int.add_zero]
    by_cases hz : signed (sgn FloatKind.f32.format s) m (p - min p (-149)).toNat = 0
    · have hm := signed_none hz
      subst hm
      rw [Nat.zero_mul] at hmag
      have hr := rmag_zero hmag.symm
      have hsg : sgn FloatKind.f32.format s = false := by
        cases hh : sgn FloatKind.f32.format s with
        | false => rfl
        | true => exact absurd (parts_zero hs hr hh) h
      rw [hsg]; simp
    · simp [hz]
  · rw [read_inf .f32 s h1]; simp [Datum.sum]
  · obtain ⟨a, b, e⟩ := read_nan .f32 s h1
    rw [e]; simp [Datum.sum]
theorem add_keeps {s : Nat} (x : Nat) (hs : s < width .f32) (h : s ≠ 2147483648) : fop .add .f32 s x ≠ 2147483648 := by
  have hq : qn .f32 ≠ 2147483648 := by decide
  unfold fop floatBits Format.add
  rcases Nat.lt_trichotomy (rng FloatKind.f32.format s) FloatKind.f32.format.infRung with h1 | h1 | h1
  · obtain ⟨m, p, e, hp, hmag⟩ := read_fin FloatKind.f32.format 149 (by decide) s h1
    rw [e]
    rcases Nat.lt_trichotomy (rng FloatKind.f32.format x) FloatKind.f32.format.infRung with h2 | h2 | h2
    · obtain ⟨n, q, e2, hq2, hmag2⟩ := read_fin FloatKind.f32.format 149 (by decide) x h2
      rw [e2]
      simp only [Datum.sum, Option.map_some, Option.getD_some, Format.write]
      obtain ⟨T, hT⟩ : ∃ T, T = signed (sgn FloatKind.f32.format s) m (p - min p q).toNat + signed (sgn FloatKind.f32.format x) n (q - min p q).toNat := ⟨_, rfl⟩
      rw [← hT]
      by_cases hz : T = 0
      · rw [if_pos hz, hz]
        unfold Format.nearest
        rw [if_pos (by rfl)]
        have hb : (sgn FloatKind.f32.format s && sgn FloatKind.f32.format x) = false := by
          cases h3 : sgn FloatKind.f32.format s with
          | false => rfl
          | true =>
            cases h4 : sgn FloatKind.f32.format x with
            | false => rfl
            | true =>
              exfalso
              rw [h3, h4, hz] at hT
              unfold signed at hT
              simp only [if_true] at hT
              have hm : signed true m (p - min p q).toNat = 0 := by
                unfold signed
                simp only [if_true]
                generalize m <<< (p - min p q).toNat = A at hT ⊢
                generalize n <<< (q - min p q).toNat = B at hT
                omega
              have hm0 := signed_none hm
              subst hm0
              rw [Nat.zero_mul] at hmag
              exact h (parts_zero hs (rmag_zero hmag.symm) h3)
        rw [hb]
        decide
      · rw [if_neg hz]
        exact nearest_nz _ _ _ (by omega) (by omega)
    · rw [read_inf .f32 x h2]
      simp only [Datum.sum, Option.map_some, Option.getD_some, Format.write, inf32]
      exact word_ne _ _ (by decide) (by decide)
    · obtain ⟨a, b, e2⟩ := read_nan .f32 x h2
      rw [e2]; simp only [Datum.sum, Option.map_none, Option.getD_none]; exact hq
  · rw [read_inf .f32 s h1]
    rcases Nat.lt_trichotomy (rng FloatKind.f32.format x) FloatKind.f32.format.infRung with h2 | h2 | h2
    · obtain ⟨n, q, e2, hq2, hmag2⟩ := read_fin FloatKind.f32.format 149 (by decide) x h2
      rw [e2]
      simp only [Datum.sum, Option.map_some, Option.getD_some, Format.write, inf32]
      exact word_ne _ _ (by decide) (by decide)
    · rw [read_inf .f32 x h2]
      simp only [Datum.sum]
      split
      · simp only [Option.map_some, Option.getD_some, Format.write, inf32]
        exact word_ne _ _ (by decide) (by decide)
      · simp only [Option.map_none, Option.getD_none]; exact hq
    · obtain ⟨a, b, e2⟩ := read_nan .f32 x h2
      rw [e2]; simp only [Datum.sum, Option.map_none, Option.getD_none]; exact hq
  · obtain ⟨a, b, e⟩ := read_nan .f32 s h1
    rw [e]; simp only [Datum.sum, Option.map_none, Option.getD_none]; exact hq
/-- A running sum from +0. -/
def accS (f : Nat → Nat) : Nat → Nat | 0 => 0 | n + 1 => fop .add .f32 (accS f n) (f n)
theorem fl_cn {x : Nat} (h : x < width .f32) : Fl .f32 (cn .f32 x) (cn .f32 x) := ⟨cn_lt h, cn_cn _ _⟩
theorem accS_ok (f : Nat → Nat) (hf : ∀ i, Fl .f32 (f i) (f i)) : ∀ n, Fl .f32 (accS f n) (accS f n) ∧ accS f n ≠ 2147483648
  | 0 => (show Fl .f32 0 0 ∧ (0 : Nat) ≠ 2147483648 from ⟨⟨by decide, by decide⟩, by decide⟩)
  | n + 1 => by
    obtain ⟨h1, h2⟩ := accS_ok f hf n
    have h3 := h1.flR (op := .add) (hf n) default
    refine ⟨⟨?_, ?_⟩, add_keeps (f n) h1.lt h2⟩
    · show fop .add .f32 (accS f n) (f n) < width .f32
      rw [← h3.eq]; exact cn_lt h3.lt
    · show cn .f32 (fop .add .f32 (accS f n) (f n)) = _
      rw [← h3.eq, cn_cn]
      exact h3.eq
/-- The size of a difference, as the specification takes it: it leaves -0 as it is. -/
def absS (d : Nat) : Nat := if FloatKind.f32.format.order d 0 == some Ordering.lt then neg .f32 d else d
theorem add_abs {s d : Nat} (hs : s < width .f32) (h : s ≠ 2147483648) (hd : Fl .f32 d d) : fop .add .f32 s (absS d) = fop .add .f32 s (cn .f32 (d % 2147483648)) := by
  have hw : width .f32 = 4294967296 := rfl
  have hdl := hd.lt
  rw [hw] at hdl
  cases hn : isN .f32 d with
  | true =>
    have e1 : absS d = d := by unfold absS; rw [order_nan_left hn]; rfl
    rw [e1, cn_of_nan (by rw [isN_abs32]; exact hn), ← hd.eq, cn_of_nan hn]
  | false =>
    have hk0 : key .f32 0 = 0 := by decide
    have hl := lt_key (k := .f32) hn (by decide : isN .f32 0 = false)
    rw [hk0] at hl
    rw [cn_of_not (by rw [isN_abs32]; exact hn)]
    cases hb : decide (key .f32 d < 0) with
    | true =>
      have hk := of_decide_eq_true hb
      have hsg : sgn FloatKind.f32.format d = true := by
        cases hh : sgn FloatKind.f32.format d with
        | true => rfl
        | false => exfalso; unfold key at hk; rw [show sgn FloatKind.f32.format d = false from hh] at hk; simp at hk; omega
      have e1 : absS d = neg .f32 d := by unfold absS; rw [hl, hb]; rfl
      rw [e1]
      congr 1
      unfold neg
      rw [if_neg (by rw [hn]; simp)]
      unfold opp Format.word
      rw [show sgn FloatKind.f32.format d = true from hsg, rng32]
      simp
    | false =>
      have hk := of_decide_eq_false hb
      have e1 : absS d = d := by unfold absS; rw [hl, hb]; rfl
      rw [e1]
      by_cases hz : d = 2147483648
      · rw [hz]; exact add_either hs h
      · congr 1
        cases hh : sgn FloatKind.f32.format d with
        | false =>
          rw [sgn32] at hh
          have : d / 2147483648 % 2 ≠ 1 := by simpa using hh
          omega
        | true =>
          exfalso
          unfold key at hk
          rw [show sgn FloatKind.f32.format d = true from hh, if_pos rfl] at hk
          have hr : rng FloatKind.f32.format d = 0 := by omega
          exact hz (parts_zero hd.lt hr hh)
theorem accS_abs (d : Nat → Nat) (hd : ∀ i, Fl .f32 (d i) (d i)) : ∀ n, accS (fun i => absS (d i)) n = accS (fun i => cn .f32 (d i % 2147483648)) n
  | 0 => rfl
  | n + 1 => by
    have ho := accS_ok (fun i => cn .f32 (d i % 2147483648)) (fun i => (fl_cn (by have := (hd i).lt; have hw : width .f32 = 4294967296 := rfl; omega))) n
    show fop .add .f32 (accS (fun i => absS (d i)) n) (absS (d n)) = fop .add .f32 (accS (fun i => cn .f32 (d i % 2147483648)) n) (cn .f32 (d n % 2147483648))
    rw [accS_abs d hd n]
    exact add_abs ho.1.lt ho.2 (hd n)
end Go.FX
