import Derived.Test.YtbiobmdibiplfaaFb
set_option linter.unusedVariables false
set_option linter.unusedSimpArgs false
namespace Go.FX
open Go Ieee

/-! How great a 64-bit number is, in binades of its bits: Le q x: x is not finite, or at most 2 ^ (q - 1023). -/
def Le (q x : Nat) : Prop := isF .f64 x = true → rng FloatKind.f64.format x ≤ q * 4503599627370496
/-- Not finite, or no sign. -/
def Pos (x : Nat) : Prop := isF .f64 x = true → sgn FloatKind.f64.format x = false
/-- Not finite, or at least 1. -/
def Ge1 (x : Nat) : Prop := isF .f64 x = true → sgn FloatKind.f64.format x = false ∧ 1023 * 4503599627370496 ≤ rng FloatKind.f64.format x

theorem Le.mono {q r x : Nat} (h : Le q x) (hr : q ≤ r) : Le r x := fun hx => Nat.le_trans (h hx) (Nat.mul_le_mul_right _ hr)
theorem Le.not_over {q x : Nat} (h : Le q x) (hq : q ≤ 1149) : cvOver .f64 .f32 x = false := by
  by_cases hx : isF .f64 x = true
  · exact FX.not_over (.inl (Nat.le_trans (h hx) (Nat.mul_le_mul_right _ hq)))
  · exact FX.not_over (.inr (by simpa using hx))

theorem near_le (s : Bool) (m : Nat) (p : Int) {q : Nat} (h1 : 2 ≤ q) (h2 : q ≤ 2046) (h : m = 0 ∨ p + m.log2 ≤ (q : Int) - 1024) :
    sgn FloatKind.f64.format (FloatKind.f64.format.nearest s m p) = s ∧ rng FloatKind.f64.format (FloatKind.f64.format.nearest s m p) ≤ q * 4503599627370496 := by
  have fb : (FloatKind.f64.format.fractionBits : Int) = 52 := by decide
  have bb : FloatKind.f64.format.binade = 4503599627370496 := by decide
  obtain ⟨r, er, hr⟩ := nearest_rung FloatKind.f64.format 1074 (by decide) s m p ((q : Int) - 1024) (by rw [fb]; omega) h
  have e1 : ((q : Int) - 1024 - 52 + 1074).toNat + 2 = q := by omega
  have e2 : ((q : Int) - 1024 - (FloatKind.f64.format.fractionBits : Int) + (1074 : Nat)).toNat + 2 = q := by rw [fb]; exact e1
  rw [e2, bb] at hr
  have hs : r < FloatKind.f64.format.signWeight := by
    have : FloatKind.f64.format.signWeight = 2048 * 4503599627370496 := by decide
    omega
  obtain ⟨a, b⟩ := read_of_word FloatKind.f64.format s (r := r) hs
  rw [er, a, b]; exact ⟨rfl, hr⟩

/-- What is read of a finite number that is at most so great. -/
theorem place_le {x q : Nat} (h : rng FloatKind.f64.format x ≤ q * 4503599627370496) (h1 : 1 ≤ q) (h2 : q ≤ 2046) :
    ∃ m p, FloatKind.f64.format.read x = .number (sgn FloatKind.f64.format x) m p ∧ (m = 0 ∨ p + m.log2 ≤ (q : Int) - 1023) := by
  have fb : (FloatKind.f64.format.fractionBits : Int) = 52 := by decide
  have bb : FloatKind.f64.format.binade = 4503599627370496 := by decide
  obtain ⟨m, p, e, hp, hl⟩ := read_place .f64 1074 (by decide) (q := q) (x := x) (by rw [bb]; exact h) (by rw [bb, inf64]; omega) h1
  refine ⟨m, p, e, ?_⟩
  rcases hl with hl | hl
  · exact .inl hl
  · right; rw [fb] at hl; omega

theorem fin_of_le {x q : Nat} (h2 : q ≤ 2046) (h : rng FloatKind.f64.format x ≤ q * 4503599627370496) : isF .f64 x = true := by
  unfold isF; rw [inf64]; simp; omega

theorem isF_qn : isF .f64 (qn .f64) = false := by decide
/-- What is read of what is not finite. -/
theorem read_not {x : Nat} (h : isF .f64 x = false) : (∃ s, FloatKind.f64.format.read x = .infinity s) ∨ (∃ s t, FloatKind.f64.format.read x = .nan s t) := by
  by_cases hn : isN .f64 x = true
  · right; rw [isN_iff] at hn; exact read_nan .f64 x (by simpa using hn)
  · left
    have hn' : isN .f64 x = false := by simpa using hn
    refine ⟨_, read_inf .f64 x ?_⟩
    unfold isF at h; rw [isN_iff] at hn'; simp at h hn'; omega
theorem isF_inf (s : Bool) : isF .f64 (FloatKind.f64.format.write (.infinity s)) = false := by cases s <;> decide

theorem log2_mul_le (m n : Nat) (hm : m ≠ 0) (hn : n ≠ 0) : (m * n).log2 ≤ m.log2 + n.log2 + 1 := by
  apply log2_le_of_lt (Nat.mul_ne_zero hm hn)
  calc m * n < 2 ^ (m.log2 + 1) * 2 ^ (n.log2 + 1) := Nat.mul_lt_mul_of_lt_of_lt Nat.lt_log2_self Nat.lt_log2_self
    _ = 2 ^ (m.log2 + n.log2 + 1 + 1) := by rw [← Nat.pow_add]; congr 1; omega

theorem mul_le {x y a b q : Nat} (hx : Le a x) (hy : Le b y) (ha1 : 1 ≤ a) (ha : a ≤ 2046) (hb1 : 1 ≤ b) (hb : b ≤ 2046) (e : q + 1021 = a + b) (hq : 2 ≤ q) (hq2 : q ≤ 2046) :
    Le q (fop .mul .f64 x y) := by
  intro hf
  by_cases fx : isF .f64 x = true
  · by_cases fy : isF .f64 y = true
    · obtain ⟨m, i, ex, hm⟩ := place_le (hx fx) ha1 ha
      obtain ⟨n, j, ey, hn⟩ := place_le (hy fy) hb1 hb
      have e1 : fop .mul .f64 x y = FloatKind.f64.format.nearest (sgn FloatKind.f64.format x ^^ sgn FloatKind.f64.format y) (m * n) (i + j) := by
        unfold fop floatBits Format.mul
        simp only [ex, ey, Datum.product, Option.map_some, Option.getD_some]; rfl
      rw [e1]
      refine (near_le _ _ _ hq hq2 ?_).2
      by_cases hm0 : m = 0
      · left; simp [hm0]
      · by_cases hn0 : n = 0
        · left; simp [hn0]
        · right
          have := log2_mul_le m n hm0 hn0
          rcases hm with h | h; exact absurd h hm0
          rcases hn with h' | h'; exact absurd h' hn0
          omega
    · exfalso
      have fy' : isF .f64 y = false := by simpa using fy
      obtain ⟨m, i, ex, hm⟩ := place_le (hx fx) ha1 ha
      rcases read_not fy' with ⟨s, ey⟩ | ⟨s, t, ey⟩
      · unfold fop floatBits Format.mul at hf
        simp only [ex, ey, Datum.product] at hf
        split at hf
        · simp only [Option.map_none, Option.getD_none] at hf; rw [isF_qn] at hf; cases hf
        · simp only [Option.map_some, Option.getD_some] at hf; rw [isF_inf] at hf; cases hf
      · unfold fop floatBits Format.mul at hf
        simp only [ex, ey, Datum.product, Option.map_none, Option.getD_none] at hf; rw [isF_qn] at hf; cases hf
  · exfalso
    have fx' : isF .f64 x = false := by simpa using fx
    unfold fop floatBits Format.mul at hf
    rcases read_not fx' with ⟨s, ex⟩ | ⟨s, t, ex⟩
    · rw [ex] at hf
      cases hy : FloatKind.f64.format.read y with
      | number t n j =>
        simp only [hy, Datum.product] at hf
        split at hf
        · simp only [Option.map_none, Option.getD_none] at hf; rw [isF_qn] at hf; cases hf
        · simp only [Option.map_some, Option.getD_some] at hf; rw [isF_inf] at hf; cases hf
      | infinity t => simp only [hy, Datum.product, Option.map_some, Option.getD_some] at hf; rw [isF_inf] at hf; cases hf
      | nan t n => simp only [hy, Datum.product, Option.map_none, Option.getD_none] at hf; rw [isF_qn] at hf; cases hf
    · rw [ex] at hf
      simp only [Datum.product, Option.map_none, Option.getD_none] at hf; rw [isF_qn] at hf; cases hf

theorem signed_abs (s : Bool) (m u : Nat) : (signed s m u).natAbs = m * 2 ^ u := by
  rw [signed_eq]; cases s
  · exact Int.natAbs_natCast _
  · exact (Int.natAbs_neg _).trans (Int.natAbs_natCast _)

theorem sum_place {s t : Bool} {m n : Nat} {i j e : Int} (hm : m = 0 ∨ i + m.log2 ≤ e) (hn : n = 0 ∨ j + n.log2 ≤ e) :
    let base := min i j
    let total := signed s m (i - base).toNat + signed t n (j - base).toNat
    total.natAbs = 0 ∨ base + total.natAbs.log2 ≤ e + 1 := by
  intro base total
  by_cases h0 : total.natAbs = 0
  · exact .inl h0
  · right
    have hb : total.natAbs ≤ m * 2 ^ (i - base).toNat + n * 2 ^ (j - base).toNat := by
      have := Int.natAbs_add_le (signed s m (i - base).toNat) (signed t n (j - base).toNat)
      rw [signed_abs, signed_abs] at this; exact this
    have hbi : base ≤ i := Int.min_le_left _ _
    have hbj : base ≤ j := Int.min_le_right _ _
    have part : ∀ (x : Nat) (k : Int), base ≤ k → (x = 0 ∨ k + x.log2 ≤ e) → x * 2 ^ (k - base).toNat ≤ 2 ^ (e - base + 1).toNat - 1 := by
      intro x k hk hx
      have hp : 0 < 2 ^ (e - base + 1).toNat := Nat.two_pow_pos _
      by_cases hx0 : x = 0
      · subst hx0; simp
      · rcases hx with hx | hx
        · exact absurd hx hx0
        · have : x * 2 ^ (k - base).toNat < 2 ^ (x.log2 + 1) * 2 ^ (k - base).toNat := Nat.mul_lt_mul_of_pos_right Nat.lt_log2_self (Nat.two_pow_pos _)
          rw [← Nat.pow_add] at this
          have h2 : 2 ^ (x.log2 + 1 + (k - base).toNat) ≤ 2 ^ (e - base + 1).toNat := Nat.pow_le_pow_right (by omega) (by omega)
          omega
    have p1 := part m i hbi hm
    have p2 := part n j hbj hn
    have he : 0 ≤ e - base + 1 := by
      by_cases hm0 : m = 0
      · by_cases hn0 : n = 0
        · exfalso; apply h0; subst hm0; subst hn0; simp at hb; simp [hb]
        · rcases hn with h | h; exact absurd h hn0; omega
      · rcases hm with h | h; exact absurd h hm0; omega
    have hlt : total.natAbs < 2 ^ ((e - base + 1).toNat + 1) := by
      have hp : 0 < 2 ^ (e - base + 1).toNat := Nat.two_pow_pos _
      rw [Nat.pow_succ]; omega
    have := log2_le_of_lt h0 hlt
    omega

theorem sum_le {x y : Datum} {a b q : Nat} {o : Option Nat} (ho : o = (x.sum y).map FloatKind.f64.format.write)
    (hx : (∃ s m i, x = .number s m i ∧ (m = 0 ∨ i + m.log2 ≤ (a : Int) - 1023)) ∨ (∃ s, x = .infinity s) ∨ (∃ s t, x = .nan s t))
    (hy : (∃ s m i, y = .number s m i ∧ (m = 0 ∨ i + m.log2 ≤ (b : Int) - 1023)) ∨ (∃ s, y = .infinity s) ∨ (∃ s t, y = .nan s t))
    (ha : a + 2 ≤ q) (hb : b + 2 ≤ q) (hq2 : q ≤ 2046) : Le q (o.getD (qn .f64)) := by
  intro hf
  subst ho
  rcases hx with ⟨s, m, i, rfl, hm⟩ | ⟨s, rfl⟩ | ⟨s, t, rfl⟩
  · rcases hy with ⟨t, n, j, rfl, hn⟩ | ⟨t, rfl⟩ | ⟨t, u, rfl⟩
    · simp only [Datum.sum, Option.map_some, Option.getD_some]
      have hp := sum_place (s := s) (t := t) (m := m) (n := n) (i := i) (j := j) (e := (q : Int) - 1025) (by omega) (by omega)
      refine (near_le _ _ _ (by omega) hq2 ?_).2
      rcases hp with h | h
      · exact .inl h
      · right; omega
    · simp only [Datum.sum, Option.map_some, Option.getD_some] at hf; rw [isF_inf] at hf; cases hf
    · simp only [Datum.sum, Option.map_none, Option.getD_none] at hf; rw [isF_qn] at hf; cases hf
  · rcases hy with ⟨t, n, j, rfl, hn⟩ | ⟨t, rfl⟩ | ⟨t, u, rfl⟩
    · simp only [Datum.sum, Option.map_some, Option.getD_some] at hf; rw [isF_inf] at hf; cases hf
    · simp only [Datum.sum] at hf
      split at hf
      · simp only [Option.map_some, Option.getD_some] at hf; rw [isF_inf] at hf; cases hf
      · simp only [Option.map_none, Option.getD_none] at hf; rw [isF_qn] at hf; cases hf
    · simp only [Datum.sum, Option.map_none, Option.getD_none] at hf; rw [isF_qn] at hf; cases hf
  · simp only [Datum.sum, Option.map_none, Option.getD_none] at hf; rw [isF_qn] at hf; cases hf

theorem read_le {x a : Nat} (h : Le a x) (h1 : 1 ≤ a) (h2 : a ≤ 2046) :
    (∃ s m i, FloatKind.f64.format.read x = .number s m i ∧ (m = 0 ∨ i + m.log2 ≤ (a : Int) - 1023)) ∨ (∃ s, FloatKind.f64.format.read x = .infinity s) ∨ (∃ s t, FloatKind.f64.format.read x = .nan s t) := by
  by_cases hf : isF .f64 x = true
  · obtain ⟨m, p, e, hm⟩ := place_le (h hf) h1 h2
    exact .inl ⟨_, m, p, e, hm⟩
  · exact .inr (read_not (by simpa using hf))
theorem read_le_opp {x a : Nat} (h : Le a x) (h1 : 1 ≤ a) (h2 : a ≤ 2046) :
    (∃ s m i, (FloatKind.f64.format.read x).opposite = .number s m i ∧ (m = 0 ∨ i + m.log2 ≤ (a : Int) - 1023)) ∨ (∃ s, (FloatKind.f64.format.read x).opposite = .infinity s) ∨ (∃ s t, (FloatKind.f64.format.read x).opposite = .nan s t) := by
  rcases read_le h h1 h2 with ⟨s, m, i, e, hm⟩ | ⟨s, e⟩ | ⟨s, t, e⟩
  · exact .inl ⟨!s, m, i, by rw [e]; rfl, hm⟩
  · exact .inr (.inl ⟨!s, by rw [e]; rfl⟩)
  · exact .inr (.inr ⟨!s, t, by rw [e]; rfl⟩)

theorem add_le {x y a b q : Nat} (hx : Le a x) (hy : Le b y) (ha1 : 1 ≤ a) (hb1 : 1 ≤ b) (ha : a + 2 ≤ q) (hb : b + 2 ≤ q) (hq : q ≤ 2046) : Le q (fop .add .f64 x y) :=
  sum_le rfl (read_le hx ha1 (by omega)) (read_le hy hb1 (by omega)) ha hb hq
theorem sub_le {x y a b q : Nat} (hx : Le a x) (hy : Le b y) (ha1 : 1 ≤ a) (hb1 : 1 ≤ b) (ha : a + 2 ≤ q) (hb : b + 2 ≤ q) (hq : q ≤ 2046) : Le q (fop .sub .f64 x y) :=
  sum_le rfl (read_le hx ha1 (by omega)) (read_le_opp hy hb1 (by omega)) ha hb hq

/-! Quotients. -/
theorem quo_place {s t : Bool} {m n digits : Nat} {i j e : Int} (hn : n ≠ 0) (h : m = 0 ∨ (i + m.log2) - (j + n.log2) ≤ e) :
    let more := digits + n.log2 - m.log2
    let k := 2 * ((m <<< more) / n) + ((m <<< more) % n != 0).toNat
    k = 0 ∨ (i - j - (more : Int) - 1) + k.log2 ≤ e := by
  intro more k
  by_cases hk : k = 0
  · exact .inl hk
  · right
    have hm : m ≠ 0 := by
      intro hm; apply hk; show 2 * ((m <<< more) / n) + ((m <<< more) % n != 0).toNat = 0
      subst hm; simp
    rcases h with h | h
    · exact absurd h hm
    have hle : n.log2 ≤ m.log2 + more := by show n.log2 ≤ m.log2 + (digits + n.log2 - m.log2); omega
    have h1 : m <<< more < 2 ^ (m.log2 + 1 + more) := by
      rw [Nat.shiftLeft_eq, Nat.pow_add]; exact Nat.mul_lt_mul_of_pos_right Nat.lt_log2_self (Nat.two_pow_pos _)
    have h2 : (m <<< more) / n < 2 ^ (m.log2 + 1 + more - n.log2) := by
      rw [Nat.div_lt_iff_lt_mul (by omega)]
      calc m <<< more < 2 ^ (m.log2 + 1 + more) := h1
        _ = 2 ^ (m.log2 + 1 + more - n.log2) * 2 ^ n.log2 := by rw [← Nat.pow_add]; congr 1; omega
        _ ≤ 2 ^ (m.log2 + 1 + more - n.log2) * n := Nat.mul_le_mul_left _ (Nat.log2_self_le hn)
    have h3 : k < 2 ^ (m.log2 + 1 + more - n.log2 + 1) := by
      have := Bool.toNat_le ((m <<< more) % n != 0)
      show 2 * ((m <<< more) / n) + ((m <<< more) % n != 0).toNat < _
      rw [Nat.pow_succ]; omega
    have := log2_le_of_lt hk h3
    omega

/-- The place of the first digit of a finite number that is at least so great. -/
theorem place_ge {x g : Nat} (hf : isF .f64 x = true) (h : g * 4503599627370496 ≤ rng FloatKind.f64.format x) (h1 : 1 ≤ g) :
    ∃ m p, FloatKind.f64.format.read x = .number (sgn FloatKind.f64.format x) m p ∧ m ≠ 0 ∧ (g : Int) - 1023 ≤ p + m.log2 := by
  have bb : FloatKind.f64.format.binade = 4503599627370496 := by decide
  obtain ⟨m, p, e, hp, hv⟩ := read_fin FloatKind.f64.format 1074 (by decide) x (by simpa [isF] using hf)
  have h2 : rmag FloatKind.f64.format (g * 4503599627370496) ≤ rmag FloatKind.f64.format (rng FloatKind.f64.format x) := rmag_le _ h
  have h3 : rmag FloatKind.f64.format (g * 4503599627370496) = 2 ^ (52 + (g - 1)) := by
    have := rmag_word (f := FloatKind.f64.format) (t := FloatKind.f64.format.binade) (q := g - 1) (Nat.le_refl _) (by omega)
    rw [bb] at this
    have e2 : (g - 1) * 4503599627370496 + 4503599627370496 = g * 4503599627370496 := by omega
    rw [e2] at this; rw [this, Nat.pow_add]
  rw [h3, ← hv] at h2
  have hm : m ≠ 0 := by rintro rfl; have := Nat.two_pow_pos (52 + (g - 1)); omega
  refine ⟨m, p, e, hm, ?_⟩
  have h4 : m * 2 ^ (p + (1074 : Nat)).toNat < 2 ^ (m.log2 + 1 + (p + (1074 : Nat)).toNat) := by
    rw [Nat.pow_add]; exact Nat.mul_lt_mul_of_pos_right Nat.lt_log2_self (Nat.two_pow_pos _)
  have h5 := (Nat.pow_lt_pow_iff_right (by decide : 1 < 2)).1 (Nat.lt_of_le_of_lt h2 h4)
  omega

theorem quo_le {x y : Nat} {q : Nat} (h1 : 2 ≤ q) (h2 : q ≤ 2046)
    (h : ∀ s m i t n j, FloatKind.f64.format.read x = .number s m i → FloatKind.f64.format.read y = .number t n j → n ≠ 0 → m = 0 ∨ (i + m.log2) - (j + n.log2) ≤ (q : Int) - 1024) : Le q (fop .quo .f64 x y) := by
  intro hf
  unfold fop floatBits Format.div at hf ⊢
  simp only at hf ⊢
  cases ex : FloatKind.f64.format.read x with
  | nan s t => rw [ex] at hf; simp only [Datum.quotient, Option.map_none, Option.getD_none] at hf; rw [isF_qn] at hf; cases hf
  | infinity s =>
    cases ey : FloatKind.f64.format.read y with
    | nan t u => rw [ex, ey] at hf; simp only [Datum.quotient, Option.map_none, Option.getD_none] at hf; rw [isF_qn] at hf; cases hf
    | infinity t => rw [ex, ey] at hf; simp only [Datum.quotient, Option.map_none, Option.getD_none] at hf; rw [isF_qn] at hf; cases hf
    | number t n j => rw [ex, ey] at hf; simp only [Datum.quotient, Option.map_some, Option.getD_some] at hf; rw [isF_inf] at hf; cases hf
  | number s m i =>
    cases ey : FloatKind.f64.format.read y with
    | nan t u => rw [ex, ey] at hf; simp only [Datum.quotient, Option.map_none, Option.getD_none] at hf; rw [isF_qn] at hf; cases hf
    | infinity t =>
      simp only [Datum.quotient, Option.map_some, Option.getD_some]
      exact (near_le _ _ _ h1 h2 (.inl rfl)).2
    | number t n j =>
      by_cases hn : n = 0
      · rw [ex, ey] at hf
        simp only [Datum.quotient, hn, if_true] at hf
        by_cases hm : m = 0
        · simp only [hm, if_true, Option.map_none, Option.getD_none] at hf; rw [isF_qn] at hf; cases hf
        · simp only [hm, if_false, Option.map_some, Option.getD_some] at hf; rw [isF_inf] at hf; cases hf
      · simp only [Datum.quotient, hn, if_false, Option.map_some, Option.getD_some]
        exact (near_le _ _ _ h1 h2 (quo_place (s := s) (t := t) hn (h s m i t n j ex ey hn))).2

/-- A quotient by what is at least so great. -/
theorem div_le {x y a g q : Nat} (hx : Le a x) (hy : isF .f64 y = true → g * 4503599627370496 ≤ rng FloatKind.f64.format y) (ha1 : 1 ≤ a) (ha : a ≤ 2046) (hg : 1 ≤ g) (e : a + 1024 ≤ q + g) (h1 : 2 ≤ q) (h2 : q ≤ 2046) : Le q (fop .quo .f64 x y) := by
  refine quo_le h1 h2 ?_
  intro s m i t n j ex ey hn
  have fy : isF .f64 y = true := by
    by_cases h : isF .f64 y = true
    · exact h
    · rcases read_not (by simpa using h) with ⟨s, e⟩ | ⟨s, t, e⟩ <;> rw [e] at ey <;> cases ey
  obtain ⟨n', j', ey', hn', hp⟩ := place_ge fy (hy fy) hg
  rw [ey] at ey'; injection ey' with _ e1 e2
  rcases read_le hx ha1 ha with ⟨s', m', i', ex', hm⟩ | ⟨s', ex'⟩ | ⟨s', t', ex'⟩
  · rw [ex] at ex'; injection ex' with _ e3 e4
    subst e1; subst e2; subst e3; subst e4
    rcases hm with h | h
    · exact .inl h
    · right; omega
  · rw [ex] at ex'; cases ex'
  · rw [ex] at ex'; cases ex'

/-- A quotient of what is no greater. -/
theorem div_one {x y q : Nat} (hxy : rng FloatKind.f64.format x ≤ rng FloatKind.f64.format y) (fy : isF .f64 y = true) (h1 : 1024 ≤ q) (h2 : q ≤ 2046) : Le q (fop .quo .f64 x y) := by
  refine quo_le (by omega) h2 ?_
  intro s m i t n j ex ey hn
  by_cases hm : m = 0
  · exact .inl hm
  · right
    have fy' : rng FloatKind.f64.format y < FloatKind.f64.format.infRung := by simpa [isF] using fy
    obtain ⟨m', i', ex', hi, vx⟩ := read_fin FloatKind.f64.format 1074 (by decide) x (Nat.lt_of_le_of_lt hxy fy')
    obtain ⟨n', j', ey', hj, vy⟩ := read_fin FloatKind.f64.format 1074 (by decide) y fy'
    rw [ex] at ex'; injection ex' with _ e1 e2
    rw [ey] at ey'; injection ey' with _ e3 e4
    subst e1; subst e2; subst e3; subst e4
    have h := rmag_le FloatKind.f64.format hxy
    rw [← vx, ← vy] at h
    have a1 : 2 ^ (m.log2 + (i + (1074 : Nat)).toNat) ≤ m * 2 ^ (i + (1074 : Nat)).toNat := by rw [Nat.pow_add]; exact Nat.mul_le_mul_right _ (Nat.log2_self_le hm)
    have a2 : n * 2 ^ (j + (1074 : Nat)).toNat < 2 ^ (n.log2 + 1 + (j + (1074 : Nat)).toNat) := by rw [Nat.pow_add]; exact Nat.mul_lt_mul_of_pos_right Nat.lt_log2_self (Nat.two_pow_pos _)
    have := (Nat.pow_lt_pow_iff_right (by decide : 1 < 2)).1 (Nat.lt_of_le_of_lt a1 (Nat.lt_of_le_of_lt h a2))
    omega

/-! Numbers that are at least 1. -/
theorem cut_ge (s : Bool) (n d B : Nat) (h : B * 2 ^ d ≤ n) (hB : 0 < B) : B ≤ Toward.even.cut s n d := by
  unfold Toward.cut
  simp only [Nat.shiftLeft_eq, Nat.one_mul]
  refine Nat.le_trans ?_ (Nat.le_add_right _ _)
  have hp : 0 < 2 ^ min d (n.log2 + 2) := Nat.two_pow_pos _
  rw [Nat.le_div_iff_mul_le hp]
  exact Nat.le_trans (Nat.mul_le_mul_left _ (Nat.pow_le_pow_right (by decide) (Nat.min_le_left _ _))) h

theorem cut_52 (s : Bool) (m : Nat) (p last : Int) (hm : m ≠ 0) (hl : last = max (p + (m.log2 : Int) - 52) (-1074)) (h : 0 ≤ p + m.log2) : 2 ^ 52 ≤ Toward.even.cut s (m <<< (p - last).toNat) (last - p).toNat := by
  refine cut_ge _ _ _ _ ?_ (Nat.two_pow_pos _)
  rw [Nat.shiftLeft_eq, ← Nat.pow_add]
  refine Nat.le_trans ?_ (Nat.mul_le_mul_right _ (Nat.log2_self_le hm))
  rw [← Nat.pow_add]
  exact Nat.pow_le_pow_right (by decide) (by omega)
theorem num_ge {z k r : Nat} (h2 : 1022 * 4503599627370496 ≤ z) (hk : 4503599627370496 ≤ k) (hr : min (z + k) 9218868437227405312 = r) : 1023 * 4503599627370496 ≤ r := by omega
theorem near_ge (s : Bool) (m : Nat) (p : Int) (hm : m ≠ 0) (h : 0 ≤ p + m.log2) :
    sgn FloatKind.f64.format (FloatKind.f64.format.nearest s m p) = s ∧ 1023 * 4503599627370496 ≤ rng FloatKind.f64.format (FloatKind.f64.format.nearest s m p) := by
  have fb : (FloatKind.f64.format.fractionBits : Int) = 52 := by decide
  have lp : FloatKind.f64.format.leastPlace = -1074 := by decide
  have bb : FloatKind.f64.format.binade = 4503599627370496 := by decide
  generalize hl : max (p + (m.log2 : Int) - 52) (-1074 : Int) = last
  have hk := cut_52 s m p last hm hl.symm h
  have e : FloatKind.f64.format.nearest s m p = FloatKind.f64.format.word s (min ((last - -1074).toNat * 4503599627370496 + Toward.even.cut s (m <<< (p - last).toNat) (last - p).toNat) FloatKind.f64.format.infRung) := by
    unfold Format.nearest
    rw [if_neg hm]
    simp only [fb, lp, bb, hl]
  generalize Toward.even.cut s (m <<< (p - last).toNat) (last - p).toNat = k at hk e
  generalize hr : min ((last - -1074).toNat * 4503599627370496 + k) FloatKind.f64.format.infRung = r at e
  have hs : r < FloatKind.f64.format.signWeight := by
    have : FloatKind.f64.format.infRung < FloatKind.f64.format.signWeight := by decide
    rw [← hr]; exact Nat.lt_of_le_of_lt (Nat.min_le_right _ _) this
  obtain ⟨a, b⟩ := read_of_word FloatKind.f64.format s (r := r) hs
  rw [e, a, b]
  refine ⟨rfl, ?_⟩
  rw [inf64] at hr
  have hlast : 1022 ≤ (last - -1074).toNat := by omega
  have h2 : 1022 * 4503599627370496 ≤ (last - -1074).toNat * 4503599627370496 := Nat.mul_le_mul_right _ hlast
  have e3 : (2 : Nat) ^ 52 = 4503599627370496 := by decide
  rw [e3] at hk
  exact num_ge h2 hk hr

theorem read_pos {x : Nat} (h : Pos x) : (∃ m i, FloatKind.f64.format.read x = .number false m i) ∨ (∃ s, FloatKind.f64.format.read x = .infinity s) ∨ (∃ s t, FloatKind.f64.format.read x = .nan s t) := by
  by_cases hf : isF .f64 x = true
  · obtain ⟨m, p, e, _⟩ := read_fin FloatKind.f64.format 1074 (by decide) x (by simpa [isF] using hf)
    rw [h hf] at e
    exact .inl ⟨m, p, e⟩
  · exact .inr (read_not (by simpa using hf))

theorem one_read : FloatKind.f64.format.read 4607182418800017408 = .number false 4503599627370496 (-52) := by decide
theorem one_add {x : Nat} (h : Pos x) : Ge1 (fop .add .f64 4607182418800017408 x) := by
  intro hf
  unfold fop floatBits Format.add at hf ⊢
  simp only [one_read] at hf ⊢
  rcases read_pos h with ⟨m, i, e⟩ | ⟨s, e⟩ | ⟨s, t, e⟩
  · rw [e]
    simp only [Datum.sum, Option.map_some, Option.getD_some]
    generalize hb : min (-52 : Int) i = base
    have hp : signed false 4503599627370496 (-52 - base).toNat + signed false m (i - base).toNat = ((4503599627370496 * 2 ^ (-52 - base).toNat + m * 2 ^ (i - base).toNat : Nat) : Int) := by
      rw [signed_eq, signed_eq]; simp
    rw [hp]
    generalize hT : 4503599627370496 * 2 ^ (-52 - base).toNat + m * 2 ^ (i - base).toNat = T
    have hT2 : 2 ^ (52 + (-52 - base).toNat) ≤ T := by
      rw [← hT, Nat.pow_add]; exact Nat.le_add_right _ _
    have hT0 : T ≠ 0 := by have := Nat.two_pow_pos (52 + (-52 - base).toNat); omega
    have hlog : 52 + (-52 - base).toNat ≤ T.log2 := (Nat.le_log2 hT0).2 hT2
    have hs : (if ((T : Nat) : Int) = 0 then (false && false) else decide (((T : Nat) : Int) < 0)) = false := by
      rw [if_neg (by omega)]; simp
    rw [hs]
    have hbase : base ≤ -52 := by omega
    exact near_ge false _ base (by simpa using hT0) (by rw [Int.natAbs_natCast]; omega)
  · rw [e] at hf; simp only [Datum.sum, Option.map_some, Option.getD_some] at hf; rw [isF_inf] at hf; cases hf
  · rw [e] at hf; simp only [Datum.sum, Option.map_none, Option.getD_none] at hf; rw [isF_qn] at hf; cases hf

theorem near_sgn (s : Bool) (m : Nat) (p : Int) : sgn FloatKind.f64.format (FloatKind.f64.format.nearest s m p) = s := by
  obtain ⟨r, er, hr⟩ := nearest_le FloatKind.f64.format s m p
  have : FloatKind.f64.format.infRung < FloatKind.f64.format.signWeight := by decide
  rw [er, (read_of_word FloatKind.f64.format s (r := r) (by omega)).1]

theorem sq_pos (x : Nat) : Pos (fop .mul .f64 x x) := by
  intro hf
  unfold fop floatBits Format.mul at hf ⊢
  simp only at hf ⊢
  cases ex : FloatKind.f64.format.read x with
  | nan s t => rw [ex] at hf; simp only [Datum.product, Option.map_none, Option.getD_none] at hf; rw [isF_qn] at hf; cases hf
  | infinity s => rw [ex] at hf; simp only [Datum.product, Option.map_some, Option.getD_some] at hf; rw [isF_inf] at hf; cases hf
  | number s m i =>
    simp only [Datum.product, Option.map_some, Option.getD_some]
    exact (near_sgn _ _ _).trans (by cases s <;> rfl)

theorem root_pos {x : Nat} (h : Pos x) : Pos (fsq x) := by
  intro hf
  unfold fsq sqrtO Format.sqrt at hf ⊢
  rcases read_pos h with ⟨m, i, e⟩ | ⟨s, e⟩ | ⟨s, t, e⟩
  · rw [e]
    unfold Datum.root
    simp only
    split
    · simp only [Option.map_some, Option.getD_some]; exact near_sgn _ _ _
    · simp only [Bool.false_eq_true, if_false, Option.map_some, Option.getD_some]; exact near_sgn _ _ _
  · rw [e] at hf
    unfold Datum.root at hf
    simp only at hf
    split at hf
    · simp only [Option.map_none, Option.getD_none] at hf; rw [isF_qn] at hf; cases hf
    · simp only [Option.map_some, Option.getD_some] at hf; rw [isF_inf] at hf; cases hf
  · rw [e] at hf
    unfold Datum.root at hf
    simp only [Option.map_none, Option.getD_none] at hf; rw [isF_qn] at hf; cases hf

theorem Ge1.pos {x : Nat} (h : Ge1 x) : Pos x := fun hf => (h hf).1
/-- One step of the angle: t / (1 + root (1 + t t)). -/
def step (t : Nat) : Nat := fop .quo .f64 t (fop .add .f64 4607182418800017408 (fsq (fop .add .f64 4607182418800017408 (fop .mul .f64 t t))))
theorem step_le {t q : Nat} (h : Le q t) (h1 : 1 ≤ q) (h2 : q ≤ 2045) : Le (q + 1) (step t) :=
  div_le (g := 1023) h (fun hf => (one_add (root_pos (one_add (sq_pos t)).pos) hf).2) h1 (by omega) (by decide) (by omega) (by omega) (by omega)
end Go.FX
