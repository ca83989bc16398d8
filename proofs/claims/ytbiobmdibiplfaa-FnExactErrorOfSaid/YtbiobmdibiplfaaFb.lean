import Derived.Test.YtbiobmdibiplfaaFo
set_option linter.unusedVariables false
set_option linter.unusedSimpArgs false
namespace Go.FX
open Go Ieee

/-! Numbers that are small enough to be narrowed: how great a rounded number can be. -/
theorem cut_le (s : Bool) (n d : Nat) (B : Nat) (h : n < B * 2 ^ d) (hB : 0 < B) : Toward.even.cut s n d ≤ B := by
  unfold Toward.cut
  simp only [Nat.shiftLeft_eq, Nat.one_mul]
  have hp : 0 < 2 ^ min d (n.log2 + 2) := Nat.two_pow_pos _
  have hlow : n / 2 ^ min d (n.log2 + 2) < B := by
    rw [Nat.div_lt_iff_lt_mul hp]
    rcases Nat.le_total d (n.log2 + 2) with hd | hd
    · rw [Nat.min_eq_left hd]; exact h
    · rw [Nat.min_eq_right hd]
      have h2 : n < 2 ^ (n.log2 + 1) := Nat.lt_log2_self
      calc n < 2 ^ (n.log2 + 1) := h2
        _ ≤ 2 ^ (n.log2 + 2) := Nat.pow_le_pow_right (by omega) (by omega)
        _ = 1 * 2 ^ (n.log2 + 2) := (Nat.one_mul _).symm
        _ ≤ B * 2 ^ (n.log2 + 2) := Nat.mul_le_mul_right _ hB
  generalize n / 2 ^ min d (n.log2 + 2) = low at hlow ⊢
  exact Nat.le_trans (Nat.add_le_add_left (Bool.toNat_le _) _) (by omega)

/-- Coarsely: what has its first digit at the place e or below has a rung of at most '(e - fb + N + 2)' binades. -/
theorem nearest_rung (f : Format) (N : Nat) (hN : f.leastPlace = -(N : Int)) (s : Bool) (m : Nat) (p e : Int) (he : 0 ≤ e - f.fractionBits + N) (h : m = 0 ∨ p + m.log2 ≤ e) :
    ∃ r, f.nearest s m p = f.word s r ∧ r ≤ ((e - f.fractionBits + N).toNat + 2) * f.binade := by
  have hb : 0 < f.binade := Nat.two_pow_pos _
  unfold Format.nearest
  by_cases hm : m = 0
  · rw [if_pos hm]; exact ⟨0, rfl, Nat.zero_le _⟩
  · rw [if_neg hm]
    have h' : p + m.log2 ≤ e := by rcases h with h | h; exact absurd h hm; exact h
    simp only [hN]
    generalize hl : max (p + (m.log2 : Int) - (f.fractionBits : Int)) (-(N : Int)) = last
    refine ⟨_, rfl, Nat.le_trans (Nat.min_le_left _ _) ?_⟩
    have e1 : (last - -(N : Int)).toNat ≤ (e - f.fractionBits + N).toNat := by omega
    have hk : Toward.even.cut s (m <<< (p - last).toNat) (last - p).toNat ≤ 2 * f.binade := by
      refine cut_le _ _ _ _ ?_ (by omega)
      rw [Nat.shiftLeft_eq]
      have l2 : m < 2 ^ (m.log2 + 1) := Nat.lt_log2_self
      have e3 : 2 * f.binade = 2 ^ (f.fractionBits + 1) := by unfold Format.binade; rw [Nat.pow_succ, Nat.mul_comm]
      rw [e3, ← Nat.pow_add]
      calc m * 2 ^ (p - last).toNat < 2 ^ (m.log2 + 1) * 2 ^ (p - last).toNat := Nat.mul_lt_mul_of_pos_right l2 (Nat.two_pow_pos _)
        _ = 2 ^ (m.log2 + 1 + (p - last).toNat) := (Nat.pow_add ..).symm
        _ ≤ 2 ^ (f.fractionBits + 1 + (last - p).toNat) := Nat.pow_le_pow_right (by omega) (by omega)
    calc (last - -(N : Int)).toNat * f.binade + Toward.even.cut s (m <<< (p - last).toNat) (last - p).toNat
        ≤ (e - f.fractionBits + N).toNat * f.binade + 2 * f.binade := Nat.add_le_add (Nat.mul_le_mul_right _ e1) hk
      _ = ((e - f.fractionBits + N).toNat + 2) * f.binade := (Nat.add_mul ..).symm

/-- What is read of a word: its first digit's place. -/
theorem read_place (k : FloatKind) (N : Nat) (hN : k.format.leastPlace = -(N : Int)) {x q : Nat} (hx : rng k.format x ≤ q * k.format.binade) (hq : q * k.format.binade < k.format.infRung) (hq1 : 1 ≤ q) :
    ∃ m p, k.format.read x = .number (sgn k.format x) m p ∧ -(N : Int) ≤ p ∧ (m = 0 ∨ p + m.log2 ≤ q - 1 + k.format.fractionBits - N) := by
  have hb : 0 < k.format.binade := Nat.two_pow_pos _
  obtain ⟨m, p, e, hp, hv⟩ := read_fin k.format N hN x (Nat.lt_of_le_of_lt hx hq)
  refine ⟨m, p, e, by omega, ?_⟩
  by_cases hm : m = 0
  · exact .inl hm
  · right
    have h1 : rmag k.format (rng k.format x) ≤ rmag k.format (q * k.format.binade) := rmag_le _ hx
    have h2 : rmag k.format (q * k.format.binade) = k.format.binade * 2 ^ (q - 1) := by
      have := rmag_word (f := k.format) (t := k.format.binade) (q := q - 1) (Nat.le_refl _) (by omega)
      rw [← this]; congr 1
      have : q = (q - 1) + 1 := by omega
      rw [this, Nat.add_mul]; simp
    have h3 : m * 2 ^ (p + N).toNat ≤ 2 ^ (k.format.fractionBits + (q - 1)) := by
      rw [hv, Nat.pow_add]; rw [h2] at h1; exact h1
    have h4 : 2 ^ (m.log2 + (p + N).toNat) ≤ 2 ^ (k.format.fractionBits + (q - 1)) := by
      rw [Nat.pow_add]
      exact Nat.le_trans (Nat.mul_le_mul_right _ (Nat.log2_self_le hm)) h3
    have h5 := (Nat.pow_le_pow_iff_right (by decide : 1 < 2)).1 h4
    omega

/-- What is at most 2 ^ 126 is narrowed to a number. -/
theorem not_over {y : Nat} (h : rng FloatKind.f64.format y ≤ 1149 * 4503599627370496 ∨ isF .f64 y = false) : cvOver .f64 .f32 y = false := by
  unfold cvOver
  by_cases hn : isN .f64 y = true
  · simp [hn]
  · have hn' : isN .f64 y = false := by simpa using hn
    have ne : ¬ (FloatKind.f64 = FloatKind.f32) := by decide
    rcases h with h | h
    · obtain ⟨m, p, e, hp, hl⟩ := read_place .f64 1074 (by decide) (q := 1149) (x := y) (by exact h) (by decide) (by decide)
      obtain ⟨r, er, hr⟩ := nearest_rung FloatKind.f32.format 149 (by decide) (sgn FloatKind.f64.format y) m p 126 (by decide) (by
        rcases hl with hl | hl
        · exact .inl hl
        · right
          have : (FloatKind.f64.format.fractionBits : Int) = 52 := by decide
          rw [this] at hl; omega)
      have hr' : r < FloatKind.f32.format.infRung := Nat.lt_of_le_of_lt hr (by decide)
      obtain ⟨s1, s2⟩ := read_of_word FloatKind.f32.format (sgn FloatKind.f64.format y) (r := r) (Nat.lt_trans hr' FloatKind.f32.format.infRung_lt)
      obtain ⟨m', p', e', _⟩ := read_fin FloatKind.f32.format 149 (by decide) (FloatKind.f32.format.word (sgn FloatKind.f64.format y) r) (by rw [s2]; exact hr')
      have ew : FloatKind.f32.format.write (.number (sgn FloatKind.f64.format y) m p) = FloatKind.f32.format.word (sgn FloatKind.f64.format y) r := er
      unfold floatToFloatBits FloatKind.decode FloatKind.encode
      rw [if_neg ne, e]
      simp only [ew, e']
      simp [Datum.isInfinity]
    · have : rng FloatKind.f64.format y = FloatKind.f64.format.infRung := by
        unfold isF at h; rw [isN_iff] at hn'; simp at h hn'; omega
      unfold floatToFloatBits FloatKind.decode FloatKind.encode
      rw [if_neg ne, read_inf .f64 y this]
      simp

/-! The square root. -/
theorem rootFrom_lt (n : Nat) : ∀ (todo root : Nat), Datum.rootFrom n todo root < root + 2 ^ todo := by
  intro todo
  induction todo with
  | zero => intro root; simp [Datum.rootFrom]
  | succ t ih =>
    intro root
    unfold Datum.rootFrom
    have h2 : 2 ^ (t + 1) = 2 ^ t + 2 ^ t := by rw [Nat.pow_succ]; omega
    have hpt := Nat.two_pow_pos t
    simp only [Nat.shiftLeft_eq, Nat.one_mul]
    split
    · have := ih (root + 2 ^ t); omega
    · have := ih root; omega

def sqrtO (y : Nat) : Option Nat := FloatKind.f64.format.sqrt y
/-- The canonical root. -/
def fsq (y : Nat) : Nat := (sqrtO y).getD (qn .f64)
theorem sqrt_nan {y : Nat} (h : isN .f64 y = true) : sqrtO y = none := by
  unfold isN at h
  unfold sqrtO Format.sqrt
  cases hr : FloatKind.f64.format.read y <;> simp [hr, Datum.isNaN] at h
  rfl
theorem fsq_cn (y : Nat) : fsq (cn .f64 y) = fsq y := by
  unfold fsq
  by_cases h : isN .f64 y = true
  · rw [sqrt_nan h, sqrt_nan (by rw [isN_cn]; exact h)]
  · rw [cn_of_not (by simpa using h)]
theorem sqrt_not {y r : Nat} (h : sqrtO y = some r) : isN .f64 r = false := map_write_not (k := .f64) (fun d => root_not) h

theorem log2_le_of_lt {m j : Nat} (hm : m ≠ 0) (h : m < 2 ^ (j + 1)) : m.log2 ≤ j := by
  have := (Nat.log2_lt hm).2 h; omega

/-- The root of what is at most 2 ^ 129 is at most 2 ^ 67. -/
theorem sqrt_small {y r : Nat} (hy : rng FloatKind.f64.format y ≤ 1152 * 4503599627370496) (h : sqrtO y = some r) : rng FloatKind.f64.format r ≤ 1149 * 4503599627370496 := by
  obtain ⟨m, p, e, hp, hl⟩ := read_place .f64 1074 (by decide) (q := 1152) (x := y) (by exact hy) (by decide) (by decide)
  have fb : (FloatKind.f64.format.fractionBits : Int) = 52 := by decide
  rw [fb] at hl
  unfold sqrtO Format.sqrt at h
  rw [e] at h
  unfold Datum.root at h
  simp only at h
  by_cases hm : m = 0
  · rw [if_pos hm] at h
    simp only [Option.map_some, Option.some.injEq] at h
    subst hm
    have e3 : FloatKind.f64.format.write (.number (sgn FloatKind.f64.format y) 0 p) = FloatKind.f64.format.word (sgn FloatKind.f64.format y) 0 := by show FloatKind.f64.format.nearest _ 0 p = _; unfold Format.nearest; rw [if_pos rfl]
    rw [← h, e3, (read_of_word FloatKind.f64.format _ (r := 0) (by decide)).2]; decide
  · rw [if_neg hm] at h
    split at h
    · cases h
    · simp only [Option.map_some, Option.some.injEq] at h
      have hl' : p + m.log2 ≤ 129 := by rcases hl with hl | hl; exact absurd hl hm; omega
      generalize hmore : 2 * (FloatKind.f64.format.fractionBits + 2) - m.log2 + ((p - ((2 * (FloatKind.f64.format.fractionBits + 2) - m.log2 : Nat) : Int)) % 2).toNat = more at h
      have heven : (p - (more : Int)) % 2 = 0 := by omega
      generalize hn : m <<< more = n at h
      have hn0 : n ≠ 0 := by rw [← hn, Nat.shiftLeft_eq]; exact Nat.mul_ne_zero hm (Nat.ne_of_gt (Nat.two_pow_pos _))
      have hnl : n.log2 ≤ m.log2 + more := by
        apply log2_le_of_lt hn0
        rw [← hn, Nat.shiftLeft_eq]
        calc m * 2 ^ more < 2 ^ (m.log2 + 1) * 2 ^ more := Nat.mul_lt_mul_of_pos_right Nat.lt_log2_self (Nat.two_pow_pos _)
          _ = 2 ^ (m.log2 + more + 1) := by rw [← Nat.pow_add]; congr 1; omega
      have hw := rootFrom_lt n (n.log2 / 2 + 1) 0
      generalize Datum.rootFrom n (n.log2 / 2 + 1) 0 = whole at h hw
      rw [Nat.zero_add] at hw
      obtain ⟨q, er, hr⟩ := nearest_rung FloatKind.f64.format 1074 (by decide) false (2 * whole + (whole * whole != n).toNat) ((p - (more : Int)) / 2 - 1) 67 (by decide) (by
        by_cases hz : 2 * whole + (whole * whole != n).toNat = 0
        · exact .inl hz
        · right
          have hb1 : (whole * whole != n).toNat ≤ 1 := Bool.toNat_le _
          have hlog : (2 * whole + (whole * whole != n).toNat).log2 ≤ n.log2 / 2 + 1 := by
            apply log2_le_of_lt hz
            have : 2 ^ (n.log2 / 2 + 1 + 1) = 2 * 2 ^ (n.log2 / 2 + 1) := by rw [Nat.pow_succ, Nat.mul_comm]
            omega
          omega)
      have ew : FloatKind.f64.format.write (.number false (2 * whole + (whole * whole != n).toNat) ((p - (more : Int)) / 2 - 1)) = FloatKind.f64.format.word false q := er
      rw [← h, ew]
      have hr' : q ≤ 1149 * 4503599627370496 := Nat.le_trans hr (by decide)
      have hq : q < FloatKind.f64.format.signWeight := Nat.lt_of_le_of_lt hr' (by decide)
      rw [(read_of_word FloatKind.f64.format false hq).2]; exact hr'

def sqR (b : Nat) (w : World) : Nat := match sqrtO b with
  | some r => r
  | none => (Question.nanBits .f64 b b).cut (w.tape w.drawn (.nanBits .f64 b b))
def sqN (b : Nat) : Nat := match sqrtO b with | some _ => 0 | none => 1
theorem run_sqrt_ext {P : Program} (b : Nat) (w : World) : (Extern.MathSqrt.sqrt #[.float .f64 b]).run P w = .ok (.float .f64 (sqR b w)) (w.drewN (sqN b)) := by
  have key : ∀ o : Option Nat, (match o with
        | some r => (pure (.float .f64 r) : Sem Value)
        | none => do pure (.float .f64 (← choose (.nanBits .f64 b b)))).run P w
      = .ok (.float .f64 (match o with | some r => r | none => (Question.nanBits .f64 b b).cut (w.tape w.drawn (.nanBits .f64 b b)))) (w.drewN (match o with | some _ => 0 | none => 1)) := by
    intro o; cases o <;> rfl
  exact key (sqrtO b)
theorem cn_sqR (b : Nat) (w : World) : cn .f64 (sqR b w) = fsq b := by
  unfold sqR fsq
  cases h : sqrtO b with
  | some r => simp [cn_of_not (sqrt_not h)]
  | none => simp [cn_of_nan (cut_nan .f64 b b _)]
theorem sqR_lt (b : Nat) (w : World) : sqR b w < width .f64 := by
  unfold sqR
  split
  · rename_i r h
    have := FloatKind.f64.format.sqrt_lt h
    rw [width_eq]; exact this
  · simp only [Question.cut, width]; omega
theorem cvOver_cn (y : Nat) : cvOver .f64 .f32 (cn .f64 y) = cvOver .f64 .f32 y := by
  by_cases h : isN .f64 y = true
  · unfold cvOver; rw [isN_cn, h]; rfl
  · rw [cn_of_not (by simpa using h)]
theorem cv_cn (y : Nat) : cv .f64 .f32 (cn .f64 y) = cv .f64 .f32 y := by unfold cv; rw [cn_cn]
theorem Fl.narrow {y c : Nat} (h : Fl .f64 y c) (ho : cvOver .f64 .f32 c = false) (w : World) : Fl .f32 (cvR .f64 y .f32 w) (cv .f64 .f32 c) := by
  refine ⟨cvR_lt w h.lt, ?_⟩
  rw [cn_cvR _ _ _ _ (by rw [← cvOver_cn, h.eq]; exact ho), ← cv_cn, h.eq]
theorem Fl.sq {y c : Nat} (h : Fl .f64 y c) (w : World) : Fl .f64 (sqR y w) (fsq c) := ⟨sqR_lt y w, by rw [cn_sqR, ← fsq_cn, h.eq]⟩

set_option exponentiation.threshold 4096 in
theorem wide_small {x : Nat} (h : isF .f32 x = true) : rng FloatKind.f64.format (wide x) ≤ 1152 * 4503599627370496 := by
  obtain ⟨_, _, _, v⟩ := wide_spec (isF_not h)
  have hx : rng FloatKind.f32.format x < FloatKind.f32.format.infRung := by simpa [isF] using h
  rcases v with ⟨h1, _⟩ | ⟨_, _, h3⟩
  · omega
  · have m1 : rmag FloatKind.f32.format (rng FloatKind.f32.format x) < 2 ^ 277 := by
      have := rmag_lt FloatKind.f32.format hx
      have e2 : rmag FloatKind.f32.format FloatKind.f32.format.infRung = 2 ^ 277 := by decide +kernel
      omega
    have m2 : rmag FloatKind.f64.format (1152 * 4503599627370496) = 2 ^ 1203 := by decide +kernel
    have m3 : rmag FloatKind.f64.format (rng FloatKind.f64.format (wide x)) < rmag FloatKind.f64.format (1152 * 4503599627370496) := by
      rw [h3, m2]
      calc rmag FloatKind.f32.format (rng FloatKind.f32.format x) * 2 ^ 925 < 2 ^ 277 * 2 ^ 925 := Nat.mul_lt_mul_of_pos_right m1 (Nat.two_pow_pos _)
        _ ≤ 2 ^ 1203 := by rw [← Nat.pow_add]; exact Nat.pow_le_pow_right (by decide) (by decide)
    exact Nat.le_of_lt ((rmag_lt_iff _ _ _).1 m3)

theorem root_over (x : Nat) : cvOver .f64 .f32 (fsq (wide x)) = false := by
  unfold fsq
  cases h : sqrtO (wide x) with
  | none => exact not_over (.inr (by decide))
  | some r =>
    by_cases hf : isF .f32 x = true
    · exact not_over (.inl (sqrt_small (wide_small hf) h))
    · have hn : isN .f64 (wide x) = false := by
        by_cases hn : isN .f64 (wide x) = true
        · rw [sqrt_nan hn] at h; cases h
        · simpa using hn
      have hn' : isN .f32 x = false := by rw [← isN_wide]; exact hn
      have hi : rng FloatKind.f32.format x = FloatKind.f32.format.infRung := by
        unfold isF at hf; rw [isN_iff] at hn'; simp at hf hn'; omega
      obtain ⟨_, _, _, v⟩ := wide_spec hn'
      have hi2 : rng FloatKind.f64.format (wide x) = FloatKind.f64.format.infRung := by
        rcases v with ⟨_, h2⟩ | ⟨h1, _⟩
        · exact h2
        · omega
      unfold sqrtO Format.sqrt at h
      rw [read_inf .f64 _ hi2] at h
      unfold Datum.root at h
      simp only at h
      split at h
      · cases h
      · simp only [Option.map_some, Option.some.injEq] at h
        rename_i hs
        have hs' : sgn FloatKind.f64.format (wide x) = false := by simpa using hs
        rw [← h, hs']
        exact not_over (.inr (by decide))

/-- The square root, narrowed. -/
def rootF (x : Nat) : Nat := cv .f64 .f32 (fsq (wide x))
theorem rootF_cn (x : Nat) : rootF (cn .f32 x) = rootF x := by unfold rootF; rw [wide_cn]
theorem Fl.root {x c : Nat} (h : Fl .f32 x c) (w1 w2 w3 : World) : Fl .f32 (cvR .f64 (sqR (cvR .f32 x .f64 w1) w2) .f32 w3) (rootF c) := ((h.wide w1).sq w2).narrow (root_over c) w3
end Go.FX
