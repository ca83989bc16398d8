import Derived.Test.YtmbohiebjgafoaaFx
import Derived.IntWalk
set_option linter.unusedVariables false
set_option linter.unusedSimpArgs false
namespace Go.FX
open Go Ieee

/-! The order of floats told by their bits. -/
/-- The magnitude of a rung, in units of the last place of the least number. -/
def rmag (f : Format) (r : Nat) : Nat := if r < f.binade then r else (f.binade + r % f.binade) * 2 ^ (r / f.binade - 1)

theorem rmag_step (f : Format) (r : Nat) : rmag f r < rmag f (r + 1) := by
  have hb : 0 < f.binade := Nat.two_pow_pos _
  generalize hB : f.binade = B at hb
  unfold rmag; rw [hB]
  by_cases h1 : r < B
  · rw [if_pos h1]
    by_cases h2 : r + 1 < B
    · rw [if_pos h2]; omega
    · have e : r + 1 = B := by omega
      rw [if_neg h2, e, Nat.mod_self, Nat.div_self hb]; simp; omega
  · rw [if_neg h1, if_neg (by omega)]
    have hq : 1 ≤ r / B := (Nat.le_div_iff_mul_le hb).2 (by omega)
    have hr : B * (r / B) + r % B = r := Nat.div_add_mod r B
    have ht : r % B < B := Nat.mod_lt _ hb
    generalize r / B = q at hq hr
    generalize r % B = t at hr ht
    by_cases h3 : t + 1 < B
    · have e1 : (r + 1) / B = q := by rw [← hr, Nat.add_assoc, Nat.mul_add_div hb, Nat.div_eq_of_lt h3]; omega
      have e2 : (r + 1) % B = t + 1 := by rw [← hr, Nat.add_assoc, Nat.mul_add_mod, Nat.mod_eq_of_lt h3]
      rw [e1, e2]
      exact Nat.mul_lt_mul_of_pos_right (by omega) (Nat.two_pow_pos _)
    · have e0 : r + 1 = B * (q + 1) := by rw [Nat.mul_add, Nat.mul_one]; omega
      have e1 : (r + 1) / B = q + 1 := by rw [e0, Nat.mul_div_cancel_left _ hb]
      have e2 : (r + 1) % B = 0 := by rw [e0, Nat.mul_mod_right]
      rw [e1, e2]
      have e3 : 2 ^ (q + 1 - 1) = 2 * 2 ^ (q - 1) := by
        have : q + 1 - 1 = (q - 1) + 1 := by omega
        rw [this, Nat.pow_succ, Nat.mul_comm]
      rw [e3, Nat.add_zero, ← Nat.mul_assoc]
      exact Nat.mul_lt_mul_of_pos_right (by omega) (Nat.two_pow_pos _)

theorem rmag_lt (f : Format) {a b : Nat} (h : a < b) : rmag f a < rmag f b := by
  induction b with
  | zero => omega
  | succ n ih =>
    by_cases e : a = n
    · subst e; exact rmag_step f a
    · exact Nat.lt_trans (ih (by omega)) (rmag_step f n)
theorem rmag_le (f : Format) {a b : Nat} (h : a ≤ b) : rmag f a ≤ rmag f b := by
  rcases Nat.lt_or_ge a b with h' | h'
  · exact Nat.le_of_lt (rmag_lt f h')
  · have : a = b := by omega
    rw [this]; exact Nat.le_refl _
theorem rmag_lt_iff (f : Format) (a b : Nat) : rmag f a < rmag f b ↔ a < b := by
  constructor
  · intro h
    rcases Nat.lt_or_ge a b with h' | h'
    · exact h'
    · have := rmag_le f h'; omega
  · exact rmag_lt f
theorem rmag_inj (f : Format) {a b : Nat} (h : rmag f a = rmag f b) : a = b := by
  rcases Nat.lt_trichotomy a b with h' | h' | h'
  · have := rmag_lt f h'; omega
  · exact h'
  · have := rmag_lt f h'; omega

/-- The value of a finite datum in units of 2 ^ -N. -/
def vN (N : Nat) (s : Bool) (m : Nat) (p : Int) : Int := if s then -((m * 2 ^ (p + N).toNat : Nat) : Int) else ((m * 2 ^ (p + N).toNat : Nat) : Int)

theorem signed_eq (s : Bool) (m u : Nat) : signed s m u = if s then -((m * 2 ^ u : Nat) : Int) else ((m * 2 ^ u : Nat) : Int) := by
  unfold signed; rw [Nat.shiftLeft_eq]

theorem compare_mul (a b : Int) (c : Nat) (hc : 0 < c) : compare (a * c) (b * c) = compare a b := by
  have hc' : (0 : Int) < (c : Int) := by omega
  rcases Int.lt_trichotomy a b with h | h | h
  · have : a * c < b * c := Int.mul_lt_mul_of_pos_right h hc'
    simp [compare, compareOfLessAndEq, h, this]
  · subst h; simp [compare, compareOfLessAndEq]
  · have h2 : b * c < a * c := Int.mul_lt_mul_of_pos_right h hc'
    have n1 : ¬ a < b := by omega
    have n2 : ¬ a * c < b * c := by omega
    have n3 : a ≠ b := by omega
    have n4 : a * c ≠ b * c := by omega
    simp [compare, compareOfLessAndEq, n1, n2, n3, n4]

theorem vN_signed (N : Nat) (s : Bool) (m : Nat) (p base : Int) (hb : 0 ≤ base + N) (hp : base ≤ p) :
    vN N s m p = signed s m (p - base).toNat * ((2 ^ (base + N).toNat : Nat) : Int) := by
  rw [signed_eq]
  have e : (p + N).toNat = (p - base).toNat + (base + N).toNat := by omega
  unfold vN
  rw [e, Nat.pow_add, ← Nat.mul_assoc]
  split <;> simp [Int.neg_mul]

theorem order_vN (N : Nat) (s t : Bool) (m n : Nat) (i j : Int) (hi : 0 ≤ i + N) (hj : 0 ≤ j + N) :
    (Datum.number s m i).order (.number t n j) = some (compare (vN N s m i) (vN N t n j)) := by
  unfold Datum.order
  simp only
  rw [vN_signed N s m i (min i j) (by omega) (by omega), vN_signed N t n j (min i j) (by omega) (by omega), compare_mul _ _ _ (Nat.two_pow_pos _)]

/-- The parts of a word. -/
def sgn (f : Format) (x : Nat) : Bool := x / f.signWeight % 2 == 1
def rng (f : Format) (x : Nat) : Nat := x % f.signWeight

theorem binade_le (k : FloatKind) : k.format.binade ≤ k.format.infRung := by cases k <;> decide
theorem read_fin (f : Format) (N : Nat) (hN : f.leastPlace = -(N : Int)) (x : Nat) (h : rng f x < f.infRung) :
    ∃ m p, f.read x = .number (sgn f x) m p ∧ 0 ≤ p + N ∧ m * 2 ^ (p + N).toNat = rmag f (rng f x) := by
  unfold rng at h ⊢
  unfold Format.read rmag sgn
  simp only
  split
  · exact ⟨_, _, rfl, by omega, by rw [hN, Int.add_left_neg]; simp⟩
  · refine ⟨_, _, rfl, by omega, ?_⟩
    rw [hN]
    have : (-(N : Int) + ((x % f.signWeight / f.binade - 1 : Nat) : Int) + (N : Int)).toNat = x % f.signWeight / f.binade - 1 := by omega
    rw [this]
theorem read_inf (k : FloatKind) (x : Nat) (h : rng k.format x = k.format.infRung) : k.format.read x = .infinity (sgn k.format x) := by
  have hb := binade_le k
  unfold Format.read
  simp only
  change x % k.format.signWeight = k.format.infRung at h
  rw [h, if_neg (by omega), if_neg (by omega), if_pos rfl]; rfl
theorem read_nan (k : FloatKind) (x : Nat) (h : k.format.infRung < rng k.format x) : ∃ s t, k.format.read x = .nan s t := by
  have hb := binade_le k
  unfold Format.read
  simp only
  change k.format.infRung < x % k.format.signWeight at h
  rw [if_neg (by omega), if_neg (by omega), if_neg (by omega)]; exact ⟨_, _, rfl⟩
theorem isN_iff (k : FloatKind) (x : Nat) : isN k x = decide (k.format.infRung < rng k.format x) := by
  unfold isN
  by_cases h : k.format.infRung < rng k.format x
  · obtain ⟨s, t, e⟩ := read_nan k x h; simp [e, h, Datum.isNaN]
  · rcases Nat.lt_or_ge (rng k.format x) k.format.infRung with h2 | h2
    · have hl : ∃ N : Nat, k.format.leastPlace = -(N : Int) := by cases k; exact ⟨149, by decide⟩; exact ⟨1074, by decide⟩
      obtain ⟨N, hN⟩ := hl
      obtain ⟨m, p, e, _⟩ := read_fin k.format N hN x h2; simp [e, h, Datum.isNaN]
    · rw [read_inf k x (by omega)]; simp [h, Datum.isNaN]

/-- The key of a word that is no NaN: the order of the numbers is that of their keys. -/
def key (k : FloatKind) (x : Nat) : Int := if sgn k.format x then -(rng k.format x : Int) else (rng k.format x : Int)

theorem cmp_lt {a b : Int} (h : a < b) : compare a b = .lt := by simp [compare, compareOfLessAndEq, h]
theorem cmp_gt {a b : Int} (h : b < a) : compare a b = .gt := by
  have h1 : ¬ a < b := by omega
  have h2 : a ≠ b := by omega
  simp [compare, compareOfLessAndEq, h1, h2]
theorem cmp_eq {a b : Int} (h : a = b) : compare a b = .eq := by subst h; simp [compare, compareOfLessAndEq]
theorem cmp_congr {a b c d : Int} (h1 : a < b ↔ c < d) (h2 : b < a ↔ d < c) : compare a b = compare c d := by
  rcases Int.lt_trichotomy c d with h | h | h
  · rw [cmp_lt h, cmp_lt (h1.2 h)]
  · rw [cmp_eq h, cmp_eq (by omega)]
  · rw [cmp_gt h, cmp_gt (h2.2 h)]
theorem compare_keys (f : Format) (s t : Bool) (a b : Nat) :
    compare (if s then -(rmag f a : Int) else (rmag f a : Int)) (if t then -(rmag f b : Int) else (rmag f b : Int)) = compare (if s then -(a : Int) else (a : Int)) (if t then -(b : Int) else (b : Int)) := by
  have h1 := rmag_lt_iff f a b
  have h2 := rmag_lt_iff f b a
  have h0 : rmag f 0 = 0 := by
    have hb : 0 < f.binade := Nat.two_pow_pos _
    unfold rmag; rw [if_pos hb]
  have p1 := rmag_lt_iff f 0 a
  have p2 := rmag_lt_iff f 0 b
  rw [h0] at p1 p2
  generalize rmag f a = A at *
  generalize rmag f b = B at *
  refine cmp_congr ?_ ?_
  · cases s <;> cases t <;> simp only [if_true, if_false, Bool.false_eq_true] <;> constructor <;> intro h <;> omega
  · cases s <;> cases t <;> simp only [if_true, if_false, Bool.false_eq_true] <;> constructor <;> intro h <;> omega

theorem least_of (k : FloatKind) : ∃ N : Nat, k.format.leastPlace = -(N : Int) := by
  cases k
  · exact ⟨149, by decide⟩
  · exact ⟨1074, by decide⟩

theorem vN_read {f : Format} {N : Nat} {s : Bool} {m r : Nat} {p : Int} (h : m * 2 ^ (p + N).toNat = rmag f r) : vN N s m p = if s then -(rmag f r : Int) else (rmag f r : Int) := by
  unfold vN; rw [h]

theorem key_inf_pos (k : FloatKind) {x : Nat} (h : rng k.format x < k.format.infRung) : -(k.format.infRung : Int) < key k x ∧ key k x < k.format.infRung := by
  unfold key; split <;> omega

theorem order_key (k : FloatKind) (x y : Nat) (hx : isN k x = false) (hy : isN k y = false) : k.format.order x y = some (compare (key k x) (key k y)) := by
  rw [isN_iff] at hx hy
  simp only [decide_eq_false_iff_not, Nat.not_lt] at hx hy
  obtain ⟨N, hN⟩ := least_of k
  have hpos : 0 < k.format.infRung := by cases k <;> decide
  unfold Format.order
  by_cases cx : rng k.format x < k.format.infRung
  · obtain ⟨m, i, ex, hi, vx⟩ := read_fin _ N hN x cx
    by_cases cy : rng k.format y < k.format.infRung
    · obtain ⟨n, j, ey, hj, vy⟩ := read_fin _ N hN y cy
      rw [ex, ey, order_vN N _ _ _ _ _ _ hi hj, vN_read vx, vN_read vy, compare_keys]; rfl
    · have cy' : rng k.format y = k.format.infRung := by omega
      rw [ex, read_inf k y cy']
      unfold Datum.order key
      rw [cy']
      cases sgn k.format x <;> cases sgn k.format y <;> simp only [if_true, if_false, Bool.false_eq_true]
      · rw [cmp_lt (by omega)]
      · rw [cmp_gt (by omega)]
      · rw [cmp_lt (by omega)]
      · rw [cmp_gt (by omega)]
  · have cx' : rng k.format x = k.format.infRung := by omega
    by_cases cy : rng k.format y < k.format.infRung
    · obtain ⟨n, j, ey, hj, vy⟩ := read_fin _ N hN y cy
      rw [ey, read_inf k x cx']
      unfold Datum.order key
      rw [cx']
      cases sgn k.format x <;> cases sgn k.format y <;> simp only [if_true, if_false, Bool.false_eq_true]
      · rw [cmp_gt (by omega)]
      · rw [cmp_gt (by omega)]
      · rw [cmp_lt (by omega)]
      · rw [cmp_lt (by omega)]
    · have cy' : rng k.format y = k.format.infRung := by omega
      rw [read_inf k x cx', read_inf k y cy']
      unfold Datum.order key
      rw [cx', cy']
      cases sgn k.format x <;> cases sgn k.format y <;> simp only [if_true, if_false, Bool.false_eq_true]
      · rw [cmp_eq rfl]; rfl
      · rw [cmp_gt (by omega)]; rfl
      · rw [cmp_lt (by omega)]; rfl
      · rw [cmp_eq rfl]; rfl

/-! Rounding of what the format has. -/
theorem log2_spec (m : Nat) (h : m ≠ 0) : 2 ^ m.log2 ≤ m ∧ m < 2 ^ (m.log2 + 1) := ⟨Nat.log2_self_le h, Nat.lt_log2_self⟩

theorem cut_zero (s : Bool) (n : Nat) : Toward.even.cut s n 0 = n := by
  unfold Toward.cut
  simp [Nat.shiftLeft_eq]
  omega

theorem rmag_word {f : Format} {t q : Nat} (h1 : f.binade ≤ t) (h2 : t < 2 * f.binade) : rmag f (q * f.binade + t) = t * 2 ^ q := by
  have hb : 0 < f.binade := Nat.two_pow_pos _
  have e1 : q * f.binade + t = f.binade * (q + 1) + (t - f.binade) := by
    rw [Nat.mul_add, Nat.mul_one, Nat.mul_comm q]; omega
  unfold rmag
  rw [if_neg (by rw [e1, Nat.mul_add]; omega), e1, Nat.mul_add_mod, Nat.mul_add_div hb, Nat.mod_eq_of_lt (by omega), Nat.div_eq_of_lt (by omega : t - f.binade < f.binade)]
  congr 1; omega

/-- A number that the format has is written as it is. -/
theorem nearest_exact (f : Format) (N : Nat) (hN : f.leastPlace = -(N : Int)) (s : Bool) (m : Nat) (p : Int) (hm : m ≠ 0) (h1 : m.log2 ≤ f.fractionBits) (h2 : 0 ≤ p + N)
    (h3 : ((max (p + m.log2 - f.fractionBits) (-(N : Int)) + N).toNat + 2) * f.binade ≤ f.infRung) :
    ∃ r, f.nearest s m p = f.word s r ∧ r < f.infRung ∧ rmag f r = m * 2 ^ (p + N).toNat := by
  have hb : 0 < f.binade := Nat.two_pow_pos _
  obtain ⟨l1, l2⟩ := log2_spec m hm
  unfold Format.nearest
  rw [if_neg hm]
  simp only [hN]
  generalize hl : max (p + (m.log2 : Int) - (f.fractionBits : Int)) (-(N : Int)) = last at h3 ⊢
  have e0 : (last - p).toNat = 0 := by omega
  rw [e0, cut_zero, Nat.shiftLeft_eq]
  have e1 : (last - -(N : Int)).toNat = (last + N).toNat := by omega
  rw [e1]
  generalize hq : (last + (N : Int)).toNat = q at h3 ⊢
  by_cases hc : p + (m.log2 : Int) - (f.fractionBits : Int) ≤ -(N : Int)
  · have hl' : last = -(N : Int) := by omega
    have hq0 : q = 0 := by omega
    have e2 : (p - last).toNat = (p + N).toNat := by omega
    rw [hq0, e2, Nat.zero_mul, Nat.zero_add]
    have hT : m * 2 ^ (p + N).toNat < 2 * f.binade := by
      calc m * 2 ^ (p + N).toNat < 2 ^ (m.log2 + 1) * 2 ^ (p + N).toNat := Nat.mul_lt_mul_of_pos_right l2 (Nat.two_pow_pos _)
        _ = 2 ^ (m.log2 + 1 + (p + N).toNat) := (Nat.pow_add ..).symm
        _ ≤ 2 ^ (f.fractionBits + 1) := Nat.pow_le_pow_right (by omega) (by omega)
        _ = 2 * f.binade := by unfold Format.binade; rw [Nat.pow_succ, Nat.mul_comm]
    rw [hq0] at h3
    refine ⟨_, rfl, ?_, ?_⟩
    · rw [Nat.min_eq_left (by omega)]; omega
    · rw [Nat.min_eq_left (by omega)]
      by_cases hlt : m * 2 ^ (p + N).toNat < f.binade
      · unfold rmag; rw [if_pos hlt]
      · have := rmag_word (f := f) (t := m * 2 ^ (p + N).toNat) (q := 0) (by omega) hT
        rw [Nat.zero_mul, Nat.zero_add] at this
        rw [this]; simp
  · have hl' : last = p + (m.log2 : Int) - (f.fractionBits : Int) := by omega
    have e2 : (p - last).toNat = f.fractionBits - m.log2 := by omega
    rw [e2]
    have t1 : f.binade ≤ m * 2 ^ (f.fractionBits - m.log2) := by
      calc f.binade = 2 ^ (m.log2 + (f.fractionBits - m.log2)) := by unfold Format.binade; congr 1; omega
        _ = 2 ^ m.log2 * 2 ^ (f.fractionBits - m.log2) := Nat.pow_add ..
        _ ≤ _ := Nat.mul_le_mul_right _ l1
    have t2 : m * 2 ^ (f.fractionBits - m.log2) < 2 * f.binade := by
      calc m * 2 ^ (f.fractionBits - m.log2) < 2 ^ (m.log2 + 1) * 2 ^ (f.fractionBits - m.log2) := Nat.mul_lt_mul_of_pos_right l2 (Nat.two_pow_pos _)
        _ = 2 ^ (m.log2 + 1 + (f.fractionBits - m.log2)) := (Nat.pow_add ..).symm
        _ = 2 ^ (f.fractionBits + 1) := by congr 1; omega
        _ = 2 * f.binade := by unfold Format.binade; rw [Nat.pow_succ, Nat.mul_comm]
    have hlt : q * f.binade + m * 2 ^ (f.fractionBits - m.log2) < f.infRung := by
      rw [Nat.add_mul] at h3; omega
    refine ⟨_, rfl, ?_, ?_⟩
    · rw [Nat.min_eq_left (by omega)]; exact hlt
    · rw [Nat.min_eq_left (by omega), rmag_word t1 t2, Nat.mul_assoc, ← Nat.pow_add]
      congr 2; omega

theorem read_of_word (f : Format) (s : Bool) {r : Nat} (h : r < f.signWeight) : sgn f (f.word s r) = s ∧ rng f (f.word s r) = r := by
  have hp : 0 < f.signWeight := Nat.two_pow_pos _
  unfold sgn rng Format.word
  cases s
  · simp only [Bool.false_eq_true, if_false]
    rw [Nat.div_eq_of_lt h, Nat.mod_eq_of_lt h]; exact ⟨rfl, rfl⟩
  · simp only [if_true]
    rw [Nat.add_mod_left, Nat.mod_eq_of_lt h, Nat.add_div_left _ hp, Nat.div_eq_of_lt h]; exact ⟨rfl, rfl⟩

theorem word_parts (k : FloatKind) {x : Nat} (h : x < width k) : k.format.word (sgn k.format x) (rng k.format x) = x := by
  have e : width k = 2 * k.format.signWeight := by cases k <;> decide
  rw [e] at h
  have hp : 0 < k.format.signWeight := Nat.two_pow_pos _
  unfold sgn rng Format.word
  generalize k.format.signWeight = S at *
  have h2 : S * (x / S) + x % S = x := Nat.div_add_mod x S
  have h3 : x / S < 2 := (Nat.div_lt_iff_lt_mul hp).2 h
  have h4 : x / S = 0 ∨ x / S = 1 := (by omega : ∀ q : Nat, q < 2 → q = 0 ∨ q = 1) _ h3
  rcases h4 with h4 | h4
  · rw [h4] at h2 ⊢
    show x % S = x
    omega
  · rw [h4] at h2 ⊢
    show S + x % S = x
    omega

/-- What a 32-bit number is as a 64-bit one. -/
def WideOf (x y : Nat) : Prop := isN .f64 y = false ∧ y < width .f64 ∧ sgn FloatKind.f64.format y = sgn FloatKind.f32.format x ∧
  ((rng FloatKind.f32.format x = FloatKind.f32.format.infRung ∧ rng FloatKind.f64.format y = FloatKind.f64.format.infRung) ∨
   (rng FloatKind.f32.format x < FloatKind.f32.format.infRung ∧ rng FloatKind.f64.format y < FloatKind.f64.format.infRung ∧ rmag FloatKind.f64.format (rng FloatKind.f64.format y) = rmag FloatKind.f32.format (rng FloatKind.f32.format x) * 2 ^ 925))

set_option exponentiation.threshold 4096 in
theorem wide_of (x : Nat) (hx : isN .f32 x = false) : ∃ y, floatToFloatBits .f32 x .f64 = some y ∧ WideOf x y := by
  have hi := hx
  rw [isN_iff] at hi
  simp only [decide_eq_false_iff_not, Nat.not_lt] at hi
  have ne : ¬ (FloatKind.f32 = FloatKind.f64) := by decide
  have hw : ∀ s r, r ≤ FloatKind.f64.format.infRung → isN .f64 (FloatKind.f64.format.word s r) = false ∧ FloatKind.f64.format.word s r < width .f64 := fun s r hr => ⟨read_word .f64 s r hr, by
    rw [width_eq]; exact FloatKind.f64.format.word_lt s (Nat.lt_of_le_of_lt hr FloatKind.f64.format.infRung_lt)⟩
  by_cases cx : rng FloatKind.f32.format x < FloatKind.f32.format.infRung
  · obtain ⟨m, p, e, hp, hv⟩ := read_fin FloatKind.f32.format 149 (by decide) x cx
    have hp' : -149 ≤ p := by omega
    have hmx : rmag FloatKind.f32.format (rng FloatKind.f32.format x) < 2 ^ 277 := by
      have := rmag_lt FloatKind.f32.format cx
      have e2 : rmag FloatKind.f32.format FloatKind.f32.format.infRung = 2 ^ 277 := by decide +kernel
      omega
    unfold floatToFloatBits FloatKind.decode FloatKind.encode
    rw [if_neg ne, e]
    by_cases hm : m = 0
    · subst hm
      have e3 : FloatKind.f64.format.write (.number (sgn FloatKind.f32.format x) 0 p) = FloatKind.f64.format.word (sgn FloatKind.f32.format x) 0 := by show FloatKind.f64.format.nearest _ 0 p = _; unfold Format.nearest; rw [if_pos rfl]
      obtain ⟨r1, r2⟩ := read_of_word FloatKind.f64.format (sgn FloatKind.f32.format x) (r := 0) (by decide)
      obtain ⟨n1, n2⟩ := hw (sgn FloatKind.f32.format x) 0 (by decide)
      have hf := read_fin FloatKind.f64.format 1074 (by decide) (FloatKind.f64.format.word (sgn FloatKind.f32.format x) 0) (by rw [r2]; decide)
      obtain ⟨m', p', e', _⟩ := hf
      simp only [e3, e']
      refine ⟨_, rfl, n1, n2, r1, .inr ⟨cx, by rw [r2]; decide, ?_⟩⟩
      rw [r2, ← hv, Nat.zero_mul, Nat.zero_mul]; decide
    · have hm1 : m.log2 ≤ 23 ∧ p + m.log2 ≤ 127 := by
        obtain ⟨l1, l2⟩ := log2_spec m hm
        unfold Format.read at e
        simp only at e
        have b23 : FloatKind.f32.format.binade = 2 ^ 23 := by decide
        have lpl : FloatKind.f32.format.leastPlace = -149 := by decide
        have hinf : FloatKind.f32.format.infRung = 255 * 2 ^ 23 := by decide
        change rng FloatKind.f32.format x < _ at cx
        unfold rng at cx
        split at e
        · rename_i hlt
          injection e with _ em ep
          rw [b23, em] at hlt
          have hlog : m.log2 < 23 := (Nat.log2_lt hm).2 hlt
          rw [lpl] at ep
          omega
        · injection e with _ em ep
          rw [b23] at em ep
          rw [hinf] at cx
          have hlt : m < 2 ^ 24 := by omega
          have hlog : m.log2 < 24 := (Nat.log2_lt hm).2 hlt
          rw [lpl] at ep
          have hd : x % FloatKind.f32.format.signWeight / 2 ^ 23 < 255 := (Nat.div_lt_iff_lt_mul (by decide)).2 cx
          omega
      obtain ⟨r, hr, hlt, hmag⟩ := nearest_exact FloatKind.f64.format 1074 (by decide) (sgn FloatKind.f32.format x) m p hm (by change m.log2 ≤ 52; omega) (by omega) (by
        change ((max (p + (m.log2 : Int) - ((52 : Nat) : Int)) (-((1074 : Nat) : Int)) + ((1074 : Nat) : Int)).toNat + 2) * 2 ^ 52 ≤ 2047 * 2 ^ 52
        exact Nat.mul_le_mul_right _ (by omega))
      have hr' : FloatKind.f64.format.write (.number (sgn FloatKind.f32.format x) m p) = FloatKind.f64.format.word (sgn FloatKind.f32.format x) r := hr
      obtain ⟨r1, r2⟩ := read_of_word FloatKind.f64.format (sgn FloatKind.f32.format x) (r := r) (Nat.lt_trans hlt FloatKind.f64.format.infRung_lt)
      obtain ⟨n1, n2⟩ := hw (sgn FloatKind.f32.format x) r (Nat.le_of_lt hlt)
      obtain ⟨m', p', e', _⟩ := read_fin FloatKind.f64.format 1074 (by decide) (FloatKind.f64.format.word (sgn FloatKind.f32.format x) r) (by rw [r2]; exact hlt)
      simp only [hr', e']
      refine ⟨_, rfl, n1, n2, r1, .inr ⟨cx, by rw [r2]; exact hlt, ?_⟩⟩
      rw [r2, hmag, ← hv, Nat.mul_assoc, ← Nat.pow_add]
      congr 2; omega
  · have cx' : rng FloatKind.f32.format x = FloatKind.f32.format.infRung := by omega
    unfold floatToFloatBits FloatKind.decode FloatKind.encode
    rw [if_neg ne, read_inf .f32 x cx']
    obtain ⟨r1, r2⟩ := read_of_word FloatKind.f64.format (sgn FloatKind.f32.format x) (r := FloatKind.f64.format.infRung) FloatKind.f64.format.infRung_lt
    obtain ⟨n1, n2⟩ := hw (sgn FloatKind.f32.format x) _ (Nat.le_refl _)
    exact ⟨_, rfl, n1, n2, r1, .inl ⟨cx', r2⟩⟩

@[go_sem] theorem self_neq (k : FloatKind) (x : Nat) : (k.format.order x x != some Ordering.eq) = isN k x := by
  by_cases h : isN k x = true
  · rw [order_nan_left h, h]; rfl
  · have h' : isN k x = false := by simpa using h
    rw [order_key k x x h' h', cmp_eq rfl, h']; rfl
@[go_sem] theorem self_eq (k : FloatKind) (x : Nat) : (k.format.order x x == some Ordering.eq) = !isN k x := by
  by_cases h : isN k x = true
  · rw [order_nan_left h, h]; rfl
  · have h' : isN k x = false := by simpa using h
    rw [order_key k x x h' h', cmp_eq rfl, h']; rfl

/-- A float32 as a float64. -/
def wide (x : Nat) : Nat := cv .f32 .f64 x
theorem wide_nan {x : Nat} (h : isN .f32 x = true) : wide x = qn .f64 := by
  unfold wide cv
  rw [cn_of_nan h, f2f_nan (isN_qn .f32)]; rfl
theorem wide_spec {x : Nat} (h : isN .f32 x = false) : WideOf x (wide x) := by
  obtain ⟨y, hy, hw⟩ := wide_of x h
  unfold wide cv
  rw [cn_of_not h, hy]; exact hw
theorem wide_cn (x : Nat) : wide (cn .f32 x) = wide x := by unfold wide cv; rw [cn_cn]
theorem isN_wide (x : Nat) : isN .f64 (wide x) = isN .f32 x := by
  by_cases h : isN .f32 x = true
  · rw [wide_nan h, h]; exact isN_qn _
  · have h' : isN .f32 x = false := by simpa using h
    rw [h']; exact (wide_spec h').1
theorem over_wide (x : Nat) : cvOver .f32 .f64 x = false := by
  unfold cvOver
  by_cases h : isN .f32 x = true
  · simp [h]
  · have h' : isN .f32 x = false := by simpa using h
    obtain ⟨y, hy, _⟩ := wide_of x h'
    simp [hy]
theorem cn_wideR (x : Nat) (w : World) : cn .f64 (cvR .f32 x .f64 w) = wide x := cn_cvR _ _ _ _ (over_wide x)
theorem wide_lt (x : Nat) : wide x < width .f64 := by
  by_cases h : isN .f32 x = true
  · rw [wide_nan h]; exact qn_lt _
  · exact (wide_spec (by simpa using h)).2.1

set_option exponentiation.threshold 4096 in
/-- The key of a wide number stands to others as that of the narrow one. -/
theorem key_wide {x y : Nat} (hx : isN .f32 x = false) (hy : isN .f32 y = false) : compare (key .f64 (wide x)) (key .f64 (wide y)) = compare (key .f32 x) (key .f32 y) := by
  obtain ⟨_, _, sx, vx⟩ := wide_spec hx
  obtain ⟨_, _, sy, vy⟩ := wide_spec hy
  unfold key
  rw [sx, sy]
  generalize wide x = X at *
  generalize wide y = Y at *
  have hlt : ∀ a b : Nat, (rmag FloatKind.f32.format a * 2 ^ 925 < rmag FloatKind.f32.format b * 2 ^ 925) ↔ a < b := fun a b => by
    rw [Nat.mul_lt_mul_right (Nat.two_pow_pos _), rmag_lt_iff]
  have main : (rng FloatKind.f64.format X < rng FloatKind.f64.format Y ↔ rng FloatKind.f32.format x < rng FloatKind.f32.format y) ∧
      (rng FloatKind.f64.format Y < rng FloatKind.f64.format X ↔ rng FloatKind.f32.format y < rng FloatKind.f32.format x) ∧
      (rng FloatKind.f64.format X = 0 ↔ rng FloatKind.f32.format x = 0) ∧ (rng FloatKind.f64.format Y = 0 ↔ rng FloatKind.f32.format y = 0) := by
    have z64 : rmag FloatKind.f64.format 0 = 0 := by decide
    have z32 : rmag FloatKind.f32.format 0 = 0 := by decide
    have i64 : 0 < FloatKind.f64.format.infRung := by decide
    have i32 : 0 < FloatKind.f32.format.infRung := by decide
    have zz : ∀ a b : Nat, rmag FloatKind.f64.format b = rmag FloatKind.f32.format a * 2 ^ 925 → (b = 0 ↔ a = 0) := fun a b h => by
      constructor
      · intro e; subst e; rw [z64] at h
        have : rmag FloatKind.f32.format a = 0 := by
          rcases Nat.eq_zero_or_pos (rmag FloatKind.f32.format a) with h0 | h0
          · exact h0
          · have := Nat.mul_pos h0 (Nat.two_pow_pos 925); omega
        exact rmag_inj FloatKind.f32.format (by rw [this, z32])
      · intro e; subst e; rw [z32, Nat.zero_mul] at h
        exact rmag_inj FloatKind.f64.format (by rw [h, z64])
    rcases vx with ⟨x1, x2⟩ | ⟨x1, x2, x3⟩ <;> rcases vy with ⟨y1, y2⟩ | ⟨y1, y2, y3⟩
    · refine ⟨?_, ?_, ?_, ?_⟩ <;> omega
    · have := zz _ _ y3
      refine ⟨?_, ?_, ?_, ?_⟩ <;> omega
    · have := zz _ _ x3
      refine ⟨?_, ?_, ?_, ?_⟩ <;> omega
    · refine ⟨?_, ?_, zz _ _ x3, zz _ _ y3⟩
      · rw [← rmag_lt_iff FloatKind.f64.format, x3, y3, hlt]
      · rw [← rmag_lt_iff FloatKind.f64.format, x3, y3, hlt]
  obtain ⟨m1, m2, m3, m4⟩ := main
  refine cmp_congr ?_ ?_
  · cases sgn FloatKind.f32.format x <;> cases sgn FloatKind.f32.format y <;> simp only [if_true, if_false, Bool.false_eq_true] <;> constructor <;> intro h <;> omega
  · cases sgn FloatKind.f32.format x <;> cases sgn FloatKind.f32.format y <;> simp only [if_true, if_false, Bool.false_eq_true] <;> constructor <;> intro h <;> omega

theorem order_wide (x y : Nat) : FloatKind.f64.format.order (wide x) (wide y) = FloatKind.f32.format.order x y := by
  by_cases hx : isN .f32 x = true
  · rw [order_nan_left hx, order_nan_left (by rw [isN_wide]; exact hx)]
  · by_cases hy : isN .f32 y = true
    · rw [order_nan_right hy, order_nan_right (by rw [isN_wide]; exact hy)]
    · have hx' : isN .f32 x = false := by simpa using hx
      have hy' : isN .f32 y = false := by simpa using hy
      rw [order_key .f32 x y hx' hy', order_key .f64 _ _ (by rw [isN_wide]; exact hx') (by rw [isN_wide]; exact hy'), key_wide hx' hy']
theorem order_cvR (x y : Nat) (w w' : World) : FloatKind.f64.format.order (cvR .f32 x .f64 w) (cvR .f32 y .f64 w') = FloatKind.f32.format.order x y := by
  rw [← order_cn, cn_wideR, cn_wideR, order_wide]

theorem key_inj {k : FloatKind} {x y : Nat} (hx : x < width k) (hy : y < width k) (h : key k x = key k y) (hs : rng k.format x ≠ 0 ∨ sgn k.format x = sgn k.format y) : x = y := by
  have e : sgn k.format x = sgn k.format y ∧ rng k.format x = rng k.format y := by
    unfold key at h
    generalize rng k.format x = a at *
    generalize rng k.format y = b at *
    generalize sgn k.format x = s at *
    generalize sgn k.format y = t at *
    rcases hs with hs | hs
    · cases s <;> cases t <;> simp only [if_true, if_false, Bool.false_eq_true] at h ⊢ <;> first | (exact ⟨trivial, by omega⟩) | omega
    · subst hs
      cases s <;> simp only [if_true, if_false, Bool.false_eq_true] at h ⊢ <;> exact ⟨trivial, by omega⟩
  rw [← word_parts k hx, ← word_parts k hy, e.1, e.2]

theorem sgn32 (x : Nat) : sgn FloatKind.f32.format x = (x / 2147483648 % 2 == 1) := rfl
theorem rng32 (x : Nat) : rng FloatKind.f32.format x = x % 2147483648 := rfl
theorem sgn64 (x : Nat) : sgn FloatKind.f64.format x = (x / 9223372036854775808 % 2 == 1) := rfl
theorem rng64 (x : Nat) : rng FloatKind.f64.format x = x % 9223372036854775808 := rfl
theorem inf32 : FloatKind.f32.format.infRung = 2139095040 := by decide
theorem inf64 : FloatKind.f64.format.infRung = 9218868437227405312 := by decide

/-- Finite. -/
def isF (k : FloatKind) (x : Nat) : Bool := decide (rng k.format x < k.format.infRung)
theorem isF_f32 (x : Nat) : isF .f32 x = decide (x % 2147483648 < 2139095040) := by unfold isF; rw [rng32, inf32]
theorem isF_f64 (x : Nat) : isF .f64 x = decide (x % 9223372036854775808 < 9218868437227405312) := by unfold isF; rw [rng64, inf64]
theorem isF_not {k : FloatKind} {x : Nat} (h : isF k x = true) : isN k x = false := by
  unfold isF at h; rw [isN_iff]; simp at h ⊢; omega

theorem sub_self_fin (k : FloatKind) (x : Nat) (h : isF k x = true) : floatBits .sub k x x = some 0 := by
  obtain ⟨N, hN⟩ := least_of k
  obtain ⟨m, p, e, _⟩ := read_fin k.format N hN x (by simpa [isF] using h)
  unfold floatBits Format.sub
  simp only [e, Datum.opposite, Datum.sum]
  have ht : signed (sgn k.format x) m (p - min p p).toNat + signed (!sgn k.format x) m (p - min p p).toNat = 0 := by
    cases sgn k.format x <;> simp [signed] <;> omega
  rw [ht]
  simp [Format.write, Format.nearest, Format.word]
theorem sub_self_not (k : FloatKind) (x : Nat) (h : isF k x = false) : floatBits .sub k x x = none := by
  unfold isF at h
  simp only [decide_eq_false_iff_not, Nat.not_lt] at h
  unfold floatBits Format.sub
  rcases Nat.eq_or_lt_of_le h with h1 | h1
  · rw [read_inf k x h1.symm]; cases sgn k.format x <;> simp [Datum.opposite, Datum.sum]
  · obtain ⟨s, t, e⟩ := read_nan k x h1
    rw [e]; simp [Datum.sum]
@[go_sem] theorem fin_sub (k : FloatKind) (x : Nat) : (k.format.order (fop .sub k x x) 0 == some Ordering.eq) = isF k x := by
  by_cases h : isF k x = true
  · have : fop .sub k x x = 0 := by unfold fop; rw [sub_self_fin k x h]; rfl
    rw [this, self_eq, h]; cases k <;> decide
  · have h' : isF k x = false := by simpa using h
    have : isN k (fop .sub k x x) = true := by unfold fop; rw [sub_self_not k x h']; exact isN_qn k
    rw [order_nan_left this, h']; rfl
@[go_sem] theorem fin_sub_ne (k : FloatKind) (x : Nat) : (k.format.order (fop .sub k x x) 0 != some Ordering.eq) = !isF k x := by
  rw [← fin_sub k x]; rfl

theorem abs_parts (y : Nat) : sgn FloatKind.f64.format (y % 9223372036854775808) = false ∧ rng FloatKind.f64.format (y % 9223372036854775808) = rng FloatKind.f64.format y := by
  rw [sgn64, rng64, rng64]
  refine ⟨?_, by omega⟩
  have : y % 9223372036854775808 / 9223372036854775808 = 0 := by omega
  rw [this]; rfl
theorem abs_parts32 (y : Nat) : sgn FloatKind.f32.format (y % 2147483648) = false ∧ rng FloatKind.f32.format (y % 2147483648) = rng FloatKind.f32.format y := by
  rw [sgn32, rng32, rng32]
  refine ⟨?_, by omega⟩
  have : y % 2147483648 / 2147483648 = 0 := by omega
  rw [this]; rfl
theorem isN_abs (y : Nat) : isN .f64 (y % 9223372036854775808) = isN .f64 y := by rw [isN_iff, isN_iff, (abs_parts y).2]
theorem isN_abs32 (y : Nat) : isN .f32 (y % 2147483648) = isN .f32 y := by rw [isN_iff, isN_iff, (abs_parts32 y).2]

set_option exponentiation.threshold 4096 in
theorem rng_of_wide {x x' y y' : Nat} (h : WideOf x y) (h' : WideOf x' y') (e : rng FloatKind.f32.format x = rng FloatKind.f32.format x') : rng FloatKind.f64.format y = rng FloatKind.f64.format y' := by
  obtain ⟨_, _, _, v⟩ := h
  obtain ⟨_, _, _, v'⟩ := h'
  rcases v with ⟨x1, x2⟩ | ⟨x1, x2, x3⟩ <;> rcases v' with ⟨y1, y2⟩ | ⟨y1, y2, y3⟩
  · omega
  · omega
  · omega
  · exact rmag_inj FloatKind.f64.format (by rw [x3, y3, e])
theorem eq_of_parts {k : FloatKind} {x y : Nat} (hx : x < width k) (hy : y < width k) (h1 : sgn k.format x = sgn k.format y) (h2 : rng k.format x = rng k.format y) : x = y := by
  rw [← word_parts k hx, ← word_parts k hy, h1, h2]

theorem wide_abs {x : Nat} (hx : isN .f32 x = false) : wide (x % 2147483648) = wide x % 9223372036854775808 := by
  have hx' : isN .f32 (x % 2147483648) = false := by rw [isN_abs32]; exact hx
  have h := wide_spec hx
  have h' := wide_spec hx'
  refine eq_of_parts (k := .f64) (wide_lt _) (Nat.lt_of_le_of_lt (Nat.mod_le _ _) (wide_lt _)) ?_ ?_
  · rw [h'.2.2.1, (abs_parts32 x).1, (abs_parts _).1]
  · rw [(abs_parts _).2]; exact rng_of_wide h' h (abs_parts32 x).2

/-- The size of a wide number against a wide one. -/
theorem order_abs {x y c : Nat} (hy : cn .f64 y = wide x) (_hc : isN .f32 c = false) : FloatKind.f64.format.order (y % 9223372036854775808) (wide c) = FloatKind.f32.format.order (x % 2147483648) c := by
  by_cases hx : isN .f32 x = true
  · have : isN .f64 y = true := by rw [← isN_cn, hy, isN_wide]; exact hx
    rw [order_nan_left (by rw [isN_abs]; exact this), order_nan_left (by rw [isN_abs32]; exact hx)]
  · have hx' : isN .f32 x = false := by simpa using hx
    have : isN .f64 y = false := by rw [← isN_cn, hy, isN_wide]; exact hx'
    rw [cn_of_not this] at hy
    rw [hy, ← wide_abs hx', order_wide]

theorem wide_of_word {x y : Nat} (hx : isN .f32 x = false) (h : floatToFloatBits .f32 x .f64 = some y) : wide x = y := by
  unfold wide cv; rw [cn_of_not hx, h]; rfl
theorem max_wide : wide 2139095039 = 5183643170566569984 := wide_of_word (by decide) (by decide)
theorem tiny_wide : wide 8388608 = 4039728865751334912 := wide_of_word (by decide) (by decide)

/-- The six tests by the keys. -/
theorem lt_key {k : FloatKind} {x y : Nat} (hx : isN k x = false) (hy : isN k y = false) : (k.format.order x y == some Ordering.lt) = decide (key k x < key k y) := by
  rw [order_key k x y hx hy]
  rcases Int.lt_trichotomy (key k x) (key k y) with h | h | h
  · rw [cmp_lt h]; simp [h]
  · rw [cmp_eq h]; simp [h]
  · have : ¬ key k x < key k y := by omega
    rw [cmp_gt h]; simp [this]
theorem eq_key {k : FloatKind} {x y : Nat} (hx : isN k x = false) (hy : isN k y = false) : (k.format.order x y == some Ordering.eq) = decide (key k x = key k y) := by
  rw [order_key k x y hx hy]
  rcases Int.lt_trichotomy (key k x) (key k y) with h | h | h
  · have : ¬ key k x = key k y := by omega
    rw [cmp_lt h]; simp [this]
  · rw [cmp_eq h]; simp [h]
  · have : ¬ key k x = key k y := by omega
    rw [cmp_gt h]; simp [this]
theorem gt_key {k : FloatKind} {x y : Nat} (hx : isN k x = false) (hy : isN k y = false) : (k.format.order x y == some Ordering.gt) = decide (key k y < key k x) := by
  rw [order_key k x y hx hy]
  rcases Int.lt_trichotomy (key k x) (key k y) with h | h | h
  · have : ¬ key k y < key k x := by omega
    rw [cmp_lt h]; simp [this]
  · rw [cmp_eq h]; simp [h]
  · rw [cmp_gt h]; simp [h]
theorem key_pos32 (r : Nat) (h : r < 2147483648) : key .f32 r = r := by
  unfold key; rw [sgn32, rng32, Nat.mod_eq_of_lt h, Nat.div_eq_of_lt h]; rfl

theorem fin_abs {x y : Nat} (hy : cn .f64 y = wide x) : (FloatKind.f64.format.order (y % 9223372036854775808) 5183643170566569984 == some Ordering.lt || FloatKind.f64.format.order (y % 9223372036854775808) 5183643170566569984 == some Ordering.eq) = isF .f32 x := by
  rw [← max_wide, order_abs hy (by decide), isF_f32]
  by_cases hx : isN .f32 x = true
  · rw [order_nan_left (by rw [isN_abs32]; exact hx)]
    rw [isN_f32] at hx; simp at hx ⊢; omega
  · have hx' : isN .f32 x = false := by simpa using hx
    rw [lt_key (by rw [isN_abs32]; exact hx') (by decide), eq_key (by rw [isN_abs32]; exact hx') (by decide), key_pos32 _ (by omega), key_pos32 _ (by decide), ← Bool.decide_or]
    congr 1
    apply propext
    omega
theorem tiny_abs {x y : Nat} (hy : cn .f64 y = wide x) : (FloatKind.f64.format.order (y % 9223372036854775808) 4039728865751334912 == some Ordering.lt) = decide (x % 2147483648 < 8388608) := by
  rw [← tiny_wide, order_abs hy (by decide)]
  by_cases hx : isN .f32 x = true
  · rw [order_nan_left (by rw [isN_abs32]; exact hx)]
    rw [isN_f32] at hx; simp at hx ⊢; omega
  · have hx' : isN .f32 x = false := by simpa using hx
    rw [lt_key (by rw [isN_abs32]; exact hx') (by decide), key_pos32 _ (by omega), key_pos32 _ (by decide)]
    congr 1
    apply propext
    omega

theorem andNot_abs (y : Nat) (h : y < width .f64) : (bits BinOp.andNot IntKind.u64 (y : Int) 9223372036854775808).toNat = y % 9223372036854775808 := by
  have h' : y < 18446744073709551616 := h
  have e := u64_andNot_nat y 9223372036854775808 h' (by decide)
  have e2 : ((9223372036854775808 : Nat) : Int) = 9223372036854775808 := rfl
  rw [e2] at e
  rw [e, Int.toNat_natCast]
  exact Nat.and_two_pow_sub_one_eq_mod y 63
@[go_sem] theorem fin_impl (x : Nat) (w : World) : (FloatKind.f64.format.order (bits BinOp.andNot IntKind.u64 (cvR .f32 x .f64 w : Int) 9223372036854775808).toNat 5183643170566569984 == some Ordering.lt || FloatKind.f64.format.order (bits BinOp.andNot IntKind.u64 (cvR .f32 x .f64 w : Int) 9223372036854775808).toNat 5183643170566569984 == some Ordering.eq) = isF .f32 x := by
  rw [andNot_abs _ (cvR_lt' x w)]
  exact fin_abs (cn_wideR x w)
@[go_sem] theorem tiny_impl (x : Nat) (w : World) : (FloatKind.f64.format.order (bits BinOp.andNot IntKind.u64 (cvR .f32 x .f64 w : Int) 9223372036854775808).toNat 4039728865751334912 == some Ordering.lt) = decide (x % 2147483648 < 8388608) := by
  rw [andNot_abs _ (cvR_lt' x w)]
  exact tiny_abs (cn_wideR x w)
theorem Fl.wide {x c : Nat} (h : Fl .f32 x c) (w : World) : Fl .f64 (cvR .f32 x .f64 w) (FX.wide c) := ⟨cvR_lt' x w, by rw [cn_wideR, ← h.eq, wide_cn]⟩

theorem wide_canon (x : Nat) : cn .f64 (FX.wide x) = FX.wide x := by rw [← cn_wideR x (default : World), cn_cn]
theorem order_sub_l {k : FloatKind} {a b : Nat} (h : cn k a = cn k b) (z : Nat) : k.format.order a z = k.format.order b z := by
  rw [← order_cn k a z, h, order_cn]
theorem order_sub_r {k : FloatKind} {a b : Nat} (h : cn k a = cn k b) (z : Nat) : k.format.order z a = k.format.order z b := by
  rw [← order_cn k z a, h, order_cn]
theorem fop_sub_l {op : BinOp} {k : FloatKind} {a b : Nat} (h : cn k a = cn k b) (z : Nat) : fop op k a z = fop op k b z := by
  rw [← fop_cn2 op k a z, h, fop_cn2]
theorem fop_sub_r {op : BinOp} {k : FloatKind} {a b : Nat} (h : cn k a = cn k b) (z : Nat) : fop op k z a = fop op k z b := by
  rw [← fop_cn2 op k z a, h, fop_cn2]
theorem cn_wideR' (x : Nat) (w : World) : cn .f64 (cvR .f32 x .f64 w) = cn .f64 (FX.wide x) := by rw [cn_wideR, wide_canon]
@[go_sem] theorem order_cvR_l (x z : Nat) (w : World) : FloatKind.f64.format.order (cvR .f32 x .f64 w) z = FloatKind.f64.format.order (FX.wide x) z := order_sub_l (k := .f64) (cn_wideR' x w) z
@[go_sem] theorem order_cvR_r (x z : Nat) (w : World) : FloatKind.f64.format.order z (cvR .f32 x .f64 w) = FloatKind.f64.format.order z (FX.wide x) := order_sub_r (k := .f64) (cn_wideR' x w) z
attribute [go_sem] order_wide
@[go_sem] theorem fop_cvR_l (op : BinOp) (x z : Nat) (w : World) : fop op .f64 (cvR .f32 x .f64 w) z = fop op .f64 (FX.wide x) z := fop_sub_l (cn_wideR' x w) z
@[go_sem] theorem fop_cvR_r (op : BinOp) (x z : Nat) (w : World) : fop op .f64 z (cvR .f32 x .f64 w) = fop op .f64 z (FX.wide x) := fop_sub_r (cn_wideR' x w) z

/-! Tests against zero and infinity, by the bits. -/
theorem key32 (x : Nat) : key .f32 x = if x / 2147483648 % 2 = 1 then -((x % 2147483648 : Nat) : Int) else ((x % 2147483648 : Nat) : Int) := by
  unfold key; rw [sgn32, rng32]; simp only [beq_iff_eq]
theorem eq0 {x : Nat} (hx : isN .f32 x = false) : (FloatKind.f32.format.order x 0 == some Ordering.eq) = decide (x % 2147483648 = 0) := by
  rw [eq_key hx (by decide)]; congr 1; apply propext
  rw [key32, key32]; simp; split <;> omega
theorem gt0 {x : Nat} (hx : isN .f32 x = false) (h : x < 4294967296) : (FloatKind.f32.format.order x 0 == some Ordering.gt) = decide (0 < x ∧ x < 2147483648) := by
  rw [gt_key hx (by decide)]; congr 1; apply propext
  rw [key32, key32]; simp; split <;> omega
theorem lt0 {x : Nat} (hx : isN .f32 x = false) (h : x < 4294967296) : (FloatKind.f32.format.order x 0 == some Ordering.lt) = decide (2147483648 < x) := by
  rw [lt_key hx (by decide)]; congr 1; apply propext
  rw [key32, key32]; simp; split <;> omega
theorem eqInf {x : Nat} (hx : isN .f32 x = false) (h : x < 4294967296) : (FloatKind.f32.format.order x 2139095040 == some Ordering.eq) = decide (x = 2139095040) := by
  rw [eq_key hx (by decide)]; congr 1; apply propext
  rw [key32, key32]; simp; split <;> omega
theorem gtInf {x : Nat} (hx : isN .f32 x = false) (h : x < 4294967296) : (FloatKind.f32.format.order x 2139095040 == some Ordering.gt) = false := by
  rw [isN_f32] at hx; simp at hx
  rw [gt_key (by rw [isN_f32]; simp; omega) (by decide)]; simp
  rw [key32, key32]; simp; split <;> omega

@[go_sem] theorem inf_narrow (w : World) : cvR .f64 9218868437227405312 .f32 w = 2139095040 := by
  have : floatToFloatBits .f64 9218868437227405312 .f32 = some 2139095040 := by decide
  unfold cvR; rw [this]
@[go_sem] theorem inf_narrowN : cvN .f64 9218868437227405312 .f32 = 0 := by
  have : floatToFloatBits .f64 9218868437227405312 .f32 = some 2139095040 := by decide
  unfold cvN; rw [this]
@[go_sem] theorem drewN_zero' (w : World) : w.drewN 0 = w := rfl

/-- The opposite of a word. -/
def opp (k : FloatKind) (x : Nat) : Nat := k.format.word (!sgn k.format x) (rng k.format x)
theorem neg_word (k : FloatKind) {x : Nat} (h : x < width k) : Op.negFloat k x = opp k x := by
  have e : width k = 2 * k.format.signWeight := by cases k <;> decide
  rw [e] at h
  have hp : 0 < k.format.signWeight := Nat.two_pow_pos _
  unfold Op.negFloat opp sgn rng Format.word
  change x ^^^ k.format.signWeight = _
  obtain ⟨j, hj⟩ : ∃ j, k.format.signWeight = 2 ^ j := ⟨_, rfl⟩
  rw [hj] at h hp ⊢
  have h3 : x / 2 ^ j < 2 := (Nat.div_lt_iff_lt_mul hp).2 h
  have h4 : x / 2 ^ j = 0 ∨ x / 2 ^ j = 1 := (by omega : ∀ q : Nat, q < 2 → q = 0 ∨ q = 1) _ h3
  have d1 : (x ^^^ 2 ^ j) / 2 ^ j = x / 2 ^ j ^^^ 1 := by rw [Nat.xor_div_two_pow, Nat.div_self hp]
  have d2 : (x ^^^ 2 ^ j) % 2 ^ j = x % 2 ^ j := by rw [Nat.xor_mod_two_pow, Nat.mod_self, Nat.xor_zero]
  rw [← Nat.div_add_mod (x ^^^ 2 ^ j) (2 ^ j), d1, d2]
  rcases h4 with h4 | h4
  · rw [h4]; simp
  · rw [h4]; simp
theorem opp_parts (k : FloatKind) (x : Nat) : sgn k.format (opp k x) = !sgn k.format x ∧ rng k.format (opp k x) = rng k.format x := read_of_word _ _ (Nat.mod_lt _ (Nat.two_pow_pos _))
theorem isN_opp (k : FloatKind) (x : Nat) : isN k (opp k x) = isN k x := by rw [isN_iff, isN_iff, (opp_parts k x).2]
theorem opp_lt (k : FloatKind) (x : Nat) : opp k x < width k := by
  rw [width_eq]; exact k.format.word_lt _ (Nat.mod_lt _ (Nat.two_pow_pos _))
theorem opp_opp (k : FloatKind) {x : Nat} (h : x < width k) : opp k (opp k x) = x :=
  eq_of_parts (opp_lt k _) h (by rw [(opp_parts k _).1, (opp_parts k x).1, Bool.not_not]) (by rw [(opp_parts k _).2, (opp_parts k x).2])
theorem read_opp (k : FloatKind) (x : Nat) : k.format.read (opp k x) = (k.format.read x).opposite := by
  obtain ⟨h1, h2⟩ := opp_parts k x
  have e : ∀ y, k.format.read y = (if rng k.format y < k.format.binade then .number (sgn k.format y) (rng k.format y) k.format.leastPlace
      else if rng k.format y < k.format.infRung then .number (sgn k.format y) (k.format.binade + rng k.format y % k.format.binade) (k.format.leastPlace + (rng k.format y / k.format.binade - 1 : Nat))
      else if rng k.format y = k.format.infRung then .infinity (sgn k.format y) else .nan (sgn k.format y) (rng k.format y - k.format.infRung)) := fun y => rfl
  rw [e, e, h1, h2]
  split
  · rfl
  · split
    · rfl
    · split <;> rfl
/-- The canonical opposite. -/
def neg (k : FloatKind) (x : Nat) : Nat := if isN k x then qn k else opp k x
theorem neg_cn (k : FloatKind) (x : Nat) : neg k (cn k x) = neg k x := by
  unfold neg; rw [isN_cn]
  by_cases h : isN k x = true
  · simp [h]
  · rw [cn_of_not (by simpa using h)]
theorem Fl.neg {k : FloatKind} {x c : Nat} (h : Fl k x c) : Fl k (Op.negFloat k x) (neg k c) := by
  rw [neg_word k h.lt]
  refine ⟨opp_lt k x, ?_⟩
  rw [← h.eq, neg_cn]
  unfold FX.neg cn
  rw [isN_opp]

/-! The fields of a 32-bit word. -/
theorem and_exp (x : Nat) : x &&& 2139095040 = x / 8388608 % 256 * 8388608 := by
  have d1 : (x &&& 2139095040) / 2 ^ 23 = x / 2 ^ 23 &&& 255 := by rw [Nat.and_div_two_pow]
  have d2 : (x &&& 2139095040) % 2 ^ 23 = 0 := by rw [Nat.and_mod_two_pow]; exact Nat.and_zero _
  have d3 : x / 2 ^ 23 &&& 255 = x / 2 ^ 23 % 256 := Nat.and_two_pow_sub_one_eq_mod _ 8
  have := Nat.div_add_mod (x &&& 2139095040) (2 ^ 23)
  rw [d1, d2, d3] at this
  omega
theorem and_sign (x : Nat) : x &&& 2147483648 = x / 2147483648 % 2 * 2147483648 := by
  have d1 : (x &&& 2147483648) / 2 ^ 31 = x / 2 ^ 31 &&& 1 := by rw [Nat.and_div_two_pow]
  have d2 : (x &&& 2147483648) % 2 ^ 31 = 0 := by rw [Nat.and_mod_two_pow]; exact Nat.and_zero _
  have d3 : x / 2 ^ 31 &&& 1 = x / 2 ^ 31 % 2 := Nat.and_two_pow_sub_one_eq_mod _ 1
  have := Nat.div_add_mod (x &&& 2147483648) (2 ^ 31)
  rw [d1, d2, d3] at this
  omega
theorem and_i64 (x c : Nat) (h : x < 4294967296) (hc : c < 4294967296) : bits BinOp.and IntKind.i64 (x : Int) (c : Int) = ((x &&& c : Nat) : Int) :=
  (bits_nat .i64 32 (by decide) (fun n h1 h2 => IntWalk.i64_in n (by omega)) x c h hc).1
theorem and_u32 (x c : Nat) (h : x < 4294967296) (hc : c < 4294967296) : bits BinOp.and IntKind.u32 (x : Int) (c : Int) = ((x &&& c : Nat) : Int) :=
  u32_and_nat x c h hc
theorem exp_zero {x : Nat} (h : x < 4294967296) : (bits BinOp.and IntKind.i64 (x : Int) 2139095040 == 0) = decide (x % 2147483648 < 8388608) := by
  have e := and_i64 x 2139095040 h (by decide)
  have e2 : ((2139095040 : Nat) : Int) = 2139095040 := rfl
  rw [e2] at e
  rw [e, and_exp, Bool.eq_iff_iff]
  simp only [beq_iff_eq, decide_eq_true_eq]
  omega
theorem sign_i64 {x : Nat} (h : x < 4294967296) : bits BinOp.and IntKind.i64 (x : Int) 2147483648 = ((x / 2147483648 * 2147483648 : Nat) : Int) := by
  have e := and_i64 x 2147483648 h (by decide)
  have e2 : ((2147483648 : Nat) : Int) = 2147483648 := rfl
  rw [e2] at e
  have e3 : x / 2147483648 % 2 * 2147483648 = x / 2147483648 * 2147483648 := by omega
  rw [e, and_sign, e3]
theorem sign_u32 {x : Nat} (h : x < 4294967296) : bits BinOp.and IntKind.u32 (x : Int) 2147483648 = ((x / 2147483648 * 2147483648 : Nat) : Int) := by
  have e := and_u32 x 2147483648 h (by decide)
  have e2 : ((2147483648 : Nat) : Int) = 2147483648 := rfl
  rw [e2] at e
  have e3 : x / 2147483648 % 2 * 2147483648 = x / 2147483648 * 2147483648 := by omega
  rw [e, and_sign, e3]
end Go.FX
