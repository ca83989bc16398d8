import Derived.Test.YtbiobmdibiplfaaLs
set_option linter.unusedVariables false
set_option linter.unusedSimpArgs false
namespace Go.FX
open Go Ieee

/-! Places: the integer nearest to a number, between two the even one. -/
theorem cut_max (s : Bool) (n d B : Nat) (h : n ≤ B * 2 ^ d) (hB : 0 < B) : Toward.even.cut s n d ≤ B := by
  rcases Nat.lt_or_eq_of_le h with h | rfl
  · exact cut_le s n d B h hB
  · exact cut_exact s B d
theorem cut_none (s : Bool) (n d : Nat) (h : 2 * n ≤ 2 ^ d) : Toward.even.cut s n d = 0 := by
  unfold Toward.cut
  simp only [Nat.shiftLeft_eq, Nat.one_mul]
  have hg : 2 * n ≤ 2 ^ min d (n.log2 + 2) := by
    by_cases hd : d ≤ n.log2 + 2
    · rw [Nat.min_eq_left hd]; exact h
    · rw [Nat.min_eq_right (by omega), Nat.pow_succ]
      have : n < 2 ^ (n.log2 + 1) := by
        by_cases h0 : n = 0
        · subst h0; exact Nat.two_pow_pos _
        · exact (Nat.log2_lt h0).1 (Nat.lt_succ_self _)
      omega
  have hp : 0 < 2 ^ min d (n.log2 + 2) := Nat.two_pow_pos _
  generalize 2 ^ min d (n.log2 + 2) = g at hg hp
  have hlt : n < g := by omega
  rw [Nat.div_eq_of_lt hlt, Nat.mod_eq_of_lt hlt]
  have h1 : decide (g < 2 * n) = false := by simp; omega
  rw [h1]
  simp
theorem num_32 {z k r : Nat} (h2 : 1027 * 4503599627370496 ≤ z) (hk : 4503599627370496 ≤ k) (hr : min (z + k) 9218868437227405312 = r) : 1028 * 4503599627370496 ≤ r := by omega
theorem near_32 (s : Bool) (m : Nat) (p : Int) (hm : m ≠ 0) (h : 5 ≤ p + m.log2) :
    sgn FloatKind.f64.format (FloatKind.f64.format.nearest s m p) = s ∧ 1028 * 4503599627370496 ≤ rng FloatKind.f64.format (FloatKind.f64.format.nearest s m p) := by
  have fb : (FloatKind.f64.format.fractionBits : Int) = 52 := by decide
  have lp : FloatKind.f64.format.leastPlace = -1074 := by decide
  have bb : FloatKind.f64.format.binade = 4503599627370496 := by decide
  generalize hl : max (p + (m.log2 : Int) - 52) (-1074 : Int) = last
  have hk := cut_52 s m p last hm hl.symm (by omega)
  have e : FloatKind.f64.format.nearest s m p = FloatKind.f64.format.word s (min ((last - -1074).toNat * 4503599627370496 + Toward.even.cut s (m <<< (p - last).toNat) (last - p).toNat) FloatKind.f64.format.infRung) := by
    unfold Format.nearest
    rw [if_neg hm]
    simp only [fb, lp, bb, hl]
  generalize Toward.even.cut s (m <<< (p - last).toNat) (last - p).toNat = k at hk e
  generalize hr : min ((last - -1074).toNat * 4503599627370496 + k) FloatKind.f64.format.infRung = r at e
  have hs : r < FloatKind.f64.format.signWeight := by
    have : FloatKind.f64.format.infRung < FloatKind.f64.format.signWeight := by decide
    rw [← hr]; exact Nat.lt_of_le_of_lt (Nat.min_le_right _ _) this
  obtain ⟨a, b⟩ := read_of_word FloatKind.f64.format s (r := r) hs
  rw [e, a, b]
  refine ⟨rfl, ?_⟩
  rw [inf64] at hr
  have hlast : 1027 ≤ (last - -1074).toNat := by omega
  have h2 : 1027 * 4503599627370496 ≤ (last - -1074).toNat * 4503599627370496 := Nat.mul_le_mul_right _ hlast
  have e3 : (2 : Nat) ^ 52 = 4503599627370496 := by decide
  rw [e3] at hk
  exact num_32 h2 hk hr

/-- The nearest integer of a 64-bit number, without its sign. -/
def rteN (y : Nat) : Nat := match FloatKind.f64.format.read y with
  | .number s m p => Toward.even.cut s (m <<< p.toNat) (-p).toNat
  | _ => 0
set_option exponentiation.threshold 4096 in
theorem rte_core (x : Nat) (hx : isF .f32 x = true) : ∃ s m p n d E, FloatKind.f64.format.read (wide x) = .number s m p ∧ s = sgn FloatKind.f32.format x ∧ n = m <<< p.toNat ∧ d = (-p).toNat ∧
    n * 2 ^ E = rmag FloatKind.f32.format (rng FloatKind.f32.format x) * 2 ^ 925 ∧ E + d = 1074 := by
  have hn := isF_not hx
  obtain ⟨_, _, hs, hw⟩ := wide_spec hn
  have hx' : rng FloatKind.f32.format x < FloatKind.f32.format.infRung := by simpa [isF] using hx
  rcases hw with ⟨h1, _⟩ | ⟨_, h2, h3⟩
  · omega
  · obtain ⟨m, p, e, hp, hm⟩ := read_fin FloatKind.f64.format 1074 (by decide) (wide x) h2
    refine ⟨_, m, p, _, _, 1074 - (-p).toNat, e, hs, rfl, rfl, ?_, by omega⟩
    rw [← h3, ← hm, Nat.shiftLeft_eq, Nat.mul_assoc, ← Nat.pow_add]
    congr 2
    omega
set_option exponentiation.threshold 4096 in
theorem rteN_le (x B : Nat) (hx : isF .f32 x = true) (hB : 0 < B) (h : rmag FloatKind.f32.format (rng FloatKind.f32.format x) ≤ B * 2 ^ 149) : rteN (wide x) ≤ B := by
  obtain ⟨s, m, p, n, d, E, hr, _, hn, hd, he, hE⟩ := rte_core x hx
  unfold rteN
  rw [hr]
  show Toward.even.cut s (m <<< p.toNat) (-p).toNat ≤ B
  rw [← hn, ← hd]
  refine cut_max s n d B ?_ hB
  refine Nat.le_of_mul_le_mul_right ?_ (Nat.two_pow_pos E)
  rw [he, Nat.mul_assoc, ← Nat.pow_add, Nat.add_comm d E, hE]
  refine Nat.le_trans (Nat.mul_le_mul_right _ h) ?_
  rw [Nat.mul_assoc, ← Nat.pow_add]
  exact Nat.le_refl _
set_option exponentiation.threshold 4096 in
theorem rteN_ge (x B : Nat) (hx : isF .f32 x = true) (hB : 0 < B) (h : B * 2 ^ 149 ≤ rmag FloatKind.f32.format (rng FloatKind.f32.format x)) : B ≤ rteN (wide x) := by
  obtain ⟨s, m, p, n, d, E, hr, _, hn, hd, he, hE⟩ := rte_core x hx
  unfold rteN
  rw [hr]
  show B ≤ Toward.even.cut s (m <<< p.toNat) (-p).toNat
  rw [← hn, ← hd]
  refine cut_ge s n d B ?_ hB
  refine Nat.le_of_mul_le_mul_right ?_ (Nat.two_pow_pos E)
  rw [he, Nat.mul_assoc, ← Nat.pow_add, Nat.add_comm d E, hE]
  refine Nat.le_trans ?_ (Nat.mul_le_mul_right _ h)
  rw [Nat.mul_assoc, ← Nat.pow_add]
  exact Nat.le_refl _
set_option exponentiation.threshold 4096 in
theorem rteN_half (x : Nat) (hx : isF .f32 x = true) (h : 2 * rmag FloatKind.f32.format (rng FloatKind.f32.format x) ≤ 2 ^ 149) : rteN (wide x) = 0 := by
  obtain ⟨s, m, p, n, d, E, hr, _, hn, hd, he, hE⟩ := rte_core x hx
  unfold rteN
  rw [hr]
  show Toward.even.cut s (m <<< p.toNat) (-p).toNat = 0
  rw [← hn, ← hd]
  refine cut_none s n d ?_
  refine Nat.le_of_mul_le_mul_right ?_ (Nat.two_pow_pos E)
  rw [Nat.mul_assoc, he, ← Nat.mul_assoc, ← Nat.pow_add, Nat.add_comm d E, hE]
  refine Nat.le_trans (Nat.mul_le_mul_right _ h) ?_
  rw [← Nat.pow_add]
  exact Nat.le_refl _
/-- The word that RoundToEven answers. -/
def rteB (s : Bool) (N : Nat) : Nat := FloatKind.f64.encode (.number s N 0)
theorem rte_int : ∀ N, N < 26 → floatToIntVal .f64 (rteB false N) .i64 = some (N : Int) := by decide +kernel
theorem rte_int0 : ∀ s, floatToIntVal .f64 (rteB s 0) .i64 = some 0 := by decide +kernel
theorem rte_gt : ∀ N, N < 32 → (FloatKind.f64.format.order (rteB false N) 4627448617123184640 == some Ordering.gt) = decide (24 < N) := by decide +kernel
theorem rte_gt0 : ∀ s, (FloatKind.f64.format.order (rteB s 0) 4627448617123184640 == some Ordering.gt) = false := by decide +kernel
theorem rte_gt_big (N : Nat) (h : 25 ≤ N) : (FloatKind.f64.format.order (rteB false N) 4627448617123184640 == some Ordering.gt) = true := by
  by_cases hN : N < 32
  · rw [rte_gt N hN]; exact decide_eq_true (by omega)
  · have hl : 5 ≤ N.log2 := (Nat.le_log2 (by omega)).2 (by omega)
    obtain ⟨a, b⟩ := near_32 false N 0 (by omega) (by omega)
    have e : rteB false N = FloatKind.f64.format.nearest false N 0 := rfl
    rw [← e] at a b
    have hn : isN .f64 (rteB false N) = false := by
      show isN .f64 (FloatKind.f64.format.write (.number false N 0)) = false
      exact write_not .f64 _ rfl
    rw [gt_key hn (by decide), decide_eq_true_iff]
    have k1 : key .f64 4627448617123184640 = 4627448617123184640 := by decide
    have k2 : key .f64 (rteB false N) = (rng FloatKind.f64.format (rteB false N) : Int) := by unfold key; rw [a]; rfl
    rw [k1, k2]
    omega
/-! The place of a 32-bit number. -/
def placeI (x : Nat) : Int :=
  if isF .f32 x = true then (if key .f32 x < -1056964608 then -1 else if 1103626240 < key .f32 x then 25 else (rteN (wide x) : Int)) else -1
theorem rmag25 : rmag FloatKind.f32.format 1103626240 = 25 * 2 ^ 149 := by decide +kernel
theorem rmagH : 2 * rmag FloatKind.f32.format 1056964608 = 2 ^ 149 := by decide +kernel
theorem key_sgn (x : Nat) : key .f32 x = if sgn FloatKind.f32.format x = true then -(rng FloatKind.f32.format x : Int) else (rng FloatKind.f32.format x : Int) := by
  unfold key; cases sgn FloatKind.f32.format x <;> rfl
/-- A number from -1/2 to 25: its nearest integer, and that of no sign unless it is 0. -/
theorem place_mid (x : Nat) (hx : isF .f32 x = true) (h1 : -1056964608 ≤ key .f32 x) (h2 : key .f32 x ≤ 1103626240) :
    ∃ s m p, FloatKind.f64.format.read (wide x) = .number s m p ∧ FloatKind.f64.encode ((FloatKind.f64.format.read (wide x)).integral .even) = rteB s (rteN (wide x)) ∧ rteN (wide x) ≤ 25 ∧ (s = true → rteN (wide x) = 0) := by
  obtain ⟨s, m, p, n, d, E, hr, hs, hn, hd, he, hE⟩ := rte_core x hx
  have e : FloatKind.f64.encode ((FloatKind.f64.format.read (wide x)).integral .even) = rteB s (rteN (wide x)) := by unfold rteN; rw [hr]; rfl
  rw [key_sgn] at h1 h2
  cases hsg : sgn FloatKind.f32.format x with
  | true =>
    rw [hsg, if_pos rfl] at h1
    have hz : rteN (wide x) = 0 := rteN_half x hx (by
      rw [← rmagH]; exact Nat.mul_le_mul_left _ (rmag_le _ (by omega)))
    exact ⟨s, m, p, hr, e, by omega, fun _ => hz⟩
  | false =>
    rw [hsg, if_neg (by simp)] at h2
    refine ⟨s, m, p, hr, e, rteN_le x 25 hx (by omega) ?_, fun h => ?_⟩
    · rw [← rmag25]; exact rmag_le _ (by omega)
    · rw [hs, hsg] at h; cases h
theorem place_big (x : Nat) (hx : isF .f32 x = true) (h2 : 1103626240 < key .f32 x) :
    ∃ m p, FloatKind.f64.format.read (wide x) = .number false m p ∧ FloatKind.f64.encode ((FloatKind.f64.format.read (wide x)).integral .even) = rteB false (rteN (wide x)) ∧ 25 ≤ rteN (wide x) := by
  obtain ⟨s, m, p, n, d, E, hr, hs, hn, hd, he, hE⟩ := rte_core x hx
  have e : FloatKind.f64.encode ((FloatKind.f64.format.read (wide x)).integral .even) = rteB s (rteN (wide x)) := by unfold rteN; rw [hr]; rfl
  rw [key_sgn] at h2
  cases hsg : sgn FloatKind.f32.format x with
  | true => rw [hsg, if_pos rfl] at h2; omega
  | false =>
    rw [hsg, if_neg (by simp)] at h2
    rw [hsg] at hs
    subst hs
    refine ⟨m, p, hr, e, rteN_ge x 25 hx (by omega) ?_⟩
    rw [← rmag25]; exact rmag_le _ (by omega)
theorem place_25 : rteN (wide 1103626240) = 25 :=
  Nat.le_antisymm (rteN_le _ 25 (by decide) (by omega) (by rw [show rng FloatKind.f32.format 1103626240 = 1103626240 by decide, rmag25]; exact Nat.le_refl _)) (rteN_ge _ 25 (by decide) (by omega) (by rw [show rng FloatKind.f32.format 1103626240 = 1103626240 by decide, rmag25]; exact Nat.le_refl _))
theorem place_int {s : Bool} {N : Nat} (h : N ≤ 25) (hs : s = true → N = 0) : floatToIntVal .f64 (rteB s N) .i64 = some (N : Int) := by
  cases s with
  | true => rw [hs rfl]; exact rte_int0 true
  | false => exact rte_int N (by omega)
theorem place_gt {s : Bool} {N : Nat} (h : N ≤ 25) (hs : s = true → N = 0) : (FloatKind.f64.format.order (rteB s N) 4627448617123184640 == some Ordering.gt) = decide (24 < N) := by
  cases s with
  | true => rw [hs rfl]; exact rte_gt0 true
  | false => exact rte_gt N (by omega)
theorem placeI_lo (x : Nat) : -1 ≤ placeI x := by unfold placeI; split <;> (try split) <;> (try split) <;> omega
theorem placeI_hi (x : Nat) (h : -1056964608 ≤ key .f32 x) : placeI x ≤ 25 := by
  unfold placeI
  split
  · rename_i hx
    split
    · omega
    · split
      · omega
      · rename_i h1 h2
        obtain ⟨s, m, p, _, _, h3, _⟩ := place_mid x hx (by omega) (by omega)
        omega
  · omega
end Go.FX
