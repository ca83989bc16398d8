import Derived.Test.YtnbilmlpngcobaaLy
import Derived.Test.YtnbilmlpngcobaaRt
import Derived.Test.YtnbilmlpngcobaaCa
set_option linter.unusedVariables false
set_option linter.unusedSimpArgs false
namespace Go.FX
open Go Go.RowKit Ieee

/-! Floors: the greatest integer that is not greater, of numbers from -1000 to 1000. -/
theorem cutD_max (s : Bool) (n d B : Nat) (h : n ≤ B * 2 ^ d) : Toward.down.cut s n d ≤ B := by
  unfold Toward.cut
  simp only [Nat.shiftLeft_eq, Nat.one_mul]
  by_cases hd : d ≤ n.log2 + 2
  · rw [Nat.min_eq_left hd]
    have hp : 0 < 2 ^ d := Nat.two_pow_pos d
    have hl : n / 2 ^ d ≤ B := Nat.le_of_lt_succ ((Nat.div_lt_iff_lt_mul hp).2 (by rw [Nat.succ_mul]; omega))
    rcases Nat.lt_or_eq_of_le hl with h1 | h1
    · have : (s && n % 2 ^ d != 0).toNat ≤ 1 := by cases (s && n % 2 ^ d != 0) <;> decide
      omega
    · have h2 := Nat.div_add_mod n (2 ^ d)
      rw [h1, Nat.mul_comm] at h2
      have h3 : n % 2 ^ d = 0 := by omega
      rw [h1, h3]
      simp
  · rw [Nat.min_eq_right (by omega)]
    have hlt : n < 2 ^ (n.log2 + 2) := by
      by_cases h0 : n = 0
      · subst h0; exact Nat.two_pow_pos _
      · have h1 := (Nat.log2_lt h0).1 (Nat.lt_succ_self _)
        exact Nat.lt_of_lt_of_le h1 (Nat.pow_le_pow_right (by omega) (by omega))
    rw [Nat.div_eq_of_lt hlt, Nat.mod_eq_of_lt hlt, Nat.zero_add]
    by_cases h0 : n = 0
    · subst h0; simp
    · have hB : 1 ≤ B := by
        rcases Nat.eq_zero_or_pos B with hb | hb
        · subst hb; simp at h; exact absurd h h0
        · exact hb
      have : (s && n != 0).toNat ≤ 1 := by cases (s && n != 0) <;> decide
      omega
/-- The size of a number's floor. -/
def floN (y : Nat) : Nat := match FloatKind.f64.format.read y with
  | .number s m p => Toward.down.cut s (m <<< p.toNat) (-p).toNat
  | _ => 0
def floI (x : Nat) : Int := if sgn FloatKind.f32.format x then -(floN (wide x) : Int) else (floN (wide x) : Int)
set_option exponentiation.threshold 4096 in
theorem floN_le (x B : Nat) (hx : isF .f32 x = true) (h : rmag FloatKind.f32.format (rng FloatKind.f32.format x) ≤ B * 2 ^ 149) : floN (wide x) ≤ B := by
  obtain ⟨s, m, p, n, d, E, hr, _, hn, hd, he, hE⟩ := rte_core x hx
  unfold floN
  rw [hr]
  show Toward.down.cut s (m <<< p.toNat) (-p).toNat ≤ B
  rw [← hn, ← hd]
  refine cutD_max s n d B ?_
  refine Nat.le_of_mul_le_mul_right ?_ (Nat.two_pow_pos E)
  rw [he, Nat.mul_assoc, ← Nat.pow_add, Nat.add_comm d E, hE]
  refine Nat.le_trans (Nat.mul_le_mul_right _ h) ?_
  rw [Nat.mul_assoc, ← Nat.pow_add]
  exact Nat.le_refl _
theorem rmag1000 : rmag FloatKind.f32.format 1148846080 = 1000 * 2 ^ 149 := by decide +kernel
/-- Is a number from -1000 to 1000? -/
def smpB (x : Nat) : Bool := decide (x % 2147483648 ≤ 1148846080)
theorem smp_fin {x : Nat} (h : smpB x = true) : isF .f32 x = true := by
  rw [isF_f32]; unfold smpB at h; simp at h ⊢; omega
theorem flo_mid (x : Nat) (h : smpB x = true) :
    ∃ m p, FloatKind.f64.format.read (wide x) = .number (sgn FloatKind.f32.format x) m p ∧ FloatKind.f64.encode ((FloatKind.f64.format.read (wide x)).integral .down) = rteB (sgn FloatKind.f32.format x) (floN (wide x)) ∧ floN (wide x) ≤ 1000 := by
  have hx := smp_fin h
  obtain ⟨s, m, p, n, d, E, hr, hs, hn, hd, he, hE⟩ := rte_core x hx
  subst hs
  refine ⟨m, p, hr, by unfold floN; rw [hr]; rfl, floN_le x 1000 hx ?_⟩
  rw [← rmag1000]
  refine rmag_le _ ?_
  rw [rng32]
  unfold smpB at h
  simpa using h
theorem flo_int0 : ∀ N, N < 1001 → floatToIntVal .f64 (rteB false N) .i64 = some (N : Int) := by decide +kernel
theorem flo_int1 : ∀ N, N < 1001 → floatToIntVal .f64 (rteB true N) .i64 = some (-(N : Int)) := by decide +kernel
theorem flo_int (x : Nat) (h : smpB x = true) : floatToIntVal .f64 (rteB (sgn FloatKind.f32.format x) (floN (wide x))) .i64 = some (floI x) ∧ -1000 ≤ floI x ∧ floI x ≤ 1000 := by
  obtain ⟨m, p, _, _, hN⟩ := flo_mid x h
  unfold floI
  cases sgn FloatKind.f32.format x with
  | true => exact ⟨flo_int1 _ (by omega), by simp; omega, by simp <;> omega⟩
  | false => exact ⟨flo_int0 _ (by omega), by simp <;> omega, by simp; omega⟩
theorem le2_abs1000 (x : Nat) : le2 (x % 2147483648) 1148846080 = smpB x := by
  by_cases hn : isN .f32 x = true
  · rw [le2_nan_l (by rw [isN_abs32]; exact hn)]
    rw [isN_f32] at hn
    unfold smpB
    simp at hn
    symm
    rw [decide_eq_false_iff_not]
    omega
  · have hn : isN .f32 x = false := by simpa using hn
    rw [le2_key (by rw [isN_abs32]; exact hn) (by decide), show key .f32 1148846080 = 1148846080 by decide]
    unfold smpB
    rw [key_pos32 _ (Nat.mod_lt _ (by decide))]
    congr 1
    apply propext
    omega
theorem place1000 (x : Nat) (hx : x < 4294967296) : ((FloatKind.f32.format.order x 3296329728 == some Ordering.gt || FloatKind.f32.format.order x 3296329728 == some Ordering.eq) && (FloatKind.f32.format.order x 1148846080 == some Ordering.lt || FloatKind.f32.format.order x 1148846080 == some Ordering.eq)) = smpB x := by
  by_cases hn : isN .f32 x = true
  · rw [order_nan_left hn]
    rw [isN_f32] at hn
    unfold smpB
    simp at hn
    simp
    omega
  · have hn : isN .f32 x = false := by simpa using hn
    rw [gt_key hn (by decide), eq_key hn (by decide), lt_key hn (by decide), eq_key hn (by decide), show key .f32 1148846080 = 1148846080 by decide, show key .f32 3296329728 = -1148846080 by decide, key32]
    unfold smpB
    rw [Bool.eq_iff_iff]
    simp
    split <;> omega
theorem cv_wideS {x : Nat} (hn : isN .f32 x = false) (w : World) : cvR .f32 x .f64 w = wide x ∧ cvN .f32 x .f64 = 0 := by
  obtain ⟨y, hy, _⟩ := wide_of x hn
  have e := wide_of_word hn hy
  unfold cvR cvN
  rw [hy]
  exact ⟨e.symm, rfl⟩
end Go.FX
