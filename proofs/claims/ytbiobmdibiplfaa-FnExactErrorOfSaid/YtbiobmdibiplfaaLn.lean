import Derived.Test.YtbiobmdibiplfaaLe
set_option linter.unusedVariables false
set_option linter.unusedSimpArgs false
namespace Go.FX
open Go Ieee

/-! Narrowing the opposite is the opposite of narrowing. -/
theorem cut_even (s t : Bool) (n d : Nat) : Toward.even.cut s n d = Toward.even.cut t n d := rfl
theorem opp_word (k : FloatKind) (s : Bool) {r : Nat} (h : r < k.format.signWeight) : opp k (k.format.word s r) = k.format.word (!s) r := by
  unfold opp
  obtain ⟨a, b⟩ := read_of_word k.format s h
  rw [a, b]
theorem near_opp (k : FloatKind) (s : Bool) (m : Nat) (p : Int) : k.format.nearest (!s) m p = opp k (k.format.nearest s m p) := by
  have hp : 0 < k.format.signWeight := Nat.two_pow_pos _
  have hi : k.format.infRung < k.format.signWeight := by cases k <;> decide
  unfold Format.nearest
  by_cases hm : m = 0
  · simp only [hm, if_true]; exact (opp_word k s hp).symm
  · simp only [hm, if_false]
    rw [cut_even (!s) s]
    exact (opp_word k s (Nat.lt_of_le_of_lt (Nat.min_le_right _ _) hi)).symm
theorem isN_qn' (k : FloatKind) : isN k (qn k) = true := isN_qn k

theorem cv_neg {c : Nat} (ho : cvOver .f64 .f32 c = false) : cv .f64 .f32 (neg .f64 c) = neg .f32 (cv .f64 .f32 c) := by
  have ne : ¬ (FloatKind.f64 = FloatKind.f32) := by decide
  by_cases hn : isN .f64 c = true
  · have e1 : neg .f64 c = qn .f64 := by unfold neg; rw [if_pos hn]
    have e2 : cv .f64 .f32 c = qn .f32 := by unfold cv; rw [cn_of_nan hn]; decide
    rw [e1, e2]; decide
  · have hn' : isN .f64 c = false := by simpa using hn
    have e1 : neg .f64 c = opp .f64 c := by unfold neg; rw [if_neg hn]
    have hno : isN .f64 (opp .f64 c) = false := by rw [isN_opp]; exact hn'
    have main : ∀ r, floatToFloatBits .f64 c .f32 = some r → floatToFloatBits .f64 (opp .f64 c) .f32 = some (opp .f32 r) ∧ isN .f32 r = false := by
      intro r h
      refine ⟨?_, f2f_not hn' h⟩
      unfold floatToFloatBits FloatKind.decode FloatKind.encode at h ⊢
      rw [if_neg ne] at h ⊢
      rw [read_opp]
      cases e : FloatKind.f64.format.read c with
      | nan s t => rw [e] at h; cases h
      | infinity s =>
        rw [e] at h
        simp only [Option.some.injEq] at h
        rw [← h]
        simp only [Datum.opposite]
        congr 1
        show FloatKind.f32.format.word (!s) _ = _
        exact (opp_word .f32 s (by decide)).symm
      | number s m p =>
        rw [e] at h
        simp only at h
        simp only [Datum.opposite]
        have ew : FloatKind.f32.format.write (.number (!s) m p) = opp .f32 (FloatKind.f32.format.write (.number s m p)) := near_opp .f32 s m p
        rw [ew, read_opp]
        split at h
        · cases h
        · next hi =>
          have : (FloatKind.f32.format.read (FloatKind.f32.format.write (.number s m p))).opposite.isInfinity = (FloatKind.f32.format.read (FloatKind.f32.format.write (.number s m p))).isInfinity := by
            cases FloatKind.f32.format.read (FloatKind.f32.format.write (.number s m p)) <;> rfl
          rw [this, if_neg hi]
          simp only [Option.some.injEq] at h
          rw [h]
    unfold cvOver at ho
    rw [hn'] at ho
    cases h : floatToFloatBits .f64 c .f32 with
    | none => rw [h] at ho; simp at ho
    | some r =>
      obtain ⟨h2, h3⟩ := main r h
      rw [e1]
      unfold cv
      rw [cn_of_not hno, cn_of_not hn', h, h2]
      simp only [Option.getD_some]
      unfold neg
      rw [h3]; rfl
end Go.FX
