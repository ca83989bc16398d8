/-
  For every two 32-bit numbers, whatever their bits, the program's AngleTurns answers as the model's; no condition.
-/
import Derived.Test.YtgfmcehgecbbaabBase
import Derived.Test.YtgfmcehgecbbaabCAngle2
namespace Go.Proofs.Ytgfmcehgecbbaab.lawFnExactAngleTurns
open Go.ChangeShapes Go.WideShapes Go.ChangeAt Go.RowKit Go.FX
open Go.ChangeMaps (open_string shut_string)
set_option linter.unusedVariables false
set_option linter.unusedSimpArgs false

theorem isF_cvR (x : Nat) (w : World) : isF .f64 (cvR .f32 x .f64 w) = isF .f32 x := by
  by_cases hn : isN .f32 x = true
  · have h1 : isN .f64 (cvR .f32 x .f64 w) = true := by rw [← isN_cn, cn_wideR, isN_wide]; exact hn
    have a : isF .f64 (cvR .f32 x .f64 w) = false := by
      by_cases h : isF .f64 (cvR .f32 x .f64 w) = true
      · rw [isF_not h] at h1; cases h1
      · simpa using h
    have b : isF .f32 x = false := by
      by_cases h : isF .f32 x = true
      · rw [isF_not h] at hn; cases hn
      · simpa using h
    rw [a, b]
  · have h1 : isN .f64 (cvR .f32 x .f64 w) = false := by rw [← isN_cn, cn_wideR, isN_wide]; simpa using hn
    have e := cn_wideR x w
    rw [cn_of_not h1] at e
    rw [e]
    by_cases h : isF .f32 x = true
    · rw [h, wide_fin h]
    · have h' : isF .f32 x = false := by simpa using h
      rw [h', wide_not_fin h']

set_option maxHeartbeats 1000000 in
theorem walk (a0 : Nat) (a1 : Nat) (w : World) (w0 : (Lit.float .f32 a0).wf = true) (w1 : (Lit.float .f32 a1).wf = true) :
    Calls Try.prog 14 #[.float .f32 a0, .float .f32 a1] w fun e w' => e = .returned (.bool true) ∧ Below w.heap.size w w' := by
  have l0 := lt32 w0
  have l1 := lt32 w1
  by_cases fy : isF .f32 a0 = true
  · by_cases fx : isF .f32 a1 = true
    · have cx := cvR_fin fx
      have cy := cvR_fin fy
      by_cases hz : a1 % 2147483648 = 0 ∧ a0 % 2147483648 = 0
      · obtain ⟨zx, zy⟩ := hz
        have ax := andNot_abs _ (wide_lt a1)
        have ay := andNot_abs _ (wide_lt a0)
        have tx := fin_abs (wide_canon a1)
        have ty := fin_abs (wide_canon a0)
        rw [fx] at tx
        rw [fy] at ty
        have ex : (FloatKind.f32.format.order a1 0 == some Ordering.eq) = true := by rw [eq0 (isF_not fx)]; simpa using zx
        have ey : (FloatKind.f32.format.order a0 0 == some Ordering.eq) = true := by rw [eq0 (isF_not fy)]; simpa using zy
        go_enter Try.func14, Try.ntmps14
        go_wp2_with (first | (go_at_call 80; refine (specW_zero _ _ _ (wide_fin fy) (wide_fin fx) ((wide_zero_iff fy).2 zy) ((wide_zero_iff fx).2 zx)).mono ?_; rintro e w' ⟨r, n, rfl, rfl, hr⟩) | (go_at_call 17; refine (sameFloat_any (Fl.wide (c := 0) ⟨by decide, by decide⟩ _) (Fl.wide (c := 0) (hr.narrow (by decide) _) _) _).mono ?_; rintro e w' ⟨n3, rfl, rfl⟩) | go_in)
        go_ret
        exact ⟨rfl, below_drewN (Below.refl _ _) _⟩
      · have hz64 : ¬ (FX.wide a0 % 9223372036854775808 = 0 ∧ FX.wide a1 % 9223372036854775808 = 0) := by
          rw [wide_zero_iff fy, wide_zero_iff fx]; exact fun h => hz ⟨h.2, h.1⟩
        have hov := (angS_le (wide_fin fy) (wide_fin fx)).not_over (by omega)
        go_enter Try.func14, Try.ntmps14
        go_wp2_with (first | (go_at_call 80; refine (specW_any _ _ _ (wide_lt _) (wide_lt _) (wide_fin fy) (wide_fin fx) hz64).mono ?_; rintro e w' ⟨r, n, rfl, rfl, hr⟩) | (go_at_call 41; refine (implAngle_any _ _ _ l0 l1 fy fx hz).mono ?_; rintro e w' ⟨r2, n2, rfl, rfl, hr2⟩) | (go_at_call 17; refine (sameFloat_any (hr2.wide _) ((hr.narrow hov _).wide _) _).mono ?_; rintro e w' ⟨n3, rfl, rfl⟩) | go_in)
        go_ret
        exact ⟨rfl, below_drewN (Below.refl _ _) _⟩
    · have fx' : isF .f32 a1 = false := by simpa using fx
      go_enter Try.func14, Try.ntmps14
      go_wp2_with (first | (go_at_call 80; refine (specW_nan _ _ _ (.inr ⟨by rw [isF_cvR]; exact fy, by rw [isF_cvR]; exact fx'⟩)).mono ?_; rintro e w' ⟨r, n, rfl, rfl, hr⟩) | (go_at_call 17; refine (sameFloat_any (Fl.wide (c := 2143289344) ⟨by decide, by decide⟩ _) (Fl.wide (c := 2143289344) (hr.narrow (by decide) _) _) _).mono ?_; rintro e w' ⟨n3, rfl, rfl⟩) | go_in)
      go_ret
      exact ⟨rfl, below_drewN (Below.refl _ _) _⟩
  · have fy' : isF .f32 a0 = false := by simpa using fy
    by_cases fx : isF .f32 a1 = true
    all_goals
      go_enter Try.func14, Try.ntmps14
      go_wp2_with (first | (go_at_call 80; refine (specW_nan _ _ _ (.inl (by rw [isF_cvR]; exact fy'))).mono ?_; rintro e w' ⟨r, n, rfl, rfl, hr⟩) | (go_at_call 17; refine (sameFloat_any (Fl.wide (c := 2143289344) ⟨by decide, by decide⟩ _) (Fl.wide (c := 2143289344) (hr.narrow (by decide) _) _) _).mono ?_; rintro e w' ⟨n3, rfl, rfl⟩) | go_in)
      go_ret
      exact ⟨rfl, below_drewN (Below.refl _ _) _⟩

set_option maxRecDepth 100000 in
theorem lifted (os : Os) (started : os.Started) (H : Type) (enc : TypeId × Value → H) :
    ReturnsInHanded {} Try.checked os 14 .any (Rows.fnExactAngleTurnsSpec.pre6 enc Try.prog Try.f14 Rows.fnExactAngleTurnsRow.domain false) (Rows.fnExactAngleTurnsSpec.post enc Try.prog Try.f14 false true false false) := by
  refine returnsInHanded_of_change (C := Try.checked) own started (by kernel_rfl) Try.func14
    (ChangeSpec.witness6 (enc := enc) (C := Try.checked) false ⟨#[], #[.float .f32 0, .float .f32 0], []⟩ 8 (by kernel_rfl) (by kernel_rfl) (by kernel_rfl) (by kernel_rfl)) ?_
  intro W base args ds gs before hval0 hW hcnd _
  have hval : ∀ (j : Nat) t v, Try.f14.params[j]? = some t → args[j]? = some v → Value.okWide Try.prog W .any base t v := hval0
  have hW' := hW
  obtain ⟨p, q, hA0, hV, rfl, hfz, hnd⟩ := hW
  have hA : DataW.TrodAll enc Try.prog W 0 (fun _ => true) true Try.f14.params.toList args.toList ds p := hA0
  rw [Try.params14] at hA hval
  obtain ⟨v0, vs0, d0, ds0, p0, q0, hargs, rfl, rfl, h0, r0⟩ := trodAll_cons hA
  obtain ⟨v1, vs1, d1, ds1, p1, q1, rfl, rfl, rfl, h1, r1⟩ := trodAll_cons r0
  obtain ⟨rfl, rfl, rfl⟩ := trodAll_nil r1
  obtain rfl : args = #[v0, v1] := by cases args; simp_all
  obtain ⟨rfl, rfl⟩ := trodVars_none hV
  have k0 := h0
  have lt0 : ∀ x ∈ p0, x.block < W.heap.size := by obtain ⟨m, hm⟩ := k0; exact DataW.trod_lt m _ _ _ hm
  have k1 := h1
  have lt1 : ∀ x ∈ p1, x.block < W.heap.size := by obtain ⟨m, hm⟩ := k1; exact DataW.trod_lt m _ _ _ hm
  obtain ⟨a0, rfl, rfl, rfl, w0⟩ := open_float Try.underlying22 (hval 0 22 v0 rfl rfl) h0
  obtain ⟨a1, rfl, rfl, rfl, w1⟩ := open_float Try.underlying22 (hval 1 22 v1 rfl rfl) h1
  clear hA0 hval0
  refine (walk a0 a1 W w0 w1).mono fun e W' ⟨he, bel⟩ => ?_
  subst he
  exact ⟨_, rfl, _, _, _, [], _, [], hW', trodAll_mk1 (shut_bool Try.underlying4 _), (trodAll_cons_mk (Below.trod laidOut (by kernel_rfl) (of_decide_eq_true (by kernel_rfl)) k0 bel lt0) (trodAll_cons_mk (Below.trod laidOut (by kernel_rfl) (of_decide_eq_true (by kernel_rfl)) k1 bel lt1) trodAll_mk0)), rfl, bel.frame _, fun h => by cases h⟩

theorem over : Rows.fnExactAngleTurnsRow.holds Try.pinned (OpenSpec.ofChange Rows.fnExactAngleTurnsSpec) :=
  OpenClaim.holds_of_wide 14 Try.f14 rfl rfl rfl rfl rfl rfl rfl ⟨rfl, rfl, rfl, rfl, rfl⟩ rfl rfl rfl rfl rfl (by kernel_rfl) Try.func14 (by kernel_rfl)
    (of_decide_eq_true (by kernel_rfl)) (by unfold Func.isWrapper; first | (rw [if_pos (by decide +kernel)]; kernel_rfl) | (rw [if_neg (by decide +kernel)]; exact ⟨rfl, rfl⟩))
    (fun os started H enc _ => lifted os started H enc)

theorem proved : Rows.FnExactAngleTurnsSaid := over
#print axioms proved
end Go.Proofs.Ytgfmcehgecbbaab.lawFnExactAngleTurns
