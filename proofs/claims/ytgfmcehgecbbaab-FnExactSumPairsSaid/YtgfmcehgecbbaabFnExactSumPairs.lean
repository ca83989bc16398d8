/-
  For every list of 32-bit numbers the program's SumPairs answers as the model's, to the last bit, and the list stays as it was; no condition.
-/
import Derived.Test.YtgfmcehgecbbaabBase
import Derived.Test.YtgfmcehgecbbaabCPairs
namespace Go.Proofs.Ytgfmcehgecbbaab.lawFnExactSumPairs
open Go.ChangeShapes Go.WideShapes Go.ChangeAt Go.RowKit Go.FX
open Go.ChangeMaps (open_string shut_string)
set_option linter.unusedVariables false
set_option linter.unusedSimpArgs false

set_option maxHeartbeats 1000000 in
theorem walk (a0 : Option Addr) (len0 cap0 : Nat) (z0 : List Nat) (w : World) (w0 : FS w (.slice a0 len0 cap0) z0) :
    Calls Try.prog 5 #[.slice a0 len0 cap0] w fun e w' => e = .returned (.bool true) ∧ Below w.heap.size w w' := by
  have hv := w0
  obtain ⟨hz, a, cap, ev, h1, h2, _⟩ := w0
  simp only [Value.slice.injEq] at ev
  obtain ⟨rfl, rfl, rfl⟩ := ev
  have hml := Nat.le_trans h1 h2
  unfold maxLen at h2
  by_cases hlen : z0.length ≤ 1048576
  · by_cases h256 : z0.length ≤ 256
    · skip
      go_enter Try.func5, Try.ntmps5
      go_wp2_with (go_at_call 19; ((with_reducible refine (toF_any _ z0 _ hv hlen).mono ?_); rintro e w1 ⟨rfl, ho1, hb1⟩))
      have hv1 := hv.below hb1
      have f1 := FS.of_own hz hml ho1
      go_wp2_with (go_at_call 22; ((with_reducible refine (specPairs_any _ z0 _ f1 h256).mono ?_); rintro e w' ⟨r, n1, rfl, rfl, hr⟩))
      have hv1' := hv1.drewN n1
      go_wp2_with (go_at_call 19; ((with_reducible refine (toF_any _ z0 _ hv1' hlen).mono ?_); rintro e w2 ⟨rfl, ho2, hb2⟩))
      have hv2 := hv1'.below hb2
      have f2 := FS.of_own hz hml ho2
      simp only [World.heap_drewN] at f2
      go_wp2_with (go_at_call 23; ((with_reducible refine (implPairs_any _ z0 _ f2 h256).mono ?_); rintro e w' ⟨r2, n2, rfl, rfl, hr2⟩))
      go_wp2_with (go_at_call 17; refine (sameFloat_any (hr2.wide _) (hr.wide _) _).mono ?_; rintro e w' ⟨n3, rfl, rfl⟩)
      go_wp2_with (go_at_call 19; ((with_reducible refine (toF_any _ z0 _ (hv2.drewN _) hlen).mono ?_); rintro e w3 ⟨rfl, ho3, hb3⟩))
      have f3 := FS.of_own hz hml ho3
      simp only [World.heap_drewN] at f3
      have f2' := (f2.drewN _).below hb3
      go_wp2_with (go_at_call 21; refine (eqF_any _ _ z0 z0 _ f2' f3 rfl hlen).mono ?_; rintro e w' ⟨n4, rfl, rfl⟩)
      go_ret
      have s1 := hb1.size
      have s2 := hb2.size
      simp only [World.heap_drewN] at s2
      exact ⟨rfl, below_drewN ((hb1.trans ((below_drewN (Below.refl _ _) n1 |>.trans hb2).mono s1)).trans ((below_drewN (Below.refl _ _) _ |>.trans hb3).mono (Nat.le_trans s1 s2))) _⟩
    · have h257 : 256 < z0.length := by omega
      go_enter Try.func5, Try.ntmps5
      go_wp2_with (go_at_call 19; ((with_reducible refine (toF_any _ z0 _ hv hlen).mono ?_); rintro e w1 ⟨rfl, ho1, hb1⟩))
      have hv1 := hv.below hb1
      have f1 := FS.of_own hz hml ho1
      go_wp2_with (go_at_call 22; ((with_reducible refine (specPairs_no _ z0 _ f1 h257).mono ?_); rintro e w' ⟨r, n1, rfl, rfl, hr⟩))
      have hv1' := hv1.drewN n1
      go_wp2_with (go_at_call 19; ((with_reducible refine (toF_any _ z0 _ hv1' hlen).mono ?_); rintro e w2 ⟨rfl, ho2, hb2⟩))
      have hv2 := hv1'.below hb2
      have f2 := FS.of_own hz hml ho2
      simp only [World.heap_drewN] at f2
      go_wp2_with (go_at_call 23; ((with_reducible refine (implPairs_no _ z0 _ f2 h257).mono ?_); rintro e w' ⟨r2, n2, rfl, rfl, hr2⟩))
      go_wp2_with (go_at_call 17; refine (sameFloat_any (hr2.wide _) (hr.wide _) _).mono ?_; rintro e w' ⟨n3, rfl, rfl⟩)
      go_wp2_with (go_at_call 19; ((with_reducible refine (toF_any _ z0 _ (hv2.drewN _) hlen).mono ?_); rintro e w3 ⟨rfl, ho3, hb3⟩))
      have f3 := FS.of_own hz hml ho3
      simp only [World.heap_drewN] at f3
      have f2' := (f2.drewN _).below hb3
      go_wp2_with (go_at_call 21; refine (eqF_any _ _ z0 z0 _ f2' f3 rfl hlen).mono ?_; rintro e w' ⟨n4, rfl, rfl⟩)
      go_ret
      have s1 := hb1.size
      have s2 := hb2.size
      simp only [World.heap_drewN] at s2
      exact ⟨rfl, below_drewN ((hb1.trans ((below_drewN (Below.refl _ _) n1 |>.trans hb2).mono s1)).trans ((below_drewN (Below.refl _ _) _ |>.trans hb3).mono (Nat.le_trans s1 s2))) _⟩
  · go_enter Try.func5, Try.ntmps5
    go_wp2
    go_ret
    exact ⟨rfl, Below.refl _ _⟩

set_option maxRecDepth 100000 in
theorem lifted (os : Os) (started : os.Started) (H : Type) (enc : TypeId × Value → H) :
    ReturnsInHanded {} Try.checked os 5 .any (Rows.fnExactSumPairsSpec.pre6 enc Try.prog Try.f5 Rows.fnExactSumPairsRow.domain false) (Rows.fnExactSumPairsSpec.post enc Try.prog Try.f5 false true false false) := by
  refine returnsInHanded_of_change (C := Try.checked) own started (by kernel_rfl) Try.func5
    (ChangeSpec.witness6 (enc := enc) (C := Try.checked) false ⟨#[], #[.slice none 0 0], []⟩ 8 (by kernel_rfl) (by kernel_rfl) (by kernel_rfl) (by kernel_rfl)) ?_
  intro W base args ds gs before hval0 hW hcnd _
  have hval : ∀ (j : Nat) t v, Try.f5.params[j]? = some t → args[j]? = some v → Value.okWide Try.prog W .any base t v := hval0
  have hW' := hW
  obtain ⟨p, q, hA0, hV, rfl, hfz, hnd⟩ := hW
  have hA : DataW.TrodAll enc Try.prog W 0 (fun _ => true) true Try.f5.params.toList args.toList ds p := hA0
  rw [Try.params5] at hA hval
  obtain ⟨v0, vs0, d0, ds0, p0, q0, hargs, rfl, rfl, h0, r0⟩ := trodAll_cons hA
  obtain ⟨rfl, rfl, rfl⟩ := trodAll_nil r0
  obtain rfl : args = #[v0] := by cases args; simp_all
  obtain ⟨rfl, rfl⟩ := trodVars_none hV
  have k0 := h0
  have lt0 : ∀ x ∈ p0, x.block < W.heap.size := by obtain ⟨m, hm⟩ := k0; exact DataW.trod_lt m _ _ _ hm
  obtain ⟨a0, len0, cap0, rfl⟩ := okWide_slice Try.underlying27 (hval 0 27 v0 rfl rfl)
  obtain ⟨z0, w0⟩ := fs_of Try.underlying27 Try.underlying22 (by kernel_rfl) h0
  clear hA0 hval0
  refine (walk a0 len0 cap0 z0 W w0).mono fun e W' ⟨he, bel⟩ => ?_
  subst he
  exact ⟨_, rfl, _, _, _, [], _, [], hW', trodAll_mk1 (shut_bool Try.underlying4 _), (trodAll_cons_mk (Below.trod laidOut (by kernel_rfl) (of_decide_eq_true (by kernel_rfl)) k0 bel lt0) trodAll_mk0), rfl, bel.frame _, fun h => by cases h⟩

theorem over : Rows.fnExactSumPairsRow.holds Try.pinned (OpenSpec.ofChange Rows.fnExactSumPairsSpec) :=
  OpenClaim.holds_of_wide 5 Try.f5 rfl rfl rfl rfl rfl rfl rfl ⟨rfl, rfl, rfl, rfl, rfl⟩ rfl rfl rfl rfl rfl (by kernel_rfl) Try.func5 (by kernel_rfl)
    (of_decide_eq_true (by kernel_rfl)) (by unfold Func.isWrapper; first | (rw [if_pos (by decide +kernel)]; kernel_rfl) | (rw [if_neg (by decide +kernel)]; exact ⟨rfl, rfl⟩))
    (fun os started H enc _ => lifted os started H enc)

theorem proved : Rows.FnExactSumPairsSaid := over
#print axioms proved
end Go.Proofs.Ytgfmcehgecbbaab.lawFnExactSumPairs
