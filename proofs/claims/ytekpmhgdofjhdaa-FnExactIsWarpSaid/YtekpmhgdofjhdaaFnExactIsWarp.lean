/-
  For every list of any 32-bit numbers the program's IsWarp answers as the model's, and the list stays as it was; no condition but that it holds at most 1048576 numbers (else the law asks nothing).
-/
import Derived.Test.YtekpmhgdofjhdaaBase
import Derived.Test.YtekpmhgdofjhdaaCx
import Derived.Deep.DeepCutAuto
namespace Go.Proofs.Ytekpmhgdofjhdaa.lawFnExactIsWarp
open Go.ChangeShapes Go.WideShapes Go.ChangeAt Go.RowKit Go.FX
open Go.ChangeMaps (open_string shut_string)
set_option linter.unusedVariables false
set_option linter.unusedSimpArgs false

set_option maxHeartbeats 4000000 in
set_option maxRecDepth 100000 in
theorem walk (a0 : Option Addr) (len0 cap0 : Nat) (z0 : List Nat) (w : World) (w0 : FS w (.slice a0 len0 cap0) z0) :
    Calls Try.prog 9 #[.slice a0 len0 cap0] w fun e w' => e = .returned (.bool true) ∧ Below w.heap.size w w' := by
  have hv0 : FC w (.slice a0 len0 cap0) (z0.map (cn .f32)) := FC.of w0
  generalize z0.map (cn .f32) = cs0 at hv0
  clear w0
  obtain ⟨en0, hnc0, hcm0⟩ := hv0.sized
  have hmx0 : (len0 : Int) ≤ 9223372036854775807 := by unfold maxLen at hcm0; omega
  by_cases hlen0 : len0 ≤ 1048576
  case neg =>
    clear en0 hnc0 hcm0
    go_enter Try.func9, Try.ntmps9
    go_wp2_with fail
    go_ret
    exact ⟨rfl, Below.refl _ _⟩
  have hn0 : cs0.length ≤ 1048576 := by omega
  clear en0 hnc0 hcm0 hmx0
  go_enter Try.func9, Try.ntmps9
  go_wp2_with fail
  refine (toFC_any _ cs0 _ hv0 hn0).mono ?_
  rintro e w1 ⟨a1', n1, c1, rfl, hb1, ho1⟩
  have q1 : Below w.heap.size w w1 := hb1
  go_wp2_with fail
  refine (sIsWarp2_any _ cs0 _ ho1.fc).mono ?_
  rintro e w2 ⟨k2, rfl, hw2⟩
  have hb2 : Below w1.heap.size w1 w2 := by rw [hw2]; exact below_drewN (Below.refl _ _) _
  clear hw2
  have q2 : Below w.heap.size w w2 := q1.trans (hb2.mono q1.size)
  go_wp2_with fail
  refine (toFC_any _ cs0 _ (hv0.below q2) hn0).mono ?_
  rintro e w3 ⟨a3, n3, c3, rfl, hb3, ho3⟩
  have q3 : Below w.heap.size w w3 := q2.trans (hb3.mono q2.size)
  go_wp2_with fail
  refine (isWarp_any _ cs0 _ ho3.fc).mono ?_
  rintro e w4 ⟨k4, rfl, hw4⟩
  have hb4 : Below w3.heap.size w3 w4 := by rw [hw4]; exact below_drewN (Below.refl _ _) _
  clear hw4
  have q4 : Below w.heap.size w w4 := q3.trans (hb4.mono q3.size)
  have rX4 := ho3.below hb4
  go_wp2_with fail
  refine (toFC_any _ cs0 _ (hv0.below q4) hn0).mono ?_
  rintro e w5 ⟨a7, n7, c7, rfl, hb5, ho5⟩
  have q5 : Below w.heap.size w w5 := q4.trans (hb5.mono q4.size)
  have rX5 := rX4.below hb5
  go_wp2_with fail
  refine (eqFC_any _ _ cs0 _ rX5.fc ho5.fc hn0).mono ?_
  rintro e w9 ⟨k9, rfl, rfl⟩
  go_wp2_with fail
  go_ret
  first | exact ⟨rfl, below_drewN q5 _⟩ | exact ⟨rfl, q5⟩ | trace_state

set_option maxRecDepth 100000 in
theorem lifted (os : Os) (started : os.Started) (H : Type) (enc : TypeId × Value → H) :
    ReturnsInHanded {} Try.checked os 9 .any (Rows.fnExactIsWarpSpec.pre6 enc Try.prog Try.f9 Rows.fnExactIsWarpRow.domain false) (Rows.fnExactIsWarpSpec.post enc Try.prog Try.f9 false true false false) := by
  refine returnsInHanded_of_change (C := Try.checked) own started (by kernel_rfl) Try.func9
    (ChangeSpec.witness6 (enc := enc) (C := Try.checked) false ⟨#[], #[.slice none 0 0], []⟩ 8 (by kernel_rfl) (by kernel_rfl) (by kernel_rfl) (by kernel_rfl)) ?_
  intro W base args ds gs before hval0 hW hcnd _
  have hval : ∀ (j : Nat) t v, Try.f9.params[j]? = some t → args[j]? = some v → Value.okWide Try.prog W .any base t v := hval0
  have hW' := hW
  obtain ⟨p, q, hA0, hV, rfl, hfz, hnd⟩ := hW
  have hA : DataW.TrodAll enc Try.prog W 0 (fun _ => true) true Try.f9.params.toList args.toList ds p := hA0
  rw [Try.params9] at hA hval
  obtain ⟨v0, vs0, d0, ds0, p0, q0, hargs, rfl, rfl, h0, r0⟩ := trodAll_cons hA
  obtain ⟨rfl, rfl, rfl⟩ := trodAll_nil r0
  obtain rfl : args = #[v0] := by cases args; simp_all
  obtain ⟨rfl, rfl⟩ := trodVars_none hV
  have k0 := h0
  have lt0 : ∀ x ∈ p0, x.block < W.heap.size := by obtain ⟨m, hm⟩ := k0; exact DataW.trod_lt m _ _ _ hm
  obtain ⟨a0, len0, cap0, rfl⟩ := okWide_slice Try.underlying51 (hval 0 51 v0 rfl rfl)
  obtain ⟨z0, w0⟩ := fs_of Try.underlying51 Try.underlying22 (by kernel_rfl) h0
  clear hA0 hval0
  refine (walk a0 len0 cap0 z0 W w0).mono fun e W' ⟨he, bel⟩ => ?_
  subst he
  exact ⟨_, rfl, _, _, _, [], _, [], hW', trodAll_mk1 (shut_bool Try.underlying4 _), (trodAll_cons_mk (Below.trod laidOut (by kernel_rfl) (of_decide_eq_true (by kernel_rfl)) k0 bel lt0) trodAll_mk0), rfl, bel.frame _, fun h => by cases h⟩

theorem over : Rows.fnExactIsWarpRow.holds Try.pinned (OpenSpec.ofChange Rows.fnExactIsWarpSpec) :=
  OpenClaim.holds_of_wide 9 Try.f9 rfl rfl rfl rfl rfl rfl rfl ⟨rfl, rfl, rfl, rfl, rfl⟩ rfl rfl rfl rfl rfl (by kernel_rfl) Try.func9 (by kernel_rfl)
    (of_decide_eq_true (by kernel_rfl)) (by unfold Func.isWrapper; first | (rw [if_pos (by decide +kernel)]; kernel_rfl) | (rw [if_neg (by decide +kernel)]; exact ⟨rfl, rfl⟩))
    (fun os started H enc _ => lifted os started H enc)

theorem proved : Rows.FnExactIsWarpSaid := over
#print axioms proved
end Go.Proofs.Ytekpmhgdofjhdaa.lawFnExactIsWarp
