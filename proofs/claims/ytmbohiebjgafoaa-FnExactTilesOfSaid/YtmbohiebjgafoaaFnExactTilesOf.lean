/-
  For any two numbers the program's TilesOf answers as the model's, in memory of its own; no condition.
-/
import Derived.Test.YtmbohiebjgafoaaBase
import Derived.Test.YtmbohiebjgafoaaPo
import Derived.Test.YtmbohiebjgafoaaTp
namespace Go.Proofs.Ytmbohiebjgafoaa.lawFnExactTilesOf
open Go.ChangeShapes Go.WideShapes Go.ChangeAt Go.RowKit Go.FX
open Go.ChangeMaps (open_string shut_string)
set_option linter.unusedVariables false
set_option linter.unusedSimpArgs false

set_option maxHeartbeats 4000000 in
set_option maxRecDepth 100000 in
theorem walk (a0 : Int) (a1 : Int) (w : World) (w0 : (Lit.int .i64 a0).wf = true) (w1 : (Lit.int .i64 a1).wf = true) :
    Calls Try.prog 4 #[.int .i64 a0, .int .i64 a1] w fun e w' => e = .returned (.bool true) ∧ Below w.heap.size w w' := by
  obtain ⟨ts, ok, hS, hImp, h8⟩ := pairTilesOf a0 a1
  go_enter Try.func4, Try.ntmps4
  go_wp2_with fail
  refine (hS _).mono ?_
  rintro e w1 ⟨x1, n1, c1, rfl, hb1, ho1⟩
  have b1 : ∀ k, (Value.slice x1 n1 c1).ownBlock = some k → w.heap.size ≤ k ∧ k < w1.heap.size := ho1.lt
  go_wp2_with fail
  refine (hImp _).mono ?_
  rintro e w2 ⟨x2, n2, c2, rfl, hb2, ho2⟩
  have b2 : ∀ k, (Value.slice x2 n2 c2).ownBlock = some k → w1.heap.size ≤ k ∧ k < w2.heap.size := ho2.lt
  have q2 : Below w.heap.size w w2 := hb1.trans (hb2.mono hb1.size)
  have m2 := ho1.below hb2
  have hz1 := hb1.size
  go_wp2_with fail
  refine (eqTileS_any _ _ _ _ ts _ ho2 m2 (by omega)).mono ?_
  rintro e w3 ⟨rfl, hb3⟩
  have q3 : Below w.heap.size w w3 := q2.trans (hb3.mono q2.size)
  have m3 := m2.below hb3
  have g3 := ho2.below hb3
  go_wp2_with fail
  refine (markTileS_any _ _ ts _ g3 (by omega)).mono ?_
  rintro e w4 ⟨rfl, hg4, ho4⟩
  have q4 : Below w.heap.size w w4 := q3.grown hg4 q3.size (fun k hk => by have := b2 k hk; omega)
  have m4 := m3.kept hg4 (own_sep fun k hk k' hk' => by have := b1 k hk; have := b2 k' hk'; omega)
  go_wp2_with fail
  refine (heldTileS_any _ _ ts.length _ ho4 (by omega)).mono ?_
  rintro e w5 ⟨rfl, rfl⟩
  go_wp2_with fail
  refine (hImp _).mono ?_
  rintro e w6 ⟨x6, n6, c6, rfl, hb6, ho6⟩
  have q6 : Below w.heap.size w w6 := q4.trans (hb6.mono q4.size)
  have m6 := m4.below hb6
  have k6 := ho4.below hb6
  go_wp2_with fail
  refine (eqTileS_any _ _ _ _ ts _ ho6 m6 (by omega)).mono ?_
  rintro e w7 ⟨rfl, hb7⟩
  have q7 : Below w.heap.size w w7 := q6.trans (hb7.mono q6.size)
  have k7 := k6.below hb7
  go_wp2_with fail
  refine (heldTileS_any _ _ ts.length _ k7 (by omega)).mono ?_
  rintro e w8 ⟨rfl, rfl⟩
  go_wp2_with fail
  go_ret
  exact ⟨rfl, q7⟩

set_option maxRecDepth 100000 in
theorem lifted (os : Os) (started : os.Started) (H : Type) (enc : TypeId × Value → H) :
    ReturnsInHanded {} Try.checked os 4 .any (Rows.fnExactTilesOfSpec.pre6 enc Try.prog Try.f4 Rows.fnExactTilesOfRow.domain false) (Rows.fnExactTilesOfSpec.post enc Try.prog Try.f4 false true false false) := by
  refine returnsInHanded_of_change (C := Try.checked) own started (by kernel_rfl) Try.func4
    (ChangeSpec.witness6 (enc := enc) (C := Try.checked) false ⟨#[], #[.int .i64 0, .int .i64 0], []⟩ 8 (by kernel_rfl) (by kernel_rfl) (by kernel_rfl) (by kernel_rfl)) ?_
  intro W base args ds gs before hval0 hW hcnd _
  have hval : ∀ (j : Nat) t v, Try.f4.params[j]? = some t → args[j]? = some v → Value.okWide Try.prog W .any base t v := hval0
  have hW' := hW
  obtain ⟨p, q, hA0, hV, rfl, hfz, hnd⟩ := hW
  have hA : DataW.TrodAll enc Try.prog W 0 (fun _ => true) true Try.f4.params.toList args.toList ds p := hA0
  rw [Try.params4] at hA hval
  obtain ⟨v0, vs0, d0, ds0, p0, q0, hargs, rfl, rfl, h0, r0⟩ := trodAll_cons hA
  obtain ⟨v1, vs1, d1, ds1, p1, q1, rfl, rfl, rfl, h1, r1⟩ := trodAll_cons r0
  obtain ⟨rfl, rfl, rfl⟩ := trodAll_nil r1
  obtain rfl : args = #[v0, v1] := by cases args; simp_all
  obtain ⟨rfl, rfl⟩ := trodVars_none hV
  have k0 := h0
  have lt0 : ∀ x ∈ p0, x.block < W.heap.size := by obtain ⟨m, hm⟩ := k0; exact DataW.trod_lt m _ _ _ hm
  have k1 := h1
  have lt1 : ∀ x ∈ p1, x.block < W.heap.size := by obtain ⟨m, hm⟩ := k1; exact DataW.trod_lt m _ _ _ hm
  obtain ⟨a0, rfl, rfl, rfl, w0⟩ := open_int Try.underlying2 (hval 0 2 v0 rfl rfl) h0
  obtain ⟨a1, rfl, rfl, rfl, w1⟩ := open_int Try.underlying2 (hval 1 2 v1 rfl rfl) h1
  clear hA0 hval0
  refine (walk a0 a1 W w0 w1).mono fun e W' ⟨he, bel⟩ => ?_
  subst he
  exact ⟨_, rfl, _, _, _, [], _, [], hW', trodAll_mk1 (shut_bool Try.underlying4 _), (trodAll_cons_mk (Below.trod laidOut (by kernel_rfl) (of_decide_eq_true (by kernel_rfl)) k0 bel lt0) (trodAll_cons_mk (Below.trod laidOut (by kernel_rfl) (of_decide_eq_true (by kernel_rfl)) k1 bel lt1) trodAll_mk0)), rfl, bel.frame _, fun h => by cases h⟩

theorem over : Rows.fnExactTilesOfRow.holds Try.pinned (OpenSpec.ofChange Rows.fnExactTilesOfSpec) :=
  OpenClaim.holds_of_wide 4 Try.f4 rfl rfl rfl rfl rfl rfl rfl ⟨rfl, rfl, rfl, rfl, rfl⟩ rfl rfl rfl rfl rfl (by kernel_rfl) Try.func4 (by kernel_rfl)
    (of_decide_eq_true (by kernel_rfl)) (by unfold Func.isWrapper; first | (rw [if_pos (by decide +kernel)]; kernel_rfl) | (rw [if_neg (by decide +kernel)]; exact ⟨rfl, rfl⟩))
    (fun os started H enc _ => lifted os started H enc)

theorem proved : Rows.FnExactTilesOfSaid := over
#print axioms proved
end Go.Proofs.Ytmbohiebjgafoaa.lawFnExactTilesOf
