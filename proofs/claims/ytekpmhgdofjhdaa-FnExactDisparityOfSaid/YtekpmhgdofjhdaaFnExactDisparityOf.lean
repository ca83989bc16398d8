/-
  For every camera and number the program's DisparityOf answers as the model's, to the last bit; no condition.
-/
import Derived.Test.YtekpmhgdofjhdaaBase
import Derived.Test.YtekpmhgdofjhdaaCa
namespace Go.Proofs.Ytekpmhgdofjhdaa.lawFnExactDisparityOf
open Go.ChangeShapes Go.WideShapes Go.ChangeAt Go.RowKit Go.FX
open Go.ChangeMaps (open_string shut_string)
set_option linter.unusedVariables false
set_option linter.unusedSimpArgs false

set_option maxHeartbeats 4000000 in
set_option maxRecDepth 100000 in
theorem walk (fo0 ba0 mx0 my0 : Nat) (a1 : Nat) (w : World) (wf0 : fo0 < width .f32) (wb0 : ba0 < width .f32) (wx0 : mx0 < width .f32) (wy0 : my0 < width .f32) (w1 : (Lit.float .f32 a1).wf = true) :
    Calls Try.prog 5 #[.agg #[.float .f32 fo0, .float .f32 ba0, .float .f32 mx0, .float .f32 my0], .float .f32 a1] w fun e w' => e = .returned (.bool true) ∧ Below w.heap.size w w' := by
  have la1 := lt32 w1
  go_enter Try.func5, Try.ntmps5
  go_wp2_with fail
  refine (toCamera_any _ _ _ _ _).mono ?_
  rintro e w1 ⟨rfl, hb1⟩
  have PA1 := (P4.new w fo0 ba0 mx0 my0 24).below hb1
  have s1 := hb1.size; simp only [World.size_alloc] at s1
  obtain ⟨l1, p1a, p1b, p1c, p1d⟩ := id PA1
  go_wp2_with fail
  refine (specDisparityOf_any _ _ _ _ _ _ wf0 wb0 la1).mono ?_
  rintro e w2 ⟨r2, rfl, hb2, hr2⟩
  have PA2 := PA1.below hb2
  have s2 := hb2.size
  obtain ⟨l2, p2a, p2b, p2c, p2d⟩ := id PA2
  go_wp2_with fail
  refine (toCamera_any _ _ _ _ _).mono ?_
  rintro e w3 ⟨rfl, hb3⟩
  have s3 := hb3.size
  go_wp2_with fail
  refine (implDisparityOf_any _ _ _ _ _ _).mono ?_
  rintro e w4 ⟨r4, rfl, hb4, hr4⟩
  have s4 := hb4.size
  go_wp2_with fail
  refine (sameFloat_any (hr4.wide _) (hr2.wide _) _).mono ?_
  rintro e w5 ⟨k5, rfl, rfl⟩
  go_wp2_with fail
  go_ret
  exact ⟨rfl, by ((repeat' (first | (refine bel_set ?_ ?_ _) | (refine bel_al ?_ ?_ _) | exact Below.refl _ _ | assumption | (refine below_drewN ?_ _) | (refine Below.drew ?_) | (refine Below.trans ?_ (Below.mono hb4 ?_)) | (refine Below.trans ?_ (Below.mono hb3 ?_)) | (refine Below.trans ?_ (Below.mono hb2 ?_)) | (refine Below.trans ?_ (Below.mono hb1 ?_)))) <;> (first | omega | (simp; done) | (simp; omega)))⟩

set_option maxRecDepth 100000 in
theorem lifted (os : Os) (started : os.Started) (H : Type) (enc : TypeId × Value → H) :
    ReturnsInHanded {} Try.checked os 5 .any (Rows.fnExactDisparityOfSpec.pre6 enc Try.prog Try.f5 Rows.fnExactDisparityOfRow.domain false) (Rows.fnExactDisparityOfSpec.post enc Try.prog Try.f5 false true false false) := by
  refine returnsInHanded_of_change (C := Try.checked) own started (by kernel_rfl) Try.func5
    (ChangeSpec.witness6 (enc := enc) (C := Try.checked) false ⟨#[], #[.agg #[.float .f32 0, .float .f32 0, .float .f32 0, .float .f32 0], .float .f32 0], []⟩ 8 (by kernel_rfl) (by kernel_rfl) (by kernel_rfl) (by kernel_rfl)) ?_
  intro W base args ds gs before hval0 hW hcnd _
  have hval : ∀ (j : Nat) t v, Try.f5.params[j]? = some t → args[j]? = some v → Value.okWide Try.prog W .any base t v := hval0
  have hW' := hW
  obtain ⟨p, q, hA0, hV, rfl, hfz, hnd⟩ := hW
  have hA : DataW.TrodAll enc Try.prog W 0 (fun _ => true) true Try.f5.params.toList args.toList ds p := hA0
  rw [Try.params5] at hA hval
  obtain ⟨v0, vs0, d0, ds0, p0, q0, hargs, rfl, rfl, h0, r0⟩ := trodAll_cons hA
  obtain ⟨v1, vs1, d1, ds1, p1, q1, rfl, rfl, rfl, h1, r1⟩ := trodAll_cons r0
  obtain ⟨rfl, rfl, rfl⟩ := trodAll_nil r1
  obtain rfl : args = #[v0, v1] := by cases args; simp_all
  obtain ⟨rfl, rfl⟩ := trodVars_none hV
  have k0 := h0
  have lt0 : ∀ x ∈ p0, x.block < W.heap.size := by obtain ⟨m, hm⟩ := k0; exact DataW.trod_lt m _ _ _ hm
  have k1 := h1
  have lt1 : ∀ x ∈ p1, x.block < W.heap.size := by obtain ⟨m, hm⟩ := k1; exact DataW.trod_lt m _ _ _ hm
  obtain ⟨fo0, ba0, mx0, my0, rfl, wf0, wb0, wx0, wy0⟩ := cam_of Try.underlying24 (by kernel_rfl) (by kernel_rfl) Try.underlying22 Try.underlying22 Try.underlying22 Try.underlying22 (hval 0 24 v0 rfl rfl) h0
  obtain ⟨a1, rfl, rfl, rfl, w1⟩ := open_float Try.underlying22 (hval 1 22 v1 rfl rfl) h1
  clear hA0 hval0
  refine (walk fo0 ba0 mx0 my0 a1 W wf0 wb0 wx0 wy0 w1).mono fun e W' ⟨he, bel⟩ => ?_
  subst he
  exact ⟨_, rfl, _, _, _, [], _, [], hW', trodAll_mk1 (shut_bool Try.underlying4 _), (trodAll_cons_mk (Below.trod laidOut (by kernel_rfl) (of_decide_eq_true (by kernel_rfl)) k0 bel lt0) (trodAll_cons_mk (Below.trod laidOut (by kernel_rfl) (of_decide_eq_true (by kernel_rfl)) k1 bel lt1) trodAll_mk0)), rfl, bel.frame _, fun h => by cases h⟩

theorem over : Rows.fnExactDisparityOfRow.holds Try.pinned (OpenSpec.ofChange Rows.fnExactDisparityOfSpec) :=
  OpenClaim.holds_of_wide 5 Try.f5 rfl rfl rfl rfl rfl rfl rfl ⟨rfl, rfl, rfl, rfl, rfl⟩ rfl rfl rfl rfl rfl (by kernel_rfl) Try.func5 (by kernel_rfl)
    (of_decide_eq_true (by kernel_rfl)) (by unfold Func.isWrapper; first | (rw [if_pos (by decide +kernel)]; kernel_rfl) | (rw [if_neg (by decide +kernel)]; exact ⟨rfl, rfl⟩))
    (fun os started H enc _ => lifted os started H enc)

theorem proved : Rows.FnExactDisparityOfSaid := over
#print axioms proved
end Go.Proofs.Ytekpmhgdofjhdaa.lawFnExactDisparityOf
