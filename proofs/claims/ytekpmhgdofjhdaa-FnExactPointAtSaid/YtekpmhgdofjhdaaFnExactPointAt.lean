/-
  For every camera and three numbers the program's PointAt answers as the model's, to the last bit; no condition.
-/
import Derived.Test.YtekpmhgdofjhdaaBase
import Derived.Test.YtekpmhgdofjhdaaCb
namespace Go.Proofs.Ytekpmhgdofjhdaa.lawFnExactPointAt
open Go.ChangeShapes Go.WideShapes Go.ChangeAt Go.RowKit Go.FX
open Go.ChangeMaps (open_string shut_string)
set_option linter.unusedVariables false
set_option linter.unusedSimpArgs false

set_option maxHeartbeats 4000000 in
set_option maxRecDepth 100000 in
theorem walk (fo0 ba0 mx0 my0 : Nat) (a1 : Nat) (a2 : Nat) (a3 : Nat) (w : World) (wf0 : fo0 < width .f32) (wb0 : ba0 < width .f32) (wx0 : mx0 < width .f32) (wy0 : my0 < width .f32) (w1 : (Lit.float .f32 a1).wf = true) (w2 : (Lit.float .f32 a2).wf = true) (w3 : (Lit.float .f32 a3).wf = true) :
    Calls Try.prog 6 #[.agg #[.float .f32 fo0, .float .f32 ba0, .float .f32 mx0, .float .f32 my0], .float .f32 a1, .float .f32 a2, .float .f32 a3] w fun e w' => e = .returned (.bool true) ∧ Below w.heap.size w w' := by
  have la1 := lt32 w1
  have la2 := lt32 w2
  have la3 := lt32 w3
  go_enter Try.func6, Try.ntmps6
  go_wp2_with fail
  refine (toCamera_any _ _ _ _ _).mono ?_
  rintro e w1 ⟨rfl, hb1⟩
  have PA1 := (P4.new w fo0 ba0 mx0 my0 24).below hb1
  have s1 := hb1.size; simp only [World.size_alloc] at s1
  obtain ⟨l1, p1a, p1b, p1c, p1d⟩ := id PA1
  go_wp2_with fail
  refine (specPointAt_any _ _ _ _ _ _ _ _ wf0 wb0 wx0 wy0 la1 la2 la3).mono ?_
  rintro e w2 ⟨r2x, r2y, r2z, rfl, hb2, hr2x, hr2y, hr2z⟩
  have PA2 := (PA1.below hb2).alloc (.cells #[.float .f32 r2x, .float .f32 r2y, .float .f32 r2z] 35)
  have s2 := hb2.size
  obtain ⟨l2, p2a, p2b, p2c, p2d⟩ := id PA2
  have PB2 := P3.new w2 r2x r2y r2z 35
  go_wp2_with fail
  refine (toCamera_any _ _ _ _ _).mono ?_
  rintro e w3 ⟨rfl, hb3⟩
  have s3 := hb3.size
  have PB3 := PB2.below hb3
  go_wp2_with fail
  refine (implPointAt_any _ _ _ _ _ _ _ _ wf0 wx0 wy0 la1 la2).mono ?_
  rintro e w4 ⟨r4x, r4y, r4z, rfl, hb4, hr4x, hr4y, hr4z⟩
  have s4 := hb4.size
  have PB4 := (PB3.below hb4).alloc (.cells #[.float .f32 r4x, .float .f32 r4y, .float .f32 r4z] 35)
  have PG4 := P3.new w4 r4x r4y r4z 35
  obtain ⟨m0, m1, m2, m3⟩ := PB4
  obtain ⟨g0, g1, g2, g3⟩ := PG4
  go_wp2_with fail
  refine (eqVector_any _ hr4x hr4y hr4z hr2x hr2y hr2z).mono ?_
  rintro e w5 ⟨rfl, hb5⟩
  have s5 := hb5.size
  go_wp2_with fail
  go_ret
  exact ⟨rfl, by ((repeat' (first | (refine bel_set ?_ ?_ _) | (refine bel_al ?_ ?_ _) | exact Below.refl _ _ | assumption | (refine below_drewN ?_ _) | (refine Below.drew ?_) | (refine Below.trans ?_ (Below.mono hb5 ?_)) | (refine Below.trans ?_ (Below.mono hb4 ?_)) | (refine Below.trans ?_ (Below.mono hb3 ?_)) | (refine Below.trans ?_ (Below.mono hb2 ?_)) | (refine Below.trans ?_ (Below.mono hb1 ?_)))) <;> (first | omega | (simp; done) | (simp; omega)))⟩

set_option maxRecDepth 100000 in
theorem lifted (os : Os) (started : os.Started) (H : Type) (enc : TypeId × Value → H) :
    ReturnsInHanded {} Try.checked os 6 .any (Rows.fnExactPointAtSpec.pre6 enc Try.prog Try.f6 Rows.fnExactPointAtRow.domain false) (Rows.fnExactPointAtSpec.post enc Try.prog Try.f6 false true false false) := by
  refine returnsInHanded_of_change (C := Try.checked) own started (by kernel_rfl) Try.func6
    (ChangeSpec.witness6 (enc := enc) (C := Try.checked) false ⟨#[], #[.agg #[.float .f32 0, .float .f32 0, .float .f32 0, .float .f32 0], .float .f32 0, .float .f32 0, .float .f32 0], []⟩ 8 (by kernel_rfl) (by kernel_rfl) (by kernel_rfl) (by kernel_rfl)) ?_
  intro W base args ds gs before hval0 hW hcnd _
  have hval : ∀ (j : Nat) t v, Try.f6.params[j]? = some t → args[j]? = some v → Value.okWide Try.prog W .any base t v := hval0
  have hW' := hW
  obtain ⟨p, q, hA0, hV, rfl, hfz, hnd⟩ := hW
  have hA : DataW.TrodAll enc Try.prog W 0 (fun _ => true) true Try.f6.params.toList args.toList ds p := hA0
  rw [Try.params6] at hA hval
  obtain ⟨v0, vs0, d0, ds0, p0, q0, hargs, rfl, rfl, h0, r0⟩ := trodAll_cons hA
  obtain ⟨v1, vs1, d1, ds1, p1, q1, rfl, rfl, rfl, h1, r1⟩ := trodAll_cons r0
  obtain ⟨v2, vs2, d2, ds2, p2, q2, rfl, rfl, rfl, h2, r2⟩ := trodAll_cons r1
  obtain ⟨v3, vs3, d3, ds3, p3, q3, rfl, rfl, rfl, h3, r3⟩ := trodAll_cons r2
  obtain ⟨rfl, rfl, rfl⟩ := trodAll_nil r3
  obtain rfl : args = #[v0, v1, v2, v3] := by cases args; simp_all
  obtain ⟨rfl, rfl⟩ := trodVars_none hV
  have k0 := h0
  have lt0 : ∀ x ∈ p0, x.block < W.heap.size := by obtain ⟨m, hm⟩ := k0; exact DataW.trod_lt m _ _ _ hm
  have k1 := h1
  have lt1 : ∀ x ∈ p1, x.block < W.heap.size := by obtain ⟨m, hm⟩ := k1; exact DataW.trod_lt m _ _ _ hm
  have k2 := h2
  have lt2 : ∀ x ∈ p2, x.block < W.heap.size := by obtain ⟨m, hm⟩ := k2; exact DataW.trod_lt m _ _ _ hm
  have k3 := h3
  have lt3 : ∀ x ∈ p3, x.block < W.heap.size := by obtain ⟨m, hm⟩ := k3; exact DataW.trod_lt m _ _ _ hm
  obtain ⟨fo0, ba0, mx0, my0, rfl, wf0, wb0, wx0, wy0⟩ := cam_of Try.underlying24 (by kernel_rfl) (by kernel_rfl) Try.underlying22 Try.underlying22 Try.underlying22 Try.underlying22 (hval 0 24 v0 rfl rfl) h0
  obtain ⟨a1, rfl, rfl, rfl, w1⟩ := open_float Try.underlying22 (hval 1 22 v1 rfl rfl) h1
  obtain ⟨a2, rfl, rfl, rfl, w2⟩ := open_float Try.underlying22 (hval 2 22 v2 rfl rfl) h2
  obtain ⟨a3, rfl, rfl, rfl, w3⟩ := open_float Try.underlying22 (hval 3 22 v3 rfl rfl) h3
  clear hA0 hval0
  refine (walk fo0 ba0 mx0 my0 a1 a2 a3 W wf0 wb0 wx0 wy0 w1 w2 w3).mono fun e W' ⟨he, bel⟩ => ?_
  subst he
  exact ⟨_, rfl, _, _, _, [], _, [], hW', trodAll_mk1 (shut_bool Try.underlying4 _), (trodAll_cons_mk (Below.trod laidOut (by kernel_rfl) (of_decide_eq_true (by kernel_rfl)) k0 bel lt0) (trodAll_cons_mk (Below.trod laidOut (by kernel_rfl) (of_decide_eq_true (by kernel_rfl)) k1 bel lt1) (trodAll_cons_mk (Below.trod laidOut (by kernel_rfl) (of_decide_eq_true (by kernel_rfl)) k2 bel lt2) (trodAll_cons_mk (Below.trod laidOut (by kernel_rfl) (of_decide_eq_true (by kernel_rfl)) k3 bel lt3) trodAll_mk0)))), rfl, bel.frame _, fun h => by cases h⟩

theorem over : Rows.fnExactPointAtRow.holds Try.pinned (OpenSpec.ofChange Rows.fnExactPointAtSpec) :=
  OpenClaim.holds_of_wide 6 Try.f6 rfl rfl rfl rfl rfl rfl rfl ⟨rfl, rfl, rfl, rfl, rfl⟩ rfl rfl rfl rfl rfl (by kernel_rfl) Try.func6 (by kernel_rfl)
    (of_decide_eq_true (by kernel_rfl)) (by unfold Func.isWrapper; first | (rw [if_pos (by decide +kernel)]; kernel_rfl) | (rw [if_neg (by decide +kernel)]; exact ⟨rfl, rfl⟩))
    (fun os started H enc _ => lifted os started H enc)

theorem proved : Rows.FnExactPointAtSaid := over
#print axioms proved
end Go.Proofs.Ytekpmhgdofjhdaa.lawFnExactPointAt
