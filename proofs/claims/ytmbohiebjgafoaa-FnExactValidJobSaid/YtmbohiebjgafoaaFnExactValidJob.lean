/-
  For every job of any numbers the program's ValidJob answers as the model's; no condition.
-/
import Derived.Test.YtmbohiebjgafoaaBase
import Derived.Test.YtmbohiebjgafoaaTj
namespace Go.Proofs.Ytmbohiebjgafoaa.lawFnExactValidJob
open Go.ChangeShapes Go.WideShapes Go.ChangeAt Go.RowKit Go.FX
open Go.ChangeMaps (open_string shut_string)
set_option linter.unusedVariables false
set_option linter.unusedSimpArgs false

set_option maxHeartbeats 4000000 in
set_option maxRecDepth 100000 in
theorem walk (kk0 rr0 dd0 : Int) (ss0 : Bool) (x0 y0 : Nat) (w : World) (wk0 : (Lit.int .i64 kk0).wf = true) (wr0 : (Lit.int .i64 rr0).wf = true) (wd0 : (Lit.int .i64 dd0).wf = true) (wx0 : x0 < width .f32) (wy0 : y0 < width .f32) :
    Calls Try.prog 3 #[.agg #[.int .i64 kk0, .int .i64 rr0, .int .i64 dd0, .bool ss0, .float .f32 x0, .float .f32 y0]] w fun e w' => e = .returned (.bool true) ∧ Below w.heap.size w w' := by
  obtain ⟨ok, hS, hImp⟩ := pairValidJob kk0 rr0 dd0 ss0 x0 y0
  go_enter Try.func3, Try.ntmps3
  go_wp2_with fail
  refine (toJob_any _ _ _ _ _ _ _).mono ?_
  rintro e w1 ⟨rfl, hb1⟩
  have J1 := (J6.new w kk0 rr0 dd0 ss0 x0 y0 26).below hb1
  have z1 := hb1.size; simp only [World.size_alloc] at z1
  go_wp2_with fail
  refine (hS _).mono ?_
  rintro e w2 ⟨rfl, hb2⟩
  have J2 := J1.below hb2
  have z2 := hb2.size
  obtain ⟨_, c0, c1, c2, c3, c4, c5⟩ := id J2
  go_wp2_with fail
  refine (toJob_any _ _ _ _ _ _ _).mono ?_
  rintro e w3 ⟨rfl, hb3⟩
  have z3 := hb3.size
  go_wp2_with fail
  refine (hImp _).mono ?_
  rintro e w4 ⟨rfl, hb4⟩
  go_wp2_with fail
  go_ret
  exact ⟨rfl, by ((repeat' (first | (refine bel_set ?_ ?_ _) | (refine bel_al ?_ ?_ _) | exact Below.refl _ _ | assumption | (refine below_drewN ?_ _) | (refine Below.drew ?_) | (refine Below.trans ?_ (Below.mono hb4 ?_)) | (refine Below.trans ?_ (Below.mono hb3 ?_)) | (refine Below.trans ?_ (Below.mono hb2 ?_)) | (refine Below.trans ?_ (Below.mono hb1 ?_)))) <;> (first | omega | (simp; done) | (simp; omega)))⟩

set_option maxRecDepth 100000 in
theorem lifted (os : Os) (started : os.Started) (H : Type) (enc : TypeId × Value → H) :
    ReturnsInHanded {} Try.checked os 3 .any (Rows.fnExactValidJobSpec.pre6 enc Try.prog Try.f3 Rows.fnExactValidJobRow.domain false) (Rows.fnExactValidJobSpec.post enc Try.prog Try.f3 false true false false) := by
  refine returnsInHanded_of_change (C := Try.checked) own started (by kernel_rfl) Try.func3
    (ChangeSpec.witness6 (enc := enc) (C := Try.checked) false ⟨#[], #[.agg #[.int .i64 0, .int .i64 0, .int .i64 0, .bool false, .float .f32 0, .float .f32 0]], []⟩ 8 (by kernel_rfl) (by kernel_rfl) (by kernel_rfl) (by kernel_rfl)) ?_
  intro W base args ds gs before hval0 hW hcnd _
  have hval : ∀ (j : Nat) t v, Try.f3.params[j]? = some t → args[j]? = some v → Value.okWide Try.prog W .any base t v := hval0
  have hW' := hW
  obtain ⟨p, q, hA0, hV, rfl, hfz, hnd⟩ := hW
  have hA : DataW.TrodAll enc Try.prog W 0 (fun _ => true) true Try.f3.params.toList args.toList ds p := hA0
  rw [Try.params3] at hA hval
  obtain ⟨v0, vs0, d0, ds0, p0, q0, hargs, rfl, rfl, h0, r0⟩ := trodAll_cons hA
  obtain ⟨rfl, rfl, rfl⟩ := trodAll_nil r0
  obtain rfl : args = #[v0] := by cases args; simp_all
  obtain ⟨rfl, rfl⟩ := trodVars_none hV
  have k0 := h0
  have lt0 : ∀ x ∈ p0, x.block < W.heap.size := by obtain ⟨m, hm⟩ := k0; exact DataW.trod_lt m _ _ _ hm
  obtain ⟨kk0, rr0, dd0, ss0, x0, y0, rfl, wk0, wr0, wd0, wx0, wy0⟩ := job_of Try.underlying26 (by kernel_rfl) (by kernel_rfl) Try.underlying24 (by kernel_rfl) Try.underlying2 Try.underlying2 Try.underlying2 Try.underlying4 Try.underlying22 Try.underlying22 (hval 0 26 v0 rfl rfl) h0
  clear hA0 hval0
  refine (walk kk0 rr0 dd0 ss0 x0 y0 W wk0 wr0 wd0 wx0 wy0).mono fun e W' ⟨he, bel⟩ => ?_
  subst he
  exact ⟨_, rfl, _, _, _, [], _, [], hW', trodAll_mk1 (shut_bool Try.underlying4 _), (trodAll_cons_mk (Below.trod laidOut (by kernel_rfl) (of_decide_eq_true (by kernel_rfl)) k0 bel lt0) trodAll_mk0), rfl, bel.frame _, fun h => by cases h⟩

theorem over : Rows.fnExactValidJobRow.holds Try.pinned (OpenSpec.ofChange Rows.fnExactValidJobSpec) :=
  OpenClaim.holds_of_wide 3 Try.f3 rfl rfl rfl rfl rfl rfl rfl ⟨rfl, rfl, rfl, rfl, rfl⟩ rfl rfl rfl rfl rfl (by kernel_rfl) Try.func3 (by kernel_rfl)
    (of_decide_eq_true (by kernel_rfl)) (by unfold Func.isWrapper; first | (rw [if_pos (by decide +kernel)]; kernel_rfl) | (rw [if_neg (by decide +kernel)]; exact ⟨rfl, rfl⟩))
    (fun os started H enc _ => lifted os started H enc)

theorem proved : Rows.FnExactValidJobSaid := over
#print axioms proved
end Go.Proofs.Ytmbohiebjgafoaa.lawFnExactValidJob
