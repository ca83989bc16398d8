/-
  For every vector of any 32-bit numbers the program's LongOf answers as the model's; no condition.
-/
import Derived.Test.YtgfmcehgecbbaacBase
import Derived.Test.YtgfmcehgecbbaacCLong
namespace Go.Proofs.Ytgfmcehgecbbaac.lawFnExactLongOf
open Go.ChangeShapes Go.WideShapes Go.ChangeAt Go.RowKit Go.FX
open Go.ChangeMaps (open_string shut_string)
set_option linter.unusedVariables false
set_option linter.unusedSimpArgs false

set_option maxHeartbeats 1000000 in
theorem walk (x0 y0 z0 : Nat) (w : World) (wx0 : x0 < width .f32) (wy0 : y0 < width .f32) (wz0 : z0 < width .f32) :
    Calls Try.prog 8 #[.agg #[.float .f32 x0, .float .f32 y0, .float .f32 z0]] w fun e w' => e = .returned (.bool true) ∧ Below w.heap.size w w' := by
  have h1 : Fl .f32 x0 (cn .f32 x0) := ⟨wx0, rfl⟩
  have h2 : Fl .f32 y0 (cn .f32 y0) := ⟨wy0, rfl⟩
  have h3 : Fl .f32 z0 (cn .f32 z0) := ⟨wz0, rfl⟩
  go_enter Try.func8, Try.ntmps8
  go_wp2_with (go_at_call 14; refine (toVector_any _ _ _ _).mono ?_; rintro e w1 ⟨rfl, hb1⟩)
  have c1 := (below1 w _).trans (hb1.mono (by simp))
  have e1 : w.heap.size < w1.heap.size := by have := hb1.size; simp at this; omega
  have k1 := (bcell hb1).1
  have b0 : w1.cell? ⟨w.heap.size, 0, none⟩ = some (.float .f32 x0) := by rw [k1 _ _ (by simp)]; go_simp
  have b1 : w1.cell? ⟨w.heap.size, 1, none⟩ = some (.float .f32 y0) := by rw [k1 _ _ (by simp)]; go_simp
  have b2 : w1.cell? ⟨w.heap.size, 2, none⟩ = some (.float .f32 z0) := by rw [k1 _ _ (by simp)]; go_simp
  clear k1
  go_wp2_with (go_at_call 26; refine (specLong_any _ h1 h2 h3).mono ?_; rintro e w2 ⟨r, rfl, hb2, hr⟩; have a0 : w2.cell? ⟨w.heap.size, 0, none⟩ = some (.float .f32 x0) := ((bcell hb2).1 _ _ e1).trans b0; have a1 : w2.cell? ⟨w.heap.size, 1, none⟩ = some (.float .f32 y0) := ((bcell hb2).1 _ _ e1).trans b1; have a2 : w2.cell? ⟨w.heap.size, 2, none⟩ = some (.float .f32 z0) := ((bcell hb2).1 _ _ e1).trans b2)
  have c2 := c1.trans (hb2.mono c1.size)
  go_wp2_with (first | (go_at_call 14; refine (toVector_any _ _ _ _).mono ?_; rintro e w3 ⟨rfl, hb3⟩) | (go_at_call 27; refine (implLong_any _ h1 h2 h3).mono ?_; rintro e w4 ⟨r2, rfl, hb4, hr2⟩) | (go_at_call 23; refine (sameFloat_any (hr2.wide _) (hr.wide _) _).mono ?_; rintro e w' ⟨n3, rfl, rfl⟩))
  go_ret
  have c3 := c2.trans (hb3.mono c2.size)
  have c4 := c3.trans (hb4.mono c3.size)
  exact ⟨rfl, below_drewN c4 _⟩

set_option maxRecDepth 100000 in
theorem lifted (os : Os) (started : os.Started) (H : Type) (enc : TypeId × Value → H) :
    ReturnsInHanded {} Try.checked os 8 .any (Rows.fnExactLongOfSpec.pre6 enc Try.prog Try.f8 Rows.fnExactLongOfRow.domain false) (Rows.fnExactLongOfSpec.post enc Try.prog Try.f8 false true false false) := by
  refine returnsInHanded_of_change (C := Try.checked) own started (by kernel_rfl) Try.func8
    (ChangeSpec.witness6 (enc := enc) (C := Try.checked) false ⟨#[], #[.agg #[.float .f32 0, .float .f32 0, .float .f32 0]], []⟩ 8 (by kernel_rfl) (by kernel_rfl) (by kernel_rfl) (by kernel_rfl)) ?_
  intro W base args ds gs before hval0 hW hcnd _
  have hval : ∀ (j : Nat) t v, Try.f8.params[j]? = some t → args[j]? = some v → Value.okWide Try.prog W .any base t v := hval0
  have hW' := hW
  obtain ⟨p, q, hA0, hV, rfl, hfz, hnd⟩ := hW
  have hA : DataW.TrodAll enc Try.prog W 0 (fun _ => true) true Try.f8.params.toList args.toList ds p := hA0
  rw [Try.params8] at hA hval
  obtain ⟨v0, vs0, d0, ds0, p0, q0, hargs, rfl, rfl, h0, r0⟩ := trodAll_cons hA
  obtain ⟨rfl, rfl, rfl⟩ := trodAll_nil r0
  obtain rfl : args = #[v0] := by cases args; simp_all
  obtain ⟨rfl, rfl⟩ := trodVars_none hV
  have k0 := h0
  have lt0 : ∀ x ∈ p0, x.block < W.heap.size := by obtain ⟨m, hm⟩ := k0; exact DataW.trod_lt m _ _ _ hm
  obtain ⟨x0, y0, z0, rfl, wx0, wy0, wz0⟩ := vec_of Try.underlying24 (by kernel_rfl) (by kernel_rfl) Try.underlying22 Try.underlying22 Try.underlying22 (hval 0 24 v0 rfl rfl) h0
  clear hA0 hval0
  refine (walk x0 y0 z0 W wx0 wy0 wz0).mono fun e W' ⟨he, bel⟩ => ?_
  subst he
  exact ⟨_, rfl, _, _, _, [], _, [], hW', trodAll_mk1 (shut_bool Try.underlying4 _), (trodAll_cons_mk (Below.trod laidOut (by kernel_rfl) (of_decide_eq_true (by kernel_rfl)) k0 bel lt0) trodAll_mk0), rfl, bel.frame _, fun h => by cases h⟩

theorem over : Rows.fnExactLongOfRow.holds Try.pinned (OpenSpec.ofChange Rows.fnExactLongOfSpec) :=
  OpenClaim.holds_of_wide 8 Try.f8 rfl rfl rfl rfl rfl rfl rfl ⟨rfl, rfl, rfl, rfl, rfl⟩ rfl rfl rfl rfl rfl (by kernel_rfl) Try.func8 (by kernel_rfl)
    (of_decide_eq_true (by kernel_rfl)) (by unfold Func.isWrapper; first | (rw [if_pos (by decide +kernel)]; kernel_rfl) | (rw [if_neg (by decide +kernel)]; exact ⟨rfl, rfl⟩))
    (fun os started H enc _ => lifted os started H enc)

theorem proved : Rows.FnExactLongOfSaid := over
#print axioms proved
end Go.Proofs.Ytgfmcehgecbbaac.lawFnExactLongOf
