/-
  For every vector and number of any 32-bit numbers the program's ScaleVector answers as the model's; no condition.
-/
import Derived.Test.YtgfmcehgecbbaacBase
import Derived.Test.YtgfmcehgecbbaacCVec
import Derived.Deep.DeepCutAuto
namespace Go.Proofs.Ytgfmcehgecbbaac.lawFnExactScaleVector
open Go.ChangeShapes Go.WideShapes Go.ChangeAt Go.RowKit Go.FX
open Go.ChangeMaps (open_string shut_string)
set_option linter.unusedVariables false
set_option linter.unusedSimpArgs false

set_option maxHeartbeats 3200000 in
theorem walk (x0 y0 z0 : Nat) (a1 : Nat) (w : World) (wx0 : x0 < width .f32) (wy0 : y0 < width .f32) (wz0 : z0 < width .f32) (w1 : (Lit.float .f32 a1).wf = true) :
    Calls Try.prog 5 #[.agg #[.float .f32 x0, .float .f32 y0, .float .f32 z0], .float .f32 a1] w fun e w' => e = .returned (.bool true) ∧ Below w.heap.size w w' := by
  have h1 : Fl .f32 x0 (cn .f32 x0) := ⟨wx0, rfl⟩
  have h2 : Fl .f32 y0 (cn .f32 y0) := ⟨wy0, rfl⟩
  have h3 : Fl .f32 z0 (cn .f32 z0) := ⟨wz0, rfl⟩
  have k1 : Fl .f32 a1 (cn .f32 a1) := ⟨lt32 w1, rfl⟩
  go_enter Try.func5, Try.ntmps5
  go_upto_region 1 with fail
  obtain ⟨W, hW⟩ : ∃ W, W = (w.alloc (.cells #[.float .f32 x0, .float .f32 y0, .float .f32 z0] 24)) := ⟨_, rfl⟩
  rw [← hW]
  have bW : Below w.heap.size w W := by rw [hW]; exact below1 _ _
  have a00 : W.cell? ⟨w.heap.size, 0, none⟩ = some (.float .f32 x0) := by rw [hW]; go_simp
  have a01 : W.cell? ⟨w.heap.size, 1, none⟩ = some (.float .f32 y0) := by rw [hW]; go_simp
  have a02 : W.cell? ⟨w.heap.size, 2, none⟩ = some (.float .f32 z0) := by rw [hW]; go_simp
  have e0 : w.heap.size < W.heap.size := by rw [hW]; simp; try omega
  clear hW
  go_cut [5] (fun s wx => VecAt W.heap.size (fop .mul .f32 (cn .f32 x0) (cn .f32 a1)) (fop .mul .f32 (cn .f32 y0) (cn .f32 a1)) (fop .mul .f32 (cn .f32 z0) (cn .f32 a1)) s wx ∧ Below W.heap.size W wx)
  case first =>
    go_wp2_with (first | (go_at_call 14; refine (toVector_any _ _ _ _).mono ?_; rintro e w' ⟨rfl, hb1⟩) | (go_at_call 19; refine (specScaleVector_any _ h1 h2 h3 k1).mono ?_; rintro e w' ⟨r0, r1, r2, rfl, hb2, q0, q1, q2⟩; obtain ⟨hc, hf⟩ := bcell hb2))
    have z1 := hb1.size
    have z2 := hb2.size
    go_meet
    refine ⟨⟨_, _, _, _, rfl, ?_, ?_, ?_, ?_, ?_, q0, q1, q2⟩, (hb1.trans (hb2.mono z1)).alloc (Nat.le_trans z1 z2) _⟩
    all_goals first | omega | (simp; done) | (simp; omega) | (go_simp; done)
  case rest =>
    obtain ⟨⟨b5, r0, r1, r2, rfl, n5, l5, k00, k01, k02, q0, q1, q2⟩, bl⟩ := hcut
    have s1 := bl.size
    have b00 : wc.cell? ⟨w.heap.size, 0, none⟩ = some (.float .f32 x0) := by rw [(bcell bl).1 _ _ e0]; exact a00
    have b01 : wc.cell? ⟨w.heap.size, 1, none⟩ = some (.float .f32 y0) := by rw [(bcell bl).1 _ _ e0]; exact a01
    have b02 : wc.cell? ⟨w.heap.size, 2, none⟩ = some (.float .f32 z0) := by rw [(bcell bl).1 _ _ e0]; exact a02
    have bw : Below w.heap.size w wc := bW.trans (bl.mono (by omega))
    have d0 : w.heap.size < wc.heap.size := Nat.lt_of_lt_of_le e0 s1
    clear a00 a01 a02 bW bl s1 e0
    go_upto_region 2 with fail
    obtain ⟨V, hV⟩ : ∃ V, V = wc := ⟨_, rfl⟩
    subst hV
    go_cut [6] (fun s wx => VecAt V.heap.size (fop .mul .f32 (cn .f32 x0) (cn .f32 a1)) (fop .mul .f32 (cn .f32 y0) (cn .f32 a1)) (fop .mul .f32 (cn .f32 z0) (cn .f32 a1)) s wx ∧ Below V.heap.size V wx)
    case first =>
      go_wp2_with (first | (go_at_call 14; refine (toVector_any _ _ _ _).mono ?_; rintro e w' ⟨rfl, hb1⟩) | (go_at_call 20; refine (implScaleVector_any _ h1 h2 h3 k1).mono ?_; rintro e w' ⟨t0, t1, t2, rfl, hb2, p0, p1, p2⟩; obtain ⟨hc, hf⟩ := bcell hb2))
      have z1 := hb1.size
      have z2 := hb2.size
      go_meet
      refine ⟨⟨_, _, _, _, rfl, ?_, ?_, ?_, ?_, ?_, p0, p1, p2⟩, (hb1.trans (hb2.mono z1)).alloc (Nat.le_trans z1 z2) _⟩
      all_goals first | omega | (simp; done) | (simp; omega) | (go_simp; done)
    case rest =>
      obtain ⟨⟨b6, t0, t1, t2, rfl, n6, l6, m00, m01, m02, p0, p1, p2⟩, bl⟩ := hcut
      have c50 : wc.cell? ⟨b5, 0, none⟩ = some (.float .f32 r0) := by rw [(bcell bl).1 _ _ l5]; exact k00
      have c51 : wc.cell? ⟨b5, 1, none⟩ = some (.float .f32 r1) := by rw [(bcell bl).1 _ _ l5]; exact k01
      have c52 : wc.cell? ⟨b5, 2, none⟩ = some (.float .f32 r2) := by rw [(bcell bl).1 _ _ l5]; exact k02
      have s2 := bl.size
      have bw2 : Below w.heap.size w wc := bw.trans (bl.mono (by omega))
      clear k00 k01 k02 bl bw
      go_wp2_with (go_at_call 16; refine (eqVector_any _ p0 p1 p2 q0 q1 q2).mono ?_; rintro e w' ⟨rfl, hb⟩)
      go_ret
      exact ⟨rfl, bw2.trans (hb.mono (by omega))⟩

set_option maxRecDepth 100000 in
theorem lifted (os : Os) (started : os.Started) (H : Type) (enc : TypeId × Value → H) :
    ReturnsInHanded {} Try.checked os 5 .any (Rows.fnExactScaleVectorSpec.pre6 enc Try.prog Try.f5 Rows.fnExactScaleVectorRow.domain false) (Rows.fnExactScaleVectorSpec.post enc Try.prog Try.f5 false true false false) := by
  refine returnsInHanded_of_change (C := Try.checked) own started (by kernel_rfl) Try.func5
    (ChangeSpec.witness6 (enc := enc) (C := Try.checked) false ⟨#[], #[.agg #[.float .f32 0, .float .f32 0, .float .f32 0], .float .f32 0], []⟩ 8 (by kernel_rfl) (by kernel_rfl) (by kernel_rfl) (by kernel_rfl)) ?_
  intro W base args ds gs before hval0 hW hcnd _
  have hval : ∀ (j : Nat) t v, Try.f5.params[j]? = some t → args[j]? = some v → Value.okWide Try.prog W .any base t v := hval0
  have hW' := hW
  obtain ⟨p, q, hA0, hV, rfl, hfz, hnd⟩ := hW
  have hA : DataW.TrodAll enc Try.prog W 0 (fun _ => true) true Try.f5.params.toList args.toList ds p := hA0
  rw [Try.params5] at hA hval
  obtain ⟨v0, vs0, d0, ds0, p0, q0, hargs, rfl, rfl, h0, r0⟩ := trodAll_cons hA
  obtain ⟨v1, vs1, d1, ds1, p1, q1, rfl, rfl, rfl, h1, r1⟩ := trodAll_cons r0
  obtain ⟨rfl, rfl, rfl⟩ := trodAll_nil r1
  obtain rfl : args = #[v0, v1] := by cases args; simp_all
  obtain ⟨rfl, rfl⟩ := trodVars_none hV
  have k0 := h0
  have lt0 : ∀ x ∈ p0, x.block < W.heap.size := by obtain ⟨m, hm⟩ := k0; exact DataW.trod_lt m _ _ _ hm
  have k1 := h1
  have lt1 : ∀ x ∈ p1, x.block < W.heap.size := by obtain ⟨m, hm⟩ := k1; exact DataW.trod_lt m _ _ _ hm
  obtain ⟨x0, y0, z0, rfl, wx0, wy0, wz0⟩ := vec_of Try.underlying24 (by kernel_rfl) (by kernel_rfl) Try.underlying22 Try.underlying22 Try.underlying22 (hval 0 24 v0 rfl rfl) h0
  obtain ⟨a1, rfl, rfl, rfl, w1⟩ := open_float Try.underlying22 (hval 1 22 v1 rfl rfl) h1
  clear hA0 hval0
  refine (walk x0 y0 z0 a1 W wx0 wy0 wz0 w1).mono fun e W' ⟨he, bel⟩ => ?_
  subst he
  exact ⟨_, rfl, _, _, _, [], _, [], hW', trodAll_mk1 (shut_bool Try.underlying4 _), (trodAll_cons_mk (Below.trod laidOut (by kernel_rfl) (of_decide_eq_true (by kernel_rfl)) k0 bel lt0) (trodAll_cons_mk (Below.trod laidOut (by kernel_rfl) (of_decide_eq_true (by kernel_rfl)) k1 bel lt1) trodAll_mk0)), rfl, bel.frame _, fun h => by cases h⟩

theorem over : Rows.fnExactScaleVectorRow.holds Try.pinned (OpenSpec.ofChange Rows.fnExactScaleVectorSpec) :=
  OpenClaim.holds_of_wide 5 Try.f5 rfl rfl rfl rfl rfl rfl rfl ⟨rfl, rfl, rfl, rfl, rfl⟩ rfl rfl rfl rfl rfl (by kernel_rfl) Try.func5 (by kernel_rfl)
    (of_decide_eq_true (by kernel_rfl)) (by unfold Func.isWrapper; first | (rw [if_pos (by decide +kernel)]; kernel_rfl) | (rw [if_neg (by decide +kernel)]; exact ⟨rfl, rfl⟩))
    (fun os started H enc _ => lifted os started H enc)

theorem proved : Rows.FnExactScaleVectorSaid := over
#print axioms proved
end Go.Proofs.Ytgfmcehgecbbaac.lawFnExactScaleVector
