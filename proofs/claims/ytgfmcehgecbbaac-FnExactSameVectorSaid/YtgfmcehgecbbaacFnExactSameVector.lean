/-
  For all two vectors of any 32-bit numbers the program's SameVector answers as the model's; no condition.
-/
import Derived.Test.YtgfmcehgecbbaacBase
import Derived.Test.YtgfmcehgecbbaacCVec
import Derived.Deep.DeepCutAuto
namespace Go.Proofs.Ytgfmcehgecbbaac.lawFnExactSameVector
open Go.ChangeShapes Go.WideShapes Go.ChangeAt Go.RowKit Go.FX
open Go.ChangeMaps (open_string shut_string)
set_option linter.unusedVariables false
set_option linter.unusedSimpArgs false

set_option maxHeartbeats 3200000 in
theorem walk (x0 y0 z0 : Nat) (x1 y1 z1 : Nat) (w : World) (wx0 : x0 < width .f32) (wy0 : y0 < width .f32) (wz0 : z0 < width .f32) (wx1 : x1 < width .f32) (wy1 : y1 < width .f32) (wz1 : z1 < width .f32) :
    Calls Try.prog 10 #[.agg #[.float .f32 x0, .float .f32 y0, .float .f32 z0], .agg #[.float .f32 x1, .float .f32 y1, .float .f32 z1]] w fun e w' => e = .returned (.bool true) ∧ Below w.heap.size w w' := by
  have h1 : Fl .f32 x0 (cn .f32 x0) := ⟨wx0, rfl⟩
  have h2 : Fl .f32 y0 (cn .f32 y0) := ⟨wy0, rfl⟩
  have h3 : Fl .f32 z0 (cn .f32 z0) := ⟨wz0, rfl⟩
  have g1 : Fl .f32 x1 (cn .f32 x1) := ⟨wx1, rfl⟩
  have g2 : Fl .f32 y1 (cn .f32 y1) := ⟨wy1, rfl⟩
  have g3 : Fl .f32 z1 (cn .f32 z1) := ⟨wz1, rfl⟩
  go_enter Try.func10, Try.ntmps10
  go_upto_region 1 with fail
  obtain ⟨W, hW⟩ : ∃ W, W = ((w.alloc (.cells #[.float .f32 x0, .float .f32 y0, .float .f32 z0] 24)).alloc (.cells #[.float .f32 x1, .float .f32 y1, .float .f32 z1] 24)) := ⟨_, rfl⟩
  rw [← hW]
  have bW : Below w.heap.size w W := by rw [hW]; exact below2 _ _ _
  have a00 : W.cell? ⟨w.heap.size, 0, none⟩ = some (.float .f32 x0) := by rw [hW]; go_simp
  have a01 : W.cell? ⟨w.heap.size, 1, none⟩ = some (.float .f32 y0) := by rw [hW]; go_simp
  have a02 : W.cell? ⟨w.heap.size, 2, none⟩ = some (.float .f32 z0) := by rw [hW]; go_simp
  have a10 : W.cell? ⟨w.heap.size + 1, 0, none⟩ = some (.float .f32 x1) := by rw [hW]; go_simp
  have a11 : W.cell? ⟨w.heap.size + 1, 1, none⟩ = some (.float .f32 y1) := by rw [hW]; go_simp
  have a12 : W.cell? ⟨w.heap.size + 1, 2, none⟩ = some (.float .f32 z1) := by rw [hW]; go_simp
  have e0 : w.heap.size < W.heap.size := by rw [hW]; simp; try omega
  have e1 : w.heap.size + 1 < W.heap.size := by rw [hW]; simp; try omega
  clear hW
  go_cut [5] (fun s wx => s = .bool (cn .f32 x0 == cn .f32 x1 && cn .f32 y0 == cn .f32 y1 && cn .f32 z0 == cn .f32 z1) ∧ Below W.heap.size W wx)
  case first =>
    go_region_held3 (fun w' => Below W.heap.size W w' ∧ W.heap.size ≤ w'.heap.size ∧ (∀ b o, b < W.heap.size → w'.cell? ⟨b, o, none⟩ = W.cell? ⟨b, o, none⟩)) (first | exact keepStart _ | assumption | exact ⟨by assumption, by assumption, by assumption⟩ | exact keepCall (by assumption) (by assumption) | exact keepAlloc (by assumption) | (refine keepSet ?_ (keepSet ?_ (keepSet ?_ ?_)) <;> first | assumption | omega | (simp; done) | (simp; omega)) | (refine keepSet ?_ (keepSet ?_ ?_) <;> first | assumption | omega | (simp; done) | (simp; omega)) | (refine keepSet ?_ ?_ <;> first | assumption | omega | (simp; done) | (simp; omega)))
      (first
        | (go_at_call 14; refine (toVector_any _ _ _ _).mono ?_; rintro e w' ⟨rfl, hb⟩; have hI := keepCall (n := W.heap.size) (W1 := W) (by assumption) hb; obtain ⟨hc, hf⟩ := bcell hb; have hz := hb.size; (try simp at hz); (try simp only [World.size_drew, World.cell?_drew] at hc); (try simp only [World.size_drew, World.frozen?_drew] at hf); first | (have hs := Nat.lt_of_succ_le hz) | (have hs := Nat.lt_of_lt_of_le hs hz) | skip)
        | (go_at_call 30; refine (specSameVector_any _ _ _ _ _ _ _ wx0 wy0 wz0 wx1 wy1 wz1).mono ?_; rintro e w' ⟨rfl, hb⟩; have hI := keepCall (n := W.heap.size) (W1 := W) (by assumption) hb; obtain ⟨hc, hf⟩ := bcell hb; have hz := hb.size; (try simp at hz); (try simp only [World.size_drew, World.cell?_drew] at hc); (try simp only [World.size_drew, World.frozen?_drew] at hf); first | (have hs := Nat.lt_of_succ_le hz) | (have hs := Nat.lt_of_lt_of_le hs hz) | skip))
    all_goals go_wp2_with fail
    all_goals (go_meet; exact ⟨rfl, And.left (by assumption)⟩)
  case rest =>
    obtain ⟨rel1, bl⟩ := hcut
    subst rel1
    have s1 := bl.size
    have b00 : wc.cell? ⟨w.heap.size, 0, none⟩ = some (.float .f32 x0) := by rw [(bcell bl).1 _ _ e0]; exact a00
    have b01 : wc.cell? ⟨w.heap.size, 1, none⟩ = some (.float .f32 y0) := by rw [(bcell bl).1 _ _ e0]; exact a01
    have b02 : wc.cell? ⟨w.heap.size, 2, none⟩ = some (.float .f32 z0) := by rw [(bcell bl).1 _ _ e0]; exact a02
    have b10 : wc.cell? ⟨w.heap.size + 1, 0, none⟩ = some (.float .f32 x1) := by rw [(bcell bl).1 _ _ e1]; exact a10
    have b11 : wc.cell? ⟨w.heap.size + 1, 1, none⟩ = some (.float .f32 y1) := by rw [(bcell bl).1 _ _ e1]; exact a11
    have b12 : wc.cell? ⟨w.heap.size + 1, 2, none⟩ = some (.float .f32 z1) := by rw [(bcell bl).1 _ _ e1]; exact a12
    have bw : Below w.heap.size w wc := bW.trans (bl.mono (by omega))
    have d0 : w.heap.size < wc.heap.size := Nat.lt_of_lt_of_le e0 s1
    have d1 : w.heap.size + 1 < wc.heap.size := Nat.lt_of_lt_of_le e1 s1
    clear a00 a01 a02 a10 a11 a12 bW bl s1 e0 e1
    go_upto_region 2 with fail
    obtain ⟨V, hV⟩ : ∃ V, V = wc := ⟨_, rfl⟩
    subst hV
    go_cut [6] (fun s wx => s = .bool (cn .f32 x0 == cn .f32 x1 && cn .f32 y0 == cn .f32 y1 && cn .f32 z0 == cn .f32 z1) ∧ Below V.heap.size V wx)
    case first =>
      go_region_held3 (fun w' => Below V.heap.size V w' ∧ V.heap.size ≤ w'.heap.size ∧ (∀ b o, b < V.heap.size → w'.cell? ⟨b, o, none⟩ = V.cell? ⟨b, o, none⟩)) (first | exact keepStart _ | assumption | exact ⟨by assumption, by assumption, by assumption⟩ | exact keepCall (by assumption) (by assumption) | exact keepAlloc (by assumption) | (refine keepSet ?_ (keepSet ?_ (keepSet ?_ ?_)) <;> first | assumption | omega | (simp; done) | (simp; omega)) | (refine keepSet ?_ (keepSet ?_ ?_) <;> first | assumption | omega | (simp; done) | (simp; omega)) | (refine keepSet ?_ ?_ <;> first | assumption | omega | (simp; done) | (simp; omega)))
        (first
        | (go_at_call 14; refine (toVector_any _ _ _ _).mono ?_; rintro e w' ⟨rfl, hb⟩; have hI := keepCall (n := V.heap.size) (W1 := V) (by assumption) hb; obtain ⟨hc, hf⟩ := bcell hb; have hz := hb.size; (try simp at hz); (try simp only [World.size_drew, World.cell?_drew] at hc); (try simp only [World.size_drew, World.frozen?_drew] at hf); first | (have hs := Nat.lt_of_succ_le hz) | (have hs := Nat.lt_of_lt_of_le hs hz) | skip)
        | (go_at_call 31; refine (implSameVector_any _ _ _ _ _ _ _ wx0 wy0 wz0 wx1 wy1 wz1).mono ?_; rintro e w' ⟨rfl, hb⟩; have hI := keepCall (n := V.heap.size) (W1 := V) (by assumption) hb; obtain ⟨hc, hf⟩ := bcell hb; have hz := hb.size; (try simp at hz); (try simp only [World.size_drew, World.cell?_drew] at hc); (try simp only [World.size_drew, World.frozen?_drew] at hf); first | (have hs := Nat.lt_of_succ_le hz) | (have hs := Nat.lt_of_lt_of_le hs hz) | skip))
      all_goals go_wp2_with fail
      all_goals (go_meet; exact ⟨rfl, And.left (by assumption)⟩)
    case rest =>
      obtain ⟨rel2, bl⟩ := hcut
      have s2 := bl.size
      have bw2 : Below w.heap.size w wc := bw.trans (bl.mono (by omega))
      subst rel2
      generalize (cn .f32 x0 == cn .f32 x1 && cn .f32 y0 == cn .f32 y1 && cn .f32 z0 == cn .f32 z1) = B
      cases B
      all_goals
        go_wp2
        go_ret
        exact ⟨rfl, bw2⟩

set_option maxRecDepth 100000 in
theorem lifted (os : Os) (started : os.Started) (H : Type) (enc : TypeId × Value → H) :
    ReturnsInHanded {} Try.checked os 10 .any (Rows.fnExactSameVectorSpec.pre6 enc Try.prog Try.f10 Rows.fnExactSameVectorRow.domain false) (Rows.fnExactSameVectorSpec.post enc Try.prog Try.f10 false true false false) := by
  refine returnsInHanded_of_change (C := Try.checked) own started (by kernel_rfl) Try.func10
    (ChangeSpec.witness6 (enc := enc) (C := Try.checked) false ⟨#[], #[.agg #[.float .f32 0, .float .f32 0, .float .f32 0], .agg #[.float .f32 0, .float .f32 0, .float .f32 0]], []⟩ 8 (by kernel_rfl) (by kernel_rfl) (by kernel_rfl) (by kernel_rfl)) ?_
  intro W base args ds gs before hval0 hW hcnd _
  have hval : ∀ (j : Nat) t v, Try.f10.params[j]? = some t → args[j]? = some v → Value.okWide Try.prog W .any base t v := hval0
  have hW' := hW
  obtain ⟨p, q, hA0, hV, rfl, hfz, hnd⟩ := hW
  have hA : DataW.TrodAll enc Try.prog W 0 (fun _ => true) true Try.f10.params.toList args.toList ds p := hA0
  rw [Try.params10] at hA hval
  obtain ⟨v0, vs0, d0, ds0, p0, q0, hargs, rfl, rfl, h0, r0⟩ := trodAll_cons hA
  obtain ⟨v1, vs1, d1, ds1, p1, q1, rfl, rfl, rfl, h1, r1⟩ := trodAll_cons r0
  obtain ⟨rfl, rfl, rfl⟩ := trodAll_nil r1
  obtain rfl : args = #[v0, v1] := by cases args; simp_all
  obtain ⟨rfl, rfl⟩ := trodVars_none hV
  have k0 := h0
  have lt0 : ∀ x ∈ p0, x.block < W.heap.size := by obtain ⟨m, hm⟩ := k0; exact DataW.trod_lt m _ _ _ hm
  have k1 := h1
  have lt1 : ∀ x ∈ p1, x.block < W.heap.size := by obtain ⟨m, hm⟩ := k1; exact DataW.trod_lt m _ _ _ hm
  obtain ⟨x0, y0, z0, rfl, wx0, wy0, wz0⟩ := vec_of Try.underlying24 (by kernel_rfl) (by kernel_rfl) Try.underlying22 Try.underlying22 Try.underlying22 (hval 0 24 v0 rfl rfl) h0
  obtain ⟨x1, y1, z1, rfl, wx1, wy1, wz1⟩ := vec_of Try.underlying24 (by kernel_rfl) (by kernel_rfl) Try.underlying22 Try.underlying22 Try.underlying22 (hval 1 24 v1 rfl rfl) h1
  clear hA0 hval0
  refine (walk x0 y0 z0 x1 y1 z1 W wx0 wy0 wz0 wx1 wy1 wz1).mono fun e W' ⟨he, bel⟩ => ?_
  subst he
  exact ⟨_, rfl, _, _, _, [], _, [], hW', trodAll_mk1 (shut_bool Try.underlying4 _), (trodAll_cons_mk (Below.trod laidOut (by kernel_rfl) (of_decide_eq_true (by kernel_rfl)) k0 bel lt0) (trodAll_cons_mk (Below.trod laidOut (by kernel_rfl) (of_decide_eq_true (by kernel_rfl)) k1 bel lt1) trodAll_mk0)), rfl, bel.frame _, fun h => by cases h⟩

theorem over : Rows.fnExactSameVectorRow.holds Try.pinned (OpenSpec.ofChange Rows.fnExactSameVectorSpec) :=
  OpenClaim.holds_of_wide 10 Try.f10 rfl rfl rfl rfl rfl rfl rfl ⟨rfl, rfl, rfl, rfl, rfl⟩ rfl rfl rfl rfl rfl (by kernel_rfl) Try.func10 (by kernel_rfl)
    (of_decide_eq_true (by kernel_rfl)) (by unfold Func.isWrapper; first | (rw [if_pos (by decide +kernel)]; kernel_rfl) | (rw [if_neg (by decide +kernel)]; exact ⟨rfl, rfl⟩))
    (fun os started H enc _ => lifted os started H enc)

theorem proved : Rows.FnExactSameVectorSaid := over
#print axioms proved
end Go.Proofs.Ytgfmcehgecbbaac.lawFnExactSameVector
