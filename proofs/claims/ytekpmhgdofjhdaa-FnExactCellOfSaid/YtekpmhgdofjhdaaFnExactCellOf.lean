/-
  For every camera and point the program's CellOf answers as the model's, to the last bit; no condition.
-/
import Derived.Test.YtekpmhgdofjhdaaBase
import Derived.Test.YtekpmhgdofjhdaaCb
import Derived.Deep.DeepCutAuto
namespace Go.Proofs.Ytekpmhgdofjhdaa.lawFnExactCellOf
open Go.ChangeShapes Go.WideShapes Go.ChangeAt Go.RowKit Go.FX
open Go.ChangeMaps (open_string shut_string)
set_option linter.unusedVariables false
set_option linter.unusedSimpArgs false

def RelC (c0 c1 c2 : Nat) (ok : Bool) (s5 s6 s7 s8 : Value) : Prop := ∃ r0 r1 r2, s5 = .float .f32 r0 ∧ s6 = .float .f32 r1 ∧ s7 = .float .f32 r2 ∧ s8 = .bool ok ∧ Fl .f32 r0 c0 ∧ Fl .f32 r1 c1 ∧ Fl .f32 r2 c2

set_option maxHeartbeats 4000000 in
set_option maxRecDepth 100000 in
theorem walk (fo0 ba0 mx0 my0 : Nat) (x1 y1 z1 : Nat) (w : World) (wf0 : fo0 < width .f32) (wb0 : ba0 < width .f32) (wx0 : mx0 < width .f32) (wy0 : my0 < width .f32) (wx1 : x1 < width .f32) (wy1 : y1 < width .f32) (wz1 : z1 < width .f32) :
    Calls Try.prog 7 #[.agg #[.float .f32 fo0, .float .f32 ba0, .float .f32 mx0, .float .f32 my0], .agg #[.float .f32 x1, .float .f32 y1, .float .f32 z1]] w fun e w' => e = .returned (.bool true) ∧ Below w.heap.size w w' := by
  obtain ⟨ok, hok⟩ : ∃ k, k = turnOk fo0 ba0 mx0 my0 z1 := ⟨_, rfl⟩
  have hS := fun w => specCellOf_any fo0 ba0 mx0 my0 x1 y1 z1 w wf0 wb0 wx0 wy0 wx1 wy1 wz1
  have hImp := fun w => implCellOf_any fo0 ba0 mx0 my0 x1 y1 z1 w wf0 wb0 wx0 wy0 wx1 wy1 wz1
  rw [← hok] at hS hImp
  obtain ⟨c0, hc0⟩ : ∃ k, k = sel ok (cellF mx0 fo0 x1 z1) := ⟨_, rfl⟩
  obtain ⟨c1, hc1⟩ : ∃ k, k = sel ok (cellF my0 fo0 y1 z1) := ⟨_, rfl⟩
  obtain ⟨c2, hc2⟩ : ∃ k, k = sel ok (depth fo0 ba0 z1) := ⟨_, rfl⟩
  unfold R3p at hS hImp
  rw [← hc0, ← hc1, ← hc2] at hS hImp
  clear hc0 hc1 hc2 hok
  obtain ⟨W, hW⟩ : ∃ W, W = (w.alloc (.cells #[.float .f32 fo0, .float .f32 ba0, .float .f32 mx0, .float .f32 my0] 24)).alloc (.cells #[.float .f32 x1, .float .f32 y1, .float .f32 z1] 40) := ⟨_, rfl⟩
  have PC : P4 W w.heap.size fo0 ba0 mx0 my0 := by rw [hW]; exact (P4.new _ _ _ _ _ _).alloc _
  have PV : P3 W (w.heap.size + 1) x1 y1 z1 := by have h := P3.new (w.alloc (.cells #[.float .f32 fo0, .float .f32 ba0, .float .f32 mx0, .float .f32 my0] 24)) x1 y1 z1 40; simp only [World.size_alloc] at h; rw [hW]; exact h
  have bw : Below w.heap.size w W := by rw [hW]; ((repeat' (first | (refine bel_set ?_ ?_ _) | (refine bel_al ?_ ?_ _) | exact Below.refl _ _ | assumption | (refine below_drewN ?_ _) | (refine Below.drew ?_))) <;> (first | omega | (simp; done) | (simp; omega)))
  go_enter Try.func7, Try.ntmps7
  go_upto_region 1 with fail
  rw [← hW]
  clear hW
  obtain ⟨l1a, a0, a1, a2, a3⟩ := id PC
  obtain ⟨l1b, b0, b1, b2⟩ := id PV
  go_cut [5, 6, 7, 8] (fun s5 s6 s7 s8 wx => RelC c0 c1 c2 ok s5 s6 s7 s8 ∧ Below W.heap.size W wx)
  case first =>
    go_region_held3 (fun w' => Below W.heap.size W w' ∧ W.heap.size ≤ w'.heap.size ∧ (∀ b o, b < W.heap.size → w'.cell? ⟨b, o, none⟩ = W.cell? ⟨b, o, none⟩)) (first | exact keepStart _ | assumption | exact ⟨by assumption, by assumption, by assumption⟩ | exact keepCall (by assumption) (by assumption) | exact keepAlloc (by assumption) | (refine keepSet ?_ (keepSet ?_ (keepSet ?_ (keepSet ?_ ?_))) <;> first | assumption | omega | (simp; done) | (simp; omega)) | (refine keepSet ?_ (keepSet ?_ (keepSet ?_ ?_)) <;> first | assumption | omega | (simp; done) | (simp; omega)) | (refine keepSet ?_ (keepSet ?_ ?_) <;> first | assumption | omega | (simp; done) | (simp; omega)) | (refine keepSet ?_ ?_ <;> first | assumption | omega | (simp; done) | (simp; omega)))
      (first
        | (go_at_call 16; (with_reducible refine (toCamera_any _ _ _ _ _).mono ?_); rintro e w2 ⟨rfl, hb2⟩; have hI := keepCall (n := W.heap.size) (W1 := W) (by assumption) hb2; obtain ⟨hc, hf⟩ := bcell hb2; have hz := hb2.size; (try simp at hz); (try simp only [World.size_drew, World.cell?_drew] at hc); (try simp only [World.size_drew, World.frozen?_drew] at hf); first | (have hs := Nat.lt_of_succ_le hz) | (have hs := Nat.lt_of_lt_of_le hs hz) | skip)
        | (go_at_call 27; (with_reducible refine (toVector_any _ _ _ _).mono ?_); rintro e w3 ⟨rfl, hb3⟩; have hI := keepCall (n := W.heap.size) (W1 := W) (by assumption) hb3; obtain ⟨hc, hf⟩ := bcell hb3; have hz := hb3.size; (try simp at hz); (try simp only [World.size_drew, World.cell?_drew] at hc); (try simp only [World.size_drew, World.frozen?_drew] at hf); first | (have hs := Nat.lt_of_succ_le hz) | (have hs := Nat.lt_of_lt_of_le hs hz) | skip)
        | (go_at_call 26; (with_reducible refine (hS _).mono ?_); rintro e w4 ⟨u0, u1, u2, rfl, hb4, o0, o1, o2⟩; have hI := keepCall (n := W.heap.size) (W1 := W) (by assumption) hb4; obtain ⟨hc, hf⟩ := bcell hb4; have hz := hb4.size; (try simp at hz); (try simp only [World.size_drew, World.cell?_drew] at hc); (try simp only [World.size_drew, World.frozen?_drew] at hf); first | (have hs := Nat.lt_of_succ_le hz) | (have hs := Nat.lt_of_lt_of_le hs hz) | skip))
    all_goals go_wp2_with fail
    all_goals go_meet
    all_goals exact ⟨⟨_, _, _, rfl, rfl, rfl, rfl, o0, o1, o2⟩, And.left (by assumption)⟩
  case rest =>
    obtain ⟨rel, bl⟩ := hcut
    clear a0 a1 a2 a3 b0 b1 b2 l1a l1b
    obtain ⟨V, hV⟩ : ∃ V, V = wc := ⟨_, rfl⟩
    subst hV
    have PC := PC.below bl
    have PV := PV.below bl
    have bw : Below w.heap.size w V := bw.trans (bl.mono bw.size)
    have bl' := Lib.hid bl
    clear bl
    obtain ⟨r0, r1, r2, rfl, rfl, rfl, rfl, q0, q1, q2⟩ := rel
    go_upto_region 2 with fail
    obtain ⟨l2a, a0, a1, a2, a3⟩ := id PC
    obtain ⟨l2b, b0, b1, b2⟩ := id PV
    go_cut [9, 10, 11, 12] (fun s5 s6 s7 s8 wx => RelC c0 c1 c2 ok s5 s6 s7 s8 ∧ Below V.heap.size V wx)
    case first =>
      go_region_held3 (fun w' => Below V.heap.size V w' ∧ V.heap.size ≤ w'.heap.size ∧ (∀ b o, b < V.heap.size → w'.cell? ⟨b, o, none⟩ = V.cell? ⟨b, o, none⟩)) (first | exact keepStart _ | assumption | exact ⟨by assumption, by assumption, by assumption⟩ | exact keepCall (by assumption) (by assumption) | exact keepAlloc (by assumption) | (refine keepSet ?_ (keepSet ?_ (keepSet ?_ (keepSet ?_ ?_))) <;> first | assumption | omega | (simp; done) | (simp; omega)) | (refine keepSet ?_ (keepSet ?_ (keepSet ?_ ?_)) <;> first | assumption | omega | (simp; done) | (simp; omega)) | (refine keepSet ?_ (keepSet ?_ ?_) <;> first | assumption | omega | (simp; done) | (simp; omega)) | (refine keepSet ?_ ?_ <;> first | assumption | omega | (simp; done) | (simp; omega)))
        (first
          | (go_at_call 16; (with_reducible refine (toCamera_any _ _ _ _ _).mono ?_); rintro e w2 ⟨rfl, hb2⟩; have hI := keepCall (n := V.heap.size) (W1 := V) (by assumption) hb2; obtain ⟨hc, hf⟩ := bcell hb2; have hz := hb2.size; (try simp at hz); (try simp only [World.size_drew, World.cell?_drew] at hc); (try simp only [World.size_drew, World.frozen?_drew] at hf); first | (have hs := Nat.lt_of_succ_le hz) | (have hs := Nat.lt_of_lt_of_le hs hz) | skip)
          | (go_at_call 27; (with_reducible refine (toVector_any _ _ _ _).mono ?_); rintro e w3 ⟨rfl, hb3⟩; have hI := keepCall (n := V.heap.size) (W1 := V) (by assumption) hb3; obtain ⟨hc, hf⟩ := bcell hb3; have hz := hb3.size; (try simp at hz); (try simp only [World.size_drew, World.cell?_drew] at hc); (try simp only [World.size_drew, World.frozen?_drew] at hf); first | (have hs := Nat.lt_of_succ_le hz) | (have hs := Nat.lt_of_lt_of_le hs hz) | skip)
          | (go_at_call 28; (with_reducible refine (hImp _).mono ?_); rintro e w4 ⟨u0, u1, u2, rfl, hb4, o0, o1, o2⟩; have hI := keepCall (n := V.heap.size) (W1 := V) (by assumption) hb4; obtain ⟨hc, hf⟩ := bcell hb4; have hz := hb4.size; (try simp at hz); (try simp only [World.size_drew, World.cell?_drew] at hc); (try simp only [World.size_drew, World.frozen?_drew] at hf); first | (have hs := Nat.lt_of_succ_le hz) | (have hs := Nat.lt_of_lt_of_le hs hz) | skip))
      all_goals go_wp2_with fail
      all_goals go_meet
      all_goals exact ⟨⟨_, _, _, rfl, rfl, rfl, rfl, o0, o1, o2⟩, And.left (by assumption)⟩
    case rest =>
      obtain ⟨⟨u0, u1, u2, rfl, rfl, rfl, rfl, o0, o1, o2⟩, bl⟩ := hcut
      go_wp2_with fail
      refine (sameFloat_any (o0.wide _) (q0.wide _) _).mono ?_
      rintro e w5 ⟨k5, rfl, rfl⟩
      go_wp2_with fail
      refine (sameFloat_any (o1.wide _) (q1.wide _) _).mono ?_
      rintro e w6 ⟨k6, rfl, rfl⟩
      go_wp2_with fail
      refine (sameFloat_any (o2.wide _) (q2.wide _) _).mono ?_
      rintro e w7 ⟨k7, rfl, rfl⟩
      go_wp2_with fail
      all_goals go_ret
      all_goals exact ⟨rfl, by ((repeat' (first | (refine bel_set ?_ ?_ _) | (refine bel_al ?_ ?_ _) | exact Below.refl _ _ | assumption | (refine below_drewN ?_ _) | (refine Below.drew ?_) | (refine Below.trans ?_ (Below.mono bl ?_)) | (refine Below.trans ?_ (Below.mono bl'.out ?_)))) <;> (first | omega | (simp; done) | (simp; omega)))⟩

set_option maxRecDepth 100000 in
theorem lifted (os : Os) (started : os.Started) (H : Type) (enc : TypeId × Value → H) :
    ReturnsInHanded {} Try.checked os 7 .any (Rows.fnExactCellOfSpec.pre6 enc Try.prog Try.f7 Rows.fnExactCellOfRow.domain false) (Rows.fnExactCellOfSpec.post enc Try.prog Try.f7 false true false false) := by
  refine returnsInHanded_of_change (C := Try.checked) own started (by kernel_rfl) Try.func7
    (ChangeSpec.witness6 (enc := enc) (C := Try.checked) false ⟨#[], #[.agg #[.float .f32 0, .float .f32 0, .float .f32 0, .float .f32 0], .agg #[.float .f32 0, .float .f32 0, .float .f32 0]], []⟩ 8 (by kernel_rfl) (by kernel_rfl) (by kernel_rfl) (by kernel_rfl)) ?_
  intro W base args ds gs before hval0 hW hcnd _
  have hval : ∀ (j : Nat) t v, Try.f7.params[j]? = some t → args[j]? = some v → Value.okWide Try.prog W .any base t v := hval0
  have hW' := hW
  obtain ⟨p, q, hA0, hV, rfl, hfz, hnd⟩ := hW
  have hA : DataW.TrodAll enc Try.prog W 0 (fun _ => true) true Try.f7.params.toList args.toList ds p := hA0
  rw [Try.params7] at hA hval
  obtain ⟨v0, vs0, d0, ds0, p0, q0, hargs, rfl, rfl, h0, r0⟩ := trodAll_cons hA
  obtain ⟨v1, vs1, d1, ds1, p1, q1, rfl, rfl, rfl, h1, r1⟩ := trodAll_cons r0
  obtain ⟨rfl, rfl, rfl⟩ := trodAll_nil r1
  obtain rfl : args = #[v0, v1] := by cases args; simp_all
  obtain ⟨rfl, rfl⟩ := trodVars_none hV
  have k0 := h0
  have lt0 : ∀ x ∈ p0, x.block < W.heap.size := by obtain ⟨m, hm⟩ := k0; exact DataW.trod_lt m _ _ _ hm
  have k1 := h1
  have lt1 : ∀ x ∈ p1, x.block < W.heap.size := by obtain ⟨m, hm⟩ := k1; exact DataW.trod_lt m _ _ _ hm
  obtain ⟨fo0, ba0, mx0, my0, rfl, wf0, wb0, wx0, wy0⟩ := cam_of Try.underlying24 (by kernel_rfl) (by kernel_rfl) Try.underlying22 Try.underlying22 Try.underlying22 Try.underlying22 (hval 0 24 v0 rfl rfl) h0
  obtain ⟨x1, y1, z1, rfl, wx1, wy1, wz1⟩ := vec_of Try.underlying40 (by kernel_rfl) (by kernel_rfl) Try.underlying22 Try.underlying22 Try.underlying22 (hval 1 40 v1 rfl rfl) h1
  clear hA0 hval0
  refine (walk fo0 ba0 mx0 my0 x1 y1 z1 W wf0 wb0 wx0 wy0 wx1 wy1 wz1).mono fun e W' ⟨he, bel⟩ => ?_
  subst he
  exact ⟨_, rfl, _, _, _, [], _, [], hW', trodAll_mk1 (shut_bool Try.underlying4 _), (trodAll_cons_mk (Below.trod laidOut (by kernel_rfl) (of_decide_eq_true (by kernel_rfl)) k0 bel lt0) (trodAll_cons_mk (Below.trod laidOut (by kernel_rfl) (of_decide_eq_true (by kernel_rfl)) k1 bel lt1) trodAll_mk0)), rfl, bel.frame _, fun h => by cases h⟩

theorem over : Rows.fnExactCellOfRow.holds Try.pinned (OpenSpec.ofChange Rows.fnExactCellOfSpec) :=
  OpenClaim.holds_of_wide 7 Try.f7 rfl rfl rfl rfl rfl rfl rfl ⟨rfl, rfl, rfl, rfl, rfl⟩ rfl rfl rfl rfl rfl (by kernel_rfl) Try.func7 (by kernel_rfl)
    (of_decide_eq_true (by kernel_rfl)) (by unfold Func.isWrapper; first | (rw [if_pos (by decide +kernel)]; kernel_rfl) | (rw [if_neg (by decide +kernel)]; exact ⟨rfl, rfl⟩))
    (fun os started H enc _ => lifted os started H enc)

theorem proved : Rows.FnExactCellOfSaid := over
#print axioms proved
end Go.Proofs.Ytekpmhgdofjhdaa.lawFnExactCellOf
