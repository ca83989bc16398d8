/-
  For all arguments, valid or not, the program's JumpCosts answers as the model's, to the last bit, in memory of its own, and the arguments stay as they were; no condition but that the list holds at most 1048576 numbers (else the law asks nothing).
-/
import Derived.Test.YtmgdofengamcmaaBase
import Derived.Test.YtmgdofengamcmaaPo
import Derived.Test.YtmgdofengamcmaaVm
import Derived.Test.YtmgdofengamcmaaRl
import Derived.Deep.DeepCutAuto
namespace Go.Proofs.Ytmgdofengamcmaa.lawFnExactJumpCosts
open Go.ChangeShapes Go.WideShapes Go.ChangeAt Go.RowKit Go.FX
open Go.ChangeMaps (open_string shut_string)
set_option linter.unusedVariables false
set_option linter.unusedSimpArgs false

set_option maxHeartbeats 16000000 in
set_option maxRecDepth 100000 in
theorem walk (a0 : Option Addr) (len0 cap0 : Nat) (z0 : List Nat) (x1 y1 : Nat) (w : World) (w0 : FS w (.slice a0 len0 cap0) z0) (wx1 : x1 < width .f32) (wy1 : y1 < width .f32) :
    Calls Try.prog 11 #[.slice a0 len0 cap0, .agg #[.float .f32 x1, .float .f32 y1]] w fun e w' => e = .returned (.bool true) ∧ Below w.heap.size w w' := by
  have hv0 : FC w (.slice a0 len0 cap0) (z0.map (cn .f32)) := FC.of w0
  generalize z0.map (cn .f32) = cs0 at hv0
  clear w0
  obtain ⟨en0, hnc0, hcm0⟩ := hv0.sized
  have hmx0 : (len0 : Int) ≤ 9223372036854775807 := by unfold maxLen at hcm0; omega
  by_cases hlen0 : len0 ≤ 1048576
  case neg =>
    clear en0 hnc0 hcm0
    go_enter Try.func11, Try.ntmps11
    go_wp2_with fail
    go_ret
    exact ⟨rfl, below1 _ _⟩
  obtain ⟨cs', ok, hS, hImp, h8⟩ := pairJumpCosts cs0 x1 y1 wx1 wy1
  have hn0 : cs0.length ≤ 1048576 := by omega
  clear en0 hnc0 hcm0 hmx0
  go_enter Try.func11, Try.ntmps11
  go_upto_region 3 with fail
  obtain ⟨w1, hw1⟩ : ∃ w1, w1 = w.alloc (.cells #[.float .f32 x1, .float .f32 y1] 24) := ⟨_, rfl⟩
  rw [← hw1]
  have PB1 : P2 w1 w.heap.size x1 y1 := by rw [hw1]; exact P2.new _ _ _ _
  have q1 : Below w.heap.size w w1 := by rw [hw1]; exact below1 _ _
  clear hw1
  obtain ⟨l1, p1, p1'⟩ := id PB1
  have hvK := hv0.below q1
  go_cut [5, 6] (fun sA sB wx => (∃ a n c, sA = .slice a n c ∧ sB = .bool ok ∧ OC wx w1.heap.size 22 (.slice a n c) cs') ∧ Below w1.heap.size w1 wx)
  case first =>
    go_region_held3 (fun w' => Below w1.heap.size w1 w' ∧ w1.heap.size ≤ w'.heap.size ∧ (∀ b o, b < w1.heap.size → w'.cell? ⟨b, o, none⟩ = w1.cell? ⟨b, o, none⟩)) (first | exact keepStart _ | assumption | exact ⟨by assumption, by assumption, by assumption⟩ | exact keepCall (by assumption) (by assumption) | exact keepAlloc (by assumption) | (refine keepSet ?_ (keepSet ?_ (keepSet ?_ (keepSet ?_ ?_))) <;> first | assumption | omega | (simp; done) | (simp; omega)) | (refine keepSet ?_ (keepSet ?_ (keepSet ?_ ?_)) <;> first | assumption | omega | (simp; done) | (simp; omega)) | (refine keepSet ?_ (keepSet ?_ ?_) <;> first | assumption | omega | (simp; done) | (simp; omega)) | (refine keepSet ?_ ?_ <;> first | assumption | omega | (simp; done) | (simp; omega)))
      (first
        | (go_at_call 39; (with_reducible refine (toFC_any _ cs0 _ (hvK.below (And.left (by assumption))) hn0).mono ?_); rintro e w2 ⟨a2, n2, c2, rfl, hb2, ho2⟩; have f2 := ho2.fc; have hI := keepCall (n := w1.heap.size) (W1 := w1) (by assumption) hb2; obtain ⟨hc, hf⟩ := bcell hb2; have hz := hb2.size; (try simp at hz); (try simp only [World.size_drew, World.cell?_drew] at hc); (try simp only [World.size_drew, World.frozen?_drew] at hf); first | (have hs := Nat.lt_of_succ_le hz) | (have hs := Nat.lt_of_lt_of_le hs hz) | skip)
        | (go_at_call 16; (with_reducible refine (toPrices_any _ _ _).mono ?_); rintro e w3 ⟨rfl, hb3⟩; have g3 := (by first | exact f2.below hb3 | exact hb3); have hI := keepCall (n := w1.heap.size) (W1 := w1) (by assumption) hb3; obtain ⟨hc, hf⟩ := bcell hb3; have hz := hb3.size; (try simp at hz); (try simp only [World.size_drew, World.cell?_drew] at hc); (try simp only [World.size_drew, World.frozen?_drew] at hf); first | (have hs := Nat.lt_of_succ_le hz) | (have hs := Nat.lt_of_lt_of_le hs hz) | skip)
        | (go_at_call 38; (with_reducible refine (hS _ _ _ _ g3).mono ?_); rintro e w4 ⟨a4, n4, c4, rfl, hb4, ho4⟩; have hI := keepCall (n := w1.heap.size) (W1 := w1) (by assumption) hb4; obtain ⟨hc, hf⟩ := bcell hb4; have hz := hb4.size; (try simp at hz); (try simp only [World.size_drew, World.cell?_drew] at hc); (try simp only [World.size_drew, World.frozen?_drew] at hf); first | (have hs := Nat.lt_of_succ_le hz) | (have hs := Nat.lt_of_lt_of_le hs hz) | skip))
    all_goals go_wp2_with fail
    all_goals go_meet
    all_goals exact ⟨⟨_, _, _, rfl, rfl, ho4.mono (by first | omega | (simp at *; omega))⟩, And.left (by assumption)⟩
  case rest =>
    obtain ⟨⟨aM, nM, cM, rfl, rfl, rM5⟩, bR⟩ := hcut
    obtain ⟨w5, hV5⟩ : ∃ V, V = wc := ⟨_, rfl⟩
    subst hV5
    have q5 : Below w.heap.size w w5 := q1.trans (bR.mono q1.size)
    have z5 := bR.size
    have PB5 := PB1.below bR
    have bM : ∀ k, (Value.slice aM nM cM).ownBlock = some k → w1.heap.size ≤ k ∧ k < w5.heap.size := fun k hk => rM5.lt k hk
    clear bR hvK p1 p1'
    go_wp2_with fail
    refine (toFC_any _ cs0 _ (hv0.below q5) hn0).mono ?_
    rintro e w6 ⟨aX, nX, cX, rfl, hb6, rX6⟩
    have z6 := hb6.size
    have q6 := q5.trans (hb6.mono q5.size)
    have PB6 := PB5.below hb6
    have rM6 := rM5.below hb6
    have bX : ∀ k, (Value.slice aX nX cX).ownBlock = some k → w5.heap.size ≤ k ∧ k < w6.heap.size := fun k hk => rX6.lt k hk
    obtain ⟨l6, p6, p6'⟩ := id PB6
    go_wp2_with fail
    refine (toPrices_any _ _ _).mono ?_
    rintro e w7 ⟨rfl, hb7⟩
    have z7 := hb7.size
    have q7 := q6.trans (hb7.mono q6.size)
    have PB7 := PB6.below hb7
    have rM7 := rM6.below hb7
    have rX7 := rX6.below hb7
    go_wp2_with fail
    refine (hImp _ _ _ _ rX7.fc).mono ?_
    rintro e w8 ⟨aG, nG, cG, rfl, hb8, rG8⟩
    have z8 := hb8.size
    have q8 := q7.trans (hb8.mono q7.size)
    have PB8 := PB7.below hb8
    have rM8 := rM7.below hb8
    have rX8 := rX7.below hb8
    have bG : ∀ k, (Value.slice aG nG cG).ownBlock = some k → w7.heap.size ≤ k ∧ k < w8.heap.size := fun k hk => rG8.lt k hk
    go_wp2_with fail
    refine (eqFCB _ _ cs' _ rG8.fc rM8.fc (by omega)).mono ?_
    rintro e w9 ⟨rfl, hb9⟩
    have z9 := hb9.size
    have q9 := q8.trans (hb9.mono q8.size)
    have PB9 := PB8.below hb9
    have rM9 := rM8.below hb9
    have rX9 := rX8.below hb9
    have rG9 := rG8.below hb9
    go_wp2_with fail
    refine (toFC_any _ cs0 _ (hv0.below q9) hn0).mono ?_
    rintro e w10 ⟨aY, nY, cY, rfl, hb10, rY10⟩
    have z10 := hb10.size
    have q10 := q9.trans (hb10.mono q9.size)
    have PB10 := PB9.below hb10
    have rM10 := rM9.below hb10
    have rX10 := rX9.below hb10
    have rG10 := rG9.below hb10
    go_wp2_with fail
    refine (eqFCB _ _ cs0 _ rX10.fc rY10.fc hn0).mono ?_
    rintro e w11 ⟨rfl, hb11⟩
    have z11 := hb11.size
    have q11 := q10.trans (hb11.mono q10.size)
    have PB11 := PB10.below hb11
    have rM11 := rM10.below hb11
    have rX11 := rX10.below hb11
    have rG11 := rG10.below hb11
    go_wp2_with fail
    refine (markF_any _ _ _ _ _ rX11 (by omega) (by omega)).mono ?_
    rintro e w12 ⟨rfl, hg12, _⟩
    have z12 := hg12.size
    have q12 := q11.grown hg12 q11.size (fun k hk => by have := bX k hk; have := q5.size; omega)
    have PB12 := PB11.kept hg12 (fun e => by have := bX _ e; omega)
    have rM12 := rM11.kept hg12 (own_sep fun k hk k' hk' => by have := bM k hk; have := bX k' hk'; omega)
    have rG12 := rG11.kept hg12 (own_sep fun k hk k' hk' => by have := bG k hk; have := bX k' hk'; omega)
    go_wp2_with fail
    refine (eqFCB _ _ cs' _ rG12.fc rM12.fc (by omega)).mono ?_
    rintro e w13 ⟨rfl, hb13⟩
    have z13 := hb13.size
    have q13 := q12.trans (hb13.mono q12.size)
    have PB13 := PB12.below hb13
    have rM13 := rM12.below hb13
    have rG13 := rG12.below hb13
    go_wp2_with fail
    refine (markF_any _ _ _ _ _ rG13 (by omega) (by omega)).mono ?_
    rintro e w14 ⟨rfl, hg14, rK14⟩
    have z14 := hg14.size
    have q14 := q13.grown hg14 q13.size (fun k hk => by have := bG k hk; have := q5.size; omega)
    have PB14 := PB13.kept hg14 (fun e => by have := bG _ e; omega)
    have rM14 := rM13.kept hg14 (own_sep fun k hk k' hk' => by have := bM k hk; have := bG k' hk'; omega)
    go_wp2_with fail
    refine (heldF_any _ _ _ _ rK14.fc (by omega) (by omega)).mono ?_
    rintro e w15 ⟨rfl, hw15⟩
    obtain rfl : w14 = w15 := by first | exact hw15 | exact hw15.symm
    go_upto_region 22 with fail
    have hvK := hv0.below q14
    obtain ⟨l14, p14, p14'⟩ := id PB14
    go_cut [13, 14] (fun sA sB wx => (∃ a n c, sA = .slice a n c ∧ sB = .bool ok ∧ OC wx w14.heap.size 22 (.slice a n c) cs') ∧ Below w14.heap.size w14 wx)
    case first =>
      go_region_held3 (fun w' => Below w14.heap.size w14 w' ∧ w14.heap.size ≤ w'.heap.size ∧ (∀ b o, b < w14.heap.size → w'.cell? ⟨b, o, none⟩ = w14.cell? ⟨b, o, none⟩)) (first | exact keepStart _ | assumption | exact ⟨by assumption, by assumption, by assumption⟩ | exact keepCall (by assumption) (by assumption) | exact keepAlloc (by assumption) | (refine keepSet ?_ (keepSet ?_ (keepSet ?_ (keepSet ?_ ?_))) <;> first | assumption | omega | (simp; done) | (simp; omega)) | (refine keepSet ?_ (keepSet ?_ (keepSet ?_ ?_)) <;> first | assumption | omega | (simp; done) | (simp; omega)) | (refine keepSet ?_ (keepSet ?_ ?_) <;> first | assumption | omega | (simp; done) | (simp; omega)) | (refine keepSet ?_ ?_ <;> first | assumption | omega | (simp; done) | (simp; omega)))
        (first
          | (go_at_call 39; (with_reducible refine (toFC_any _ cs0 _ (hvK.below (And.left (by assumption))) hn0).mono ?_); rintro e w2 ⟨a2, n2, c2, rfl, hb2, ho2⟩; have f2 := ho2.fc; have hI := keepCall (n := w14.heap.size) (W1 := w14) (by assumption) hb2; obtain ⟨hc, hf⟩ := bcell hb2; have hz := hb2.size; (try simp at hz); (try simp only [World.size_drew, World.cell?_drew] at hc); (try simp only [World.size_drew, World.frozen?_drew] at hf); first | (have hs := Nat.lt_of_succ_le hz) | (have hs := Nat.lt_of_lt_of_le hs hz) | skip)
          | (go_at_call 16; (with_reducible refine (toPrices_any _ _ _).mono ?_); rintro e w3 ⟨rfl, hb3⟩; have g3 := (by first | exact f2.below hb3 | exact hb3); have hI := keepCall (n := w14.heap.size) (W1 := w14) (by assumption) hb3; obtain ⟨hc, hf⟩ := bcell hb3; have hz := hb3.size; (try simp at hz); (try simp only [World.size_drew, World.cell?_drew] at hc); (try simp only [World.size_drew, World.frozen?_drew] at hf); first | (have hs := Nat.lt_of_succ_le hz) | (have hs := Nat.lt_of_lt_of_le hs hz) | skip)
          | (go_at_call 40; (with_reducible refine (hImp _ _ _ _ g3).mono ?_); rintro e w4 ⟨a4, n4, c4, rfl, hb4, ho4⟩; have hI := keepCall (n := w14.heap.size) (W1 := w14) (by assumption) hb4; obtain ⟨hc, hf⟩ := bcell hb4; have hz := hb4.size; (try simp at hz); (try simp only [World.size_drew, World.cell?_drew] at hc); (try simp only [World.size_drew, World.frozen?_drew] at hf); first | (have hs := Nat.lt_of_succ_le hz) | (have hs := Nat.lt_of_lt_of_le hs hz) | skip))
      all_goals go_wp2_with fail
      all_goals go_meet
      all_goals exact ⟨⟨_, _, _, rfl, rfl, ho4.mono (by first | omega | (simp at *; omega))⟩, And.left (by assumption)⟩
    case rest =>
      obtain ⟨⟨aH, nH, cH, rfl, rfl, rH16⟩, bR2⟩ := hcut
      obtain ⟨w16, hV16⟩ : ∃ V, V = wc := ⟨_, rfl⟩
      subst hV16
      have q16 := q14.trans (bR2.mono q14.size)
      have rM16 := rM14.below bR2
      have rK16 := rK14.below bR2
      clear hvK p14 p14'
      go_wp2_with fail
      refine (eqFCB _ _ cs' _ rH16.fc rM16.fc (by omega)).mono ?_
      rintro e w17 ⟨rfl, hb17⟩
      have q17 := q16.trans (hb17.mono q16.size)
      have rK17 := rK16.below hb17
      go_wp2_with fail
      refine (heldF_any _ _ _ _ rK17.fc (by omega) (by omega)).mono ?_
      rintro e w18 ⟨rfl, hw18⟩
      obtain rfl : w17 = w18 := by first | exact hw18 | exact hw18.symm
      go_wp2_with fail
      go_ret
      exact ⟨rfl, q17⟩

set_option maxRecDepth 100000 in
theorem lifted (os : Os) (started : os.Started) (H : Type) (enc : TypeId × Value → H) :
    ReturnsInHanded {} Try.checked os 11 .any (Rows.fnExactJumpCostsSpec.pre6 enc Try.prog Try.f11 Rows.fnExactJumpCostsRow.domain false) (Rows.fnExactJumpCostsSpec.post enc Try.prog Try.f11 false true false false) := by
  refine returnsInHanded_of_change (C := Try.checked) own started (by kernel_rfl) Try.func11
    (ChangeSpec.witness6 (enc := enc) (C := Try.checked) false ⟨#[], #[.slice none 0 0, .agg #[.float .f32 0, .float .f32 0]], []⟩ 8 (by kernel_rfl) (by kernel_rfl) (by kernel_rfl) (by kernel_rfl)) ?_
  intro W base args ds gs before hval0 hW hcnd _
  have hval : ∀ (j : Nat) t v, Try.f11.params[j]? = some t → args[j]? = some v → Value.okWide Try.prog W .any base t v := hval0
  have hW' := hW
  obtain ⟨p, q, hA0, hV, rfl, hfz, hnd⟩ := hW
  have hA : DataW.TrodAll enc Try.prog W 0 (fun _ => true) true Try.f11.params.toList args.toList ds p := hA0
  rw [Try.params11] at hA hval
  obtain ⟨v0, vs0, d0, ds0, p0, q0, hargs, rfl, rfl, h0, r0⟩ := trodAll_cons hA
  obtain ⟨v1, vs1, d1, ds1, p1, q1, rfl, rfl, rfl, h1, r1⟩ := trodAll_cons r0
  obtain ⟨rfl, rfl, rfl⟩ := trodAll_nil r1
  obtain rfl : args = #[v0, v1] := by cases args; simp_all
  obtain ⟨rfl, rfl⟩ := trodVars_none hV
  have k0 := h0
  have lt0 : ∀ x ∈ p0, x.block < W.heap.size := by obtain ⟨m, hm⟩ := k0; exact DataW.trod_lt m _ _ _ hm
  have k1 := h1
  have lt1 : ∀ x ∈ p1, x.block < W.heap.size := by obtain ⟨m, hm⟩ := k1; exact DataW.trod_lt m _ _ _ hm
  obtain ⟨a0, len0, cap0, rfl⟩ := okWide_slice Try.underlying37 (hval 0 37 v0 rfl rfl)
  obtain ⟨z0, w0⟩ := fs_of Try.underlying37 Try.underlying22 (by kernel_rfl) h0
  obtain ⟨x1, y1, rfl, wx1, wy1⟩ := prices_of Try.underlying24 (by kernel_rfl) (by kernel_rfl) Try.underlying22 Try.underlying22 (hval 1 24 v1 rfl rfl) h1
  clear hA0 hval0
  refine (walk a0 len0 cap0 z0 x1 y1 W w0 wx1 wy1).mono fun e W' ⟨he, bel⟩ => ?_
  subst he
  exact ⟨_, rfl, _, _, _, [], _, [], hW', trodAll_mk1 (shut_bool Try.underlying4 _), (trodAll_cons_mk (Below.trod laidOut (by kernel_rfl) (of_decide_eq_true (by kernel_rfl)) k0 bel lt0) (trodAll_cons_mk (Below.trod laidOut (by kernel_rfl) (of_decide_eq_true (by kernel_rfl)) k1 bel lt1) trodAll_mk0)), rfl, bel.frame _, fun h => by cases h⟩

theorem over : Rows.fnExactJumpCostsRow.holds Try.pinned (OpenSpec.ofChange Rows.fnExactJumpCostsSpec) :=
  OpenClaim.holds_of_wide 11 Try.f11 rfl rfl rfl rfl rfl rfl rfl ⟨rfl, rfl, rfl, rfl, rfl⟩ rfl rfl rfl rfl rfl (by kernel_rfl) Try.func11 (by kernel_rfl)
    (of_decide_eq_true (by kernel_rfl)) (by unfold Func.isWrapper; first | (rw [if_pos (by decide +kernel)]; kernel_rfl) | (rw [if_neg (by decide +kernel)]; exact ⟨rfl, rfl⟩))
    (fun os started H enc _ => lifted os started H enc)

theorem proved : Rows.FnExactJumpCostsSaid := over
#print axioms proved
end Go.Proofs.Ytmgdofengamcmaa.lawFnExactJumpCosts
