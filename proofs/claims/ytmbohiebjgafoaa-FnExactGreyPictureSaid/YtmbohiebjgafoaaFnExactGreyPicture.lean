/-
  For all arguments the program's GreyPicture answers as the model's, to the last bit, in memory of its own; no condition but that the text holds at most 1048576 bytes (else the law asks nothing).
-/
import Derived.Test.YtmbohiebjgafoaaBase
import Derived.Test.YtmbohiebjgafoaaPo
import Derived.Test.YtmbohiebjgafoaaVm
import Derived.Test.YtmbohiebjgafoaaTe
import Derived.Deep.DeepCutAuto
namespace Go.Proofs.Ytmbohiebjgafoaa.lawFnExactGreyPicture
open Go.ChangeShapes Go.WideShapes Go.ChangeAt Go.RowKit Go.FX
open Go.ChangeMaps (open_string shut_string)
set_option linter.unusedVariables false
set_option linter.unusedSimpArgs false

set_option maxHeartbeats 16000000 in
set_option maxRecDepth 100000 in
theorem walk (a0 : ByteArray) (a1 : Int) (a2 : Int) (w : World) (w0 : a0.size ≤ maxLen) (w1 : (Lit.int .i64 a1).wf = true) (w2 : (Lit.int .i64 a2).wf = true) :
    Calls Try.prog 9 #[.string a0, .int .i64 a1, .int .i64 a2] w fun e w' => e = .returned (.bool true) ∧ Below w.heap.size w w' := by
  by_cases hstr0 : a0.size ≤ 1048576
  case neg =>
    go_enter Try.func9, Try.ntmps9
    go_wp2
    go_ret
    exact ⟨rfl, Below.refl _ _⟩
  obtain ⟨W', H', cs', ok, hS, hImp, h256⟩ := pairGreyPicture a0 a1 a2 hstr0
  go_enter Try.func9, Try.ntmps9
  go_wp2_with fail
  refine (hS _ ).mono ?_
  rintro e w1 ⟨a1, n1, c1, rfl, hb1, ho1⟩
  have s1 := hb1.size
  have q1 : Below w.heap.size w w1 := (Below.refl w.heap.size w).trans (hb1.mono (by have := Nat.le_refl 0; simp; try omega))
  have rM1 := ho1
  have bM : ∀ k, (Value.slice a1 n1 c1).ownBlock = some k → w.heap.size ≤ k ∧ k < w1.heap.size := fun k hk => by have h := ho1.lt k hk; (try simp at h); omega
  have qL := q1
  go_wp2_with fail
  refine (hImp _ ).mono ?_
  rintro e w2 ⟨a2, n2, c2, rfl, hb2, ho2⟩
  have s2 := hb2.size; simp only [World.size_alloc] at s2
  have q2 : Below w.heap.size w w2 := (bel_al q1 (by have := q1.size; simp; try omega) _).trans (hb2.mono (by have := q1.size; simp; try omega))
  have rM2 := (rM1.alloc _).below hb2
  have PV2 := (Pv.new w1 (W') (H') (.slice a1 n1 c1) 46).below hb2
  have rG2 := ho2
  have bG : ∀ k, (Value.slice a2 n2 c2).ownBlock = some k → w1.heap.size + 1 ≤ k ∧ k < w2.heap.size := fun k hk => by have h := ho2.lt k hk; (try simp at h); omega
  obtain ⟨uV2, xV2, yV2, zV2⟩ := id PV2
  go_wp2_with fail
  refine (eqPic_any _ _ _ _ cs' _ (rG2.alloc _).fc (rM2.alloc _).fc (Nat.le_trans h256 (by decide))).mono ?_
  rintro e w3 ⟨rfl, hb3⟩
  have s3 := hb3.size; simp only [World.size_alloc] at s3
  have q3 : Below w.heap.size w w3 := (bel_al q2 (by have := q2.size; simp; try omega) _).trans (hb3.mono (by have := q2.size; simp; try omega))
  have PV3 := (PV2.alloc _).below hb3
  have rM3 := (rM2.alloc _).below hb3
  have rG3 := (rG2.alloc _).below hb3
  have PZ3 := (Pv.new w2 (W') (H') (.slice a2 n2 c2) 46).below hb3
  obtain ⟨uZ3, xZ3, yZ3, zZ3⟩ := id PZ3
  go_wp2_with fail
  refine (markPic_any _ _ _ _ _ _ _ rG3 (by omega) (by omega)).mono ?_
  rintro e w4 ⟨rfl, hg4, ho4⟩
  have s4 := hg4.size
  have q4 := q3.grown hg4 q3.size (fun k hk => by have := bG k hk; have := qL.size; omega)
  have PV4 := PV3.kept hg4 (fun e => by have := bG _ e; omega)
  have PZ4 := PZ3.kept hg4 (fun e => by have := bG _ e; omega)
  have rM4 := rM3.kept hg4 (own_sep fun k hk k' hk' => by have := bM k hk; have := bG k' hk'; omega)
  have rK4 := ho4
  obtain ⟨uZ4, xZ4, yZ4, zZ4⟩ := id PZ4
  go_wp2_with fail
  refine (heldPic_any _ _ _ _ _ _ rK4.fc (by omega) (by omega)).mono ?_
  rintro e w5 ⟨rfl, hb5⟩
  have s5 := hb5.size
  have q5 : Below w.heap.size w w5 := q4.trans (hb5.mono (by have := q4.size; simp; try omega))
  have PV5 := PV4.below hb5
  have PZ5 := PZ4.below hb5
  have rM5 := rM4.below hb5
  have rK5 := rK4.below hb5
  go_wp2_with fail
  refine (hImp _ ).mono ?_
  rintro e w6 ⟨a6, n6, c6, rfl, hb6, ho6⟩
  have s6 := hb6.size
  have q6 : Below w.heap.size w w6 := q5.trans (hb6.mono (by have := q5.size; simp; try omega))
  have PV6 := PV5.below hb6
  have PZ6 := PZ5.below hb6
  have rM6 := rM5.below hb6
  have rK6 := rK5.below hb6
  have rN6 := ho6
  have bN : ∀ k, (Value.slice a6 n6 c6).ownBlock = some k → w5.heap.size ≤ k ∧ k < w6.heap.size := fun k hk => by have h := ho6.lt k hk; (try simp at h); omega
  obtain ⟨uV6, xV6, yV6, zV6⟩ := id PV6
  go_wp2_with fail
  refine (eqPic_any _ _ _ _ cs' _ (rN6.alloc _).fc (rM6.alloc _).fc (Nat.le_trans h256 (by decide))).mono ?_
  rintro e w7 ⟨rfl, hb7⟩
  have s7 := hb7.size; simp only [World.size_alloc] at s7
  have q7 : Below w.heap.size w w7 := (bel_al q6 (by have := q6.size; simp; try omega) _).trans (hb7.mono (by have := q6.size; simp; try omega))
  have PV7 := (PV6.alloc _).below hb7
  have PZ7 := (PZ6.alloc _).below hb7
  have rM7 := (rM6.alloc _).below hb7
  have rK7 := (rK6.alloc _).below hb7
  have rN7 := (rN6.alloc _).below hb7
  obtain ⟨uZ7, xZ7, yZ7, zZ7⟩ := id PZ7
  go_wp2_with fail
  refine (heldPic_any _ _ _ _ _ _ rK7.fc (by omega) (by omega)).mono ?_
  rintro e w8 ⟨rfl, hb8⟩
  have s8 := hb8.size
  have q8 : Below w.heap.size w w8 := q7.trans (hb8.mono (by have := q7.size; simp; try omega))
  have PV8 := PV7.below hb8
  have PZ8 := PZ7.below hb8
  have rM8 := rM7.below hb8
  have rK8 := rK7.below hb8
  have rN8 := rN7.below hb8
  go_wp2_with fail
  go_ret
  exact ⟨rfl, q8⟩

set_option maxRecDepth 100000 in
theorem lifted (os : Os) (started : os.Started) (H : Type) (enc : TypeId × Value → H) :
    ReturnsInHanded {} Try.checked os 9 .any (Rows.fnExactGreyPictureSpec.pre6 enc Try.prog Try.f9 Rows.fnExactGreyPictureRow.domain false) (Rows.fnExactGreyPictureSpec.post enc Try.prog Try.f9 false true false false) := by
  refine returnsInHanded_of_change (C := Try.checked) own started (by kernel_rfl) Try.func9
    (ChangeSpec.witness6 (enc := enc) (C := Try.checked) false ⟨#[], #[.string ByteArray.empty, .int .i64 0, .int .i64 0], []⟩ 8 (by kernel_rfl) (by kernel_rfl) (by kernel_rfl) (by kernel_rfl)) ?_
  intro W base args ds gs before hval0 hW hcnd _
  have hval : ∀ (j : Nat) t v, Try.f9.params[j]? = some t → args[j]? = some v → Value.okWide Try.prog W .any base t v := hval0
  have hW' := hW
  obtain ⟨p, q, hA0, hV, rfl, hfz, hnd⟩ := hW
  have hA : DataW.TrodAll enc Try.prog W 0 (fun _ => true) true Try.f9.params.toList args.toList ds p := hA0
  rw [Try.params9] at hA hval
  obtain ⟨v0, vs0, d0, ds0, p0, q0, hargs, rfl, rfl, h0, r0⟩ := trodAll_cons hA
  obtain ⟨v1, vs1, d1, ds1, p1, q1, rfl, rfl, rfl, h1, r1⟩ := trodAll_cons r0
  obtain ⟨v2, vs2, d2, ds2, p2, q2, rfl, rfl, rfl, h2, r2⟩ := trodAll_cons r1
  obtain ⟨rfl, rfl, rfl⟩ := trodAll_nil r2
  obtain rfl : args = #[v0, v1, v2] := by cases args; simp_all
  obtain ⟨rfl, rfl⟩ := trodVars_none hV
  have k0 := h0
  have lt0 : ∀ x ∈ p0, x.block < W.heap.size := by obtain ⟨m, hm⟩ := k0; exact DataW.trod_lt m _ _ _ hm
  have k1 := h1
  have lt1 : ∀ x ∈ p1, x.block < W.heap.size := by obtain ⟨m, hm⟩ := k1; exact DataW.trod_lt m _ _ _ hm
  have k2 := h2
  have lt2 : ∀ x ∈ p2, x.block < W.heap.size := by obtain ⟨m, hm⟩ := k2; exact DataW.trod_lt m _ _ _ hm
  obtain ⟨a0, rfl, rfl, rfl, w0⟩ := open_string Try.underlying9 (hval 0 9 v0 rfl rfl) h0
  obtain ⟨a1, rfl, rfl, rfl, w1⟩ := open_int Try.underlying2 (hval 1 2 v1 rfl rfl) h1
  obtain ⟨a2, rfl, rfl, rfl, w2⟩ := open_int Try.underlying2 (hval 2 2 v2 rfl rfl) h2
  clear hA0 hval0
  refine (walk a0 a1 a2 W w0 w1 w2).mono fun e W' ⟨he, bel⟩ => ?_
  subst he
  exact ⟨_, rfl, _, _, _, [], _, [], hW', trodAll_mk1 (shut_bool Try.underlying4 _), (trodAll_cons_mk (Below.trod laidOut (by kernel_rfl) (of_decide_eq_true (by kernel_rfl)) k0 bel lt0) (trodAll_cons_mk (Below.trod laidOut (by kernel_rfl) (of_decide_eq_true (by kernel_rfl)) k1 bel lt1) (trodAll_cons_mk (Below.trod laidOut (by kernel_rfl) (of_decide_eq_true (by kernel_rfl)) k2 bel lt2) trodAll_mk0))), rfl, bel.frame _, fun h => by cases h⟩

theorem over : Rows.fnExactGreyPictureRow.holds Try.pinned (OpenSpec.ofChange Rows.fnExactGreyPictureSpec) :=
  OpenClaim.holds_of_wide 9 Try.f9 rfl rfl rfl rfl rfl rfl rfl ⟨rfl, rfl, rfl, rfl, rfl⟩ rfl rfl rfl rfl rfl (by kernel_rfl) Try.func9 (by kernel_rfl)
    (of_decide_eq_true (by kernel_rfl)) (by unfold Func.isWrapper; first | (rw [if_pos (by decide +kernel)]; kernel_rfl) | (rw [if_neg (by decide +kernel)]; exact ⟨rfl, rfl⟩))
    (fun os started H enc _ => lifted os started H enc)

theorem proved : Rows.FnExactGreyPictureSaid := over
#print axioms proved
end Go.Proofs.Ytmbohiebjgafoaa.lawFnExactGreyPicture
