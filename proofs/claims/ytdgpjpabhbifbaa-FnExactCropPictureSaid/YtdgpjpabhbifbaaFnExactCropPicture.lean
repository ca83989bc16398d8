/-
  For every picture of any numbers, valid or not, the program's CropPicture answers as the model's, to the last bit, in memory of its own, and the picture stays as it was; no condition but that it holds at most 1048576 greys (else the law asks nothing).
-/
import Derived.Test.YtdgpjpabhbifbaaBase
import Derived.Test.YtdgpjpabhbifbaaPo
import Derived.Test.YtdgpjpabhbifbaaPx
import Derived.Deep.DeepCutAuto
namespace Go.Proofs.Ytdgpjpabhbifbaa.lawFnExactCropPicture
open Go.ChangeShapes Go.WideShapes Go.ChangeAt Go.RowKit Go.FX
open Go.ChangeMaps (open_string shut_string)
set_option linter.unusedVariables false
set_option linter.unusedSimpArgs false

set_option maxHeartbeats 8000000 in
theorem walk (W0 H0 : Int) (a0 : Option Addr) (n0 c0 : Nat) (z0 : List Nat) (a1 : Int) (a2 : Int) (a3 : Int) (a4 : Int) (w : World) (wW0 : (Lit.int .i64 W0).wf = true) (wH0 : (Lit.int .i64 H0).wf = true) (w0 : FS w (.slice a0 n0 c0) z0) (w1 : (Lit.int .i64 a1).wf = true) (w2 : (Lit.int .i64 a2).wf = true) (w3 : (Lit.int .i64 a3).wf = true) (w4 : (Lit.int .i64 a4).wf = true) :
    Calls Try.prog 12 #[.agg #[.int .i64 W0, .int .i64 H0, .slice a0 n0 c0], .int .i64 a1, .int .i64 a2, .int .i64 a3, .int .i64 a4] w fun e w' => e = .returned (.bool true) ∧ Below w.heap.size w w' := by
  have hv : FC w (.slice a0 n0 c0) (z0.map (cn .f32)) := FC.of w0
  generalize z0.map (cn .f32) = cs at hv
  clear w0
  obtain ⟨en, hnc, hcm⟩ := hv.sized
  have hmx : (n0 : Int) ≤ 9223372036854775807 := by unfold maxLen at hcm; omega
  by_cases hlen : n0 ≤ 1048576
  · obtain ⟨W', H', cs', ok, hS, hImp, h256⟩ := pairCropPicture W0 H0 cs a1 a2 a3 a4 wW0 wH0
    have hn : cs.length ≤ 1048576 := by omega
    clear en hnc hcm hmx
    go_enter Try.func12, Try.ntmps12
    go_wp2_with fail
    refine (szPic_any _ _ _ _ _ _ _ (by omega) (by omega)).mono ?_
    rintro e w1 ⟨rfl, hb1⟩
    have s1 := hb1.size; simp only [World.size_alloc] at s1
    have q1 : Below w.heap.size w w1 := (below1 w _).trans (hb1.mono (by have := Nat.le_refl 0; simp; try omega))
    have PA1 := (Pv.new (w) (W0) (H0) (.slice a0 n0 c0) 24).below hb1
    obtain ⟨uA1, xA1, yA1, zA1⟩ := id PA1
    go_wp2_with fail
    refine (toPic_any _ _ _ cs _ (hv.below (q1)) hn).mono ?_
    rintro e w2 ⟨a2, n2, c2, rfl, hb2, ho2⟩
    have s2 := hb2.size
    have q2 : Below w.heap.size w w2 := q1.trans (hb2.mono (by have := q1.size; simp; try omega))
    have PA2 := PA1.below hb2
    go_wp2_with fail
    refine (hS _ _ _ _ ho2.fc).mono ?_
    rintro e w3 ⟨a3, n3, c3, rfl, hb3, ho3⟩
    have s3 := hb3.size
    have q3 : Below w.heap.size w w3 := q2.trans (hb3.mono (by have := q2.size; simp; try omega))
    have PA3 := PA2.below hb3
    obtain ⟨uA3, xA3, yA3, zA3⟩ := id PA3
    have bM : ∀ k, (Value.slice a3 n3 c3).ownBlock = some k → k < w3.heap.size := fun k hk => (ho3.lt k hk).2
    have rM3 := ho3
    go_wp2_with fail
    refine (toPic_any _ _ _ cs _ (hv.below (bel_al q3 q3.size _)) hn).mono ?_
    rintro e w4 ⟨a4, n4, c4, rfl, hb4, ho4⟩
    have s4 := hb4.size; simp only [World.size_alloc] at s4
    have q4 : Below w.heap.size w w4 := (bel_al q3 (q3.size) _).trans (hb4.mono (by have := q3.size; simp; try omega))
    have PA4 := (PA3.alloc _).below hb4
    have rM4 := (rM3.alloc _).below hb4
    have PV4 := (Pv.new (w3) (W') (H') (.slice a3 n3 c3) 27).below hb4
    have bX : ∀ k, (Value.slice a4 n4 c4).ownBlock = some k → w3.heap.size + 1 ≤ k ∧ k < w4.heap.size := fun k hk => by have := ho4.lt k hk; simpa using this
    have rX4 := ho4
    go_wp2_with fail
    refine (hImp _ _ _ _ (ho4.alloc _).fc).mono ?_
    rintro e w5 ⟨a5, n5, c5, rfl, hb5, ho5⟩
    have s5 := hb5.size; simp only [World.size_alloc] at s5
    have q5 : Below w.heap.size w w5 := (bel_al q4 (q4.size) _).trans (hb5.mono (by have := q4.size; simp; try omega))
    have PA5 := (PA4.alloc _).below hb5
    have PV5 := (PV4.alloc _).below hb5
    have rM5 := (rM4.alloc _).below hb5
    have rX5 := (rX4.alloc _).below hb5
    have PY5 := (Pv.new (w4) (W0) (H0) (.slice a4 n4 c4) 27).below hb5
    obtain ⟨uV5, xV5, yV5, zV5⟩ := id PV5
    have bG : ∀ k, (Value.slice a5 n5 c5).ownBlock = some k → w4.heap.size + 1 ≤ k ∧ k < w5.heap.size := fun k hk => by have := ho5.lt k hk; simpa using this
    have rG5 := ho5
    go_wp2_with fail
    refine (eqPic_any _ _ _ _ cs' _ (rG5.alloc _).fc (rM5.alloc _).fc (Nat.le_trans h256 (by decide))).mono ?_
    rintro e w6 ⟨rfl, hb6⟩
    have s6 := hb6.size; simp only [World.size_alloc] at s6
    have q6 : Below w.heap.size w w6 := (bel_al q5 (q5.size) _).trans (hb6.mono (by have := q5.size; simp; try omega))
    have PA6 := (PA5.alloc _).below hb6
    have PV6 := (PV5.alloc _).below hb6
    have PY6 := (PY5.alloc _).below hb6
    have rM6 := (rM5.alloc _).below hb6
    have rX6 := (rX5.alloc _).below hb6
    have rG6 := (rG5.alloc _).below hb6
    have PZ6 := (Pv.new (w5) (W') (H') (.slice a5 n5 c5) 27).below hb6
    obtain ⟨uY6, xY6, yY6, zY6⟩ := id PY6
    obtain ⟨uA6, xA6, yA6, zA6⟩ := id PA6
    go_wp2_with fail
    go_region_held3 (fun w' => Below w6.heap.size w6 w' ∧ w6.heap.size ≤ w'.heap.size ∧ (∀ b o, b < w6.heap.size → w'.cell? ⟨b, o, none⟩ = w6.cell? ⟨b, o, none⟩)) (first | exact keepStart _ | assumption | exact ⟨by assumption, by assumption, by assumption⟩ | exact keepCall (by assumption) (by assumption) | exact keepAlloc (by assumption) | (refine keepSet ?_ (keepSet ?_ (keepSet ?_ ?_)) <;> first | assumption | omega | (simp; done) | (simp; omega)) | (refine keepSet ?_ (keepSet ?_ ?_) <;> first | assumption | omega | (simp; done) | (simp; omega)) | (refine keepSet ?_ ?_ <;> first | assumption | omega | (simp; done) | (simp; omega)))
      (first
        | (go_at_call 17; refine (toPic_any _ _ _ cs _ ((hv.below q6).drewN 1) hn).mono ?_; rintro e w7 ⟨a7, n7, c7, rfl, hb7, ho7⟩; have rX7 := ((rX6.drewN 1).below hb7); have hI := keepCall (n := w6.heap.size) (W1 := w6) (by assumption) hb7; obtain ⟨hc, hf⟩ := bcell hb7; have hz := hb7.size; (try simp at hz); (try simp only [World.size_drew, World.cell?_drew] at hc); (try simp only [World.size_drew, World.frozen?_drew] at hf); first | (have hs := Nat.lt_of_succ_le hz) | (have hs := Nat.lt_of_lt_of_le hs hz) | skip)
        | (go_at_call 19; refine (eqPic_any _ _ _ _ cs _ rX7.fc ho7.fc hn).mono ?_; rintro e w8 ⟨rfl, hb8⟩; have hI := keepCall (n := w6.heap.size) (W1 := w6) (by assumption) hb8; obtain ⟨hc, hf⟩ := bcell hb8; have hz := hb8.size; (try simp at hz); (try simp only [World.size_drew, World.cell?_drew] at hc); (try simp only [World.size_drew, World.frozen?_drew] at hf); first | (have hs := Nat.lt_of_succ_le hz) | (have hs := Nat.lt_of_lt_of_le hs hz) | skip))
    have hb68 : Below w6.heap.size w6 w8 := And.left (by assumption)
    have s8 := hb68.size
    have q8 : Below w.heap.size w w8 := q6.trans (hb68.mono (by have := q6.size; simp; try omega))
    have PA8 := PA6.below hb68
    have PV8 := PV6.below hb68
    have PY8 := PY6.below hb68
    have PZ8 := PZ6.below hb68
    have rM8 := rM6.below hb68
    have rX8 := rX6.below hb68
    have rG8 := rG6.below hb68
    obtain ⟨uY8, xY8, yY8, zY8⟩ := id PY8
    obtain ⟨uZ8, xZ8, yZ8, zZ8⟩ := id PZ8
    obtain ⟨uV8, xV8, yV8, zV8⟩ := id PV8
    go_wp2_with fail
    refine (markPic_any _ _ _ _ 1 _ _ rX8 (by omega) (by omega)).mono ?_
    rintro e w9 ⟨rfl, hg9, ho9⟩
    have s9 := hg9.size
    have q9 := q8.grown hg9 q8.size (fun k hk => by have := bX k hk; have := q3.size; omega)
    have PA9 := PA8.kept hg9 (fun e => by have := bX _ e; omega)
    have PV9 := PV8.kept hg9 (fun e => by have := bX _ e; omega)
    have PY9 := PY8.kept hg9 (fun e => by have := bX _ e; omega)
    have PZ9 := PZ8.kept hg9 (fun e => by have := bX _ e; omega)
    have rM9 := rM8.kept hg9 (own_sep fun k hk k' hk' => by have := bM k hk; have := bX k' hk'; omega)
    have rG9 := rG8.kept hg9 (own_sep fun k hk k' hk' => by have := bG k hk; have := bX k' hk'; omega)
    obtain ⟨uZ9, xZ9, yZ9, zZ9⟩ := id PZ9
    obtain ⟨uV9, xV9, yV9, zV9⟩ := id PV9
    go_wp2_with fail
    refine (eqPic_any _ _ _ _ cs' _ rG9.fc rM9.fc (Nat.le_trans h256 (by decide))).mono ?_
    rintro e w10 ⟨rfl, hb10⟩
    have s10 := hb10.size
    have q10 : Below w.heap.size w w10 := q9.trans (hb10.mono (by have := q9.size; simp; try omega))
    have PA10 := PA9.below hb10
    have PV10 := PV9.below hb10
    have PY10 := PY9.below hb10
    have PZ10 := PZ9.below hb10
    have rM10 := rM9.below hb10
    have rG10 := rG9.below hb10
    obtain ⟨uZ10, xZ10, yZ10, zZ10⟩ := id PZ10
    go_wp2_with fail
    refine (markPic_any _ _ _ _ 1 _ _ rG10 (by omega) (by omega)).mono ?_
    rintro e w11 ⟨rfl, hg11, ho11⟩
    have s11 := hg11.size
    have q11 := q10.grown hg11 q10.size (fun k hk => by have := bG k hk; have := q3.size; omega)
    have PA11 := PA10.kept hg11 (fun e => by have := bG _ e; omega)
    have PV11 := PV10.kept hg11 (fun e => by have := bG _ e; omega)
    have PY11 := PY10.kept hg11 (fun e => by have := bG _ e; omega)
    have PZ11 := PZ10.kept hg11 (fun e => by have := bG _ e; omega)
    have rM11 := rM10.kept hg11 (own_sep fun k hk k' hk' => by have := bM k hk; have := bG k' hk'; omega)
    obtain ⟨uZ11, xZ11, yZ11, zZ11⟩ := id PZ11
    have rK11 := ho11
    go_wp2_with fail
    refine (heldPic_any _ _ _ _ 1 _ rK11.fc (by omega) (by omega)).mono ?_
    rintro e w12 ⟨rfl, hb12⟩
    have s12 := hb12.size
    have q12 : Below w.heap.size w w12 := q11.trans (hb12.mono (by have := q11.size; simp; try omega))
    have PA12 := PA11.below hb12
    have PV12 := PV11.below hb12
    have PY12 := PY11.below hb12
    have PZ12 := PZ11.below hb12
    have rM12 := rM11.below hb12
    have rK12 := rK11.below hb12
    obtain ⟨uA12, xA12, yA12, zA12⟩ := id PA12
    go_wp2_with fail
    refine (toPic_any _ _ _ cs _ (hv.below (q12)) hn).mono ?_
    rintro e w13 ⟨a13, n13, c13, rfl, hb13, ho13⟩
    have s13 := hb13.size
    have q13 : Below w.heap.size w w13 := q12.trans (hb13.mono (by have := q12.size; simp; try omega))
    have PA13 := PA12.below hb13
    have PV13 := PV12.below hb13
    have PY13 := PY12.below hb13
    have PZ13 := PZ12.below hb13
    have rM13 := rM12.below hb13
    have rK13 := rK12.below hb13
    go_wp2_with fail
    refine (hImp _ _ _ _ ho13.fc).mono ?_
    rintro e w14 ⟨a14, n14, c14, rfl, hb14, ho14⟩
    have s14 := hb14.size
    have q14 : Below w.heap.size w w14 := q13.trans (hb14.mono (by have := q13.size; simp; try omega))
    have PA14 := PA13.below hb14
    have PV14 := PV13.below hb14
    have PY14 := PY13.below hb14
    have PZ14 := PZ13.below hb14
    have rM14 := rM13.below hb14
    have rK14 := rK13.below hb14
    obtain ⟨uV14, xV14, yV14, zV14⟩ := id PV14
    go_wp2_with fail
    refine (eqPic_any _ _ _ _ cs' _ (ho14.alloc _).fc (rM14.alloc _).fc (Nat.le_trans h256 (by decide))).mono ?_
    rintro e w15 ⟨rfl, hb15⟩
    have s15 := hb15.size; simp only [World.size_alloc] at s15
    have q15 : Below w.heap.size w w15 := (bel_al q14 (q14.size) _).trans (hb15.mono (by have := q14.size; simp; try omega))
    have PA15 := (PA14.alloc _).below hb15
    have PV15 := (PV14.alloc _).below hb15
    have PY15 := (PY14.alloc _).below hb15
    have PZ15 := (PZ14.alloc _).below hb15
    have rM15 := (rM14.alloc _).below hb15
    have rK15 := (rK14.alloc _).below hb15
    obtain ⟨uZ15, xZ15, yZ15, zZ15⟩ := id PZ15
    go_wp2_with fail
    refine (heldPic_any _ _ _ _ 1 _ rK15.fc (by omega) (by omega)).mono ?_
    rintro e w16 ⟨rfl, hb16⟩
    have s16 := hb16.size
    have q16 : Below w.heap.size w w16 := q15.trans (hb16.mono (by have := q15.size; simp; try omega))
    have PA16 := PA15.below hb16
    have PV16 := PV15.below hb16
    have PY16 := PY15.below hb16
    have PZ16 := PZ15.below hb16
    have rM16 := rM15.below hb16
    have rK16 := rK15.below hb16
    go_wp2_with fail
    go_ret
    exact ⟨rfl, q16⟩
  · clear en hnc hcm hv
    go_enter Try.func12, Try.ntmps12
    go_wp2_with fail
    refine (szPic_no _ _ _ _ _ _ _ (by omega) (by omega) hmx).mono ?_
    rintro e w1 ⟨rfl, hb1⟩
    go_wp2_with fail
    go_ret
    exact ⟨rfl, (below1 _ _).trans (hb1.mono (by simp))⟩

set_option maxRecDepth 100000 in
theorem lifted (os : Os) (started : os.Started) (H : Type) (enc : TypeId × Value → H) :
    ReturnsInHanded {} Try.checked os 12 .any (Rows.fnExactCropPictureSpec.pre6 enc Try.prog Try.f12 Rows.fnExactCropPictureRow.domain false) (Rows.fnExactCropPictureSpec.post enc Try.prog Try.f12 false true false false) := by
  refine returnsInHanded_of_change (C := Try.checked) own started (by kernel_rfl) Try.func12
    (ChangeSpec.witness6 (enc := enc) (C := Try.checked) false ⟨#[], #[.agg #[.int .i64 0, .int .i64 0, .slice none 0 0], .int .i64 0, .int .i64 0, .int .i64 0, .int .i64 0], []⟩ 8 (by kernel_rfl) (by kernel_rfl) (by kernel_rfl) (by kernel_rfl)) ?_
  intro W base args ds gs before hval0 hW hcnd _
  have hval : ∀ (j : Nat) t v, Try.f12.params[j]? = some t → args[j]? = some v → Value.okWide Try.prog W .any base t v := hval0
  have hW' := hW
  obtain ⟨p, q, hA0, hV, rfl, hfz, hnd⟩ := hW
  have hA : DataW.TrodAll enc Try.prog W 0 (fun _ => true) true Try.f12.params.toList args.toList ds p := hA0
  rw [Try.params12] at hA hval
  obtain ⟨v0, vs0, d0, ds0, p0, q0, hargs, rfl, rfl, h0, r0⟩ := trodAll_cons hA
  obtain ⟨v1, vs1, d1, ds1, p1, q1, rfl, rfl, rfl, h1, r1⟩ := trodAll_cons r0
  obtain ⟨v2, vs2, d2, ds2, p2, q2, rfl, rfl, rfl, h2, r2⟩ := trodAll_cons r1
  obtain ⟨v3, vs3, d3, ds3, p3, q3, rfl, rfl, rfl, h3, r3⟩ := trodAll_cons r2
  obtain ⟨v4, vs4, d4, ds4, p4, q4, rfl, rfl, rfl, h4, r4⟩ := trodAll_cons r3
  obtain ⟨rfl, rfl, rfl⟩ := trodAll_nil r4
  obtain rfl : args = #[v0, v1, v2, v3, v4] := by cases args; simp_all
  obtain ⟨rfl, rfl⟩ := trodVars_none hV
  have k0 := h0
  have lt0 : ∀ x ∈ p0, x.block < W.heap.size := by obtain ⟨m, hm⟩ := k0; exact DataW.trod_lt m _ _ _ hm
  have k1 := h1
  have lt1 : ∀ x ∈ p1, x.block < W.heap.size := by obtain ⟨m, hm⟩ := k1; exact DataW.trod_lt m _ _ _ hm
  have k2 := h2
  have lt2 : ∀ x ∈ p2, x.block < W.heap.size := by obtain ⟨m, hm⟩ := k2; exact DataW.trod_lt m _ _ _ hm
  have k3 := h3
  have lt3 : ∀ x ∈ p3, x.block < W.heap.size := by obtain ⟨m, hm⟩ := k3; exact DataW.trod_lt m _ _ _ hm
  have k4 := h4
  have lt4 : ∀ x ∈ p4, x.block < W.heap.size := by obtain ⟨m, hm⟩ := k4; exact DataW.trod_lt m _ _ _ hm
  obtain ⟨W0, H0, a0, n0, c0, z0, rfl, wW0, wH0, w0⟩ := pic_of Try.underlying24 (by kernel_rfl) (by kernel_rfl) Try.underlying2 Try.underlying2 Try.underlying22 Try.underlying32 (by kernel_rfl) (hval 0 24 v0 rfl rfl) h0
  obtain ⟨a1, rfl, rfl, rfl, w1⟩ := open_int Try.underlying2 (hval 1 2 v1 rfl rfl) h1
  obtain ⟨a2, rfl, rfl, rfl, w2⟩ := open_int Try.underlying2 (hval 2 2 v2 rfl rfl) h2
  obtain ⟨a3, rfl, rfl, rfl, w3⟩ := open_int Try.underlying2 (hval 3 2 v3 rfl rfl) h3
  obtain ⟨a4, rfl, rfl, rfl, w4⟩ := open_int Try.underlying2 (hval 4 2 v4 rfl rfl) h4
  clear hA0 hval0
  refine (walk W0 H0 a0 n0 c0 z0 a1 a2 a3 a4 W wW0 wH0 w0 w1 w2 w3 w4).mono fun e W' ⟨he, bel⟩ => ?_
  subst he
  exact ⟨_, rfl, _, _, _, [], _, [], hW', trodAll_mk1 (shut_bool Try.underlying4 _), (trodAll_cons_mk (Below.trod laidOut (by kernel_rfl) (of_decide_eq_true (by kernel_rfl)) k0 bel lt0) (trodAll_cons_mk (Below.trod laidOut (by kernel_rfl) (of_decide_eq_true (by kernel_rfl)) k1 bel lt1) (trodAll_cons_mk (Below.trod laidOut (by kernel_rfl) (of_decide_eq_true (by kernel_rfl)) k2 bel lt2) (trodAll_cons_mk (Below.trod laidOut (by kernel_rfl) (of_decide_eq_true (by kernel_rfl)) k3 bel lt3) (trodAll_cons_mk (Below.trod laidOut (by kernel_rfl) (of_decide_eq_true (by kernel_rfl)) k4 bel lt4) trodAll_mk0))))), rfl, bel.frame _, fun h => by cases h⟩

theorem over : Rows.fnExactCropPictureRow.holds Try.pinned (OpenSpec.ofChange Rows.fnExactCropPictureSpec) :=
  OpenClaim.holds_of_wide 12 Try.f12 rfl rfl rfl rfl rfl rfl rfl ⟨rfl, rfl, rfl, rfl, rfl⟩ rfl rfl rfl rfl rfl (by kernel_rfl) Try.func12 (by kernel_rfl)
    (of_decide_eq_true (by kernel_rfl)) (by unfold Func.isWrapper; first | (rw [if_pos (by decide +kernel)]; kernel_rfl) | (rw [if_neg (by decide +kernel)]; exact ⟨rfl, rfl⟩))
    (fun os started H enc _ => lifted os started H enc)

theorem proved : Rows.FnExactCropPictureSaid := over
#print axioms proved
end Go.Proofs.Ytdgpjpabhbifbaa.lawFnExactCropPicture
