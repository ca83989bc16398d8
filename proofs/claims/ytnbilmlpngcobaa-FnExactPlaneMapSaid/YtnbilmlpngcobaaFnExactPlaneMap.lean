/-
  For all arguments (camera, plane, number, number), valid or not, the program's PlaneMap answers as the model's, to the last bit, in memory of its own, and the arguments stay as they were; no condition.
-/
import Derived.Test.YtnbilmlpngcobaaBase
import Derived.Test.YtnbilmlpngcobaaPo
import Derived.Test.YtnbilmlpngcobaaVm
import Derived.Test.YtnbilmlpngcobaaCp
import Derived.Deep.DeepCutAuto
namespace Go.Proofs.Ytnbilmlpngcobaa.lawFnExactPlaneMap
open Go.ChangeShapes Go.WideShapes Go.ChangeAt Go.RowKit Go.FX
open Go.ChangeMaps (open_string shut_string)
set_option linter.unusedVariables false
set_option linter.unusedSimpArgs false

set_option maxHeartbeats 16000000 in
set_option maxRecDepth 100000 in
theorem walk (fo0 ba0 mx0 my0 : Nat) (x1 y1 z1 : Nat) (a2 : Int) (a3 : Int) (w : World) (wf0 : fo0 < width .f32) (wb0 : ba0 < width .f32) (wx0 : mx0 < width .f32) (wy0 : my0 < width .f32) (wx1 : x1 < width .f32) (wy1 : y1 < width .f32) (wz1 : z1 < width .f32) (w2 : (Lit.int .i64 a2).wf = true) (w3 : (Lit.int .i64 a3).wf = true) :
    Calls Try.prog 4 #[.agg #[.float .f32 fo0, .float .f32 ba0, .float .f32 mx0, .float .f32 my0], .agg #[.float .f32 x1, .float .f32 y1, .float .f32 z1], .int .i64 a2, .int .i64 a3] w fun e w' => e = .returned (.bool true) ∧ Below w.heap.size w w' := by
  obtain ⟨W', H', cs', ok, hS, hImp, h256⟩ := pairPlaneMap fo0 ba0 mx0 my0 x1 y1 z1 wf0 wb0 wx0 wy0 wx1 wy1 wz1 a2 a3
  obtain ⟨w0, hw0⟩ : ∃ u, u = ((w.alloc (.cells #[.float .f32 fo0, .float .f32 ba0, .float .f32 mx0, .float .f32 my0] 24)).alloc (.cells #[.float .f32 x1, .float .f32 y1, .float .f32 z1] 39)) := ⟨_, rfl⟩
  have PA0_0 : P4 w0 (w.heap.size) fo0 ba0 mx0 my0 := by have h := (P4.new w fo0 ba0 mx0 my0 24).alloc (.cells #[.float .f32 x1, .float .f32 y1, .float .f32 z1] 39); (try simp only [World.size_alloc] at h); rw [hw0]; exact h
  have PA1_0 : P3 w0 (w.heap.size + 1) x1 y1 z1 := by have h := (P3.new (w.alloc (.cells #[.float .f32 fo0, .float .f32 ba0, .float .f32 mx0, .float .f32 my0] 24)) x1 y1 z1 39); (try simp only [World.size_alloc] at h); rw [hw0]; exact h
  have q0 : Below w.heap.size w w0 := by rw [hw0]; ((repeat' (first | (refine bel_set ?_ ?_ _) | (refine bel_al ?_ ?_ _) | exact Below.refl _ _ | assumption | (refine below_drewN ?_ _) | (refine Below.drew ?_))) <;> (first | omega | (simp; done) | (simp; omega)))
  go_enter Try.func4, Try.ntmps4
  obtain ⟨uPA00a, uPA00b, uPA00c, uPA00d, uPA00e⟩ := id PA0_0
  obtain ⟨uPA10a, uPA10b, uPA10c, uPA10d⟩ := id PA1_0
  go_upto_region 1 with fail
  rw [← hw0]
  clear hw0
  go_cut [9, 10] (fun sA sB wx => PicAt 22 w0 W' H' cs' ok sA sB wx ∧ Below w0.heap.size w0 wx)
  case first =>
    go_region_held3 (fun w' => Below w0.heap.size w0 w' ∧ w0.heap.size ≤ w'.heap.size ∧ (∀ b o, b < w0.heap.size → w'.cell? ⟨b, o, none⟩ = w0.cell? ⟨b, o, none⟩)) (first | exact keepStart _ | assumption | exact ⟨by assumption, by assumption, by assumption⟩ | exact keepCall (by assumption) (by assumption) | exact keepAlloc (by assumption) | (refine keepSet ?_ (keepSet ?_ (keepSet ?_ (keepSet ?_ ?_))) <;> first | assumption | omega | (simp; done) | (simp; omega)) | (refine keepSet ?_ (keepSet ?_ (keepSet ?_ ?_)) <;> first | assumption | omega | (simp; done) | (simp; omega)) | (refine keepSet ?_ (keepSet ?_ ?_) <;> first | assumption | omega | (simp; done) | (simp; omega)) | (refine keepSet ?_ ?_ <;> first | assumption | omega | (simp; done) | (simp; omega)))
      (first
        | (go_at_call 16; (with_reducible refine (toCamera_any _ _ _ _ _).mono ?_); rintro e wp0 ⟨rfl, hp0⟩; have hI := keepCall (n := w0.heap.size) (W1 := w0) (by assumption) hp0; obtain ⟨hc, hf⟩ := bcell hp0; have hz := hp0.size; (try simp at hz); (try simp only [World.size_drew, World.cell?_drew] at hc); (try simp only [World.size_drew, World.frozen?_drew] at hf); first | (have hs := Nat.lt_of_succ_le hz) | (have hs := Nat.lt_of_lt_of_le hs hz) | skip)
        | (go_at_call 23; (with_reducible refine (toPlane_any _ _ _ _).mono ?_); rintro e wp1 ⟨rfl, hp1⟩; have hI := keepCall (n := w0.heap.size) (W1 := w0) (by assumption) hp1; obtain ⟨hc, hf⟩ := bcell hp1; have hz := hp1.size; (try simp at hz); (try simp only [World.size_drew, World.cell?_drew] at hc); (try simp only [World.size_drew, World.frozen?_drew] at hf); first | (have hs := Nat.lt_of_succ_le hz) | (have hs := Nat.lt_of_lt_of_le hs hz) | skip)
        | (go_at_call 22; (with_reducible refine (hS _).mono ?_); rintro e wr ⟨ar, nr, cr, rfl, hbr, hor⟩; have sr := hbr.size; (try simp at sr); have hI := keepCall (n := w0.heap.size) (W1 := w0) (by assumption) hbr; obtain ⟨hc, hf⟩ := bcell hbr; have hz := hbr.size; (try simp at hz); (try simp only [World.size_drew, World.cell?_drew] at hc); (try simp only [World.size_drew, World.frozen?_drew] at hf); first | (have hs := Nat.lt_of_succ_le hz) | (have hs := Nat.lt_of_lt_of_le hs hz) | skip))
    all_goals go_wp2_with fail
    all_goals go_meet
    all_goals refine ⟨⟨_, _, _, _, rfl, rfl, ?_, ?_, fun e => by have h := hor.lt _ e; (first | omega | (simp at h; done) | (simp at h; omega)), by first | omega | (simp; done) | (simp; omega)⟩, And.left (by assumption)⟩
    all_goals first | ((with_reducible refine OC.atNew hor ?_); (first | omega | (simp; done) | (simp; omega))) | ((with_reducible refine OC.at3 hor ?_ ?_) <;> (first | omega | (simp; done) | (simp; omega))) | (unfold Pv; refine ⟨?_, ?_, ?_, ?_⟩ <;> (first | omega | (simp; done) | (simp; omega) | (go_simp; done)))
  obtain ⟨⟨bo1, a1r, n1r, c1r, rfl, rfl, hP1, ho1, hne1, hbo1⟩, hb1⟩ := hcut
  obtain ⟨w1, hV1⟩ : ∃ V, V = wc := ⟨_, rfl⟩
  subst hV1
  have PA0_1 := PA0_0.below hb1
  have PA1_1 := PA1_0.below hb1
  have q1 : Below w.heap.size w w1 := q0.trans (hb1.mono q0.size)
  have s1 := hb1.size
  have hbl1 : bo1 < w1.heap.size := hP1.1
  have PV_1 := hP1
  have rM_1 := ho1
  have bM : ∀ k, (Value.slice a1r n1r c1r).ownBlock = some k → w0.heap.size ≤ k ∧ k < w1.heap.size := fun k hk => by have h := rM_1.lt k hk; (try simp at h); omega
  have qL := q1
  obtain ⟨uPA01a, uPA01b, uPA01c, uPA01d, uPA01e⟩ := id PA0_1
  obtain ⟨uPA11a, uPA11b, uPA11c, uPA11d⟩ := id PA1_1
  go_upto_region 2 with fail
  go_cut [11, 12] (fun sA sB wx => PicAt 22 w1 W' H' cs' ok sA sB wx ∧ Below w1.heap.size w1 wx)
  case first =>
    go_region_held3 (fun w' => Below w1.heap.size w1 w' ∧ w1.heap.size ≤ w'.heap.size ∧ (∀ b o, b < w1.heap.size → w'.cell? ⟨b, o, none⟩ = w1.cell? ⟨b, o, none⟩)) (first | exact keepStart _ | assumption | exact ⟨by assumption, by assumption, by assumption⟩ | exact keepCall (by assumption) (by assumption) | exact keepAlloc (by assumption) | (refine keepSet ?_ (keepSet ?_ (keepSet ?_ (keepSet ?_ ?_))) <;> first | assumption | omega | (simp; done) | (simp; omega)) | (refine keepSet ?_ (keepSet ?_ (keepSet ?_ ?_)) <;> first | assumption | omega | (simp; done) | (simp; omega)) | (refine keepSet ?_ (keepSet ?_ ?_) <;> first | assumption | omega | (simp; done) | (simp; omega)) | (refine keepSet ?_ ?_ <;> first | assumption | omega | (simp; done) | (simp; omega)))
      (first
        | (go_at_call 16; (with_reducible refine (toCamera_any _ _ _ _ _).mono ?_); rintro e wp0 ⟨rfl, hp0⟩; have hI := keepCall (n := w1.heap.size) (W1 := w1) (by assumption) hp0; obtain ⟨hc, hf⟩ := bcell hp0; have hz := hp0.size; (try simp at hz); (try simp only [World.size_drew, World.cell?_drew] at hc); (try simp only [World.size_drew, World.frozen?_drew] at hf); first | (have hs := Nat.lt_of_succ_le hz) | (have hs := Nat.lt_of_lt_of_le hs hz) | skip)
        | (go_at_call 23; (with_reducible refine (toPlane_any _ _ _ _).mono ?_); rintro e wp1 ⟨rfl, hp1⟩; have hI := keepCall (n := w1.heap.size) (W1 := w1) (by assumption) hp1; obtain ⟨hc, hf⟩ := bcell hp1; have hz := hp1.size; (try simp at hz); (try simp only [World.size_drew, World.cell?_drew] at hc); (try simp only [World.size_drew, World.frozen?_drew] at hf); first | (have hs := Nat.lt_of_succ_le hz) | (have hs := Nat.lt_of_lt_of_le hs hz) | skip)
        | (go_at_call 24; (with_reducible refine (hImp _).mono ?_); rintro e wr ⟨ar, nr, cr, rfl, hbr, hor⟩; have sr := hbr.size; (try simp at sr); have hI := keepCall (n := w1.heap.size) (W1 := w1) (by assumption) hbr; obtain ⟨hc, hf⟩ := bcell hbr; have hz := hbr.size; (try simp at hz); (try simp only [World.size_drew, World.cell?_drew] at hc); (try simp only [World.size_drew, World.frozen?_drew] at hf); first | (have hs := Nat.lt_of_succ_le hz) | (have hs := Nat.lt_of_lt_of_le hs hz) | skip))
    all_goals go_wp2_with fail
    all_goals go_meet
    all_goals refine ⟨⟨_, _, _, _, rfl, rfl, ?_, ?_, fun e => by have h := hor.lt _ e; (first | omega | (simp at h; done) | (simp at h; omega)), by first | omega | (simp; done) | (simp; omega)⟩, And.left (by assumption)⟩
    all_goals first | ((with_reducible refine OC.atNew hor ?_); (first | omega | (simp; done) | (simp; omega))) | ((with_reducible refine OC.at3 hor ?_ ?_) <;> (first | omega | (simp; done) | (simp; omega))) | (unfold Pv; refine ⟨?_, ?_, ?_, ?_⟩ <;> (first | omega | (simp; done) | (simp; omega) | (go_simp; done)))
  obtain ⟨⟨bo2, a2r, n2r, c2r, rfl, rfl, hP2, ho2, hne2, hbo2⟩, hb2⟩ := hcut
  obtain ⟨w2, hV2⟩ : ∃ V, V = wc := ⟨_, rfl⟩
  subst hV2
  have PA0_2 := PA0_1.below hb2
  have PA1_2 := PA1_1.below hb2
  have PV_2 := PV_1.below hb2
  have rM_2 := rM_1.below hb2
  have q2 : Below w.heap.size w w2 := q1.trans (hb2.mono q1.size)
  have s2 := hb2.size
  have hbl2 : bo2 < w2.heap.size := hP2.1
  have PZ_2 := hP2
  have rG_2 := ho2
  have bG : ∀ k, (Value.slice a2r n2r c2r).ownBlock = some k → w1.heap.size ≤ k ∧ k < w2.heap.size := fun k hk => by have h := rG_2.lt k hk; (try simp at h); omega
  obtain ⟨uPZ2a, uPZ2b, uPZ2c, uPZ2d⟩ := id PZ_2
  obtain ⟨uPV2a, uPV2b, uPV2c, uPV2d⟩ := id PV_2
  go_wp2_with fail
  refine (eqMap_any _ _ _ _ cs' _ rG_2.fc rM_2.fc (Nat.le_trans h256 (by decide))).mono ?_
  rintro e w3 ⟨rfl, hb3⟩
  have PA0_3 := PA0_2.below hb3
  have PA1_3 := PA1_2.below hb3
  have PV_3 := PV_2.below hb3
  have PZ_3 := PZ_2.below hb3
  have rM_3 := rM_2.below hb3
  have rG_3 := rG_2.below hb3
  have q3 : Below w.heap.size w w3 := q2.trans (hb3.mono q2.size)
  have s3 := hb3.size
  obtain ⟨uPZ3a, uPZ3b, uPZ3c, uPZ3d⟩ := id PZ_3
  go_wp2_with fail
  refine (markMap_any _ _ _ _ _ _ _ rG_3 (by omega) (by omega)).mono ?_
  rintro e w4 ⟨rfl, hg4, hok4⟩
  have PA0_4 := PA0_3.kept hg4 (fun e => by have := bG _ e; omega)
  have PA1_4 := PA1_3.kept hg4 (fun e => by have := bG _ e; omega)
  have PV_4 := PV_3.kept hg4 (fun e => by have := bG _ e; omega)
  have PZ_4 := PZ_3.kept hg4 hne2
  have rM_4 := rM_3.kept hg4 (own_sep fun k hk k' hk' => by have := bM k hk; have := bG k' hk'; omega)
  have s4 := hg4.size
  have q4 := q3.grown hg4 q3.size (fun k hk => by have := bG k hk; have := qL.size; omega)
  have rK_4 := hok4
  obtain ⟨uPZ4a, uPZ4b, uPZ4c, uPZ4d⟩ := id PZ_4
  go_wp2_with fail
  refine (heldMap_any _ _ _ _ _ _ rK_4.fc (by omega) (by omega)).mono ?_
  rintro e w5 ⟨rfl, hb5⟩
  have PA0_5 := PA0_4.below hb5
  have PA1_5 := PA1_4.below hb5
  have PV_5 := PV_4.below hb5
  have PZ_5 := PZ_4.below hb5
  have rM_5 := rM_4.below hb5
  have rK_5 := rK_4.below hb5
  have q5 : Below w.heap.size w w5 := q4.trans (hb5.mono q4.size)
  have s5 := hb5.size
  obtain ⟨uPA05a, uPA05b, uPA05c, uPA05d, uPA05e⟩ := id PA0_5
  obtain ⟨uPA15a, uPA15b, uPA15c, uPA15d⟩ := id PA1_5
  go_upto_region 13 with fail
  go_cut [15, 16] (fun sA sB wx => PicAt 22 w5 W' H' cs' ok sA sB wx ∧ Below w5.heap.size w5 wx)
  case first =>
    go_region_held3 (fun w' => Below w5.heap.size w5 w' ∧ w5.heap.size ≤ w'.heap.size ∧ (∀ b o, b < w5.heap.size → w'.cell? ⟨b, o, none⟩ = w5.cell? ⟨b, o, none⟩)) (first | exact keepStart _ | assumption | exact ⟨by assumption, by assumption, by assumption⟩ | exact keepCall (by assumption) (by assumption) | exact keepAlloc (by assumption) | (refine keepSet ?_ (keepSet ?_ (keepSet ?_ (keepSet ?_ ?_))) <;> first | assumption | omega | (simp; done) | (simp; omega)) | (refine keepSet ?_ (keepSet ?_ (keepSet ?_ ?_)) <;> first | assumption | omega | (simp; done) | (simp; omega)) | (refine keepSet ?_ (keepSet ?_ ?_) <;> first | assumption | omega | (simp; done) | (simp; omega)) | (refine keepSet ?_ ?_ <;> first | assumption | omega | (simp; done) | (simp; omega)))
      (first
        | (go_at_call 16; (with_reducible refine (toCamera_any _ _ _ _ _).mono ?_); rintro e wp0 ⟨rfl, hp0⟩; have hI := keepCall (n := w5.heap.size) (W1 := w5) (by assumption) hp0; obtain ⟨hc, hf⟩ := bcell hp0; have hz := hp0.size; (try simp at hz); (try simp only [World.size_drew, World.cell?_drew] at hc); (try simp only [World.size_drew, World.frozen?_drew] at hf); first | (have hs := Nat.lt_of_succ_le hz) | (have hs := Nat.lt_of_lt_of_le hs hz) | skip)
        | (go_at_call 23; (with_reducible refine (toPlane_any _ _ _ _).mono ?_); rintro e wp1 ⟨rfl, hp1⟩; have hI := keepCall (n := w5.heap.size) (W1 := w5) (by assumption) hp1; obtain ⟨hc, hf⟩ := bcell hp1; have hz := hp1.size; (try simp at hz); (try simp only [World.size_drew, World.cell?_drew] at hc); (try simp only [World.size_drew, World.frozen?_drew] at hf); first | (have hs := Nat.lt_of_succ_le hz) | (have hs := Nat.lt_of_lt_of_le hs hz) | skip)
        | (go_at_call 24; (with_reducible refine (hImp _).mono ?_); rintro e wr ⟨ar, nr, cr, rfl, hbr, hor⟩; have sr := hbr.size; (try simp at sr); have hI := keepCall (n := w5.heap.size) (W1 := w5) (by assumption) hbr; obtain ⟨hc, hf⟩ := bcell hbr; have hz := hbr.size; (try simp at hz); (try simp only [World.size_drew, World.cell?_drew] at hc); (try simp only [World.size_drew, World.frozen?_drew] at hf); first | (have hs := Nat.lt_of_succ_le hz) | (have hs := Nat.lt_of_lt_of_le hs hz) | skip))
    all_goals go_wp2_with fail
    all_goals go_meet
    all_goals refine ⟨⟨_, _, _, _, rfl, rfl, ?_, ?_, fun e => by have h := hor.lt _ e; (first | omega | (simp at h; done) | (simp at h; omega)), by first | omega | (simp; done) | (simp; omega)⟩, And.left (by assumption)⟩
    all_goals first | ((with_reducible refine OC.atNew hor ?_); (first | omega | (simp; done) | (simp; omega))) | ((with_reducible refine OC.at3 hor ?_ ?_) <;> (first | omega | (simp; done) | (simp; omega))) | (unfold Pv; refine ⟨?_, ?_, ?_, ?_⟩ <;> (first | omega | (simp; done) | (simp; omega) | (go_simp; done)))
  obtain ⟨⟨bo6, a6r, n6r, c6r, rfl, rfl, hP6, ho6, hne6, hbo6⟩, hb6⟩ := hcut
  obtain ⟨w6, hV6⟩ : ∃ V, V = wc := ⟨_, rfl⟩
  subst hV6
  have PA0_6 := PA0_5.below hb6
  have PA1_6 := PA1_5.below hb6
  have PV_6 := PV_5.below hb6
  have PZ_6 := PZ_5.below hb6
  have rM_6 := rM_5.below hb6
  have rK_6 := rK_5.below hb6
  have q6 : Below w.heap.size w w6 := q5.trans (hb6.mono q5.size)
  have s6 := hb6.size
  have hbl6 : bo6 < w6.heap.size := hP6.1
  have PN_6 := hP6
  have rN_6 := ho6
  have bN : ∀ k, (Value.slice a6r n6r c6r).ownBlock = some k → w5.heap.size ≤ k ∧ k < w6.heap.size := fun k hk => by have h := rN_6.lt k hk; (try simp at h); omega
  obtain ⟨uPN6a, uPN6b, uPN6c, uPN6d⟩ := id PN_6
  obtain ⟨uPV6a, uPV6b, uPV6c, uPV6d⟩ := id PV_6
  go_wp2_with fail
  refine (eqMap_any _ _ _ _ cs' _ rN_6.fc rM_6.fc (Nat.le_trans h256 (by decide))).mono ?_
  rintro e w7 ⟨rfl, hb7⟩
  have PA0_7 := PA0_6.below hb7
  have PA1_7 := PA1_6.below hb7
  have PV_7 := PV_6.below hb7
  have PZ_7 := PZ_6.below hb7
  have PN_7 := PN_6.below hb7
  have rM_7 := rM_6.below hb7
  have rK_7 := rK_6.below hb7
  have rN_7 := rN_6.below hb7
  have q7 : Below w.heap.size w w7 := q6.trans (hb7.mono q6.size)
  have s7 := hb7.size
  obtain ⟨uPZ7a, uPZ7b, uPZ7c, uPZ7d⟩ := id PZ_7
  go_wp2_with fail
  refine (heldMap_any _ _ _ _ _ _ rK_7.fc (by omega) (by omega)).mono ?_
  rintro e w8 ⟨rfl, hb8⟩
  have PA0_8 := PA0_7.below hb8
  have PA1_8 := PA1_7.below hb8
  have PV_8 := PV_7.below hb8
  have PZ_8 := PZ_7.below hb8
  have PN_8 := PN_7.below hb8
  have rM_8 := rM_7.below hb8
  have rK_8 := rK_7.below hb8
  have rN_8 := rN_7.below hb8
  have q8 : Below w.heap.size w w8 := q7.trans (hb8.mono q7.size)
  have s8 := hb8.size
  go_wp2_with fail
  go_ret
  exact ⟨rfl, q8⟩

set_option maxRecDepth 100000 in
theorem lifted (os : Os) (started : os.Started) (H : Type) (enc : TypeId × Value → H) :
    ReturnsInHanded {} Try.checked os 4 .any (Rows.fnExactPlaneMapSpec.pre6 enc Try.prog Try.f4 Rows.fnExactPlaneMapRow.domain false) (Rows.fnExactPlaneMapSpec.post enc Try.prog Try.f4 false true false false) := by
  refine returnsInHanded_of_change (C := Try.checked) own started (by kernel_rfl) Try.func4
    (ChangeSpec.witness6 (enc := enc) (C := Try.checked) false ⟨#[], #[.agg #[.float .f32 0, .float .f32 0, .float .f32 0, .float .f32 0], .agg #[.float .f32 0, .float .f32 0, .float .f32 0], .int .i64 0, .int .i64 0], []⟩ 8 (by kernel_rfl) (by kernel_rfl) (by kernel_rfl) (by kernel_rfl)) ?_
  intro W base args ds gs before hval0 hW hcnd _
  have hval : ∀ (j : Nat) t v, Try.f4.params[j]? = some t → args[j]? = some v → Value.okWide Try.prog W .any base t v := hval0
  have hW' := hW
  obtain ⟨p, q, hA0, hV, rfl, hfz, hnd⟩ := hW
  have hA : DataW.TrodAll enc Try.prog W 0 (fun _ => true) true Try.f4.params.toList args.toList ds p := hA0
  rw [Try.params4] at hA hval
  obtain ⟨v0, vs0, d0, ds0, p0, q0, hargs, rfl, rfl, h0, r0⟩ := trodAll_cons hA
  obtain ⟨v1, vs1, d1, ds1, p1, q1, rfl, rfl, rfl, h1, r1⟩ := trodAll_cons r0
  obtain ⟨v2, vs2, d2, ds2, p2, q2, rfl, rfl, rfl, h2, r2⟩ := trodAll_cons r1
  obtain ⟨v3, vs3, d3, ds3, p3, q3, rfl, rfl, rfl, h3, r3⟩ := trodAll_cons r2
  obtain ⟨rfl, rfl, rfl⟩ := trodAll_nil r3
  obtain rfl : args = #[v0, v1, v2, v3] := by cases args; simp_all
  obtain ⟨rfl, rfl⟩ := trodVars_none hV
  have k0 := h0
  have lt0 : ∀ x ∈ p0, x.block < W.heap.size := by obtain ⟨m, hm⟩ := k0; exact DataW.trod_lt m _ _ _ hm
  have k1 := h1
  have lt1 : ∀ x ∈ p1, x.block < W.heap.size := by obtain ⟨m, hm⟩ := k1; exact DataW.trod_lt m _ _ _ hm
  have k2 := h2
  have lt2 : ∀ x ∈ p2, x.block < W.heap.size := by obtain ⟨m, hm⟩ := k2; exact DataW.trod_lt m _ _ _ hm
  have k3 := h3
  have lt3 : ∀ x ∈ p3, x.block < W.heap.size := by obtain ⟨m, hm⟩ := k3; exact DataW.trod_lt m _ _ _ hm
  obtain ⟨fo0, ba0, mx0, my0, rfl, wf0, wb0, wx0, wy0⟩ := cam_of Try.underlying24 (by kernel_rfl) (by kernel_rfl) Try.underlying22 Try.underlying22 Try.underlying22 Try.underlying22 (hval 0 24 v0 rfl rfl) h0
  obtain ⟨x1, y1, z1, rfl, wx1, wy1, wz1⟩ := vec_of Try.underlying39 (by kernel_rfl) (by kernel_rfl) Try.underlying22 Try.underlying22 Try.underlying22 (hval 1 39 v1 rfl rfl) h1
  obtain ⟨a2, rfl, rfl, rfl, w2⟩ := open_int Try.underlying2 (hval 2 2 v2 rfl rfl) h2
  obtain ⟨a3, rfl, rfl, rfl, w3⟩ := open_int Try.underlying2 (hval 3 2 v3 rfl rfl) h3
  clear hA0 hval0
  refine (walk fo0 ba0 mx0 my0 x1 y1 z1 a2 a3 W wf0 wb0 wx0 wy0 wx1 wy1 wz1 w2 w3).mono fun e W' ⟨he, bel⟩ => ?_
  subst he
  exact ⟨_, rfl, _, _, _, [], _, [], hW', trodAll_mk1 (shut_bool Try.underlying4 _), (trodAll_cons_mk (Below.trod laidOut (by kernel_rfl) (of_decide_eq_true (by kernel_rfl)) k0 bel lt0) (trodAll_cons_mk (Below.trod laidOut (by kernel_rfl) (of_decide_eq_true (by kernel_rfl)) k1 bel lt1) (trodAll_cons_mk (Below.trod laidOut (by kernel_rfl) (of_decide_eq_true (by kernel_rfl)) k2 bel lt2) (trodAll_cons_mk (Below.trod laidOut (by kernel_rfl) (of_decide_eq_true (by kernel_rfl)) k3 bel lt3) trodAll_mk0)))), rfl, bel.frame _, fun h => by cases h⟩

theorem over : Rows.fnExactPlaneMapRow.holds Try.pinned (OpenSpec.ofChange Rows.fnExactPlaneMapSpec) :=
  OpenClaim.holds_of_wide 4 Try.f4 rfl rfl rfl rfl rfl rfl rfl ⟨rfl, rfl, rfl, rfl, rfl⟩ rfl rfl rfl rfl rfl (by kernel_rfl) Try.func4 (by kernel_rfl)
    (of_decide_eq_true (by kernel_rfl)) (by unfold Func.isWrapper; first | (rw [if_pos (by decide +kernel)]; kernel_rfl) | (rw [if_neg (by decide +kernel)]; exact ⟨rfl, rfl⟩))
    (fun os started H enc _ => lifted os started H enc)

theorem proved : Rows.FnExactPlaneMapSaid := over
#print axioms proved
end Go.Proofs.Ytnbilmlpngcobaa.lawFnExactPlaneMap
