/-
  For all arguments (camera, map), valid or not, the program's DepthMap answers as the model's, to the last bit, in memory of its own, and the arguments stay as they were; no condition but that they hold at most 1048576 numbers (else the law asks nothing).
-/
import Derived.Test.YtnbilmlpngcobaaBase
import Derived.Test.YtnbilmlpngcobaaPo
import Derived.Test.YtnbilmlpngcobaaVm
import Derived.Test.YtnbilmlpngcobaaCd
import Derived.Deep.DeepCutAuto
namespace Go.Proofs.Ytnbilmlpngcobaa.lawFnExactDepthMap
open Go.ChangeShapes Go.WideShapes Go.ChangeAt Go.RowKit Go.FX
open Go.ChangeMaps (open_string shut_string)
set_option linter.unusedVariables false
set_option linter.unusedSimpArgs false

set_option maxHeartbeats 16000000 in
set_option maxRecDepth 100000 in
theorem walk (fo0 ba0 mx0 my0 : Nat) (W1 H1 : Int) (a1 : Option Addr) (n1 c1 : Nat) (z1 : List Nat) (w : World) (wf0 : fo0 < width .f32) (wb0 : ba0 < width .f32) (wx0 : mx0 < width .f32) (wy0 : my0 < width .f32) (wW1 : (Lit.int .i64 W1).wf = true) (wH1 : (Lit.int .i64 H1).wf = true) (w1 : FS w (.slice a1 n1 c1) z1) :
    Calls Try.prog 3 #[.agg #[.float .f32 fo0, .float .f32 ba0, .float .f32 mx0, .float .f32 my0], .agg #[.int .i64 W1, .int .i64 H1, .slice a1 n1 c1]] w fun e w' => e = .returned (.bool true) ∧ Below w.heap.size w w' := by
  have hv1 : FC w (.slice a1 n1 c1) (z1.map (cn .f32)) := FC.of w1
  generalize z1.map (cn .f32) = cs1 at hv1
  clear w1
  obtain ⟨en1, hnc1, hcm1⟩ := hv1.sized
  have hmx1 : (n1 : Int) ≤ 9223372036854775807 := by unfold maxLen at hcm1; omega
  by_cases hlen1 : n1 ≤ 1048576
  case neg =>
    clear en1 hnc1 hcm1
    go_enter Try.func3, Try.ntmps3
    go_wp2_with fail
    refine (szMap_no _ _ _ _ _ _ _ (by omega) (by omega) hmx1).mono ?_
    rintro e v0 ⟨rfl, hc0⟩
    have y0 := hc0.size; simp only [World.size_alloc] at y0
    have x0 : Below w.heap.size w v0 := by ((repeat' (first | (refine bel_set ?_ ?_ _) | (refine bel_al ?_ ?_ _) | exact Below.refl _ _ | assumption | (refine below_drewN ?_ _) | (refine Below.drew ?_) | (refine Below.trans ?_ (Below.mono hc0 ?_)))) <;> (first | omega | (simp; done) | (simp; omega)))
    go_wp2_with fail
    go_ret
    exact ⟨rfl, x0⟩
  obtain ⟨W', H', cs', ok, hS, hImp, h256⟩ := pairDepthMap fo0 ba0 mx0 my0 wf0 wb0 W1 H1 cs1
  have hn1 : cs1.length ≤ 1048576 := by omega
  clear en1 hnc1 hcm1 hmx1
  obtain ⟨w0, hw0⟩ : ∃ u, u = ((w.alloc (.cells #[.float .f32 fo0, .float .f32 ba0, .float .f32 mx0, .float .f32 my0] 24)).alloc (.cells #[.int .i64 W1, .int .i64 H1, .slice a1 n1 c1] 27)) := ⟨_, rfl⟩
  have PA0_0 : P4 w0 (w.heap.size) fo0 ba0 mx0 my0 := by have h := (P4.new w fo0 ba0 mx0 my0 24).alloc (.cells #[.int .i64 W1, .int .i64 H1, .slice a1 n1 c1] 27); (try simp only [World.size_alloc] at h); rw [hw0]; exact h
  have PA1_0 : Pv w0 (w.heap.size + 1) W1 H1 (.slice a1 n1 c1) := by have h := (Pv.new (w.alloc (.cells #[.float .f32 fo0, .float .f32 ba0, .float .f32 mx0, .float .f32 my0] 24)) W1 H1 (.slice a1 n1 c1) 27); (try simp only [World.size_alloc] at h); rw [hw0]; exact h
  have q0 : Below w.heap.size w w0 := by rw [hw0]; ((repeat' (first | (refine bel_set ?_ ?_ _) | (refine bel_al ?_ ?_ _) | exact Below.refl _ _ | assumption | (refine below_drewN ?_ _) | (refine Below.drew ?_))) <;> (first | omega | (simp; done) | (simp; omega)))
  go_enter Try.func3, Try.ntmps3
  go_wp2_with fail
  rw [← hw0]
  clear hw0
  refine (szMap_any _ _ _ _ _ _ _ (by omega) (by omega)).mono ?_
  rintro e w1 ⟨rfl, hb1⟩
  have PA0_1 := PA0_0.below hb1
  have PA1_1 := PA1_0.below hb1
  have q1 : Below w.heap.size w w1 := q0.trans (hb1.mono q0.size)
  have s1 := hb1.size
  obtain ⟨uPA01a, uPA01b, uPA01c, uPA01d, uPA01e⟩ := id PA0_1
  obtain ⟨uPA11a, uPA11b, uPA11c, uPA11d⟩ := id PA1_1
  go_upto_region 5 with fail
  go_cut [6, 7] (fun sA sB wx => PicAt 22 w1 W' H' cs' ok sA sB wx ∧ Below w1.heap.size w1 wx)
  case first =>
    have hvK1 := hv1.below q1
    go_region_held3 (fun w' => Below w1.heap.size w1 w' ∧ w1.heap.size ≤ w'.heap.size ∧ (∀ b o, b < w1.heap.size → w'.cell? ⟨b, o, none⟩ = w1.cell? ⟨b, o, none⟩)) (first | exact keepStart _ | assumption | exact ⟨by assumption, by assumption, by assumption⟩ | exact keepCall (by assumption) (by assumption) | exact keepAlloc (by assumption) | (refine keepSet ?_ (keepSet ?_ (keepSet ?_ (keepSet ?_ ?_))) <;> first | assumption | omega | (simp; done) | (simp; omega)) | (refine keepSet ?_ (keepSet ?_ (keepSet ?_ ?_)) <;> first | assumption | omega | (simp; done) | (simp; omega)) | (refine keepSet ?_ (keepSet ?_ ?_) <;> first | assumption | omega | (simp; done) | (simp; omega)) | (refine keepSet ?_ ?_ <;> first | assumption | omega | (simp; done) | (simp; omega)))
      (first
        | (go_at_call 16; (with_reducible refine (toCamera_any _ _ _ _ _).mono ?_); rintro e wp0 ⟨rfl, hp0⟩; have hI := keepCall (n := w1.heap.size) (W1 := w1) (by assumption) hp0; obtain ⟨hc, hf⟩ := bcell hp0; have hz := hp0.size; (try simp at hz); (try simp only [World.size_drew, World.cell?_drew] at hc); (try simp only [World.size_drew, World.frozen?_drew] at hf); first | (have hs := Nat.lt_of_succ_le hz) | (have hs := Nat.lt_of_lt_of_le hs hz) | skip)
        | (go_at_call 17; (with_reducible refine (toMap_any _ _ _ cs1 _ (hvK1.below (And.left (by assumption))) hn1).mono ?_); rintro e wq ⟨aq, nq, cq, rfl, hbq, hoq⟩; have fq := hoq.fc; have sq := hbq.size; (try simp at sq); have hI := keepCall (n := w1.heap.size) (W1 := w1) (by assumption) hbq; obtain ⟨hc, hf⟩ := bcell hbq; have hz := hbq.size; (try simp at hz); (try simp only [World.size_drew, World.cell?_drew] at hc); (try simp only [World.size_drew, World.frozen?_drew] at hf); first | (have hs := Nat.lt_of_succ_le hz) | (have hs := Nat.lt_of_lt_of_le hs hz) | skip)
        | (go_at_call 15; (with_reducible refine (hS _ _ _ _ (by first | (with_reducible exact fq) | (with_reducible exact fq.alloc _))).mono ?_); rintro e wr ⟨ar, nr, cr, rfl, hbr, hor⟩; have sr := hbr.size; (try simp at sr); have hI := keepCall (n := w1.heap.size) (W1 := w1) (by assumption) hbr; obtain ⟨hc, hf⟩ := bcell hbr; have hz := hbr.size; (try simp at hz); (try simp only [World.size_drew, World.cell?_drew] at hc); (try simp only [World.size_drew, World.frozen?_drew] at hf); first | (have hs := Nat.lt_of_succ_le hz) | (have hs := Nat.lt_of_lt_of_le hs hz) | skip))
    all_goals go_wp2_with fail
    all_goals go_meet
    all_goals refine ⟨⟨_, _, _, _, rfl, rfl, ?_, ?_, fun e => by have h := hor.lt _ e; (first | omega | (simp at h; done) | (simp at h; omega)), by first | omega | (simp; done) | (simp; omega)⟩, And.left (by assumption)⟩
    all_goals first | ((with_reducible refine OC.atNew hor ?_); (first | omega | (simp; done) | (simp; omega))) | ((with_reducible refine OC.at3 hor ?_ ?_) <;> (first | omega | (simp; done) | (simp; omega))) | (unfold Pv; refine ⟨?_, ?_, ?_, ?_⟩ <;> (first | omega | (simp; done) | (simp; omega) | (go_simp; done)))
  obtain ⟨⟨bo2, a2r, n2r, c2r, rfl, rfl, hP2, ho2, hne2, hbo2⟩, hb2⟩ := hcut
  obtain ⟨w2, hV2⟩ : ∃ V, V = wc := ⟨_, rfl⟩
  subst hV2
  have PA0_2 := PA0_1.below hb2
  have PA1_2 := PA1_1.below hb2
  have q2 : Below w.heap.size w w2 := q1.trans (hb2.mono q1.size)
  have s2 := hb2.size
  have hbl2 : bo2 < w2.heap.size := hP2.1
  have PV_2 := hP2
  have rM_2 := ho2
  have bM : ∀ k, (Value.slice a2r n2r c2r).ownBlock = some k → w1.heap.size ≤ k ∧ k < w2.heap.size := fun k hk => by have h := rM_2.lt k hk; (try simp at h); omega
  have qL := q2
  obtain ⟨uPA12a, uPA12b, uPA12c, uPA12d⟩ := id PA1_2
  go_wp2_with fail
  refine (toMap_any _ _ _ cs1 _ (hv1.below q2) hn1).mono ?_
  rintro e w3 ⟨ax, nx, cx, rfl, hb3, hox⟩
  have PA0_3 := PA0_2.below hb3
  have PA1_3 := PA1_2.below hb3
  have PV_3 := PV_2.below hb3
  have rM_3 := rM_2.below hb3
  have q3 : Below w.heap.size w w3 := q2.trans (hb3.mono q2.size)
  have s3 := hb3.size
  have rX_3 := hox
  have bX : ∀ k, (Value.slice ax nx cx).ownBlock = some k → w2.heap.size ≤ k ∧ k < w3.heap.size := fun k hk => by have h := rX_3.lt k hk; (try simp at h); omega
  obtain ⟨w4, hw4⟩ : ∃ u, u = w3.alloc (.cells #[.int .i64 W1, .int .i64 H1, .slice ax nx cx] 29) := ⟨_, rfl⟩
  have hb4 : Below w3.heap.size w3 w4 := by rw [hw4]; exact below1 _ _
  have PA0_4 := PA0_3.below hb4
  have PA1_4 := PA1_3.below hb4
  have PV_4 := PV_3.below hb4
  have rM_4 := rM_3.below hb4
  have rX_4 := rX_3.below hb4
  have q4 : Below w.heap.size w w4 := q3.trans (hb4.mono q3.size)
  have s4 := hb4.size
  have PY_4 : Pv w4 w3.heap.size W1 H1 (.slice ax nx cx) := by rw [hw4]; exact Pv.new _ _ _ _ _
  obtain ⟨uPA04a, uPA04b, uPA04c, uPA04d, uPA04e⟩ := id PA0_4
  obtain ⟨uPA14a, uPA14b, uPA14c, uPA14d⟩ := id PA1_4
  obtain ⟨uPY4a, uPY4b, uPY4c, uPY4d⟩ := id PY_4
  go_upto_region 7 with fail
  rw [← hw4]
  clear hw4
  obtain ⟨uPA04a, uPA04b, uPA04c, uPA04d, uPA04e⟩ := id PA0_4
  obtain ⟨uPA14a, uPA14b, uPA14c, uPA14d⟩ := id PA1_4
  obtain ⟨uPY4a, uPY4b, uPY4c, uPY4d⟩ := id PY_4
  go_cut [9, 10] (fun sA sB wx => PicAt 22 w4 W' H' cs' ok sA sB wx ∧ Below w4.heap.size w4 wx)
  case first =>
    have hvK1 := hv1.below q4
    have rXK := rX_4.fc
    go_region_held3 (fun w' => Below w4.heap.size w4 w' ∧ w4.heap.size ≤ w'.heap.size ∧ (∀ b o, b < w4.heap.size → w'.cell? ⟨b, o, none⟩ = w4.cell? ⟨b, o, none⟩)) (first | exact keepStart _ | assumption | exact ⟨by assumption, by assumption, by assumption⟩ | exact keepCall (by assumption) (by assumption) | exact keepAlloc (by assumption) | (refine keepSet ?_ (keepSet ?_ (keepSet ?_ (keepSet ?_ ?_))) <;> first | assumption | omega | (simp; done) | (simp; omega)) | (refine keepSet ?_ (keepSet ?_ (keepSet ?_ ?_)) <;> first | assumption | omega | (simp; done) | (simp; omega)) | (refine keepSet ?_ (keepSet ?_ ?_) <;> first | assumption | omega | (simp; done) | (simp; omega)) | (refine keepSet ?_ ?_ <;> first | assumption | omega | (simp; done) | (simp; omega)))
      (first
        | (go_at_call 16; (with_reducible refine (toCamera_any _ _ _ _ _).mono ?_); rintro e wp0 ⟨rfl, hp0⟩; have hI := keepCall (n := w4.heap.size) (W1 := w4) (by assumption) hp0; obtain ⟨hc, hf⟩ := bcell hp0; have hz := hp0.size; (try simp at hz); (try simp only [World.size_drew, World.cell?_drew] at hc); (try simp only [World.size_drew, World.frozen?_drew] at hf); first | (have hs := Nat.lt_of_succ_le hz) | (have hs := Nat.lt_of_lt_of_le hs hz) | skip)
        | (go_at_call 18; (with_reducible refine (hImp _ _ _ _ (rXK.below (And.left (by assumption)))).mono ?_); rintro e wr ⟨ar, nr, cr, rfl, hbr, hor⟩; have sr := hbr.size; (try simp at sr); have hI := keepCall (n := w4.heap.size) (W1 := w4) (by assumption) hbr; obtain ⟨hc, hf⟩ := bcell hbr; have hz := hbr.size; (try simp at hz); (try simp only [World.size_drew, World.cell?_drew] at hc); (try simp only [World.size_drew, World.frozen?_drew] at hf); first | (have hs := Nat.lt_of_succ_le hz) | (have hs := Nat.lt_of_lt_of_le hs hz) | skip))
    all_goals go_wp2_with fail
    all_goals go_meet
    all_goals refine ⟨⟨_, _, _, _, rfl, rfl, ?_, ?_, fun e => by have h := hor.lt _ e; (first | omega | (simp at h; done) | (simp at h; omega)), by first | omega | (simp; done) | (simp; omega)⟩, And.left (by assumption)⟩
    all_goals first | ((with_reducible refine OC.atNew hor ?_); (first | omega | (simp; done) | (simp; omega))) | ((with_reducible refine OC.at3 hor ?_ ?_) <;> (first | omega | (simp; done) | (simp; omega))) | (unfold Pv; refine ⟨?_, ?_, ?_, ?_⟩ <;> (first | omega | (simp; done) | (simp; omega) | (go_simp; done)))
  obtain ⟨⟨bo5, a5r, n5r, c5r, rfl, rfl, hP5, ho5, hne5, hbo5⟩, hb5⟩ := hcut
  obtain ⟨w5, hV5⟩ : ∃ V, V = wc := ⟨_, rfl⟩
  subst hV5
  have PA0_5 := PA0_4.below hb5
  have PA1_5 := PA1_4.below hb5
  have PV_5 := PV_4.below hb5
  have PY_5 := PY_4.below hb5
  have rM_5 := rM_4.below hb5
  have rX_5 := rX_4.below hb5
  have q5 : Below w.heap.size w w5 := q4.trans (hb5.mono q4.size)
  have s5 := hb5.size
  have hbl5 : bo5 < w5.heap.size := hP5.1
  have PZ_5 := hP5
  have rG_5 := ho5
  have bG : ∀ k, (Value.slice a5r n5r c5r).ownBlock = some k → w4.heap.size ≤ k ∧ k < w5.heap.size := fun k hk => by have h := rG_5.lt k hk; (try simp at h); omega
  obtain ⟨uPZ5a, uPZ5b, uPZ5c, uPZ5d⟩ := id PZ_5
  obtain ⟨uPV5a, uPV5b, uPV5c, uPV5d⟩ := id PV_5
  go_wp2_with fail
  refine (eqMap_any _ _ _ _ cs' _ rG_5.fc rM_5.fc (Nat.le_trans h256 (by decide))).mono ?_
  rintro e w6 ⟨rfl, hb6⟩
  have PA0_6 := PA0_5.below hb6
  have PA1_6 := PA1_5.below hb6
  have PV_6 := PV_5.below hb6
  have PY_6 := PY_5.below hb6
  have PZ_6 := PZ_5.below hb6
  have rM_6 := rM_5.below hb6
  have rX_6 := rX_5.below hb6
  have rG_6 := rG_5.below hb6
  have q6 : Below w.heap.size w w6 := q5.trans (hb6.mono q5.size)
  have s6 := hb6.size
  obtain ⟨uPY6a, uPY6b, uPY6c, uPY6d⟩ := id PY_6
  obtain ⟨uPA16a, uPA16b, uPA16c, uPA16d⟩ := id PA1_6
  go_wp2_with fail
  go_region_held3 (fun w' => Below w6.heap.size w6 w' ∧ w6.heap.size ≤ w'.heap.size ∧ (∀ b o, b < w6.heap.size → w'.cell? ⟨b, o, none⟩ = w6.cell? ⟨b, o, none⟩)) (first | exact keepStart _ | assumption | exact ⟨by assumption, by assumption, by assumption⟩ | exact keepCall (by assumption) (by assumption) | exact keepAlloc (by assumption) | (refine keepSet ?_ (keepSet ?_ (keepSet ?_ (keepSet ?_ ?_))) <;> first | assumption | omega | (simp; done) | (simp; omega)) | (refine keepSet ?_ (keepSet ?_ (keepSet ?_ ?_)) <;> first | assumption | omega | (simp; done) | (simp; omega)) | (refine keepSet ?_ (keepSet ?_ ?_) <;> first | assumption | omega | (simp; done) | (simp; omega)) | (refine keepSet ?_ ?_ <;> first | assumption | omega | (simp; done) | (simp; omega)))
    (first
      | (go_at_call 17; refine (toMap_any _ _ _ cs1 _ ((hv1.below q6).drewN 1) hn1).mono ?_; rintro e wz ⟨az, nz, cz, rfl, hbz, hoz⟩; have fz := ((rX_6.drewN 1).below hbz); have hI := keepCall (n := w6.heap.size) (W1 := w6) (by assumption) hbz; obtain ⟨hc, hf⟩ := bcell hbz; have hz := hbz.size; (try simp at hz); (try simp only [World.size_drew, World.cell?_drew] at hc); (try simp only [World.size_drew, World.frozen?_drew] at hf); first | (have hs := Nat.lt_of_succ_le hz) | (have hs := Nat.lt_of_lt_of_le hs hz) | skip)
      | (go_at_call 19; refine (eqMap_any _ _ _ _ cs1 _ fz.fc hoz.fc hn1).mono ?_; rintro e w7 ⟨rfl, hby⟩; have hI := keepCall (n := w6.heap.size) (W1 := w6) (by assumption) hby; obtain ⟨hc, hf⟩ := bcell hby; have hz := hby.size; (try simp at hz); (try simp only [World.size_drew, World.cell?_drew] at hc); (try simp only [World.size_drew, World.frozen?_drew] at hf); first | (have hs := Nat.lt_of_succ_le hz) | (have hs := Nat.lt_of_lt_of_le hs hz) | skip))
  have hb7 : Below w6.heap.size w6 w7 := And.left (by assumption)
  have PA0_7 := PA0_6.below hb7
  have PA1_7 := PA1_6.below hb7
  have PV_7 := PV_6.below hb7
  have PY_7 := PY_6.below hb7
  have PZ_7 := PZ_6.below hb7
  have rM_7 := rM_6.below hb7
  have rX_7 := rX_6.below hb7
  have rG_7 := rG_6.below hb7
  have q7 : Below w.heap.size w w7 := q6.trans (hb7.mono q6.size)
  have s7 := hb7.size
  obtain ⟨uPY7a, uPY7b, uPY7c, uPY7d⟩ := id PY_7
  go_wp2_with fail
  refine (markMap_any _ _ _ _ _ _ _ rX_7 (by omega) (by omega)).mono ?_
  rintro e w8 ⟨rfl, hg8, _⟩
  have PA0_8 := PA0_7.kept hg8 (fun e => by have := bX _ e; omega)
  have PA1_8 := PA1_7.kept hg8 (fun e => by have := bX _ e; omega)
  have PV_8 := PV_7.kept hg8 (fun e => by have := bX _ e; omega)
  have PY_8 := PY_7.kept hg8 (fun e => by have := bX _ e; omega)
  have PZ_8 := PZ_7.kept hg8 (fun e => by have := bX _ e; omega)
  have rM_8 := rM_7.kept hg8 (own_sep fun k hk k' hk' => by have := bM k hk; have := bX k' hk'; omega)
  have rG_8 := rG_7.kept hg8 (own_sep fun k hk k' hk' => by have := bG k hk; have := bX k' hk'; omega)
  have s8 := hg8.size
  have q8 := q7.grown hg8 q7.size (fun k hk => by have := bX k hk; have := qL.size; omega)
  obtain ⟨uPZ8a, uPZ8b, uPZ8c, uPZ8d⟩ := id PZ_8
  obtain ⟨uPV8a, uPV8b, uPV8c, uPV8d⟩ := id PV_8
  go_wp2_with fail
  refine (eqMap_any _ _ _ _ cs' _ rG_8.fc rM_8.fc (Nat.le_trans h256 (by decide))).mono ?_
  rintro e w9 ⟨rfl, hb9⟩
  have PA0_9 := PA0_8.below hb9
  have PA1_9 := PA1_8.below hb9
  have PV_9 := PV_8.below hb9
  have PY_9 := PY_8.below hb9
  have PZ_9 := PZ_8.below hb9
  have rM_9 := rM_8.below hb9
  have rG_9 := rG_8.below hb9
  have q9 : Below w.heap.size w w9 := q8.trans (hb9.mono q8.size)
  have s9 := hb9.size
  obtain ⟨uPZ9a, uPZ9b, uPZ9c, uPZ9d⟩ := id PZ_9
  go_wp2_with fail
  refine (markMap_any _ _ _ _ _ _ _ rG_9 (by omega) (by omega)).mono ?_
  rintro e w10 ⟨rfl, hg10, hok10⟩
  have PA0_10 := PA0_9.kept hg10 (fun e => by have := bG _ e; omega)
  have PA1_10 := PA1_9.kept hg10 (fun e => by have := bG _ e; omega)
  have PV_10 := PV_9.kept hg10 (fun e => by have := bG _ e; omega)
  have PY_10 := PY_9.kept hg10 (fun e => by have := bG _ e; omega)
  have PZ_10 := PZ_9.kept hg10 hne5
  have rM_10 := rM_9.kept hg10 (own_sep fun k hk k' hk' => by have := bM k hk; have := bG k' hk'; omega)
  have s10 := hg10.size
  have q10 := q9.grown hg10 q9.size (fun k hk => by have := bG k hk; have := qL.size; omega)
  have rK_10 := hok10
  obtain ⟨uPZ10a, uPZ10b, uPZ10c, uPZ10d⟩ := id PZ_10
  go_wp2_with fail
  refine (heldMap_any _ _ _ _ _ _ rK_10.fc (by omega) (by omega)).mono ?_
  rintro e w11 ⟨rfl, hb11⟩
  have PA0_11 := PA0_10.below hb11
  have PA1_11 := PA1_10.below hb11
  have PV_11 := PV_10.below hb11
  have PY_11 := PY_10.below hb11
  have PZ_11 := PZ_10.below hb11
  have rM_11 := rM_10.below hb11
  have rK_11 := rK_10.below hb11
  have q11 : Below w.heap.size w w11 := q10.trans (hb11.mono q10.size)
  have s11 := hb11.size
  obtain ⟨uPA011a, uPA011b, uPA011c, uPA011d, uPA011e⟩ := id PA0_11
  obtain ⟨uPA111a, uPA111b, uPA111c, uPA111d⟩ := id PA1_11
  go_upto_region 24 with fail
  go_cut [14, 15] (fun sA sB wx => PicAt 22 w11 W' H' cs' ok sA sB wx ∧ Below w11.heap.size w11 wx)
  case first =>
    have hvK1 := hv1.below q11
    go_region_held3 (fun w' => Below w11.heap.size w11 w' ∧ w11.heap.size ≤ w'.heap.size ∧ (∀ b o, b < w11.heap.size → w'.cell? ⟨b, o, none⟩ = w11.cell? ⟨b, o, none⟩)) (first | exact keepStart _ | assumption | exact ⟨by assumption, by assumption, by assumption⟩ | exact keepCall (by assumption) (by assumption) | exact keepAlloc (by assumption) | (refine keepSet ?_ (keepSet ?_ (keepSet ?_ (keepSet ?_ ?_))) <;> first | assumption | omega | (simp; done) | (simp; omega)) | (refine keepSet ?_ (keepSet ?_ (keepSet ?_ ?_)) <;> first | assumption | omega | (simp; done) | (simp; omega)) | (refine keepSet ?_ (keepSet ?_ ?_) <;> first | assumption | omega | (simp; done) | (simp; omega)) | (refine keepSet ?_ ?_ <;> first | assumption | omega | (simp; done) | (simp; omega)))
      (first
        | (go_at_call 16; (with_reducible refine (toCamera_any _ _ _ _ _).mono ?_); rintro e wp0 ⟨rfl, hp0⟩; have hI := keepCall (n := w11.heap.size) (W1 := w11) (by assumption) hp0; obtain ⟨hc, hf⟩ := bcell hp0; have hz := hp0.size; (try simp at hz); (try simp only [World.size_drew, World.cell?_drew] at hc); (try simp only [World.size_drew, World.frozen?_drew] at hf); first | (have hs := Nat.lt_of_succ_le hz) | (have hs := Nat.lt_of_lt_of_le hs hz) | skip)
        | (go_at_call 17; (with_reducible refine (toMap_any _ _ _ cs1 _ (hvK1.below (And.left (by assumption))) hn1).mono ?_); rintro e wq ⟨aq, nq, cq, rfl, hbq, hoq⟩; have fq := hoq.fc; have sq := hbq.size; (try simp at sq); have hI := keepCall (n := w11.heap.size) (W1 := w11) (by assumption) hbq; obtain ⟨hc, hf⟩ := bcell hbq; have hz := hbq.size; (try simp at hz); (try simp only [World.size_drew, World.cell?_drew] at hc); (try simp only [World.size_drew, World.frozen?_drew] at hf); first | (have hs := Nat.lt_of_succ_le hz) | (have hs := Nat.lt_of_lt_of_le hs hz) | skip)
        | (go_at_call 18; (with_reducible refine (hImp _ _ _ _ (by first | (with_reducible exact fq) | (with_reducible exact fq.alloc _))).mono ?_); rintro e wr ⟨ar, nr, cr, rfl, hbr, hor⟩; have sr := hbr.size; (try simp at sr); have hI := keepCall (n := w11.heap.size) (W1 := w11) (by assumption) hbr; obtain ⟨hc, hf⟩ := bcell hbr; have hz := hbr.size; (try simp at hz); (try simp only [World.size_drew, World.cell?_drew] at hc); (try simp only [World.size_drew, World.frozen?_drew] at hf); first | (have hs := Nat.lt_of_succ_le hz) | (have hs := Nat.lt_of_lt_of_le hs hz) | skip))
    all_goals go_wp2_with fail
    all_goals go_meet
    all_goals refine ⟨⟨_, _, _, _, rfl, rfl, ?_, ?_, fun e => by have h := hor.lt _ e; (first | omega | (simp at h; done) | (simp at h; omega)), by first | omega | (simp; done) | (simp; omega)⟩, And.left (by assumption)⟩
    all_goals first | ((with_reducible refine OC.atNew hor ?_); (first | omega | (simp; done) | (simp; omega))) | ((with_reducible refine OC.at3 hor ?_ ?_) <;> (first | omega | (simp; done) | (simp; omega))) | (unfold Pv; refine ⟨?_, ?_, ?_, ?_⟩ <;> (first | omega | (simp; done) | (simp; omega) | (go_simp; done)))
  obtain ⟨⟨bo12, a12r, n12r, c12r, rfl, rfl, hP12, ho12, hne12, hbo12⟩, hb12⟩ := hcut
  obtain ⟨w12, hV12⟩ : ∃ V, V = wc := ⟨_, rfl⟩
  subst hV12
  have PA0_12 := PA0_11.below hb12
  have PA1_12 := PA1_11.below hb12
  have PV_12 := PV_11.below hb12
  have PY_12 := PY_11.below hb12
  have PZ_12 := PZ_11.below hb12
  have rM_12 := rM_11.below hb12
  have rK_12 := rK_11.below hb12
  have q12 : Below w.heap.size w w12 := q11.trans (hb12.mono q11.size)
  have s12 := hb12.size
  have hbl12 : bo12 < w12.heap.size := hP12.1
  have PN_12 := hP12
  have rN_12 := ho12
  have bN : ∀ k, (Value.slice a12r n12r c12r).ownBlock = some k → w11.heap.size ≤ k ∧ k < w12.heap.size := fun k hk => by have h := rN_12.lt k hk; (try simp at h); omega
  obtain ⟨uPN12a, uPN12b, uPN12c, uPN12d⟩ := id PN_12
  obtain ⟨uPV12a, uPV12b, uPV12c, uPV12d⟩ := id PV_12
  go_wp2_with fail
  refine (eqMap_any _ _ _ _ cs' _ rN_12.fc rM_12.fc (Nat.le_trans h256 (by decide))).mono ?_
  rintro e w13 ⟨rfl, hb13⟩
  have PA0_13 := PA0_12.below hb13
  have PA1_13 := PA1_12.below hb13
  have PV_13 := PV_12.below hb13
  have PY_13 := PY_12.below hb13
  have PZ_13 := PZ_12.below hb13
  have PN_13 := PN_12.below hb13
  have rM_13 := rM_12.below hb13
  have rK_13 := rK_12.below hb13
  have rN_13 := rN_12.below hb13
  have q13 : Below w.heap.size w w13 := q12.trans (hb13.mono q12.size)
  have s13 := hb13.size
  obtain ⟨uPZ13a, uPZ13b, uPZ13c, uPZ13d⟩ := id PZ_13
  go_wp2_with fail
  refine (heldMap_any _ _ _ _ _ _ rK_13.fc (by omega) (by omega)).mono ?_
  rintro e w14 ⟨rfl, hb14⟩
  have PA0_14 := PA0_13.below hb14
  have PA1_14 := PA1_13.below hb14
  have PV_14 := PV_13.below hb14
  have PY_14 := PY_13.below hb14
  have PZ_14 := PZ_13.below hb14
  have PN_14 := PN_13.below hb14
  have rM_14 := rM_13.below hb14
  have rK_14 := rK_13.below hb14
  have rN_14 := rN_13.below hb14
  have q14 : Below w.heap.size w w14 := q13.trans (hb14.mono q13.size)
  have s14 := hb14.size
  go_wp2_with fail
  go_ret
  exact ⟨rfl, q14⟩

set_option maxRecDepth 100000 in
theorem lifted (os : Os) (started : os.Started) (H : Type) (enc : TypeId × Value → H) :
    ReturnsInHanded {} Try.checked os 3 .any (Rows.fnExactDepthMapSpec.pre6 enc Try.prog Try.f3 Rows.fnExactDepthMapRow.domain false) (Rows.fnExactDepthMapSpec.post enc Try.prog Try.f3 false true false false) := by
  refine returnsInHanded_of_change (C := Try.checked) own started (by kernel_rfl) Try.func3
    (ChangeSpec.witness6 (enc := enc) (C := Try.checked) false ⟨#[], #[.agg #[.float .f32 0, .float .f32 0, .float .f32 0, .float .f32 0], .agg #[.int .i64 0, .int .i64 0, .slice none 0 0]], []⟩ 8 (by kernel_rfl) (by kernel_rfl) (by kernel_rfl) (by kernel_rfl)) ?_
  intro W base args ds gs before hval0 hW hcnd _
  have hval : ∀ (j : Nat) t v, Try.f3.params[j]? = some t → args[j]? = some v → Value.okWide Try.prog W .any base t v := hval0
  have hW' := hW
  obtain ⟨p, q, hA0, hV, rfl, hfz, hnd⟩ := hW
  have hA : DataW.TrodAll enc Try.prog W 0 (fun _ => true) true Try.f3.params.toList args.toList ds p := hA0
  rw [Try.params3] at hA hval
  obtain ⟨v0, vs0, d0, ds0, p0, q0, hargs, rfl, rfl, h0, r0⟩ := trodAll_cons hA
  obtain ⟨v1, vs1, d1, ds1, p1, q1, rfl, rfl, rfl, h1, r1⟩ := trodAll_cons r0
  obtain ⟨rfl, rfl, rfl⟩ := trodAll_nil r1
  obtain rfl : args = #[v0, v1] := by cases args; simp_all
  obtain ⟨rfl, rfl⟩ := trodVars_none hV
  have k0 := h0
  have lt0 : ∀ x ∈ p0, x.block < W.heap.size := by obtain ⟨m, hm⟩ := k0; exact DataW.trod_lt m _ _ _ hm
  have k1 := h1
  have lt1 : ∀ x ∈ p1, x.block < W.heap.size := by obtain ⟨m, hm⟩ := k1; exact DataW.trod_lt m _ _ _ hm
  obtain ⟨fo0, ba0, mx0, my0, rfl, wf0, wb0, wx0, wy0⟩ := cam_of Try.underlying24 (by kernel_rfl) (by kernel_rfl) Try.underlying22 Try.underlying22 Try.underlying22 Try.underlying22 (hval 0 24 v0 rfl rfl) h0
  obtain ⟨W1, H1, a1, n1, c1, z1, rfl, wW1, wH1, w1⟩ := pic_of Try.underlying27 (by kernel_rfl) (by kernel_rfl) Try.underlying2 Try.underlying2 Try.underlying25 Try.underlying22 (by kernel_rfl) (hval 1 27 v1 rfl rfl) h1
  clear hA0 hval0
  refine (walk fo0 ba0 mx0 my0 W1 H1 a1 n1 c1 z1 W wf0 wb0 wx0 wy0 wW1 wH1 w1).mono fun e W' ⟨he, bel⟩ => ?_
  subst he
  exact ⟨_, rfl, _, _, _, [], _, [], hW', trodAll_mk1 (shut_bool Try.underlying4 _), (trodAll_cons_mk (Below.trod laidOut (by kernel_rfl) (of_decide_eq_true (by kernel_rfl)) k0 bel lt0) (trodAll_cons_mk (Below.trod laidOut (by kernel_rfl) (of_decide_eq_true (by kernel_rfl)) k1 bel lt1) trodAll_mk0)), rfl, bel.frame _, fun h => by cases h⟩

theorem over : Rows.fnExactDepthMapRow.holds Try.pinned (OpenSpec.ofChange Rows.fnExactDepthMapSpec) :=
  OpenClaim.holds_of_wide 3 Try.f3 rfl rfl rfl rfl rfl rfl rfl ⟨rfl, rfl, rfl, rfl, rfl⟩ rfl rfl rfl rfl rfl (by kernel_rfl) Try.func3 (by kernel_rfl)
    (of_decide_eq_true (by kernel_rfl)) (by unfold Func.isWrapper; first | (rw [if_pos (by decide +kernel)]; kernel_rfl) | (rw [if_neg (by decide +kernel)]; exact ⟨rfl, rfl⟩))
    (fun os started H enc _ => lifted os started H enc)

theorem proved : Rows.FnExactDepthMapSaid := over
#print axioms proved
end Go.Proofs.Ytnbilmlpngcobaa.lawFnExactDepthMap
