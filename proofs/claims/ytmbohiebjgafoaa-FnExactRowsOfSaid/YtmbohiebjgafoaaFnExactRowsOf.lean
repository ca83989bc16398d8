/-
  For all arguments (picture, tile), valid or not, the program's RowsOf answers as the model's, to the last bit, in memory of its own, and the arguments stay as they were; no condition but that they hold at most 1048576 numbers (else the law asks nothing).
-/
import Derived.Test.YtmbohiebjgafoaaBase
import Derived.Test.YtmbohiebjgafoaaPo
import Derived.Test.YtmbohiebjgafoaaVm
import Derived.Test.YtmbohiebjgafoaaTd
import Derived.Deep.DeepCutAuto
namespace Go.Proofs.Ytmbohiebjgafoaa.lawFnExactRowsOf
open Go.ChangeShapes Go.WideShapes Go.ChangeAt Go.RowKit Go.FX
open Go.ChangeMaps (open_string shut_string)
set_option linter.unusedVariables false
set_option linter.unusedSimpArgs false

set_option maxHeartbeats 16000000 in
set_option maxRecDepth 100000 in
theorem walk (W0 H0 : Int) (a0 : Option Addr) (n0 c0 : Nat) (z0 : List Nat) (x1 y1 : Int) (w : World) (wW0 : (Lit.int .i64 W0).wf = true) (wH0 : (Lit.int .i64 H0).wf = true) (w0 : FS w (.slice a0 n0 c0) z0) (wx1 : (Lit.int .i64 x1).wf = true) (wy1 : (Lit.int .i64 y1).wf = true) :
    Calls Try.prog 7 #[.agg #[.int .i64 W0, .int .i64 H0, .slice a0 n0 c0], .agg #[.int .i64 x1, .int .i64 y1]] w fun e w' => e = .returned (.bool true) ∧ Below w.heap.size w w' := by
  have hv0 : FC w (.slice a0 n0 c0) (z0.map (cn .f32)) := FC.of w0
  generalize z0.map (cn .f32) = cs0 at hv0
  clear w0
  obtain ⟨en0, hnc0, hcm0⟩ := hv0.sized
  have hmx0 : (n0 : Int) ≤ 9223372036854775807 := by unfold maxLen at hcm0; omega
  by_cases hlen0 : n0 ≤ 1048576
  case neg =>
    clear en0 hnc0 hcm0
    go_enter Try.func7, Try.ntmps7
    go_wp2_with fail
    refine (szPic_no _ _ _ _ _ _ _ (by omega) (by omega) hmx0).mono ?_
    rintro e v0 ⟨rfl, hc0⟩
    have y0 := hc0.size; simp only [World.size_alloc] at y0
    have x0 : Below w.heap.size w v0 := by ((repeat' (first | (refine bel_set ?_ ?_ _) | (refine bel_al ?_ ?_ _) | exact Below.refl _ _ | assumption | (refine below_drewN ?_ _) | (refine Below.drew ?_) | (refine Below.trans ?_ (Below.mono hc0 ?_)))) <;> (first | omega | (simp; done) | (simp; omega)))
    go_wp2_with fail
    go_ret
    exact ⟨rfl, x0⟩
  obtain ⟨W', H', cs', ok, hS, hImp, h256⟩ := pairRowsOf W0 H0 cs0 x1 y1 wW0 wH0 wx1
  have hn0 : cs0.length ≤ 1048576 := by omega
  clear en0 hnc0 hcm0 hmx0
  obtain ⟨w0, hw0⟩ : ∃ u, u = ((w.alloc (.cells #[.int .i64 W0, .int .i64 H0, .slice a0 n0 c0] 41)).alloc (.cells #[.int .i64 x1, .int .i64 y1] 43)) := ⟨_, rfl⟩
  have PA0_0 : Pv w0 (w.heap.size) W0 H0 (.slice a0 n0 c0) := by have h := (Pv.new w W0 H0 (.slice a0 n0 c0) 41).alloc (.cells #[.int .i64 x1, .int .i64 y1] 43); (try simp only [World.size_alloc] at h); rw [hw0]; exact h
  have PA1_0 : Tv w0 (w.heap.size + 1) x1 y1 := by have h := (Tv.new (w.alloc (.cells #[.int .i64 W0, .int .i64 H0, .slice a0 n0 c0] 41)) x1 y1 43); (try simp only [World.size_alloc] at h); rw [hw0]; exact h
  have q0 : Below w.heap.size w w0 := by rw [hw0]; ((repeat' (first | (refine bel_set ?_ ?_ _) | (refine bel_al ?_ ?_ _) | exact Below.refl _ _ | assumption | (refine below_drewN ?_ _) | (refine Below.drew ?_))) <;> (first | omega | (simp; done) | (simp; omega)))
  go_enter Try.func7, Try.ntmps7
  go_wp2_with fail
  rw [← hw0]
  clear hw0
  refine (szPic_any _ _ _ _ _ _ _ (by omega) (by omega)).mono ?_
  rintro e w1 ⟨rfl, hb1⟩
  have PA0_1 := PA0_0.below hb1
  have PA1_1 := PA1_0.below hb1
  have q1 : Below w.heap.size w w1 := q0.trans (hb1.mono q0.size)
  have s1 := hb1.size
  obtain ⟨uPA01a, uPA01b, uPA01c, uPA01d⟩ := id PA0_1
  obtain ⟨uPA11a, uPA11b, uPA11c⟩ := id PA1_1
  go_upto_region 5 with fail
  go_cut [6, 7] (fun sA sB wx => PicAt 22 w1 W' H' cs' ok sA sB wx ∧ Below w1.heap.size w1 wx)
  case first =>
    have hvK0 := hv0.below q1
    go_region_held3 (fun w' => Below w1.heap.size w1 w' ∧ w1.heap.size ≤ w'.heap.size ∧ (∀ b o, b < w1.heap.size → w'.cell? ⟨b, o, none⟩ = w1.cell? ⟨b, o, none⟩)) (first | exact keepStart _ | assumption | exact ⟨by assumption, by assumption, by assumption⟩ | exact keepCall (by assumption) (by assumption) | exact keepAlloc (by assumption) | (refine keepSet ?_ (keepSet ?_ (keepSet ?_ (keepSet ?_ ?_))) <;> first | assumption | omega | (simp; done) | (simp; omega)) | (refine keepSet ?_ (keepSet ?_ (keepSet ?_ ?_)) <;> first | assumption | omega | (simp; done) | (simp; omega)) | (refine keepSet ?_ (keepSet ?_ ?_) <;> first | assumption | omega | (simp; done) | (simp; omega)) | (refine keepSet ?_ ?_ <;> first | assumption | omega | (simp; done) | (simp; omega)))
      (first
        | (go_at_call 26; (with_reducible refine (toTile_any _ _ _).mono ?_); rintro e wp1 ⟨rfl, hp1⟩; (try have fq : FC wp1 (.slice aq nq cq) cs0 := by first | (with_reducible exact fq.below hp1) | (with_reducible exact (fq.alloc _).below hp1)); have hI := keepCall (n := w1.heap.size) (W1 := w1) (by assumption) hp1; obtain ⟨hc, hf⟩ := bcell hp1; have hz := hp1.size; (try simp at hz); (try simp only [World.size_drew, World.cell?_drew] at hc); (try simp only [World.size_drew, World.frozen?_drew] at hf); first | (have hs := Nat.lt_of_succ_le hz) | (have hs := Nat.lt_of_lt_of_le hs hz) | skip)
        | (go_at_call 25; (with_reducible refine (toPic_any _ _ _ cs0 _ (hvK0.below (And.left (by assumption))) hn0).mono ?_); rintro e wq ⟨aq, nq, cq, rfl, hbq, hoq⟩; have fq := hoq.fc; have sq := hbq.size; (try simp at sq); have hI := keepCall (n := w1.heap.size) (W1 := w1) (by assumption) hbq; obtain ⟨hc, hf⟩ := bcell hbq; have hz := hbq.size; (try simp at hz); (try simp only [World.size_drew, World.cell?_drew] at hc); (try simp only [World.size_drew, World.frozen?_drew] at hf); first | (have hs := Nat.lt_of_succ_le hz) | (have hs := Nat.lt_of_lt_of_le hs hz) | skip)
        | (go_at_call 32; (with_reducible refine (hS _ _ _ _ (by first | (with_reducible exact fq) | (with_reducible exact fq.alloc _))).mono ?_); rintro e wr ⟨ar, nr, cr, rfl, hbr, hor⟩; have sr := hbr.size; (try simp at sr); have hI := keepCall (n := w1.heap.size) (W1 := w1) (by assumption) hbr; obtain ⟨hc, hf⟩ := bcell hbr; have hz := hbr.size; (try simp at hz); (try simp only [World.size_drew, World.cell?_drew] at hc); (try simp only [World.size_drew, World.frozen?_drew] at hf); first | (have hs := Nat.lt_of_succ_le hz) | (have hs := Nat.lt_of_lt_of_le hs hz) | skip))
    all_goals go_wp2_with fail
    all_goals go_meet
    all_goals refine ⟨⟨_, _, _, _, rfl, rfl, ?_, ?_, fun e => by have h := hor.lt _ e; (first | omega | (simp at h; done) | (simp at h; omega)), by first | omega | (simp; done) | (simp; omega)⟩, And.left (by assumption)⟩
    all_goals first | ((with_reducible refine OC.atNew hor ?_); (first | omega | (simp; done) | (simp; omega))) | ((with_reducible refine OC.at3 hor ?_ ?_) <;> (first | omega | (simp; done) | (simp; omega))) | (unfold Pv; refine ⟨?_, ?_, ?_, ?_⟩ <;> (first | omega | (simp; done) | (simp; omega) | (go_simp; done)))
  obtain ⟨⟨bo2, a2r, n2r, c2r, rfl, rfl, hP2, ho2, hne2, hbo2⟩, hb2⟩ := hcut
  obtain ⟨w2, hV2⟩ : ∃ V, V = wc := ⟨_, rfl⟩
  subst hV2
  have PA0_2 := PA0_1.below hb2
  have PA1_2 := PA1_1.below hb2
  have q2 : Below w.heap.size w w2 := q1.trans (hb2.mono q1.size)
  have s2 := hb2.size
  have hbl2 : bo2 < w2.heap.size := hP2.1
  have PV_2 := hP2
  have rM_2 := ho2
  have bM : ∀ k, (Value.slice a2r n2r c2r).ownBlock = some k → w1.heap.size ≤ k ∧ k < w2.heap.size := fun k hk => by have h := rM_2.lt k hk; (try simp at h); omega
  have qL := q2
  obtain ⟨uPA02a, uPA02b, uPA02c, uPA02d⟩ := id PA0_2
  go_wp2_with fail
  refine (toPic_any _ _ _ cs0 _ (hv0.below q2) hn0).mono ?_
  rintro e w3 ⟨ax, nx, cx, rfl, hb3, hox⟩
  have PA0_3 := PA0_2.below hb3
  have PA1_3 := PA1_2.below hb3
  have PV_3 := PV_2.below hb3
  have rM_3 := rM_2.below hb3
  have q3 : Below w.heap.size w w3 := q2.trans (hb3.mono q2.size)
  have s3 := hb3.size
  have rX_3 := hox
  have bX : ∀ k, (Value.slice ax nx cx).ownBlock = some k → w2.heap.size ≤ k ∧ k < w3.heap.size := fun k hk => by have h := rX_3.lt k hk; (try simp at h); omega
  obtain ⟨w4, hw4⟩ : ∃ u, u = w3.alloc (.cells #[.int .i64 W0, .int .i64 H0, .slice ax nx cx] 46) := ⟨_, rfl⟩
  have hb4 : Below w3.heap.size w3 w4 := by rw [hw4]; exact below1 _ _
  have PA0_4 := PA0_3.below hb4
  have PA1_4 := PA1_3.below hb4
  have PV_4 := PV_3.below hb4
  have rM_4 := rM_3.below hb4
  have rX_4 := rX_3.below hb4
  have q4 : Below w.heap.size w w4 := q3.trans (hb4.mono q3.size)
  have s4 := hb4.size
  have PY_4 : Pv w4 w3.heap.size W0 H0 (.slice ax nx cx) := by rw [hw4]; exact Pv.new _ _ _ _ _
  obtain ⟨uPA04a, uPA04b, uPA04c, uPA04d⟩ := id PA0_4
  obtain ⟨uPA14a, uPA14b, uPA14c⟩ := id PA1_4
  obtain ⟨uPY4a, uPY4b, uPY4c, uPY4d⟩ := id PY_4
  go_upto_region 7 with fail
  rw [← hw4]
  clear hw4
  obtain ⟨uPA04a, uPA04b, uPA04c, uPA04d⟩ := id PA0_4
  obtain ⟨uPA14a, uPA14b, uPA14c⟩ := id PA1_4
  obtain ⟨uPY4a, uPY4b, uPY4c, uPY4d⟩ := id PY_4
  go_cut [9, 10] (fun sA sB wx => PicAt 22 w4 W' H' cs' ok sA sB wx ∧ Below w4.heap.size w4 wx)
  case first =>
    have hvK0 := hv0.below q4
    have rXK := rX_4.fc
    go_region_held3 (fun w' => Below w4.heap.size w4 w' ∧ w4.heap.size ≤ w'.heap.size ∧ (∀ b o, b < w4.heap.size → w'.cell? ⟨b, o, none⟩ = w4.cell? ⟨b, o, none⟩)) (first | exact keepStart _ | assumption | exact ⟨by assumption, by assumption, by assumption⟩ | exact keepCall (by assumption) (by assumption) | exact keepAlloc (by assumption) | (refine keepSet ?_ (keepSet ?_ (keepSet ?_ (keepSet ?_ ?_))) <;> first | assumption | omega | (simp; done) | (simp; omega)) | (refine keepSet ?_ (keepSet ?_ (keepSet ?_ ?_)) <;> first | assumption | omega | (simp; done) | (simp; omega)) | (refine keepSet ?_ (keepSet ?_ ?_) <;> first | assumption | omega | (simp; done) | (simp; omega)) | (refine keepSet ?_ ?_ <;> first | assumption | omega | (simp; done) | (simp; omega)))
      (first
        | (go_at_call 26; (with_reducible refine (toTile_any _ _ _).mono ?_); rintro e wp1 ⟨rfl, hp1⟩; have hI := keepCall (n := w4.heap.size) (W1 := w4) (by assumption) hp1; obtain ⟨hc, hf⟩ := bcell hp1; have hz := hp1.size; (try simp at hz); (try simp only [World.size_drew, World.cell?_drew] at hc); (try simp only [World.size_drew, World.frozen?_drew] at hf); first | (have hs := Nat.lt_of_succ_le hz) | (have hs := Nat.lt_of_lt_of_le hs hz) | skip)
        | (go_at_call 33; (with_reducible refine (hImp _ _ _ _ (rXK.below (And.left (by assumption)))).mono ?_); rintro e wr ⟨ar, nr, cr, rfl, hbr, hor⟩; have sr := hbr.size; (try simp at sr); have hI := keepCall (n := w4.heap.size) (W1 := w4) (by assumption) hbr; obtain ⟨hc, hf⟩ := bcell hbr; have hz := hbr.size; (try simp at hz); (try simp only [World.size_drew, World.cell?_drew] at hc); (try simp only [World.size_drew, World.frozen?_drew] at hf); first | (have hs := Nat.lt_of_succ_le hz) | (have hs := Nat.lt_of_lt_of_le hs hz) | skip))
    all_goals go_wp2_with fail
    all_goals go_meet
    all_goals refine ⟨⟨_, _, _, _, rfl, rfl, ?_, ?_, fun e => by have h := hor.lt _ e; (first | omega | (simp at h; done) | (simp at h; omega)), by first | omega | (simp; done) | (simp; omega)⟩, And.left (by assumption)⟩
    all_goals first | ((with_reducible refine OC.atNew hor ?_); (first | omega | (simp; done) | (simp; omega))) | ((with_reducible refine OC.at3 hor ?_ ?_) <;> (first | omega | (simp; done) | (simp; omega))) | (unfold Pv; refine ⟨?_, ?_, ?_, ?_⟩ <;> (first | omega | (simp; done) | (simp; omega) | (go_simp; done)))
  obtain ⟨⟨bo5, a5r, n5r, c5r, rfl, rfl, hP5, ho5, hne5, hbo5⟩, hb5⟩ := hcut
  obtain ⟨w5, hV5⟩ : ∃ V, V = wc := ⟨_, rfl⟩
  subst hV5
  have PA0_5 := PA0_4.below hb5
  have PA1_5 := PA1_4.below hb5
  have PV_5 := PV_4.below hb5
  have PY_5 := PY_4.below hb5
  have rM_5 := rM_4.below hb5
  have rX_5 := rX_4.below hb5
  have q5 : Below w.heap.size w w5 := q4.trans (hb5.mono q4.size)
  have s5 := hb5.size
  have hbl5 : bo5 < w5.heap.size := hP5.1
  have PZ_5 := hP5
  have rG_5 := ho5
  have bG : ∀ k, (Value.slice a5r n5r c5r).ownBlock = some k → w4.heap.size ≤ k ∧ k < w5.heap.size := fun k hk => by have h := rG_5.lt k hk; (try simp at h); omega
  obtain ⟨uPZ5a, uPZ5b, uPZ5c, uPZ5d⟩ := id PZ_5
  obtain ⟨uPV5a, uPV5b, uPV5c, uPV5d⟩ := id PV_5
  go_wp2_with fail
  refine (eqPic_any _ _ _ _ cs' _ rG_5.fc rM_5.fc (Nat.le_trans h256 (by decide))).mono ?_
  rintro e w6 ⟨rfl, hb6⟩
  have PA0_6 := PA0_5.below hb6
  have PA1_6 := PA1_5.below hb6
  have PV_6 := PV_5.below hb6
  have PY_6 := PY_5.below hb6
  have PZ_6 := PZ_5.below hb6
  have rM_6 := rM_5.below hb6
  have rX_6 := rX_5.below hb6
  have rG_6 := rG_5.below hb6
  have q6 : Below w.heap.size w w6 := q5.trans (hb6.mono q5.size)
  have s6 := hb6.size
  obtain ⟨uPY6a, uPY6b, uPY6c, uPY6d⟩ := id PY_6
  obtain ⟨uPA06a, uPA06b, uPA06c, uPA06d⟩ := id PA0_6
  go_wp2_with fail
  go_region_held3 (fun w' => Below w6.heap.size w6 w' ∧ w6.heap.size ≤ w'.heap.size ∧ (∀ b o, b < w6.heap.size → w'.cell? ⟨b, o, none⟩ = w6.cell? ⟨b, o, none⟩)) (first | exact keepStart _ | assumption | exact ⟨by assumption, by assumption, by assumption⟩ | exact keepCall (by assumption) (by assumption) | exact keepAlloc (by assumption) | (refine keepSet ?_ (keepSet ?_ (keepSet ?_ (keepSet ?_ ?_))) <;> first | assumption | omega | (simp; done) | (simp; omega)) | (refine keepSet ?_ (keepSet ?_ (keepSet ?_ ?_)) <;> first | assumption | omega | (simp; done) | (simp; omega)) | (refine keepSet ?_ (keepSet ?_ ?_) <;> first | assumption | omega | (simp; done) | (simp; omega)) | (refine keepSet ?_ ?_ <;> first | assumption | omega | (simp; done) | (simp; omega)))
    (first
      | (go_at_call 25; refine (toPic_any _ _ _ cs0 _ ((hv0.below q6).drewN 1) hn0).mono ?_; rintro e wz ⟨az, nz, cz, rfl, hbz, hoz⟩; have fz := ((rX_6.drewN 1).below hbz); have hI := keepCall (n := w6.heap.size) (W1 := w6) (by assumption) hbz; obtain ⟨hc, hf⟩ := bcell hbz; have hz := hbz.size; (try simp at hz); (try simp only [World.size_drew, World.cell?_drew] at hc); (try simp only [World.size_drew, World.frozen?_drew] at hf); first | (have hs := Nat.lt_of_succ_le hz) | (have hs := Nat.lt_of_lt_of_le hs hz) | skip)
      | (go_at_call 28; refine (eqPic_any _ _ _ _ cs0 _ fz.fc hoz.fc hn0).mono ?_; rintro e w7 ⟨rfl, hby⟩; have hI := keepCall (n := w6.heap.size) (W1 := w6) (by assumption) hby; obtain ⟨hc, hf⟩ := bcell hby; have hz := hby.size; (try simp at hz); (try simp only [World.size_drew, World.cell?_drew] at hc); (try simp only [World.size_drew, World.frozen?_drew] at hf); first | (have hs := Nat.lt_of_succ_le hz) | (have hs := Nat.lt_of_lt_of_le hs hz) | skip))
  have hb7 : Below w6.heap.size w6 w7 := And.left (by assumption)
  have PA0_7 := PA0_6.below hb7
  have PA1_7 := PA1_6.below hb7
  have PV_7 := PV_6.below hb7
  have PY_7 := PY_6.below hb7
  have PZ_7 := PZ_6.below hb7
  have rM_7 := rM_6.below hb7
  have rX_7 := rX_6.below hb7
  have rG_7 := rG_6.below hb7
  have q7 : Below w.heap.size w w7 := q6.trans (hb7.mono q6.size)
  have s7 := hb7.size
  obtain ⟨uPY7a, uPY7b, uPY7c, uPY7d⟩ := id PY_7
  go_wp2_with fail
  refine (markPic_any _ _ _ _ _ _ _ rX_7 (by omega) (by omega)).mono ?_
  rintro e w8 ⟨rfl, hg8, _⟩
  have PA0_8 := PA0_7.kept hg8 (fun e => by have := bX _ e; omega)
  have PA1_8 := PA1_7.kept hg8 (fun e => by have := bX _ e; omega)
  have PV_8 := PV_7.kept hg8 (fun e => by have := bX _ e; omega)
  have PY_8 := PY_7.kept hg8 (fun e => by have := bX _ e; omega)
  have PZ_8 := PZ_7.kept hg8 (fun e => by have := bX _ e; omega)
  have rM_8 := rM_7.kept hg8 (own_sep fun k hk k' hk' => by have := bM k hk; have := bX k' hk'; omega)
  have rG_8 := rG_7.kept hg8 (own_sep fun k hk k' hk' => by have := bG k hk; have := bX k' hk'; omega)
  have s8 := hg8.size
  have q8 := q7.grown hg8 q7.size (fun k hk => by have := bX k hk; have := qL.size; omega)
  obtain ⟨uPZ8a, uPZ8b, uPZ8c, uPZ8d⟩ := id PZ_8
  obtain ⟨uPV8a, uPV8b, uPV8c, uPV8d⟩ := id PV_8
  go_wp2_with fail
  refine (eqPic_any _ _ _ _ cs' _ rG_8.fc rM_8.fc (Nat.le_trans h256 (by decide))).mono ?_
  rintro e w9 ⟨rfl, hb9⟩
  have PA0_9 := PA0_8.below hb9
  have PA1_9 := PA1_8.below hb9
  have PV_9 := PV_8.below hb9
  have PY_9 := PY_8.below hb9
  have PZ_9 := PZ_8.below hb9
  have rM_9 := rM_8.below hb9
  have rG_9 := rG_8.below hb9
  have q9 : Below w.heap.size w w9 := q8.trans (hb9.mono q8.size)
  have s9 := hb9.size
  obtain ⟨uPZ9a, uPZ9b, uPZ9c, uPZ9d⟩ := id PZ_9
  go_wp2_with fail
  refine (markPic_any _ _ _ _ _ _ _ rG_9 (by omega) (by omega)).mono ?_
  rintro e w10 ⟨rfl, hg10, hok10⟩
  have PA0_10 := PA0_9.kept hg10 (fun e => by have := bG _ e; omega)
  have PA1_10 := PA1_9.kept hg10 (fun e => by have := bG _ e; omega)
  have PV_10 := PV_9.kept hg10 (fun e => by have := bG _ e; omega)
  have PY_10 := PY_9.kept hg10 (fun e => by have := bG _ e; omega)
  have PZ_10 := PZ_9.kept hg10 hne5
  have rM_10 := rM_9.kept hg10 (own_sep fun k hk k' hk' => by have := bM k hk; have := bG k' hk'; omega)
  have s10 := hg10.size
  have q10 := q9.grown hg10 q9.size (fun k hk => by have := bG k hk; have := qL.size; omega)
  have rK_10 := hok10
  obtain ⟨uPZ10a, uPZ10b, uPZ10c, uPZ10d⟩ := id PZ_10
  go_wp2_with fail
  refine (heldPic_any _ _ _ _ _ _ rK_10.fc (by omega) (by omega)).mono ?_
  rintro e w11 ⟨rfl, hb11⟩
  have PA0_11 := PA0_10.below hb11
  have PA1_11 := PA1_10.below hb11
  have PV_11 := PV_10.below hb11
  have PY_11 := PY_10.below hb11
  have PZ_11 := PZ_10.below hb11
  have rM_11 := rM_10.below hb11
  have rK_11 := rK_10.below hb11
  have q11 : Below w.heap.size w w11 := q10.trans (hb11.mono q10.size)
  have s11 := hb11.size
  obtain ⟨uPA011a, uPA011b, uPA011c, uPA011d⟩ := id PA0_11
  obtain ⟨uPA111a, uPA111b, uPA111c⟩ := id PA1_11
  go_upto_region 24 with fail
  go_cut [14, 15] (fun sA sB wx => PicAt 22 w11 W' H' cs' ok sA sB wx ∧ Below w11.heap.size w11 wx)
  case first =>
    have hvK0 := hv0.below q11
    go_region_held3 (fun w' => Below w11.heap.size w11 w' ∧ w11.heap.size ≤ w'.heap.size ∧ (∀ b o, b < w11.heap.size → w'.cell? ⟨b, o, none⟩ = w11.cell? ⟨b, o, none⟩)) (first | exact keepStart _ | assumption | exact ⟨by assumption, by assumption, by assumption⟩ | exact keepCall (by assumption) (by assumption) | exact keepAlloc (by assumption) | (refine keepSet ?_ (keepSet ?_ (keepSet ?_ (keepSet ?_ ?_))) <;> first | assumption | omega | (simp; done) | (simp; omega)) | (refine keepSet ?_ (keepSet ?_ (keepSet ?_ ?_)) <;> first | assumption | omega | (simp; done) | (simp; omega)) | (refine keepSet ?_ (keepSet ?_ ?_) <;> first | assumption | omega | (simp; done) | (simp; omega)) | (refine keepSet ?_ ?_ <;> first | assumption | omega | (simp; done) | (simp; omega)))
      (first
        | (go_at_call 26; (with_reducible refine (toTile_any _ _ _).mono ?_); rintro e wp1 ⟨rfl, hp1⟩; (try have fq : FC wp1 (.slice aq nq cq) cs0 := by first | (with_reducible exact fq.below hp1) | (with_reducible exact (fq.alloc _).below hp1)); have hI := keepCall (n := w11.heap.size) (W1 := w11) (by assumption) hp1; obtain ⟨hc, hf⟩ := bcell hp1; have hz := hp1.size; (try simp at hz); (try simp only [World.size_drew, World.cell?_drew] at hc); (try simp only [World.size_drew, World.frozen?_drew] at hf); first | (have hs := Nat.lt_of_succ_le hz) | (have hs := Nat.lt_of_lt_of_le hs hz) | skip)
        | (go_at_call 25; (with_reducible refine (toPic_any _ _ _ cs0 _ (hvK0.below (And.left (by assumption))) hn0).mono ?_); rintro e wq ⟨aq, nq, cq, rfl, hbq, hoq⟩; have fq := hoq.fc; have sq := hbq.size; (try simp at sq); have hI := keepCall (n := w11.heap.size) (W1 := w11) (by assumption) hbq; obtain ⟨hc, hf⟩ := bcell hbq; have hz := hbq.size; (try simp at hz); (try simp only [World.size_drew, World.cell?_drew] at hc); (try simp only [World.size_drew, World.frozen?_drew] at hf); first | (have hs := Nat.lt_of_succ_le hz) | (have hs := Nat.lt_of_lt_of_le hs hz) | skip)
        | (go_at_call 33; (with_reducible refine (hImp _ _ _ _ (by first | (with_reducible exact fq) | (with_reducible exact fq.alloc _))).mono ?_); rintro e wr ⟨ar, nr, cr, rfl, hbr, hor⟩; have sr := hbr.size; (try simp at sr); have hI := keepCall (n := w11.heap.size) (W1 := w11) (by assumption) hbr; obtain ⟨hc, hf⟩ := bcell hbr; have hz := hbr.size; (try simp at hz); (try simp only [World.size_drew, World.cell?_drew] at hc); (try simp only [World.size_drew, World.frozen?_drew] at hf); first | (have hs := Nat.lt_of_succ_le hz) | (have hs := Nat.lt_of_lt_of_le hs hz) | skip))
    all_goals go_wp2_with fail
    all_goals go_meet
    all_goals refine ⟨⟨_, _, _, _, rfl, rfl, ?_, ?_, fun e => by have h := hor.lt _ e; (first | omega | (simp at h; done) | (simp at h; omega)), by first | omega | (simp; done) | (simp; omega)⟩, And.left (by assumption)⟩
    all_goals first | ((with_reducible refine OC.atNew hor ?_); (first | omega | (simp; done) | (simp; omega))) | ((with_reducible refine OC.at3 hor ?_ ?_) <;> (first | omega | (simp; done) | (simp; omega))) | (unfold Pv; refine ⟨?_, ?_, ?_, ?_⟩ <;> (first | omega | (simp; done) | (simp; omega) | (go_simp; done)))
  obtain ⟨⟨bo12, a12r, n12r, c12r, rfl, rfl, hP12, ho12, hne12, hbo12⟩, hb12⟩ := hcut
  obtain ⟨w12, hV12⟩ : ∃ V, V = wc := ⟨_, rfl⟩
  subst hV12
  have PA0_12 := PA0_11.below hb12
  have PA1_12 := PA1_11.below hb12
  have PV_12 := PV_11.below hb12
  have PY_12 := PY_11.below hb12
  have PZ_12 := PZ_11.below hb12
  have rM_12 := rM_11.below hb12
  have rK_12 := rK_11.below hb12
  have q12 : Below w.heap.size w w12 := q11.trans (hb12.mono q11.size)
  have s12 := hb12.size
  have hbl12 : bo12 < w12.heap.size := hP12.1
  have PN_12 := hP12
  have rN_12 := ho12
  have bN : ∀ k, (Value.slice a12r n12r c12r).ownBlock = some k → w11.heap.size ≤ k ∧ k < w12.heap.size := fun k hk => by have h := rN_12.lt k hk; (try simp at h); omega
  obtain ⟨uPN12a, uPN12b, uPN12c, uPN12d⟩ := id PN_12
  obtain ⟨uPV12a, uPV12b, uPV12c, uPV12d⟩ := id PV_12
  go_wp2_with fail
  refine (eqPic_any _ _ _ _ cs' _ rN_12.fc rM_12.fc (Nat.le_trans h256 (by decide))).mono ?_
  rintro e w13 ⟨rfl, hb13⟩
  have PA0_13 := PA0_12.below hb13
  have PA1_13 := PA1_12.below hb13
  have PV_13 := PV_12.below hb13
  have PY_13 := PY_12.below hb13
  have PZ_13 := PZ_12.below hb13
  have PN_13 := PN_12.below hb13
  have rM_13 := rM_12.below hb13
  have rK_13 := rK_12.below hb13
  have rN_13 := rN_12.below hb13
  have q13 : Below w.heap.size w w13 := q12.trans (hb13.mono q12.size)
  have s13 := hb13.size
  obtain ⟨uPZ13a, uPZ13b, uPZ13c, uPZ13d⟩ := id PZ_13
  go_wp2_with fail
  refine (heldPic_any _ _ _ _ _ _ rK_13.fc (by omega) (by omega)).mono ?_
  rintro e w14 ⟨rfl, hb14⟩
  have PA0_14 := PA0_13.below hb14
  have PA1_14 := PA1_13.below hb14
  have PV_14 := PV_13.below hb14
  have PY_14 := PY_13.below hb14
  have PZ_14 := PZ_13.below hb14
  have PN_14 := PN_13.below hb14
  have rM_14 := rM_13.below hb14
  have rK_14 := rK_13.below hb14
  have rN_14 := rN_13.below hb14
  have q14 : Below w.heap.size w w14 := q13.trans (hb14.mono q13.size)
  have s14 := hb14.size
  go_wp2_with fail
  go_ret
  exact ⟨rfl, q14⟩

set_option maxRecDepth 100000 in
theorem lifted (os : Os) (started : os.Started) (H : Type) (enc : TypeId × Value → H) :
    ReturnsInHanded {} Try.checked os 7 .any (Rows.fnExactRowsOfSpec.pre6 enc Try.prog Try.f7 Rows.fnExactRowsOfRow.domain false) (Rows.fnExactRowsOfSpec.post enc Try.prog Try.f7 false true false false) := by
  refine returnsInHanded_of_change (C := Try.checked) own started (by kernel_rfl) Try.func7
    (ChangeSpec.witness6 (enc := enc) (C := Try.checked) false ⟨#[], #[.agg #[.int .i64 0, .int .i64 0, .slice none 0 0], .agg #[.int .i64 0, .int .i64 0]], []⟩ 8 (by kernel_rfl) (by kernel_rfl) (by kernel_rfl) (by kernel_rfl)) ?_
  intro W base args ds gs before hval0 hW hcnd _
  have hval : ∀ (j : Nat) t v, Try.f7.params[j]? = some t → args[j]? = some v → Value.okWide Try.prog W .any base t v := hval0
  have hW' := hW
  obtain ⟨p, q, hA0, hV, rfl, hfz, hnd⟩ := hW
  have hA : DataW.TrodAll enc Try.prog W 0 (fun _ => true) true Try.f7.params.toList args.toList ds p := hA0
  rw [Try.params7] at hA hval
  obtain ⟨v0, vs0, d0, ds0, p0, q0, hargs, rfl, rfl, h0, r0⟩ := trodAll_cons hA
  obtain ⟨v1, vs1, d1, ds1, p1, q1, rfl, rfl, rfl, h1, r1⟩ := trodAll_cons r0
  obtain ⟨rfl, rfl, rfl⟩ := trodAll_nil r1
  obtain rfl : args = #[v0, v1] := by cases args; simp_all
  obtain ⟨rfl, rfl⟩ := trodVars_none hV
  have k0 := h0
  have lt0 : ∀ x ∈ p0, x.block < W.heap.size := by obtain ⟨m, hm⟩ := k0; exact DataW.trod_lt m _ _ _ hm
  have k1 := h1
  have lt1 : ∀ x ∈ p1, x.block < W.heap.size := by obtain ⟨m, hm⟩ := k1; exact DataW.trod_lt m _ _ _ hm
  obtain ⟨W0, H0, a0, n0, c0, z0, rfl, wW0, wH0, w0⟩ := pic_of Try.underlying41 (by kernel_rfl) (by kernel_rfl) Try.underlying2 Try.underlying2 Try.underlying39 Try.underlying22 (by kernel_rfl) (hval 0 41 v0 rfl rfl) h0
  obtain ⟨x1, y1, rfl, wx1, wy1⟩ := tile_of Try.underlying43 (by kernel_rfl) (by kernel_rfl) Try.underlying2 Try.underlying2 (hval 1 43 v1 rfl rfl) h1
  clear hA0 hval0
  refine (walk W0 H0 a0 n0 c0 z0 x1 y1 W wW0 wH0 w0 wx1 wy1).mono fun e W' ⟨he, bel⟩ => ?_
  subst he
  exact ⟨_, rfl, _, _, _, [], _, [], hW', trodAll_mk1 (shut_bool Try.underlying4 _), (trodAll_cons_mk (Below.trod laidOut (by kernel_rfl) (of_decide_eq_true (by kernel_rfl)) k0 bel lt0) (trodAll_cons_mk (Below.trod laidOut (by kernel_rfl) (of_decide_eq_true (by kernel_rfl)) k1 bel lt1) trodAll_mk0)), rfl, bel.frame _, fun h => by cases h⟩

theorem over : Rows.fnExactRowsOfRow.holds Try.pinned (OpenSpec.ofChange Rows.fnExactRowsOfSpec) :=
  OpenClaim.holds_of_wide 7 Try.f7 rfl rfl rfl rfl rfl rfl rfl ⟨rfl, rfl, rfl, rfl, rfl⟩ rfl rfl rfl rfl rfl (by kernel_rfl) Try.func7 (by kernel_rfl)
    (of_decide_eq_true (by kernel_rfl)) (by unfold Func.isWrapper; first | (rw [if_pos (by decide +kernel)]; kernel_rfl) | (rw [if_neg (by decide +kernel)]; exact ⟨rfl, rfl⟩))
    (fun os started H enc _ => lifted os started H enc)

theorem proved : Rows.FnExactRowsOfSaid := over
#print axioms proved
end Go.Proofs.Ytmbohiebjgafoaa.lawFnExactRowsOf
