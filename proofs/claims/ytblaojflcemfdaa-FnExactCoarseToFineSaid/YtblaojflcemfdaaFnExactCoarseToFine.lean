/-
  For all arguments (picture, picture), valid or not, the program's CoarseToFine answers as the model's, to the last bit, in memory of its own, and the arguments stay as they were; no condition but that they hold at most 1048576 numbers (else the law asks nothing).
-/
import Derived.Test.YtblaojflcemfdaaBase
import Derived.Test.YtblaojflcemfdaaPo
import Derived.Test.YtblaojflcemfdaaVm
import Derived.Test.YtblaojflcemfdaaCfp
import Derived.Deep.DeepCutAuto
import Derived.Deep.DrawnRows
namespace Go.Proofs.Ytblaojflcemfdaa.lawFnExactCoarseToFine
open Go.ChangeShapes Go.WideShapes Go.ChangeAt Go.RowKit Go.FX
open Go.ChangeMaps (open_string shut_string)
set_option linter.unusedVariables false
set_option linter.unusedSimpArgs false

attribute [local go_sem ↓] Go.wp_at_zero Go.wp_at_succ

set_option maxHeartbeats 16000000 in
set_option maxRecDepth 100000 in
theorem walk (W0 H0 : Int) (a0 : Option Addr) (n0 c0 : Nat) (z0 : List Nat) (W1 H1 : Int) (a1 : Option Addr) (n1 c1 : Nat) (z1 : List Nat) (a2 : Int) (a3 : Int) (w : World) (wW0 : (Lit.int .i64 W0).wf = true) (wH0 : (Lit.int .i64 H0).wf = true) (w0 : FS w (.slice a0 n0 c0) z0) (wW1 : (Lit.int .i64 W1).wf = true) (wH1 : (Lit.int .i64 H1).wf = true) (w1 : FS w (.slice a1 n1 c1) z1) (w2 : (Lit.int .i64 a2).wf = true) (w3 : (Lit.int .i64 a3).wf = true) :
    Calls Try.prog 3 #[.agg #[.int .i64 W0, .int .i64 H0, .slice a0 n0 c0], .agg #[.int .i64 W1, .int .i64 H1, .slice a1 n1 c1], .int .i64 a2, .int .i64 a3] w fun e w' => e = .returned (.bool true) ∧ Below w.heap.size w w' := by
  have hv0 : FC w (.slice a0 n0 c0) (z0.map (cn .f32)) := FC.of w0
  generalize z0.map (cn .f32) = cs0 at hv0
  clear w0
  obtain ⟨en0, hnc0, hcm0⟩ := hv0.sized
  have hmx0 : (n0 : Int) ≤ 9223372036854775807 := by unfold maxLen at hcm0; omega
  have hv1 : FC w (.slice a1 n1 c1) (z1.map (cn .f32)) := FC.of w1
  generalize z1.map (cn .f32) = cs1 at hv1
  clear w1
  obtain ⟨en1, hnc1, hcm1⟩ := hv1.sized
  have hmx1 : (n1 : Int) ≤ 9223372036854775807 := by unfold maxLen at hcm1; omega
  by_cases hlen0 : n0 ≤ 1048576
  case neg =>
    clear en0 hnc0 hcm0 en1 hnc1 hcm1
    go_enter Try.func3, Try.ntmps3
    go_wp2_with fail
    refine (szPic_no _ _ _ _ _ _ _ (by omega) (by omega) hmx0).mono ?_
    rintro e v0 ⟨rfl, hc0⟩
    have y0 := hc0.size; simp only [World.size_alloc] at y0
    have x0 : Below w.heap.size w v0 := (below2 _ _ _).trans (hc0.mono (by simp; try omega))
    have B00 := ((Pv.new w (W0) (H0) (.slice a0 n0 c0) 24).alloc _).below hc0
    have B10 := (Pv.new (w.alloc (.cells #[.int .i64 W0, .int .i64 H0, .slice a0 n0 c0] 24)) (W1) (H1) (.slice a1 n1 c1) 24).below hc0
    simp only [World.size_alloc] at B10
    go_wp2_with fail
    go_ret
    exact ⟨rfl, x0⟩
  by_cases hlen1 : n0 + n1 ≤ 1048576
  case neg =>
    clear en0 hnc0 hcm0 en1 hnc1 hcm1
    go_enter Try.func3, Try.ntmps3
    go_wp2_with fail
    refine (szPic_any _ _ _ _ _ _ _ (by omega) (by omega)).mono ?_
    rintro e v0 ⟨rfl, hc0⟩
    have y0 := hc0.size; simp only [World.size_alloc] at y0
    have x0 : Below w.heap.size w v0 := (below2 _ _ _).trans (hc0.mono (by simp; try omega))
    have B00 := ((Pv.new w (W0) (H0) (.slice a0 n0 c0) 24).alloc _).below hc0
    have B10 := (Pv.new (w.alloc (.cells #[.int .i64 W0, .int .i64 H0, .slice a0 n0 c0] 24)) (W1) (H1) (.slice a1 n1 c1) 24).below hc0
    simp only [World.size_alloc] at B10
    obtain ⟨ba0, bb0, bc0, bd0⟩ := id B10
    go_wp2_with fail
    refine (szPic_no _ _ _ _ _ _ _ (by omega) (by omega) hmx1).mono ?_
    rintro e v1 ⟨rfl, hc1⟩
    have x1 : Below w.heap.size w v1 := x0.trans (hc1.mono x0.size)
    have B01 := B00.below hc1
    have B11 := B10.below hc1
    go_wp2_with fail
    go_ret
    exact ⟨rfl, x1⟩
  obtain ⟨W', H', cs', ok, hS, hImp, h256⟩ := pairCoarseToFine W0 H0 cs0 W1 H1 cs1 a2 a3
  have hn0 : cs0.length ≤ 1048576 := by omega
  have hn1 : cs1.length ≤ 1048576 := by omega
  have hnT : cs0.length + cs1.length ≤ 1048576 := by omega
  clear en0 hnc0 hcm0 hmx0
  clear en1 hnc1 hcm1 hmx1
  go_enter Try.func3, Try.ntmps3
  go_wp2_with fail
  refine (szPic_any _ _ _ _ _ _ _ (by omega) (by omega)).mono ?_
  rintro e w1 ⟨rfl, hb1⟩
  have s1 := hb1.size; simp only [World.size_alloc] at s1
  have q1 : Below w.heap.size w w1 := (bel_al (bel_al (Below.refl w.heap.size w) (by have := Nat.le_refl 0; simp; try omega) _) (by have := Nat.le_refl 0; simp; try omega) _).trans (hb1.mono (by have := Nat.le_refl 0; simp; try omega))
  have PA01 := ((Pv.new w (W0) (H0) (.slice a0 n0 c0) 24).alloc _).below hb1
  have PA11 := (Pv.new (w.alloc (.cells #[.int .i64 W0, .int .i64 H0, .slice a0 n0 c0] 24)) (W1) (H1) (.slice a1 n1 c1) 24).below hb1
  simp only [World.size_alloc] at PA11
  obtain ⟨uA11, xA11, yA11, zA11⟩ := id PA11
  go_wp2_with fail
  refine (szPic_any _ _ _ _ _ _ _ (by omega) (by omega)).mono ?_
  rintro e w2 ⟨rfl, hb2⟩
  have s2 := hb2.size
  have q2 : Below w.heap.size w w2 := q1.trans (hb2.mono (by have := q1.size; simp; try omega))
  have PA02 := PA01.below hb2
  have PA12 := PA11.below hb2
  obtain ⟨uA02, xA02, yA02, zA02⟩ := id PA02
  obtain ⟨uA12, xA12, yA12, zA12⟩ := id PA12
  go_upto_region 8 with fail
  go_cut [10, 11] (fun sA sB wx => PicAt 61 w2 W' H' cs' ok sA sB wx ∧ Below w2.heap.size w2 wx)
  case first =>
    have hvK20 := hv0.below q2
    have hvK21 := hv1.below q2
    go_region_held3 (fun w' => Below w2.heap.size w2 w' ∧ w2.heap.size ≤ w'.heap.size ∧ (∀ b o, b < w2.heap.size → w'.cell? ⟨b, o, none⟩ = w2.cell? ⟨b, o, none⟩)) (first | exact keepStart _ | assumption | exact ⟨by assumption, by assumption, by assumption⟩ | exact keepCall (by assumption) (by assumption) | exact keepAlloc (by assumption) | (refine keepSet ?_ (keepSet ?_ (keepSet ?_ (keepSet ?_ ?_))) <;> first | assumption | omega | (simp; done) | (simp; omega)) | (refine keepSet ?_ (keepSet ?_ (keepSet ?_ ?_)) <;> first | assumption | omega | (simp; done) | (simp; omega)) | (refine keepSet ?_ (keepSet ?_ ?_) <;> first | assumption | omega | (simp; done) | (simp; omega)) | (refine keepSet ?_ ?_ <;> first | assumption | omega | (simp; done) | (simp; omega)))
      (first
        | (go_at_call 6; (with_reducible refine (toPic_any _ _ _ cs0 _ (hvK20.below (And.left (by assumption))) hn0).mono ?_); rintro e w3 ⟨a3, n3, c3, rfl, hb3, ho3⟩; have f3 := ho3.fc; have s3 := hb3.size; (try simp at s3); have hI := keepCall (n := w2.heap.size) (W1 := w2) (by assumption) hb3; obtain ⟨hc, hf⟩ := bcell hb3; have hz := hb3.size; (try simp at hz); (try simp only [World.size_drew, World.cell?_drew] at hc); (try simp only [World.size_drew, World.frozen?_drew] at hf); first | (have hs := Nat.lt_of_succ_le hz) | (have hs := Nat.lt_of_lt_of_le hs hz) | skip)
        | (go_at_call 6; (with_reducible refine (toPic_any _ _ _ cs1 _ (hvK21.below (And.left (by assumption))) hn1).mono ?_); rintro e w4 ⟨a4, n4, c4, rfl, hb4, ho4⟩; have bX4 : Below w3.heap.size w3 w4 := (by first | (with_reducible exact hb4) | exact (below1 _ _).trans (hb4.mono (by simp))); have t04 := f3.below bX4; have f4 := ho4.fc; have s4 := hb4.size; (try simp at s4); have hI := keepCall (n := w2.heap.size) (W1 := w2) (by assumption) hb4; obtain ⟨hc, hf⟩ := bcell hb4; have hz := hb4.size; (try simp at hz); (try simp only [World.size_drew, World.cell?_drew] at hc); (try simp only [World.size_drew, World.frozen?_drew] at hf); first | (have hs := Nat.lt_of_succ_le hz) | (have hs := Nat.lt_of_lt_of_le hs hz) | skip)
        | (go_at_call 5; (with_reducible refine (hS _ _ _ _ _ _ _ (by first | (with_reducible exact t04) | (with_reducible exact t04.alloc _)) (by first | (with_reducible exact f4) | (with_reducible exact f4.alloc _))).mono ?_); rintro e w5 ⟨a5, n5, c5, rfl, hb5, ho5⟩; have s5 := hb5.size; (try simp at s5); have hI := keepCall (n := w2.heap.size) (W1 := w2) (by assumption) hb5; obtain ⟨hc, hf⟩ := bcell hb5; have hz := hb5.size; (try simp at hz); (try simp only [World.size_drew, World.cell?_drew] at hc); (try simp only [World.size_drew, World.frozen?_drew] at hf); first | (have hs := Nat.lt_of_succ_le hz) | (have hs := Nat.lt_of_lt_of_le hs hz) | skip))
    all_goals go_wp2_with fail
    all_goals go_meet
    all_goals refine ⟨⟨_, _, _, _, rfl, rfl, ?_, ?_, fun e => by have h := ho5.lt _ e; (first | omega | (simp at h; done) | (simp at h; omega)), by first | omega | (simp; done) | (simp; omega)⟩, And.left (by assumption)⟩
    all_goals first | ((with_reducible refine OC.atNew ho5 ?_); (first | omega | (simp; done) | (simp; omega))) | ((with_reducible refine OC.at3 ho5 ?_ ?_) <;> (first | omega | (simp; done) | (simp; omega))) | (unfold Pv; refine ⟨?_, ?_, ?_, ?_⟩ <;> (first | omega | (simp; done) | (simp; omega) | (go_simp; done)))
  obtain ⟨⟨bo6, a6, n6, c6, rfl, rfl, hP6, ho6, hne6, hbo6⟩, hbR6⟩ := hcut
  obtain ⟨w6, hV6⟩ : ∃ V, V = wc := ⟨_, rfl⟩
  subst hV6
  have s6 := hbR6.size
  have q6 : Below w.heap.size w w6 := q2.trans (hbR6.mono (by have := q2.size; simp; try omega))
  have PA06 := PA02.below hbR6
  have PA16 := PA12.below hbR6
  have hbl6 : bo6 < w6.heap.size := hP6.1
  have rM6 := ho6
  have bM : ∀ k, (Value.slice a6 n6 c6).ownBlock = some k → w2.heap.size ≤ k ∧ k < w6.heap.size := fun k hk => by have h := ho6.lt k hk; (try simp at h); omega
  have PV6 := hP6
  have qL := q6
  obtain ⟨uA06, xA06, yA06, zA06⟩ := id PA06
  go_wp2_with fail
  refine (toPic_any _ _ _ cs0 _ (hv0.below q6) hn0).mono ?_
  rintro e w7 ⟨a7, n7, c7, rfl, hb7, ho7⟩
  have s7 := hb7.size
  have q7 : Below w.heap.size w w7 := q6.trans (hb7.mono (by have := q6.size; simp; try omega))
  have PA07 := PA06.below hb7
  have PA17 := PA16.below hb7
  have PV7 := PV6.below hb7
  have rM7 := rM6.below hb7
  have rX07 := ho7
  have bX0 : ∀ k, (Value.slice a7 n7 c7).ownBlock = some k → w6.heap.size ≤ k ∧ k < w7.heap.size := fun k hk => by have h := ho7.lt k hk; (try simp at h); omega
  obtain ⟨uA17, xA17, yA17, zA17⟩ := id PA17
  go_wp2_with fail
  refine (toPic_any _ _ _ cs1 _ (hv1.below (bel_al q7 (by have := q7.size; simp; try omega) _)) hn1).mono ?_
  rintro e w8 ⟨a8, n8, c8, rfl, hb8, ho8⟩
  have s8 := hb8.size; simp only [World.size_alloc] at s8
  have q8 : Below w.heap.size w w8 := (bel_al q7 (by have := q7.size; simp; try omega) _).trans (hb8.mono (by have := q7.size; simp; try omega))
  have PA08 := (PA07.alloc _).below hb8
  have PA18 := (PA17.alloc _).below hb8
  have PV8 := (PV7.alloc _).below hb8
  have rM8 := (rM7.alloc _).below hb8
  have rX08 := (rX07.alloc _).below hb8
  have PY08 := (Pv.new w7 (W0) (H0) (.slice a7 n7 c7) 30).below hb8
  have rX18 := ho8
  have bX1 : ∀ k, (Value.slice a8 n8 c8).ownBlock = some k → w7.heap.size + 1 ≤ k ∧ k < w8.heap.size := fun k hk => by have h := ho8.lt k hk; (try simp at h); omega
  obtain ⟨uY08, xY08, yY08, zY08⟩ := id PY08
  go_wp2_with fail
  refine (hImp _ _ _ _ _ _ _ (rX08.alloc _).fc (rX18.alloc _).fc).mono ?_
  rintro e w9 ⟨a9, n9, c9, rfl, hb9, ho9⟩
  have s9 := hb9.size; simp only [World.size_alloc] at s9
  have q9 : Below w.heap.size w w9 := (bel_al q8 (by have := q8.size; simp; try omega) _).trans (hb9.mono (by have := q8.size; simp; try omega))
  have PA09 := (PA08.alloc _).below hb9
  have PA19 := (PA18.alloc _).below hb9
  have PV9 := (PV8.alloc _).below hb9
  have PY09 := (PY08.alloc _).below hb9
  have rM9 := (rM8.alloc _).below hb9
  have rX09 := (rX08.alloc _).below hb9
  have rX19 := (rX18.alloc _).below hb9
  have PY19 := (Pv.new w8 (W1) (H1) (.slice a8 n8 c8) 30).below hb9
  have rG9 := ho9
  have bG : ∀ k, (Value.slice a9 n9 c9).ownBlock = some k → w8.heap.size + 1 ≤ k ∧ k < w9.heap.size := fun k hk => by have h := ho9.lt k hk; (try simp at h); omega
  obtain ⟨uV9, xV9, yV9, zV9⟩ := id PV9
  go_wp2_with fail
  refine (eqMap_any _ _ _ _ cs' _ (rG9.alloc _).fc (rM9.alloc _).fc (Nat.le_trans h256 (by decide))).mono ?_
  rintro e w10 ⟨rfl, hb10⟩
  have s10 := hb10.size; simp only [World.size_alloc] at s10
  have q10 : Below w.heap.size w w10 := (bel_al q9 (by have := q9.size; simp; try omega) _).trans (hb10.mono (by have := q9.size; simp; try omega))
  have PA010 := (PA09.alloc _).below hb10
  have PA110 := (PA19.alloc _).below hb10
  have PV10 := (PV9.alloc _).below hb10
  have PY010 := (PY09.alloc _).below hb10
  have PY110 := (PY19.alloc _).below hb10
  have rM10 := (rM9.alloc _).below hb10
  have rX010 := (rX09.alloc _).below hb10
  have rX110 := (rX19.alloc _).below hb10
  have rG10 := (rG9.alloc _).below hb10
  have PZ10 := (Pv.new w9 (W') (H') (.slice a9 n9 c9) 27).below hb10
  obtain ⟨uY010, xY010, yY010, zY010⟩ := id PY010
  obtain ⟨uA010, xA010, yA010, zA010⟩ := id PA010
  go_wp2_with fail
  go_region_held3 (fun w' => Below w10.heap.size w10 w' ∧ w10.heap.size ≤ w'.heap.size ∧ (∀ b o, b < w10.heap.size → w'.cell? ⟨b, o, none⟩ = w10.cell? ⟨b, o, none⟩)) (first | exact keepStart _ | assumption | exact ⟨by assumption, by assumption, by assumption⟩ | exact keepCall (by assumption) (by assumption) | exact keepAlloc (by assumption) | (refine keepSet ?_ (keepSet ?_ (keepSet ?_ (keepSet ?_ ?_))) <;> first | assumption | omega | (simp; done) | (simp; omega)) | (refine keepSet ?_ (keepSet ?_ (keepSet ?_ ?_)) <;> first | assumption | omega | (simp; done) | (simp; omega)) | (refine keepSet ?_ (keepSet ?_ ?_) <;> first | assumption | omega | (simp; done) | (simp; omega)) | (refine keepSet ?_ ?_ <;> first | assumption | omega | (simp; done) | (simp; omega)))
    (first
      | (go_at_call 6; refine (toPic_any _ _ _ cs0 _ ((hv0.below q10).drewN 1) hn0).mono ?_; rintro e w11 ⟨a11, n11, c11, rfl, hb11, ho11⟩; have z11 := ((rX010.drewN 1).below hb11); have hI := keepCall (n := w10.heap.size) (W1 := w10) (by assumption) hb11; obtain ⟨hc, hf⟩ := bcell hb11; have hz := hb11.size; (try simp at hz); (try simp only [World.size_drew, World.cell?_drew] at hc); (try simp only [World.size_drew, World.frozen?_drew] at hf); first | (have hs := Nat.lt_of_succ_le hz) | (have hs := Nat.lt_of_lt_of_le hs hz) | skip)
      | (go_at_call 9; refine (eqPic_any _ _ _ _ cs0 _ z11.fc ho11.fc hn0).mono ?_; rintro e w12 ⟨rfl, hb12⟩; have hI := keepCall (n := w10.heap.size) (W1 := w10) (by assumption) hb12; obtain ⟨hc, hf⟩ := bcell hb12; have hz := hb12.size; (try simp at hz); (try simp only [World.size_drew, World.cell?_drew] at hc); (try simp only [World.size_drew, World.frozen?_drew] at hf); first | (have hs := Nat.lt_of_succ_le hz) | (have hs := Nat.lt_of_lt_of_le hs hz) | skip))
  have hbR12 : Below w10.heap.size w10 w12 := And.left (by assumption)
  have s12 := hbR12.size
  have q12 : Below w.heap.size w w12 := q10.trans (hbR12.mono (by have := q10.size; simp; try omega))
  have PA012 := PA010.below hbR12
  have PA112 := PA110.below hbR12
  have PV12 := PV10.below hbR12
  have PY012 := PY010.below hbR12
  have PY112 := PY110.below hbR12
  have PZ12 := PZ10.below hbR12
  have rM12 := rM10.below hbR12
  have rX012 := rX010.below hbR12
  have rX112 := rX110.below hbR12
  have rG12 := rG10.below hbR12
  obtain ⟨uY112, xY112, yY112, zY112⟩ := id PY112
  obtain ⟨uA112, xA112, yA112, zA112⟩ := id PA112
  go_wp2_with fail
  go_region_held3 (fun w' => Below w12.heap.size w12 w' ∧ w12.heap.size ≤ w'.heap.size ∧ (∀ b o, b < w12.heap.size → w'.cell? ⟨b, o, none⟩ = w12.cell? ⟨b, o, none⟩)) (first | exact keepStart _ | assumption | exact ⟨by assumption, by assumption, by assumption⟩ | exact keepCall (by assumption) (by assumption) | exact keepAlloc (by assumption) | (refine keepSet ?_ (keepSet ?_ (keepSet ?_ (keepSet ?_ ?_))) <;> first | assumption | omega | (simp; done) | (simp; omega)) | (refine keepSet ?_ (keepSet ?_ (keepSet ?_ ?_)) <;> first | assumption | omega | (simp; done) | (simp; omega)) | (refine keepSet ?_ (keepSet ?_ ?_) <;> first | assumption | omega | (simp; done) | (simp; omega)) | (refine keepSet ?_ ?_ <;> first | assumption | omega | (simp; done) | (simp; omega)))
    (first
      | (go_at_call 6; refine (toPic_any _ _ _ cs1 _ ((hv1.below q12).drewN 1) hn1).mono ?_; rintro e w13 ⟨a13, n13, c13, rfl, hb13, ho13⟩; have z13 := ((rX112.drewN 1).below hb13); have hI := keepCall (n := w12.heap.size) (W1 := w12) (by assumption) hb13; obtain ⟨hc, hf⟩ := bcell hb13; have hz := hb13.size; (try simp at hz); (try simp only [World.size_drew, World.cell?_drew] at hc); (try simp only [World.size_drew, World.frozen?_drew] at hf); first | (have hs := Nat.lt_of_succ_le hz) | (have hs := Nat.lt_of_lt_of_le hs hz) | skip)
      | (go_at_call 9; refine (eqPic_any _ _ _ _ cs1 _ z13.fc ho13.fc hn1).mono ?_; rintro e w14 ⟨rfl, hb14⟩; have hI := keepCall (n := w12.heap.size) (W1 := w12) (by assumption) hb14; obtain ⟨hc, hf⟩ := bcell hb14; have hz := hb14.size; (try simp at hz); (try simp only [World.size_drew, World.cell?_drew] at hc); (try simp only [World.size_drew, World.frozen?_drew] at hf); first | (have hs := Nat.lt_of_succ_le hz) | (have hs := Nat.lt_of_lt_of_le hs hz) | skip))
  have hbR14 : Below w12.heap.size w12 w14 := And.left (by assumption)
  have s14 := hbR14.size
  have q14 : Below w.heap.size w w14 := q12.trans (hbR14.mono (by have := q12.size; simp; try omega))
  have PA014 := PA012.below hbR14
  have PA114 := PA112.below hbR14
  have PV14 := PV12.below hbR14
  have PY014 := PY012.below hbR14
  have PY114 := PY112.below hbR14
  have PZ14 := PZ12.below hbR14
  have rM14 := rM12.below hbR14
  have rX014 := rX012.below hbR14
  have rX114 := rX112.below hbR14
  have rG14 := rG12.below hbR14
  obtain ⟨uY014, xY014, yY014, zY014⟩ := id PY014
  go_wp2_with fail
  refine (markPic_any _ _ _ _ _ _ _ rX014 (by omega) (by omega)).mono ?_
  rintro e w15 ⟨rfl, hg15, ho15⟩
  have s15 := hg15.size
  have q15 := q14.grown hg15 q14.size (fun k hk => by have := bX0 k hk; have := qL.size; omega)
  have PA015 := PA014.kept hg15 (fun e => by have := bX0 _ e; omega)
  have PA115 := PA114.kept hg15 (fun e => by have := bX0 _ e; omega)
  have PV15 := PV14.kept hg15 (fun e => by have := bX0 _ e; omega)
  have PY015 := PY014.kept hg15 (fun e => by have := bX0 _ e; omega)
  have PY115 := PY114.kept hg15 (fun e => by have := bX0 _ e; omega)
  have PZ15 := PZ14.kept hg15 (fun e => by have := bX0 _ e; omega)
  have rM15 := rM14.kept hg15 (own_sep fun k hk k' hk' => by have := bM k hk; have := bX0 k' hk'; omega)
  have rX115 := rX114.kept hg15 (own_sep fun k hk k' hk' => by have := bX1 k hk; have := bX0 k' hk'; omega)
  have rG15 := rG14.kept hg15 (own_sep fun k hk k' hk' => by have := bG k hk; have := bX0 k' hk'; omega)
  obtain ⟨uY115, xY115, yY115, zY115⟩ := id PY115
  go_wp2_with fail
  refine (markPic_any _ _ _ _ _ _ _ rX115 (by omega) (by omega)).mono ?_
  rintro e w16 ⟨rfl, hg16, ho16⟩
  have s16 := hg16.size
  have q16 := q15.grown hg16 q15.size (fun k hk => by have := bX1 k hk; have := qL.size; omega)
  have PA016 := PA015.kept hg16 (fun e => by have := bX1 _ e; omega)
  have PA116 := PA115.kept hg16 (fun e => by have := bX1 _ e; omega)
  have PV16 := PV15.kept hg16 (fun e => by have := bX1 _ e; omega)
  have PY016 := PY015.kept hg16 (fun e => by have := bX1 _ e; omega)
  have PY116 := PY115.kept hg16 (fun e => by have := bX1 _ e; omega)
  have PZ16 := PZ15.kept hg16 (fun e => by have := bX1 _ e; omega)
  have rM16 := rM15.kept hg16 (own_sep fun k hk k' hk' => by have := bM k hk; have := bX1 k' hk'; omega)
  have rG16 := rG15.kept hg16 (own_sep fun k hk k' hk' => by have := bG k hk; have := bX1 k' hk'; omega)
  obtain ⟨uZ16, xZ16, yZ16, zZ16⟩ := id PZ16
  obtain ⟨uV16, xV16, yV16, zV16⟩ := id PV16
  go_wp2_with fail
  refine (eqMap_any _ _ _ _ cs' _ rG16.fc rM16.fc (Nat.le_trans h256 (by decide))).mono ?_
  rintro e w17 ⟨rfl, hb17⟩
  have s17 := hb17.size
  have q17 : Below w.heap.size w w17 := q16.trans (hb17.mono (by have := q16.size; simp; try omega))
  have PA017 := PA016.below hb17
  have PA117 := PA116.below hb17
  have PV17 := PV16.below hb17
  have PY017 := PY016.below hb17
  have PY117 := PY116.below hb17
  have PZ17 := PZ16.below hb17
  have rM17 := rM16.below hb17
  have rG17 := rG16.below hb17
  obtain ⟨uZ17, xZ17, yZ17, zZ17⟩ := id PZ17
  go_wp2_with fail
  refine (markMap_any _ _ _ _ _ _ _ rG17 (by omega) (by omega)).mono ?_
  rintro e w18 ⟨rfl, hg18, ho18⟩
  have s18 := hg18.size
  have q18 := q17.grown hg18 q17.size (fun k hk => by have := bG k hk; have := qL.size; omega)
  have PA018 := PA017.kept hg18 (fun e => by have := bG _ e; omega)
  have PA118 := PA117.kept hg18 (fun e => by have := bG _ e; omega)
  have PV18 := PV17.kept hg18 (fun e => by have := bG _ e; omega)
  have PY018 := PY017.kept hg18 (fun e => by have := bG _ e; omega)
  have PY118 := PY117.kept hg18 (fun e => by have := bG _ e; omega)
  have PZ18 := PZ17.kept hg18 (fun e => by have := bG _ e; omega)
  have rM18 := rM17.kept hg18 (own_sep fun k hk k' hk' => by have := bM k hk; have := bG k' hk'; omega)
  have rK18 := ho18
  obtain ⟨uZ18, xZ18, yZ18, zZ18⟩ := id PZ18
  go_wp2_with fail
  refine (heldMap_any _ _ _ _ _ _ rK18.fc (by omega) (by omega)).mono ?_
  rintro e w19 ⟨rfl, hb19⟩
  have s19 := hb19.size
  have q19 : Below w.heap.size w w19 := q18.trans (hb19.mono (by have := q18.size; simp; try omega))
  have PA019 := PA018.below hb19
  have PA119 := PA118.below hb19
  have PV19 := PV18.below hb19
  have PY019 := PY018.below hb19
  have PY119 := PY118.below hb19
  have PZ19 := PZ18.below hb19
  have rM19 := rM18.below hb19
  have rK19 := rK18.below hb19
  obtain ⟨uA019, xA019, yA019, zA019⟩ := id PA019
  obtain ⟨uA119, xA119, yA119, zA119⟩ := id PA119
  go_upto_region 31 with fail
  go_cut [19, 20] (fun sA sB wx => PicAt 61 w19 W' H' cs' ok sA sB wx ∧ Below w19.heap.size w19 wx)
  case first =>
    have hvK190 := hv0.below q19
    have hvK191 := hv1.below q19
    go_region_held3 (fun w' => Below w19.heap.size w19 w' ∧ w19.heap.size ≤ w'.heap.size ∧ (∀ b o, b < w19.heap.size → w'.cell? ⟨b, o, none⟩ = w19.cell? ⟨b, o, none⟩)) (first | exact keepStart _ | assumption | exact ⟨by assumption, by assumption, by assumption⟩ | exact keepCall (by assumption) (by assumption) | exact keepAlloc (by assumption) | (refine keepSet ?_ (keepSet ?_ (keepSet ?_ (keepSet ?_ ?_))) <;> first | assumption | omega | (simp; done) | (simp; omega)) | (refine keepSet ?_ (keepSet ?_ (keepSet ?_ ?_)) <;> first | assumption | omega | (simp; done) | (simp; omega)) | (refine keepSet ?_ (keepSet ?_ ?_) <;> first | assumption | omega | (simp; done) | (simp; omega)) | (refine keepSet ?_ ?_ <;> first | assumption | omega | (simp; done) | (simp; omega)))
      (first
        | (go_at_call 6; (with_reducible refine (toPic_any _ _ _ cs0 _ (hvK190.below (And.left (by assumption))) hn0).mono ?_); rintro e w20 ⟨a20, n20, c20, rfl, hb20, ho20⟩; have f20 := ho20.fc; have s20 := hb20.size; (try simp at s20); have hI := keepCall (n := w19.heap.size) (W1 := w19) (by assumption) hb20; obtain ⟨hc, hf⟩ := bcell hb20; have hz := hb20.size; (try simp at hz); (try simp only [World.size_drew, World.cell?_drew] at hc); (try simp only [World.size_drew, World.frozen?_drew] at hf); first | (have hs := Nat.lt_of_succ_le hz) | (have hs := Nat.lt_of_lt_of_le hs hz) | skip)
        | (go_at_call 6; (with_reducible refine (toPic_any _ _ _ cs1 _ (hvK191.below (And.left (by assumption))) hn1).mono ?_); rintro e w21 ⟨a21, n21, c21, rfl, hb21, ho21⟩; have bX21 : Below w20.heap.size w20 w21 := (by first | (with_reducible exact hb21) | exact (below1 _ _).trans (hb21.mono (by simp))); have t021 := f20.below bX21; have f21 := ho21.fc; have s21 := hb21.size; (try simp at s21); have hI := keepCall (n := w19.heap.size) (W1 := w19) (by assumption) hb21; obtain ⟨hc, hf⟩ := bcell hb21; have hz := hb21.size; (try simp at hz); (try simp only [World.size_drew, World.cell?_drew] at hc); (try simp only [World.size_drew, World.frozen?_drew] at hf); first | (have hs := Nat.lt_of_succ_le hz) | (have hs := Nat.lt_of_lt_of_le hs hz) | skip)
        | (go_at_call 7; (with_reducible refine (hImp _ _ _ _ _ _ _ (by first | (with_reducible exact t021) | (with_reducible exact t021.alloc _)) (by first | (with_reducible exact f21) | (with_reducible exact f21.alloc _))).mono ?_); rintro e w22 ⟨a22, n22, c22, rfl, hb22, ho22⟩; have s22 := hb22.size; (try simp at s22); have hI := keepCall (n := w19.heap.size) (W1 := w19) (by assumption) hb22; obtain ⟨hc, hf⟩ := bcell hb22; have hz := hb22.size; (try simp at hz); (try simp only [World.size_drew, World.cell?_drew] at hc); (try simp only [World.size_drew, World.frozen?_drew] at hf); first | (have hs := Nat.lt_of_succ_le hz) | (have hs := Nat.lt_of_lt_of_le hs hz) | skip))
    all_goals go_wp2_with fail
    all_goals go_meet
    all_goals refine ⟨⟨_, _, _, _, rfl, rfl, ?_, ?_, fun e => by have h := ho22.lt _ e; (first | omega | (simp at h; done) | (simp at h; omega)), by first | omega | (simp; done) | (simp; omega)⟩, And.left (by assumption)⟩
    all_goals first | ((with_reducible refine OC.atNew ho22 ?_); (first | omega | (simp; done) | (simp; omega))) | ((with_reducible refine OC.at3 ho22 ?_ ?_) <;> (first | omega | (simp; done) | (simp; omega))) | (unfold Pv; refine ⟨?_, ?_, ?_, ?_⟩ <;> (first | omega | (simp; done) | (simp; omega) | (go_simp; done)))
  obtain ⟨⟨bo23, a23, n23, c23, rfl, rfl, hP23, ho23, hne23, hbo23⟩, hbR23⟩ := hcut
  obtain ⟨w23, hV23⟩ : ∃ V, V = wc := ⟨_, rfl⟩
  subst hV23
  have s23 := hbR23.size
  have q23 : Below w.heap.size w w23 := q19.trans (hbR23.mono (by have := q19.size; simp; try omega))
  have PA023 := PA019.below hbR23
  have PA123 := PA119.below hbR23
  have PV23 := PV19.below hbR23
  have PY023 := PY019.below hbR23
  have PY123 := PY119.below hbR23
  have PZ23 := PZ19.below hbR23
  have rM23 := rM19.below hbR23
  have rK23 := rK19.below hbR23
  have hbl23 : bo23 < w23.heap.size := hP23.1
  have rN23 := ho23
  have bN : ∀ k, (Value.slice a23 n23 c23).ownBlock = some k → w19.heap.size ≤ k ∧ k < w23.heap.size := fun k hk => by have h := ho23.lt k hk; (try simp at h); omega
  have PN23 := hP23
  obtain ⟨uV23, xV23, yV23, zV23⟩ := id PV23
  obtain ⟨uN23, xN23, yN23, zN23⟩ := id PN23
  go_wp2_with fail
  refine (eqMap_any _ _ _ _ cs' _ rN23.fc rM23.fc (Nat.le_trans h256 (by decide))).mono ?_
  rintro e w24 ⟨rfl, hb24⟩
  have s24 := hb24.size
  have q24 : Below w.heap.size w w24 := q23.trans (hb24.mono (by have := q23.size; simp; try omega))
  have PA024 := PA023.below hb24
  have PA124 := PA123.below hb24
  have PV24 := PV23.below hb24
  have PY024 := PY023.below hb24
  have PY124 := PY123.below hb24
  have PZ24 := PZ23.below hb24
  have PN24 := PN23.below hb24
  have rM24 := rM23.below hb24
  have rK24 := rK23.below hb24
  have rN24 := rN23.below hb24
  obtain ⟨uZ24, xZ24, yZ24, zZ24⟩ := id PZ24
  go_wp2_with fail
  refine (heldMap_any _ _ _ _ _ _ rK24.fc (by omega) (by omega)).mono ?_
  rintro e w25 ⟨rfl, hb25⟩
  have s25 := hb25.size
  have q25 : Below w.heap.size w w25 := q24.trans (hb25.mono (by have := q24.size; simp; try omega))
  have PA025 := PA024.below hb25
  have PA125 := PA124.below hb25
  have PV25 := PV24.below hb25
  have PY025 := PY024.below hb25
  have PY125 := PY124.below hb25
  have PZ25 := PZ24.below hb25
  have PN25 := PN24.below hb25
  have rM25 := rM24.below hb25
  have rK25 := rK24.below hb25
  have rN25 := rN24.below hb25
  go_wp2_with fail
  go_ret
  exact ⟨rfl, q25⟩

set_option maxRecDepth 100000 in
theorem lifted (os : Os) (started : os.Started) (H : Type) (enc : TypeId × Value → H) :
    ReturnsInHanded {} Try.checked os 3 .any (Rows.fnExactCoarseToFineSpec.pre6 enc Try.prog Try.f3 Rows.fnExactCoarseToFineRow.domain false) (Rows.fnExactCoarseToFineSpec.post enc Try.prog Try.f3 false true false false) := by
  refine returnsInHanded_of_change (C := Try.checked) own started (by kernel_rfl) Try.func3
    (ChangeSpec.witness6 (enc := enc) (C := Try.checked) false ⟨#[], #[.agg #[.int .i64 0, .int .i64 0, .slice none 0 0], .agg #[.int .i64 0, .int .i64 0, .slice none 0 0], .int .i64 0, .int .i64 0], []⟩ 8 (by kernel_rfl) (by kernel_rfl) (by kernel_rfl) (by kernel_rfl)) ?_
  intro W base args ds gs before hval0 hW hcnd _
  have hval : ∀ (j : Nat) t v, Try.f3.params[j]? = some t → args[j]? = some v → Value.okWide Try.prog W .any base t v := hval0
  have hW' := hW
  obtain ⟨p, q, hA0, hV, rfl, hfz, hnd⟩ := hW
  have hA : DataW.TrodAll enc Try.prog W 0 (fun _ => true) true Try.f3.params.toList args.toList ds p := hA0
  rw [Try.params3] at hA hval
  obtain ⟨v0, vs0, d0, ds0, p0, q0, hargs, rfl, rfl, h0, r0⟩ := trodAll_cons hA
  obtain ⟨v1, vs1, d1, ds1, p1, q1, rfl, rfl, rfl, h1, r1⟩ := trodAll_cons r0
  obtain ⟨v2, vs2, d2, ds2, p2, q2, rfl, rfl, rfl, h2, r2⟩ := trodAll_cons r1
  obtain ⟨v3, vs3, d3, ds3, p3, q3, rfl, rfl, rfl, h3, r3⟩ := trodAll_cons r2
  obtain ⟨rfl, rfl, rfl⟩ := trodAll_nil r3
  obtain rfl : args = #[v0, v1, v2, v3] := by cases args; simp_all
  obtain ⟨rfl, rfl⟩ := trodVars_none hV
  have k0 := h0
  have lt0 : ∀ x ∈ p0, x.block < W.heap.size := by obtain ⟨m, hm⟩ := k0; exact DataW.trod_lt m _ _ _ hm
  have k1 := h1
  have lt1 : ∀ x ∈ p1, x.block < W.heap.size := by obtain ⟨m, hm⟩ := k1; exact DataW.trod_lt m _ _ _ hm
  have k2 := h2
  have lt2 : ∀ x ∈ p2, x.block < W.heap.size := by obtain ⟨m, hm⟩ := k2; exact DataW.trod_lt m _ _ _ hm
  have k3 := h3
  have lt3 : ∀ x ∈ p3, x.block < W.heap.size := by obtain ⟨m, hm⟩ := k3; exact DataW.trod_lt m _ _ _ hm
  obtain ⟨W0, H0, a0, n0, c0, z0, rfl, wW0, wH0, w0⟩ := pic_of Try.underlying24 (by kernel_rfl) (by kernel_rfl) Try.underlying2 Try.underlying2 Try.underlying22 Try.underlying61 (by kernel_rfl) (hval 0 24 v0 rfl rfl) h0
  obtain ⟨W1, H1, a1, n1, c1, z1, rfl, wW1, wH1, w1⟩ := pic_of Try.underlying24 (by kernel_rfl) (by kernel_rfl) Try.underlying2 Try.underlying2 Try.underlying22 Try.underlying61 (by kernel_rfl) (hval 1 24 v1 rfl rfl) h1
  obtain ⟨a2, rfl, rfl, rfl, w2⟩ := open_int Try.underlying2 (hval 2 2 v2 rfl rfl) h2
  obtain ⟨a3, rfl, rfl, rfl, w3⟩ := open_int Try.underlying2 (hval 3 2 v3 rfl rfl) h3
  clear hA0 hval0
  refine (walk W0 H0 a0 n0 c0 z0 W1 H1 a1 n1 c1 z1 a2 a3 W wW0 wH0 w0 wW1 wH1 w1 w2 w3).mono fun e W' ⟨he, bel⟩ => ?_
  subst he
  exact ⟨_, rfl, _, _, _, [], _, [], hW', trodAll_mk1 (shut_bool Try.underlying4 _), (trodAll_cons_mk (Below.trod laidOut (by kernel_rfl) (of_decide_eq_true (by kernel_rfl)) k0 bel lt0) (trodAll_cons_mk (Below.trod laidOut (by kernel_rfl) (of_decide_eq_true (by kernel_rfl)) k1 bel lt1) (trodAll_cons_mk (Below.trod laidOut (by kernel_rfl) (of_decide_eq_true (by kernel_rfl)) k2 bel lt2) (trodAll_cons_mk (Below.trod laidOut (by kernel_rfl) (of_decide_eq_true (by kernel_rfl)) k3 bel lt3) trodAll_mk0)))), rfl, bel.frame _, fun h => by cases h⟩

theorem over : Rows.fnExactCoarseToFineRow.holds Try.pinned (OpenSpec.ofChange Rows.fnExactCoarseToFineSpec) :=
  OpenClaim.holds_of_wide 3 Try.f3 rfl rfl rfl rfl rfl rfl rfl ⟨rfl, rfl, rfl, rfl, rfl⟩ rfl rfl rfl rfl rfl (by kernel_rfl) Try.func3 (by kernel_rfl)
    (of_decide_eq_true (by kernel_rfl)) (by unfold Func.isWrapper; first | (rw [if_pos (by decide +kernel)]; kernel_rfl) | (rw [if_neg (by decide +kernel)]; exact ⟨rfl, rfl⟩))
    (fun os started H enc _ => lifted os started H enc)

theorem proved : Rows.FnExactCoarseToFineSaid := over
#print axioms proved
end Go.Proofs.Ytblaojflcemfdaa.lawFnExactCoarseToFine
