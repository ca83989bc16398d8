/-
  For all arguments (picture, picture, map), valid or not, the program's ErrorOf answers as the model's, to the last bit, in memory of its own, and the arguments stay as they were; no condition but that they hold at most 1048576 numbers (else the law asks nothing).
-/
import Derived.Test.YtbiobmdibiplfaaBase
import Derived.Test.YtbiobmdibiplfaaPo
import Derived.Test.YtbiobmdibiplfaaVm
import Derived.Test.YtbiobmdibiplfaaEru
import Derived.Deep.DeepCutAuto
import Derived.Deep.DrawnRows
namespace Go.Proofs.Ytbiobmdibiplfaa.lawFnExactErrorOf
open Go.ChangeShapes Go.WideShapes Go.ChangeAt Go.RowKit Go.FX
open Go.ChangeMaps (open_string shut_string)
set_option linter.unusedVariables false
set_option linter.unusedSimpArgs false

attribute [local go_sem ↓] Go.wp_at_zero Go.wp_at_succ

set_option maxHeartbeats 16000000 in
set_option maxRecDepth 100000 in
theorem walk (W0 H0 : Int) (a0 : Option Addr) (n0 c0 : Nat) (z0 : List Nat) (W1 H1 : Int) (a1 : Option Addr) (n1 c1 : Nat) (z1 : List Nat) (W2 H2 : Int) (a2 : Option Addr) (n2 c2 : Nat) (z2 : List Nat) (w : World) (wW0 : (Lit.int .i64 W0).wf = true) (wH0 : (Lit.int .i64 H0).wf = true) (w0 : FS w (.slice a0 n0 c0) z0) (wW1 : (Lit.int .i64 W1).wf = true) (wH1 : (Lit.int .i64 H1).wf = true) (w1 : FS w (.slice a1 n1 c1) z1) (wW2 : (Lit.int .i64 W2).wf = true) (wH2 : (Lit.int .i64 H2).wf = true) (w2 : FS w (.slice a2 n2 c2) z2) :
    Calls Try.prog 14 #[.agg #[.int .i64 W0, .int .i64 H0, .slice a0 n0 c0], .agg #[.int .i64 W1, .int .i64 H1, .slice a1 n1 c1], .agg #[.int .i64 W2, .int .i64 H2, .slice a2 n2 c2]] w fun e w' => e = .returned (.bool true) ∧ Below w.heap.size w w' := by
  have hv0 : FC w (.slice a0 n0 c0) (z0.map (cn .f32)) := FC.of w0
  generalize z0.map (cn .f32) = cs0 at hv0
  clear w0
  obtain ⟨en0, hnc0, hcm0⟩ := hv0.sized
  have hmx0 : (n0 : Int) ≤ 9223372036854775807 := by unfold maxLen at hcm0; omega
  have hv1 : FC w (.slice a1 n1 c1) (z1.map (cn .f32)) := FC.of w1
  generalize z1.map (cn .f32) = cs1 at hv1
  clear w1
  obtain ⟨en1, hnc1, hcm1⟩ := hv1.sized
  have hmx1 : (n1 : Int) ≤ 9223372036854775807 := by unfold maxLen at hcm1; omega
  have hv2 : FC w (.slice a2 n2 c2) (z2.map (cn .f32)) := FC.of w2
  generalize z2.map (cn .f32) = cs2 at hv2
  clear w2
  obtain ⟨en2, hnc2, hcm2⟩ := hv2.sized
  have hmx2 : (n2 : Int) ≤ 9223372036854775807 := by unfold maxLen at hcm2; omega
  by_cases hlen0 : n0 ≤ 1048576
  case neg =>
    clear en0 hnc0 hcm0 en1 hnc1 hcm1 en2 hnc2 hcm2
    go_enter Try.func14, Try.ntmps14
    go_wp2_with fail
    refine (szPic_no _ _ _ _ _ _ _ (by omega) (by omega) hmx0).mono ?_
    rintro e v0 ⟨rfl, hc0⟩
    have y0 := hc0.size; simp only [World.size_alloc] at y0
    have x0 : Below w.heap.size w v0 := (below3 _ _ _ _).trans (hc0.mono (by simp; try omega))
    have B00 := (((Pv.new w (W0) (H0) (.slice a0 n0 c0) 24).alloc _).alloc _).below hc0
    have B10 := ((Pv.new (w.alloc (.cells #[.int .i64 W0, .int .i64 H0, .slice a0 n0 c0] 24)) (W1) (H1) (.slice a1 n1 c1) 24).alloc _).below hc0
    simp only [World.size_alloc] at B10
    have B20 := (Pv.new ((w.alloc (.cells #[.int .i64 W0, .int .i64 H0, .slice a0 n0 c0] 24)).alloc (.cells #[.int .i64 W1, .int .i64 H1, .slice a1 n1 c1] 24)) (W2) (H2) (.slice a2 n2 c2) 31).below hc0
    simp only [World.size_alloc] at B20
    go_wp2_with fail
    go_ret
    exact ⟨rfl, x0⟩
  by_cases hlen1 : n0 + n1 ≤ 1048576
  case neg =>
    clear en0 hnc0 hcm0 en1 hnc1 hcm1 en2 hnc2 hcm2
    go_enter Try.func14, Try.ntmps14
    go_wp2_with fail
    refine (szPic_any _ _ _ _ _ _ _ (by omega) (by omega)).mono ?_
    rintro e v0 ⟨rfl, hc0⟩
    have y0 := hc0.size; simp only [World.size_alloc] at y0
    have x0 : Below w.heap.size w v0 := (below3 _ _ _ _).trans (hc0.mono (by simp; try omega))
    have B00 := (((Pv.new w (W0) (H0) (.slice a0 n0 c0) 24).alloc _).alloc _).below hc0
    have B10 := ((Pv.new (w.alloc (.cells #[.int .i64 W0, .int .i64 H0, .slice a0 n0 c0] 24)) (W1) (H1) (.slice a1 n1 c1) 24).alloc _).below hc0
    simp only [World.size_alloc] at B10
    have B20 := (Pv.new ((w.alloc (.cells #[.int .i64 W0, .int .i64 H0, .slice a0 n0 c0] 24)).alloc (.cells #[.int .i64 W1, .int .i64 H1, .slice a1 n1 c1] 24)) (W2) (H2) (.slice a2 n2 c2) 31).below hc0
    simp only [World.size_alloc] at B20
    obtain ⟨ba0, bb0, bc0, bd0⟩ := id B10
    go_wp2_with fail
    refine (szPic_no _ _ _ _ _ _ _ (by omega) (by omega) hmx1).mono ?_
    rintro e v1 ⟨rfl, hc1⟩
    have x1 : Below w.heap.size w v1 := x0.trans (hc1.mono x0.size)
    have B01 := B00.below hc1
    have B11 := B10.below hc1
    have B21 := B20.below hc1
    go_wp2_with fail
    go_ret
    exact ⟨rfl, x1⟩
  by_cases hlen2 : n0 + n1 + n2 ≤ 1048576
  case neg =>
    clear en0 hnc0 hcm0 en1 hnc1 hcm1 en2 hnc2 hcm2
    go_enter Try.func14, Try.ntmps14
    go_wp2_with fail
    refine (szPic_any _ _ _ _ _ _ _ (by omega) (by omega)).mono ?_
    rintro e v0 ⟨rfl, hc0⟩
    have y0 := hc0.size; simp only [World.size_alloc] at y0
    have x0 : Below w.heap.size w v0 := (below3 _ _ _ _).trans (hc0.mono (by simp; try omega))
    have B00 := (((Pv.new w (W0) (H0) (.slice a0 n0 c0) 24).alloc _).alloc _).below hc0
    have B10 := ((Pv.new (w.alloc (.cells #[.int .i64 W0, .int .i64 H0, .slice a0 n0 c0] 24)) (W1) (H1) (.slice a1 n1 c1) 24).alloc _).below hc0
    simp only [World.size_alloc] at B10
    have B20 := (Pv.new ((w.alloc (.cells #[.int .i64 W0, .int .i64 H0, .slice a0 n0 c0] 24)).alloc (.cells #[.int .i64 W1, .int .i64 H1, .slice a1 n1 c1] 24)) (W2) (H2) (.slice a2 n2 c2) 31).below hc0
    simp only [World.size_alloc] at B20
    obtain ⟨ba0, bb0, bc0, bd0⟩ := id B10
    go_wp2_with fail
    refine (szPic_any _ _ _ _ _ _ _ (by omega) (by omega)).mono ?_
    rintro e v1 ⟨rfl, hc1⟩
    have x1 : Below w.heap.size w v1 := x0.trans (hc1.mono x0.size)
    have B01 := B00.below hc1
    have B11 := B10.below hc1
    have B21 := B20.below hc1
    obtain ⟨ba1, bb1, bc1, bd1⟩ := id B21
    go_wp2_with fail
    refine (szMap_no _ _ _ _ _ _ _ (by omega) (by omega) hmx2).mono ?_
    rintro e v2 ⟨rfl, hc2⟩
    have x2 : Below w.heap.size w v2 := x1.trans (hc2.mono x1.size)
    have B02 := B01.below hc2
    have B12 := B11.below hc2
    have B22 := B21.below hc2
    go_wp2_with fail
    go_ret
    exact ⟨rfl, x2⟩
  obtain ⟨g, ok, hS, hImp⟩ := pairErrorOf W0 H0 cs0 W1 H1 cs1 W2 H2 cs2
  have hn0 : cs0.length ≤ 1048576 := by omega
  have hn1 : cs1.length ≤ 1048576 := by omega
  have hn2 : cs2.length ≤ 1048576 := by omega
  have hnT : cs0.length + cs1.length + cs2.length ≤ 1048576 := by omega
  clear en0 hnc0 hcm0 hmx0
  clear en1 hnc1 hcm1 hmx1
  clear en2 hnc2 hcm2 hmx2
  go_enter Try.func14, Try.ntmps14
  go_wp2_with fail
  refine (szPic_any _ _ _ _ _ _ _ (by omega) (by omega)).mono ?_
  rintro e w1 ⟨rfl, hb1⟩
  have s1 := hb1.size; simp only [World.size_alloc] at s1
  have q1 : Below w.heap.size w w1 := (bel_al (bel_al (bel_al (Below.refl w.heap.size w) (by have := Nat.le_refl 0; simp; try omega) _) (by have := Nat.le_refl 0; simp; try omega) _) (by have := Nat.le_refl 0; simp; try omega) _).trans (hb1.mono (by have := Nat.le_refl 0; simp; try omega))
  have PA01 := (((Pv.new w (W0) (H0) (.slice a0 n0 c0) 24).alloc _).alloc _).below hb1
  have PA11 := ((Pv.new (w.alloc (.cells #[.int .i64 W0, .int .i64 H0, .slice a0 n0 c0] 24)) (W1) (H1) (.slice a1 n1 c1) 24).alloc _).below hb1
  simp only [World.size_alloc] at PA11
  have PA21 := (Pv.new ((w.alloc (.cells #[.int .i64 W0, .int .i64 H0, .slice a0 n0 c0] 24)).alloc (.cells #[.int .i64 W1, .int .i64 H1, .slice a1 n1 c1] 24)) (W2) (H2) (.slice a2 n2 c2) 31).below hb1
  simp only [World.size_alloc] at PA21
  obtain ⟨uA11, xA11, yA11, zA11⟩ := id PA11
  go_wp2_with fail
  refine (szPic_any _ _ _ _ _ _ _ (by omega) (by omega)).mono ?_
  rintro e w2 ⟨rfl, hb2⟩
  have s2 := hb2.size
  have q2 : Below w.heap.size w w2 := q1.trans (hb2.mono (by have := q1.size; simp; try omega))
  have PA02 := PA01.below hb2
  have PA12 := PA11.below hb2
  have PA22 := PA21.below hb2
  obtain ⟨uA22, xA22, yA22, zA22⟩ := id PA22
  go_wp2_with fail
  refine (szMap_any _ _ _ _ _ _ _ (by omega) (by omega)).mono ?_
  rintro e w3 ⟨rfl, hb3⟩
  have s3 := hb3.size
  have q3 : Below w.heap.size w w3 := q2.trans (hb3.mono (by have := q2.size; simp; try omega))
  have PA03 := PA02.below hb3
  have PA13 := PA12.below hb3
  have PA23 := PA22.below hb3
  obtain ⟨uA03, xA03, yA03, zA03⟩ := id PA03
  obtain ⟨uA13, xA13, yA13, zA13⟩ := id PA13
  obtain ⟨uA23, xA23, yA23, zA23⟩ := id PA23
  go_wp2_with fail
  have hvK30 := hv0.below q3
  have hvK31 := hv1.below q3
  have hvK32 := hv2.below q3
  go_region_held3 (fun w' => Below w3.heap.size w3 w' ∧ w3.heap.size ≤ w'.heap.size ∧ (∀ b o, b < w3.heap.size → w'.cell? ⟨b, o, none⟩ = w3.cell? ⟨b, o, none⟩)) (first | exact keepStart _ | assumption | exact ⟨by assumption, by assumption, by assumption⟩ | exact keepCall (by assumption) (by assumption) | exact keepAlloc (by assumption) | (refine keepSet ?_ (keepSet ?_ (keepSet ?_ (keepSet ?_ ?_))) <;> first | assumption | omega | (simp; done) | (simp; omega)) | (refine keepSet ?_ (keepSet ?_ (keepSet ?_ ?_)) <;> first | assumption | omega | (simp; done) | (simp; omega)) | (refine keepSet ?_ (keepSet ?_ ?_) <;> first | assumption | omega | (simp; done) | (simp; omega)) | (refine keepSet ?_ ?_ <;> first | assumption | omega | (simp; done) | (simp; omega)))
    (first
      | (go_at_call 17; (with_reducible refine (toPic_any _ _ _ cs0 _ (hvK30.below (And.left (by assumption))) hn0).mono ?_); rintro e w4 ⟨a4, n4, c4, rfl, hb4, ho4⟩; have f4 := ho4.fc; have s4 := hb4.size; (try simp at s4); have hI := keepCall (n := w3.heap.size) (W1 := w3) (by assumption) hb4; obtain ⟨hc, hf⟩ := bcell hb4; have hz := hb4.size; (try simp at hz); (try simp only [World.size_drew, World.cell?_drew] at hc); (try simp only [World.size_drew, World.frozen?_drew] at hf); first | (have hs := Nat.lt_of_succ_le hz) | (have hs := Nat.lt_of_lt_of_le hs hz) | skip)
      | (go_at_call 17; (with_reducible refine (toPic_any _ _ _ cs1 _ (hvK31.below (And.left (by assumption))) hn1).mono ?_); rintro e w5 ⟨a5, n5, c5, rfl, hb5, ho5⟩; have bX5 : Below w4.heap.size w4 w5 := (by first | (with_reducible exact hb5) | exact (below1 _ _).trans (hb5.mono (by simp))); have t05 := f4.below bX5; have f5 := ho5.fc; have s5 := hb5.size; (try simp at s5); have hI := keepCall (n := w3.heap.size) (W1 := w3) (by assumption) hb5; obtain ⟨hc, hf⟩ := bcell hb5; have hz := hb5.size; (try simp at hz); (try simp only [World.size_drew, World.cell?_drew] at hc); (try simp only [World.size_drew, World.frozen?_drew] at hf); first | (have hs := Nat.lt_of_succ_le hz) | (have hs := Nat.lt_of_lt_of_le hs hz) | skip)
      | (go_at_call 22; (with_reducible refine (toMap_any _ _ _ cs2 _ (hvK32.below (And.left (by assumption))) hn2).mono ?_); rintro e w6 ⟨a6, n6, c6, rfl, hb6, ho6⟩; have bX6 : Below w5.heap.size w5 w6 := (by first | (with_reducible exact hb6) | exact (below1 _ _).trans (hb6.mono (by simp))); have t06 := t05.below bX6; have t16 := f5.below bX6; have f6 := ho6.fc; have s6 := hb6.size; (try simp at s6); have hI := keepCall (n := w3.heap.size) (W1 := w3) (by assumption) hb6; obtain ⟨hc, hf⟩ := bcell hb6; have hz := hb6.size; (try simp at hz); (try simp only [World.size_drew, World.cell?_drew] at hc); (try simp only [World.size_drew, World.frozen?_drew] at hf); first | (have hs := Nat.lt_of_succ_le hz) | (have hs := Nat.lt_of_lt_of_le hs hz) | skip)
      | (go_at_call 60; (with_reducible refine (hS _ _ _ _ _ _ _ _ _ _ (by first | (with_reducible exact t06) | (with_reducible exact t06.alloc _)) (by first | (with_reducible exact t16) | (with_reducible exact t16.alloc _)) (by first | (with_reducible exact f6) | (with_reducible exact f6.alloc _))).mono ?_); rintro e w7 ⟨g7, rfl, hb7, hg7⟩; have s7 := hb7.size; (try simp at s7); have hI := keepCall (n := w3.heap.size) (W1 := w3) (by assumption) hb7; obtain ⟨hc, hf⟩ := bcell hb7; have hz := hb7.size; (try simp at hz); (try simp only [World.size_drew, World.cell?_drew] at hc); (try simp only [World.size_drew, World.frozen?_drew] at hf); first | (have hs := Nat.lt_of_succ_le hz) | (have hs := Nat.lt_of_lt_of_le hs hz) | skip))
  have hbR7 : Below w3.heap.size w3 w7 := And.left (by assumption)
  have s7 := hbR7.size
  have q7 : Below w.heap.size w w7 := q3.trans (hbR7.mono (by have := q3.size; simp; try omega))
  have PA07 := PA03.below hbR7
  have PA17 := PA13.below hbR7
  have PA27 := PA23.below hbR7
  obtain ⟨uA07, xA07, yA07, zA07⟩ := id PA07
  go_wp2_with fail
  refine (toPic_any _ _ _ cs0 _ (hv0.below q7) hn0).mono ?_
  rintro e w8 ⟨a8, n8, c8, rfl, hb8, ho8⟩
  have s8 := hb8.size
  have q8 : Below w.heap.size w w8 := q7.trans (hb8.mono (by have := q7.size; simp; try omega))
  have PA08 := PA07.below hb8
  have PA18 := PA17.below hb8
  have PA28 := PA27.below hb8
  have rX08 := ho8
  have bX0 : ∀ k, (Value.slice a8 n8 c8).ownBlock = some k → w7.heap.size ≤ k ∧ k < w8.heap.size := fun k hk => by have h := ho8.lt k hk; (try simp at h); omega
  obtain ⟨uA18, xA18, yA18, zA18⟩ := id PA18
  go_wp2_with fail
  refine (toPic_any _ _ _ cs1 _ (hv1.below (bel_al q8 (by have := q8.size; simp; try omega) _)) hn1).mono ?_
  rintro e w9 ⟨a9, n9, c9, rfl, hb9, ho9⟩
  have s9 := hb9.size; simp only [World.size_alloc] at s9
  have q9 : Below w.heap.size w w9 := (bel_al q8 (by have := q8.size; simp; try omega) _).trans (hb9.mono (by have := q8.size; simp; try omega))
  have PA09 := (PA08.alloc _).below hb9
  have PA19 := (PA18.alloc _).below hb9
  have PA29 := (PA28.alloc _).below hb9
  have rX09 := (rX08.alloc _).below hb9
  have PY09 := (Pv.new w8 (W0) (H0) (.slice a8 n8 c8) 27).below hb9
  have rX19 := ho9
  have bX1 : ∀ k, (Value.slice a9 n9 c9).ownBlock = some k → w8.heap.size + 1 ≤ k ∧ k < w9.heap.size := fun k hk => by have h := ho9.lt k hk; (try simp at h); omega
  obtain ⟨uA29, xA29, yA29, zA29⟩ := id PA29
  go_wp2_with fail
  refine (toMap_any _ _ _ cs2 _ (hv2.below (bel_al q9 (by have := q9.size; simp; try omega) _)) hn2).mono ?_
  rintro e w10 ⟨a10, n10, c10, rfl, hb10, ho10⟩
  have s10 := hb10.size; simp only [World.size_alloc] at s10
  have q10 : Below w.heap.size w w10 := (bel_al q9 (by have := q9.size; simp; try omega) _).trans (hb10.mono (by have := q9.size; simp; try omega))
  have PA010 := (PA09.alloc _).below hb10
  have PA110 := (PA19.alloc _).below hb10
  have PA210 := (PA29.alloc _).below hb10
  have PY010 := (PY09.alloc _).below hb10
  have rX010 := (rX09.alloc _).below hb10
  have rX110 := (rX19.alloc _).below hb10
  have PY110 := (Pv.new w9 (W1) (H1) (.slice a9 n9 c9) 27).below hb10
  have rX210 := ho10
  have bX2 : ∀ k, (Value.slice a10 n10 c10).ownBlock = some k → w9.heap.size + 1 ≤ k ∧ k < w10.heap.size := fun k hk => by have h := ho10.lt k hk; (try simp at h); omega
  obtain ⟨uY010, xY010, yY010, zY010⟩ := id PY010
  obtain ⟨uY110, xY110, yY110, zY110⟩ := id PY110
  go_wp2_with fail
  refine (hImp _ _ _ _ _ _ _ _ _ _ (rX010.alloc _).fc (rX110.alloc _).fc (rX210.alloc _).fc).mono ?_
  rintro e w11 ⟨g11, rfl, hb11, hg11⟩
  have s11 := hb11.size; simp only [World.size_alloc] at s11
  have q11 : Below w.heap.size w w11 := (bel_al q10 (by have := q10.size; simp; try omega) _).trans (hb11.mono (by have := q10.size; simp; try omega))
  have PA011 := (PA010.alloc _).below hb11
  have PA111 := (PA110.alloc _).below hb11
  have PA211 := (PA210.alloc _).below hb11
  have PY011 := (PY010.alloc _).below hb11
  have PY111 := (PY110.alloc _).below hb11
  have rX011 := (rX010.alloc _).below hb11
  have rX111 := (rX110.alloc _).below hb11
  have rX211 := (rX210.alloc _).below hb11
  have PY211 := (Pv.new w10 (W2) (H2) (.slice a10 n10 c10) 34).below hb11
  go_wp2_with fail
  refine (sameFloatB (hg11.wide _) (hg7.wide _) _).mono ?_
  rintro e w12 ⟨rfl, hb12'⟩
  have hb12 := undrewN hb12'
  simp only [World.heap_drewN] at hb12
  have s12 := hb12.size
  have q12 : Below w.heap.size w w12 := q11.trans (hb12.mono (by have := q11.size; simp; try omega))
  have PA012 := PA011.below hb12
  have PA112 := PA111.below hb12
  have PA212 := PA211.below hb12
  have PY012 := PY011.below hb12
  have PY112 := PY111.below hb12
  have PY212 := PY211.below hb12
  have rX012 := rX011.below hb12
  have rX112 := rX111.below hb12
  have rX212 := rX211.below hb12
  obtain ⟨uY012, xY012, yY012, zY012⟩ := id PY012
  obtain ⟨uA012, xA012, yA012, zA012⟩ := id PA012
  go_wp2_with fail
  go_region_held3 (fun w' => Below w12.heap.size w12 w' ∧ w12.heap.size ≤ w'.heap.size ∧ (∀ b o, b < w12.heap.size → w'.cell? ⟨b, o, none⟩ = w12.cell? ⟨b, o, none⟩)) (first | exact keepStart _ | assumption | exact ⟨by assumption, by assumption, by assumption⟩ | exact keepCall (by assumption) (by assumption) | exact keepAlloc (by assumption) | (refine keepSet ?_ (keepSet ?_ (keepSet ?_ (keepSet ?_ ?_))) <;> first | assumption | omega | (simp; done) | (simp; omega)) | (refine keepSet ?_ (keepSet ?_ (keepSet ?_ ?_)) <;> first | assumption | omega | (simp; done) | (simp; omega)) | (refine keepSet ?_ (keepSet ?_ ?_) <;> first | assumption | omega | (simp; done) | (simp; omega)) | (refine keepSet ?_ ?_ <;> first | assumption | omega | (simp; done) | (simp; omega)))
    (first
      | (go_at_call 17; refine (toPic_any _ _ _ cs0 _ ((hv0.below q12).drewN 1) hn0).mono ?_; rintro e w13 ⟨a13, n13, c13, rfl, hb13, ho13⟩; have z13 := ((rX012.drewN 1).below hb13); have hI := keepCall (n := w12.heap.size) (W1 := w12) (by assumption) hb13; obtain ⟨hc, hf⟩ := bcell hb13; have hz := hb13.size; (try simp at hz); (try simp only [World.size_drew, World.cell?_drew] at hc); (try simp only [World.size_drew, World.frozen?_drew] at hf); first | (have hs := Nat.lt_of_succ_le hz) | (have hs := Nat.lt_of_lt_of_le hs hz) | skip)
      | (go_at_call 19; refine (eqPic_any _ _ _ _ cs0 _ z13.fc ho13.fc hn0).mono ?_; rintro e w14 ⟨rfl, hb14⟩; have hI := keepCall (n := w12.heap.size) (W1 := w12) (by assumption) hb14; obtain ⟨hc, hf⟩ := bcell hb14; have hz := hb14.size; (try simp at hz); (try simp only [World.size_drew, World.cell?_drew] at hc); (try simp only [World.size_drew, World.frozen?_drew] at hf); first | (have hs := Nat.lt_of_succ_le hz) | (have hs := Nat.lt_of_lt_of_le hs hz) | skip))
  have hbR14 : Below w12.heap.size w12 w14 := And.left (by assumption)
  have s14 := hbR14.size
  have q14 : Below w.heap.size w w14 := q12.trans (hbR14.mono (by have := q12.size; simp; try omega))
  have PA014 := PA012.below hbR14
  have PA114 := PA112.below hbR14
  have PA214 := PA212.below hbR14
  have PY014 := PY012.below hbR14
  have PY114 := PY112.below hbR14
  have PY214 := PY212.below hbR14
  have rX014 := rX012.below hbR14
  have rX114 := rX112.below hbR14
  have rX214 := rX212.below hbR14
  obtain ⟨uY114, xY114, yY114, zY114⟩ := id PY114
  obtain ⟨uA114, xA114, yA114, zA114⟩ := id PA114
  go_wp2_with fail
  go_region_held3 (fun w' => Below w14.heap.size w14 w' ∧ w14.heap.size ≤ w'.heap.size ∧ (∀ b o, b < w14.heap.size → w'.cell? ⟨b, o, none⟩ = w14.cell? ⟨b, o, none⟩)) (first | exact keepStart _ | assumption | exact ⟨by assumption, by assumption, by assumption⟩ | exact keepCall (by assumption) (by assumption) | exact keepAlloc (by assumption) | (refine keepSet ?_ (keepSet ?_ (keepSet ?_ (keepSet ?_ ?_))) <;> first | assumption | omega | (simp; done) | (simp; omega)) | (refine keepSet ?_ (keepSet ?_ (keepSet ?_ ?_)) <;> first | assumption | omega | (simp; done) | (simp; omega)) | (refine keepSet ?_ (keepSet ?_ ?_) <;> first | assumption | omega | (simp; done) | (simp; omega)) | (refine keepSet ?_ ?_ <;> first | assumption | omega | (simp; done) | (simp; omega)))
    (first
      | (go_at_call 17; refine (toPic_any _ _ _ cs1 _ ((hv1.below q14).drewN 1) hn1).mono ?_; rintro e w15 ⟨a15, n15, c15, rfl, hb15, ho15⟩; have z15 := ((rX114.drewN 1).below hb15); have hI := keepCall (n := w14.heap.size) (W1 := w14) (by assumption) hb15; obtain ⟨hc, hf⟩ := bcell hb15; have hz := hb15.size; (try simp at hz); (try simp only [World.size_drew, World.cell?_drew] at hc); (try simp only [World.size_drew, World.frozen?_drew] at hf); first | (have hs := Nat.lt_of_succ_le hz) | (have hs := Nat.lt_of_lt_of_le hs hz) | skip)
      | (go_at_call 19; refine (eqPic_any _ _ _ _ cs1 _ z15.fc ho15.fc hn1).mono ?_; rintro e w16 ⟨rfl, hb16⟩; have hI := keepCall (n := w14.heap.size) (W1 := w14) (by assumption) hb16; obtain ⟨hc, hf⟩ := bcell hb16; have hz := hb16.size; (try simp at hz); (try simp only [World.size_drew, World.cell?_drew] at hc); (try simp only [World.size_drew, World.frozen?_drew] at hf); first | (have hs := Nat.lt_of_succ_le hz) | (have hs := Nat.lt_of_lt_of_le hs hz) | skip))
  have hbR16 : Below w14.heap.size w14 w16 := And.left (by assumption)
  have s16 := hbR16.size
  have q16 : Below w.heap.size w w16 := q14.trans (hbR16.mono (by have := q14.size; simp; try omega))
  have PA016 := PA014.below hbR16
  have PA116 := PA114.below hbR16
  have PA216 := PA214.below hbR16
  have PY016 := PY014.below hbR16
  have PY116 := PY114.below hbR16
  have PY216 := PY214.below hbR16
  have rX016 := rX014.below hbR16
  have rX116 := rX114.below hbR16
  have rX216 := rX214.below hbR16
  obtain ⟨uY216, xY216, yY216, zY216⟩ := id PY216
  obtain ⟨uA216, xA216, yA216, zA216⟩ := id PA216
  go_wp2_with fail
  go_region_held3 (fun w' => Below w16.heap.size w16 w' ∧ w16.heap.size ≤ w'.heap.size ∧ (∀ b o, b < w16.heap.size → w'.cell? ⟨b, o, none⟩ = w16.cell? ⟨b, o, none⟩)) (first | exact keepStart _ | assumption | exact ⟨by assumption, by assumption, by assumption⟩ | exact keepCall (by assumption) (by assumption) | exact keepAlloc (by assumption) | (refine keepSet ?_ (keepSet ?_ (keepSet ?_ (keepSet ?_ ?_))) <;> first | assumption | omega | (simp; done) | (simp; omega)) | (refine keepSet ?_ (keepSet ?_ (keepSet ?_ ?_)) <;> first | assumption | omega | (simp; done) | (simp; omega)) | (refine keepSet ?_ (keepSet ?_ ?_) <;> first | assumption | omega | (simp; done) | (simp; omega)) | (refine keepSet ?_ ?_ <;> first | assumption | omega | (simp; done) | (simp; omega)))
    (first
      | (go_at_call 22; refine (toMap_any _ _ _ cs2 _ ((hv2.below q16).drewN 1) hn2).mono ?_; rintro e w17 ⟨a17, n17, c17, rfl, hb17, ho17⟩; have z17 := ((rX216.drewN 1).below hb17); have hI := keepCall (n := w16.heap.size) (W1 := w16) (by assumption) hb17; obtain ⟨hc, hf⟩ := bcell hb17; have hz := hb17.size; (try simp at hz); (try simp only [World.size_drew, World.cell?_drew] at hc); (try simp only [World.size_drew, World.frozen?_drew] at hf); first | (have hs := Nat.lt_of_succ_le hz) | (have hs := Nat.lt_of_lt_of_le hs hz) | skip)
      | (go_at_call 24; refine (eqMap_any _ _ _ _ cs2 _ z17.fc ho17.fc hn2).mono ?_; rintro e w18 ⟨rfl, hb18⟩; have hI := keepCall (n := w16.heap.size) (W1 := w16) (by assumption) hb18; obtain ⟨hc, hf⟩ := bcell hb18; have hz := hb18.size; (try simp at hz); (try simp only [World.size_drew, World.cell?_drew] at hc); (try simp only [World.size_drew, World.frozen?_drew] at hf); first | (have hs := Nat.lt_of_succ_le hz) | (have hs := Nat.lt_of_lt_of_le hs hz) | skip))
  have hbR18 : Below w16.heap.size w16 w18 := And.left (by assumption)
  have s18 := hbR18.size
  have q18 : Below w.heap.size w w18 := q16.trans (hbR18.mono (by have := q16.size; simp; try omega))
  have PA018 := PA016.below hbR18
  have PA118 := PA116.below hbR18
  have PA218 := PA216.below hbR18
  have PY018 := PY016.below hbR18
  have PY118 := PY116.below hbR18
  have PY218 := PY216.below hbR18
  have rX018 := rX016.below hbR18
  have rX118 := rX116.below hbR18
  have rX218 := rX216.below hbR18
  go_wp2_with fail
  go_ret
  exact ⟨rfl, q18⟩

set_option maxRecDepth 100000 in
theorem lifted (os : Os) (started : os.Started) (H : Type) (enc : TypeId × Value → H) :
    ReturnsInHanded {} Try.checked os 14 .any (Rows.fnExactErrorOfSpec.pre6 enc Try.prog Try.f14 Rows.fnExactErrorOfRow.domain false) (Rows.fnExactErrorOfSpec.post enc Try.prog Try.f14 false true false false) := by
  refine returnsInHanded_of_change (C := Try.checked) own started (by kernel_rfl) Try.func14
    (ChangeSpec.witness6 (enc := enc) (C := Try.checked) false ⟨#[], #[.agg #[.int .i64 0, .int .i64 0, .slice none 0 0], .agg #[.int .i64 0, .int .i64 0, .slice none 0 0], .agg #[.int .i64 0, .int .i64 0, .slice none 0 0]], []⟩ 8 (by kernel_rfl) (by kernel_rfl) (by kernel_rfl) (by kernel_rfl)) ?_
  intro W base args ds gs before hval0 hW hcnd _
  have hval : ∀ (j : Nat) t v, Try.f14.params[j]? = some t → args[j]? = some v → Value.okWide Try.prog W .any base t v := hval0
  have hW' := hW
  obtain ⟨p, q, hA0, hV, rfl, hfz, hnd⟩ := hW
  have hA : DataW.TrodAll enc Try.prog W 0 (fun _ => true) true Try.f14.params.toList args.toList ds p := hA0
  rw [Try.params14] at hA hval
  obtain ⟨v0, vs0, d0, ds0, p0, q0, hargs, rfl, rfl, h0, r0⟩ := trodAll_cons hA
  obtain ⟨v1, vs1, d1, ds1, p1, q1, rfl, rfl, rfl, h1, r1⟩ := trodAll_cons r0
  obtain ⟨v2, vs2, d2, ds2, p2, q2, rfl, rfl, rfl, h2, r2⟩ := trodAll_cons r1
  obtain ⟨rfl, rfl, rfl⟩ := trodAll_nil r2
  obtain rfl : args = #[v0, v1, v2] := by cases args; simp_all
  obtain ⟨rfl, rfl⟩ := trodVars_none hV
  have k0 := h0
  have lt0 : ∀ x ∈ p0, x.block < W.heap.size := by obtain ⟨m, hm⟩ := k0; exact DataW.trod_lt m _ _ _ hm
  have k1 := h1
  have lt1 : ∀ x ∈ p1, x.block < W.heap.size := by obtain ⟨m, hm⟩ := k1; exact DataW.trod_lt m _ _ _ hm
  have k2 := h2
  have lt2 : ∀ x ∈ p2, x.block < W.heap.size := by obtain ⟨m, hm⟩ := k2; exact DataW.trod_lt m _ _ _ hm
  obtain ⟨W0, H0, a0, n0, c0, z0, rfl, wW0, wH0, w0⟩ := pic_of Try.underlying24 (by kernel_rfl) (by kernel_rfl) Try.underlying2 Try.underlying2 Try.underlying22 Try.underlying49 (by kernel_rfl) (hval 0 24 v0 rfl rfl) h0
  obtain ⟨W1, H1, a1, n1, c1, z1, rfl, wW1, wH1, w1⟩ := pic_of Try.underlying24 (by kernel_rfl) (by kernel_rfl) Try.underlying2 Try.underlying2 Try.underlying22 Try.underlying49 (by kernel_rfl) (hval 1 24 v1 rfl rfl) h1
  obtain ⟨W2, H2, a2, n2, c2, z2, rfl, wW2, wH2, w2⟩ := pic_of Try.underlying31 (by kernel_rfl) (by kernel_rfl) Try.underlying2 Try.underlying2 Try.underlying22 Try.underlying49 (by kernel_rfl) (hval 2 31 v2 rfl rfl) h2
  clear hA0 hval0
  refine (walk W0 H0 a0 n0 c0 z0 W1 H1 a1 n1 c1 z1 W2 H2 a2 n2 c2 z2 W wW0 wH0 w0 wW1 wH1 w1 wW2 wH2 w2).mono fun e W' ⟨he, bel⟩ => ?_
  subst he
  exact ⟨_, rfl, _, _, _, [], _, [], hW', trodAll_mk1 (shut_bool Try.underlying4 _), (trodAll_cons_mk (Below.trod laidOut (by kernel_rfl) (of_decide_eq_true (by kernel_rfl)) k0 bel lt0) (trodAll_cons_mk (Below.trod laidOut (by kernel_rfl) (of_decide_eq_true (by kernel_rfl)) k1 bel lt1) (trodAll_cons_mk (Below.trod laidOut (by kernel_rfl) (of_decide_eq_true (by kernel_rfl)) k2 bel lt2) trodAll_mk0))), rfl, bel.frame _, fun h => by cases h⟩

theorem over : Rows.fnExactErrorOfRow.holds Try.pinned (OpenSpec.ofChange Rows.fnExactErrorOfSpec) :=
  OpenClaim.holds_of_wide 14 Try.f14 rfl rfl rfl rfl rfl rfl rfl ⟨rfl, rfl, rfl, rfl, rfl⟩ rfl rfl rfl rfl rfl (by kernel_rfl) Try.func14 (by kernel_rfl)
    (of_decide_eq_true (by kernel_rfl)) (by unfold Func.isWrapper; first | (rw [if_pos (by decide +kernel)]; kernel_rfl) | (rw [if_neg (by decide +kernel)]; exact ⟨rfl, rfl⟩))
    (fun os started H enc _ => lifted os started H enc)

theorem proved : Rows.FnExactErrorOfSaid := over
#print axioms proved
end Go.Proofs.Ytbiobmdibiplfaa.lawFnExactErrorOf
