/-
  For every list and every picture, valid or not, the program's BendPicture answers as the model's, to the last bit, in memory of its own, and the arguments stay as they were; no condition but that each holds at most 1048576 numbers (else the law asks nothing).
-/
import Derived.Test.YtnbilmlpngcobaaBase
import Derived.Test.YtnbilmlpngcobaaPo
import Derived.Test.YtnbilmlpngcobaaVm
import Derived.Test.YtnbilmlpngcobaaBs
import Derived.Deep.DeepCutAuto
import Derived.Deep.DrawnRows
namespace Go.Proofs.Ytnbilmlpngcobaa.lawFnExactBendPicture
open Go.ChangeShapes Go.WideShapes Go.ChangeAt Go.RowKit Go.FX
open Go.ChangeMaps (open_string shut_string)
set_option linter.unusedVariables false
set_option linter.unusedSimpArgs false

attribute [local go_sem ↓] Go.wp_at_zero Go.wp_at_succ

set_option maxHeartbeats 16000000 in
set_option maxRecDepth 100000 in
theorem walk (a0 : Option Addr) (len0 cap0 : Nat) (z0 : List Nat) (W1 H1 : Int) (a1 : Option Addr) (n1 c1 : Nat) (z1 : List Nat) (w : World) (w0 : FS w (.slice a0 len0 cap0) z0) (wW1 : (Lit.int .i64 W1).wf = true) (wH1 : (Lit.int .i64 H1).wf = true) (w1 : FS w (.slice a1 n1 c1) z1) :
    Calls Try.prog 5 #[.slice a0 len0 cap0, .agg #[.int .i64 W1, .int .i64 H1, .slice a1 n1 c1]] w fun e w' => e = .returned (.bool true) ∧ Below w.heap.size w w' := by
  have hv0 : FC w (.slice a0 len0 cap0) (z0.map (cn .f32)) := FC.of w0
  generalize z0.map (cn .f32) = cs0 at hv0
  clear w0
  obtain ⟨en0, hnc0, hcm0⟩ := hv0.sized
  have hmx0 : (len0 : Int) ≤ 9223372036854775807 := by unfold maxLen at hcm0; omega
  have hv1 : FC w (.slice a1 n1 c1) (z1.map (cn .f32)) := FC.of w1
  generalize z1.map (cn .f32) = cs1 at hv1
  clear w1
  obtain ⟨en1, hnc1, hcm1⟩ := hv1.sized
  have hmx1 : (n1 : Int) ≤ 9223372036854775807 := by unfold maxLen at hcm1; omega
  by_cases hlen0 : len0 ≤ 1048576
  case neg =>
    clear en0 hnc0 hcm0 en1 hnc1 hcm1
    go_enter Try.func5, Try.ntmps5
    go_wp2_with fail
    go_ret
    exact ⟨rfl, below1 _ _⟩
  by_cases hlen1 : n1 ≤ 1048576
  case neg =>
    clear en0 hnc0 hcm0 en1 hnc1 hcm1
    go_enter Try.func5, Try.ntmps5
    go_wp2_with fail
    refine (szPic_no _ _ _ _ _ _ _ (by omega) (by omega) hmx1).mono ?_
    rintro e v0 ⟨rfl, hc0⟩
    have y0 := hc0.size; simp only [World.size_alloc] at y0
    have x0 : Below w.heap.size w v0 := (below1 _ _).trans (hc0.mono (by simp; try omega))
    go_wp2_with fail
    go_ret
    exact ⟨rfl, x0⟩
  obtain ⟨W', H', cs', ok, hS, hImp, h256⟩ := pairBendPicture cs0 W1 H1 cs1
  have hn0 : cs0.length ≤ 1048576 := by omega
  have hn1 : cs1.length ≤ 1048576 := by omega
  clear en0 hnc0 hcm0 hmx0
  clear en1 hnc1 hcm1 hmx1
  go_enter Try.func5, Try.ntmps5
  go_wp2_with fail
  refine (szPic_any _ _ _ _ _ _ _ (by omega) (by omega)).mono ?_
  rintro e w1 ⟨rfl, hb1⟩
  have s1 := hb1.size; simp only [World.size_alloc] at s1
  have q1 : Below w.heap.size w w1 := (bel_al (Below.refl w.heap.size w) (by have := Nat.le_refl 0; simp; try omega) _).trans (hb1.mono (by have := Nat.le_refl 0; simp; try omega))
  have PA11 := (Pv.new w (W1) (H1) (.slice a1 n1 c1) 45).below hb1
  obtain ⟨uA11, xA11, yA11, zA11⟩ := id PA11
  go_upto_region 7 with fail
  go_cut [6, 7] (fun sA sB wx => PicAt 22 w1 W' H' cs' ok sA sB wx ∧ Below w1.heap.size w1 wx)
  case first =>
    have hvK10 := hv0.below q1
    have hvK11 := hv1.below q1
    go_region_held3 (fun w' => Below w1.heap.size w1 w' ∧ w1.heap.size ≤ w'.heap.size ∧ (∀ b o, b < w1.heap.size → w'.cell? ⟨b, o, none⟩ = w1.cell? ⟨b, o, none⟩)) (first | exact keepStart _ | assumption | exact ⟨by assumption, by assumption, by assumption⟩ | exact keepCall (by assumption) (by assumption) | exact keepAlloc (by assumption) | (refine keepSet ?_ (keepSet ?_ (keepSet ?_ (keepSet ?_ ?_))) <;> first | assumption | omega | (simp; done) | (simp; omega)) | (refine keepSet ?_ (keepSet ?_ (keepSet ?_ ?_)) <;> first | assumption | omega | (simp; done) | (simp; omega)) | (refine keepSet ?_ (keepSet ?_ ?_) <;> first | assumption | omega | (simp; done) | (simp; omega)) | (refine keepSet ?_ ?_ <;> first | assumption | omega | (simp; done) | (simp; omega)))
      (first
        | (go_at_call 27; (with_reducible refine (toFC_any _ cs0 _ (hvK10.below (And.left (by assumption))) hn0).mono ?_); rintro e w2 ⟨a2, n2, c2, rfl, hb2, ho2⟩; have f2 := ho2.fc; have s2 := hb2.size; (try simp at s2); have hI := keepCall (n := w1.heap.size) (W1 := w1) (by assumption) hb2; obtain ⟨hc, hf⟩ := bcell hb2; have hz := hb2.size; (try simp at hz); (try simp only [World.size_drew, World.cell?_drew] at hc); (try simp only [World.size_drew, World.frozen?_drew] at hf); first | (have hs := Nat.lt_of_succ_le hz) | (have hs := Nat.lt_of_lt_of_le hs hz) | skip)
        | (go_at_call 28; (with_reducible refine (toPic_any _ _ _ cs1 _ (hvK11.below (And.left (by assumption))) hn1).mono ?_); rintro e w3 ⟨a3, n3, c3, rfl, hb3, ho3⟩; have bX3 : Below w2.heap.size w2 w3 := (by first | (with_reducible exact hb3) | exact (below1 _ _).trans (hb3.mono (by simp))); have t03 := f2.below bX3; have f3 := ho3.fc; have s3 := hb3.size; (try simp at s3); have hI := keepCall (n := w1.heap.size) (W1 := w1) (by assumption) hb3; obtain ⟨hc, hf⟩ := bcell hb3; have hz := hb3.size; (try simp at hz); (try simp only [World.size_drew, World.cell?_drew] at hc); (try simp only [World.size_drew, World.frozen?_drew] at hf); first | (have hs := Nat.lt_of_succ_le hz) | (have hs := Nat.lt_of_lt_of_le hs hz) | skip)
        | (go_at_call 26; (with_reducible refine (hS _ _ _ _ _ _ _ (by first | (with_reducible exact t03) | (with_reducible exact t03.alloc _)) (by first | (with_reducible exact f3) | (with_reducible exact f3.alloc _))).mono ?_); rintro e w4 ⟨a4, n4, c4, rfl, hb4, ho4⟩; have s4 := hb4.size; (try simp at s4); have hI := keepCall (n := w1.heap.size) (W1 := w1) (by assumption) hb4; obtain ⟨hc, hf⟩ := bcell hb4; have hz := hb4.size; (try simp at hz); (try simp only [World.size_drew, World.cell?_drew] at hc); (try simp only [World.size_drew, World.frozen?_drew] at hf); first | (have hs := Nat.lt_of_succ_le hz) | (have hs := Nat.lt_of_lt_of_le hs hz) | skip))
    all_goals go_wp2_with fail
    all_goals go_meet
    all_goals refine ⟨⟨_, _, _, _, rfl, rfl, ?_, ?_, fun e => by have h := ho4.lt _ e; (first | omega | (simp at h; done) | (simp at h; omega)), by first | omega | (simp; done) | (simp; omega)⟩, And.left (by assumption)⟩
    all_goals first | ((with_reducible refine OC.atNew ho4 ?_); (first | omega | (simp; done) | (simp; omega))) | ((with_reducible refine OC.at3 ho4 ?_ ?_) <;> (first | omega | (simp; done) | (simp; omega))) | (unfold Pv; refine ⟨?_, ?_, ?_, ?_⟩ <;> (first | omega | (simp; done) | (simp; omega) | (go_simp; done)))
  obtain ⟨⟨bo5, a5, n5, c5, rfl, rfl, hP5, ho5, hne5, hbo5⟩, hbR5⟩ := hcut
  obtain ⟨w5, hV5⟩ : ∃ V, V = wc := ⟨_, rfl⟩
  subst hV5
  have s5 := hbR5.size
  have q5 : Below w.heap.size w w5 := q1.trans (hbR5.mono (by have := q1.size; simp; try omega))
  have PA15 := PA11.below hbR5
  have hbl5 : bo5 < w5.heap.size := hP5.1
  have rM5 := ho5
  have bM : ∀ k, (Value.slice a5 n5 c5).ownBlock = some k → w1.heap.size ≤ k ∧ k < w5.heap.size := fun k hk => by have h := ho5.lt k hk; (try simp at h); omega
  have PV5 := hP5
  have qL := q5
  go_wp2_with fail
  refine (toFC_any _ cs0 _ (hv0.below q5) hn0).mono ?_
  rintro e w6 ⟨a6, n6, c6, rfl, hb6, ho6⟩
  have s6 := hb6.size
  have q6 : Below w.heap.size w w6 := q5.trans (hb6.mono (by have := q5.size; simp; try omega))
  have PA16 := PA15.below hb6
  have PV6 := PV5.below hb6
  have rM6 := rM5.below hb6
  have rX06 := ho6
  have bX0 : ∀ k, (Value.slice a6 n6 c6).ownBlock = some k → w5.heap.size ≤ k ∧ k < w6.heap.size := fun k hk => by have h := ho6.lt k hk; (try simp at h); omega
  obtain ⟨uA16, xA16, yA16, zA16⟩ := id PA16
  go_wp2_with fail
  refine (toPic_any _ _ _ cs1 _ (hv1.below q6) hn1).mono ?_
  rintro e w7 ⟨a7, n7, c7, rfl, hb7, ho7⟩
  have s7 := hb7.size
  have q7 : Below w.heap.size w w7 := q6.trans (hb7.mono (by have := q6.size; simp; try omega))
  have PA17 := PA16.below hb7
  have PV7 := PV6.below hb7
  have rM7 := rM6.below hb7
  have rX07 := rX06.below hb7
  have rX17 := ho7
  have bX1 : ∀ k, (Value.slice a7 n7 c7).ownBlock = some k → w6.heap.size ≤ k ∧ k < w7.heap.size := fun k hk => by have h := ho7.lt k hk; (try simp at h); omega
  go_wp2_with fail
  refine (hImp _ _ _ _ _ _ _ (rX07.alloc _).fc (rX17.alloc _).fc).mono ?_
  rintro e w8 ⟨a8, n8, c8, rfl, hb8, ho8⟩
  have s8 := hb8.size; simp only [World.size_alloc] at s8
  have q8 : Below w.heap.size w w8 := (bel_al q7 (by have := q7.size; simp; try omega) _).trans (hb8.mono (by have := q7.size; simp; try omega))
  have PA18 := (PA17.alloc _).below hb8
  have PV8 := (PV7.alloc _).below hb8
  have rM8 := (rM7.alloc _).below hb8
  have rX08 := (rX07.alloc _).below hb8
  have rX18 := (rX17.alloc _).below hb8
  have PY18 := (Pv.new w7 (W1) (H1) (.slice a7 n7 c7) 47).below hb8
  have rG8 := ho8
  have bG : ∀ k, (Value.slice a8 n8 c8).ownBlock = some k → w7.heap.size + 1 ≤ k ∧ k < w8.heap.size := fun k hk => by have h := ho8.lt k hk; (try simp at h); omega
  obtain ⟨uV8, xV8, yV8, zV8⟩ := id PV8
  go_wp2_with fail
  refine (eqPic_any _ _ _ _ cs' _ (rG8.alloc _).fc (rM8.alloc _).fc (Nat.le_trans h256 (by decide))).mono ?_
  rintro e w9 ⟨rfl, hb9⟩
  have s9 := hb9.size; simp only [World.size_alloc] at s9
  have q9 : Below w.heap.size w w9 := (bel_al q8 (by have := q8.size; simp; try omega) _).trans (hb9.mono (by have := q8.size; simp; try omega))
  have PA19 := (PA18.alloc _).below hb9
  have PV9 := (PV8.alloc _).below hb9
  have PY19 := (PY18.alloc _).below hb9
  have rM9 := (rM8.alloc _).below hb9
  have rX09 := (rX08.alloc _).below hb9
  have rX19 := (rX18.alloc _).below hb9
  have rG9 := (rG8.alloc _).below hb9
  have PZ9 := (Pv.new w8 (W') (H') (.slice a8 n8 c8) 47).below hb9
  go_wp2_with fail
  refine (toFC_any _ cs0 _ (hv0.below q9) hn0).mono ?_
  rintro e w10 ⟨a10, n10, c10, rfl, hb10, ho10⟩
  have s10 := hb10.size
  have q10 : Below w.heap.size w w10 := q9.trans (hb10.mono (by have := q9.size; simp; try omega))
  have PA110 := PA19.below hb10
  have PV10 := PV9.below hb10
  have PY110 := PY19.below hb10
  have PZ10 := PZ9.below hb10
  have rM10 := rM9.below hb10
  have rX010 := rX09.below hb10
  have rX110 := rX19.below hb10
  have rG10 := rG9.below hb10
  go_wp2_with fail
  refine (eqFC_any _ _ cs0 _ rX010.fc ho10.fc hn0).mono ?_
  rintro e w11 ⟨k11, rfl, e11⟩
  have hb11 : Below w10.heap.size w10 w11 := by rw [e11]; exact below_drewN (Below.refl _ _) _
  clear e11
  have s11 := hb11.size
  have q11 : Below w.heap.size w w11 := q10.trans (hb11.mono (by have := q10.size; simp; try omega))
  have PA111 := PA110.below hb11
  have PV11 := PV10.below hb11
  have PY111 := PY110.below hb11
  have PZ11 := PZ10.below hb11
  have rM11 := rM10.below hb11
  have rX011 := rX010.below hb11
  have rX111 := rX110.below hb11
  have rG11 := rG10.below hb11
  obtain ⟨uY111, xY111, yY111, zY111⟩ := id PY111
  obtain ⟨uA111, xA111, yA111, zA111⟩ := id PA111
  go_wp2_with fail
  go_region_held3 (fun w' => Below w11.heap.size w11 w' ∧ w11.heap.size ≤ w'.heap.size ∧ (∀ b o, b < w11.heap.size → w'.cell? ⟨b, o, none⟩ = w11.cell? ⟨b, o, none⟩)) (first | exact keepStart _ | assumption | exact ⟨by assumption, by assumption, by assumption⟩ | exact keepCall (by assumption) (by assumption) | exact keepAlloc (by assumption) | (refine keepSet ?_ (keepSet ?_ (keepSet ?_ (keepSet ?_ ?_))) <;> first | assumption | omega | (simp; done) | (simp; omega)) | (refine keepSet ?_ (keepSet ?_ (keepSet ?_ ?_)) <;> first | assumption | omega | (simp; done) | (simp; omega)) | (refine keepSet ?_ (keepSet ?_ ?_) <;> first | assumption | omega | (simp; done) | (simp; omega)) | (refine keepSet ?_ ?_ <;> first | assumption | omega | (simp; done) | (simp; omega)))
    (first
      | (go_at_call 28; refine (toPic_any _ _ _ cs1 _ ((hv1.below q11).drewN 1) hn1).mono ?_; rintro e w12 ⟨a12, n12, c12, rfl, hb12, ho12⟩; have z12 := ((rX111.drewN 1).below hb12); have hI := keepCall (n := w11.heap.size) (W1 := w11) (by assumption) hb12; obtain ⟨hc, hf⟩ := bcell hb12; have hz := hb12.size; (try simp at hz); (try simp only [World.size_drew, World.cell?_drew] at hc); (try simp only [World.size_drew, World.frozen?_drew] at hf); first | (have hs := Nat.lt_of_succ_le hz) | (have hs := Nat.lt_of_lt_of_le hs hz) | skip)
      | (go_at_call 30; refine (eqPic_any _ _ _ _ cs1 _ z12.fc ho12.fc hn1).mono ?_; rintro e w13 ⟨rfl, hb13⟩; have hI := keepCall (n := w11.heap.size) (W1 := w11) (by assumption) hb13; obtain ⟨hc, hf⟩ := bcell hb13; have hz := hb13.size; (try simp at hz); (try simp only [World.size_drew, World.cell?_drew] at hc); (try simp only [World.size_drew, World.frozen?_drew] at hf); first | (have hs := Nat.lt_of_succ_le hz) | (have hs := Nat.lt_of_lt_of_le hs hz) | skip))
  have hbR13 : Below w11.heap.size w11 w13 := And.left (by assumption)
  have s13 := hbR13.size
  have q13 : Below w.heap.size w w13 := q11.trans (hbR13.mono (by have := q11.size; simp; try omega))
  have PA113 := PA111.below hbR13
  have PV13 := PV11.below hbR13
  have PY113 := PY111.below hbR13
  have PZ13 := PZ11.below hbR13
  have rM13 := rM11.below hbR13
  have rX013 := rX011.below hbR13
  have rX113 := rX111.below hbR13
  have rG13 := rG11.below hbR13
  go_wp2_with fail
  refine (markF_any _ _ _ _ _ rX013 (by omega) (by omega)).mono ?_
  rintro e w14 ⟨rfl, hg14, ho14⟩
  have s14 := hg14.size
  have q14 := q13.grown hg14 q13.size (fun k hk => by have := bX0 k hk; have := qL.size; omega)
  have PA114 := PA113.kept hg14 (fun e => by have := bX0 _ e; omega)
  have PV14 := PV13.kept hg14 (fun e => by have := bX0 _ e; omega)
  have PY114 := PY113.kept hg14 (fun e => by have := bX0 _ e; omega)
  have PZ14 := PZ13.kept hg14 (fun e => by have := bX0 _ e; omega)
  have rM14 := rM13.kept hg14 (own_sep fun k hk k' hk' => by have := bM k hk; have := bX0 k' hk'; omega)
  have rX114 := rX113.kept hg14 (own_sep fun k hk k' hk' => by have := bX1 k hk; have := bX0 k' hk'; omega)
  have rG14 := rG13.kept hg14 (own_sep fun k hk k' hk' => by have := bG k hk; have := bX0 k' hk'; omega)
  obtain ⟨uY114, xY114, yY114, zY114⟩ := id PY114
  go_wp2_with fail
  refine (markPic_any _ _ _ _ _ _ _ rX114 (by omega) (by omega)).mono ?_
  rintro e w15 ⟨rfl, hg15, ho15⟩
  have s15 := hg15.size
  have q15 := q14.grown hg15 q14.size (fun k hk => by have := bX1 k hk; have := qL.size; omega)
  have PA115 := PA114.kept hg15 (fun e => by have := bX1 _ e; omega)
  have PV15 := PV14.kept hg15 (fun e => by have := bX1 _ e; omega)
  have PY115 := PY114.kept hg15 (fun e => by have := bX1 _ e; omega)
  have PZ15 := PZ14.kept hg15 (fun e => by have := bX1 _ e; omega)
  have rM15 := rM14.kept hg15 (own_sep fun k hk k' hk' => by have := bM k hk; have := bX1 k' hk'; omega)
  have rG15 := rG14.kept hg15 (own_sep fun k hk k' hk' => by have := bG k hk; have := bX1 k' hk'; omega)
  obtain ⟨uZ15, xZ15, yZ15, zZ15⟩ := id PZ15
  obtain ⟨uV15, xV15, yV15, zV15⟩ := id PV15
  go_wp2_with fail
  refine (eqPic_any _ _ _ _ cs' _ rG15.fc rM15.fc (Nat.le_trans h256 (by decide))).mono ?_
  rintro e w16 ⟨rfl, hb16⟩
  have s16 := hb16.size
  have q16 : Below w.heap.size w w16 := q15.trans (hb16.mono (by have := q15.size; simp; try omega))
  have PA116 := PA115.below hb16
  have PV16 := PV15.below hb16
  have PY116 := PY115.below hb16
  have PZ16 := PZ15.below hb16
  have rM16 := rM15.below hb16
  have rG16 := rG15.below hb16
  obtain ⟨uZ16, xZ16, yZ16, zZ16⟩ := id PZ16
  go_wp2_with fail
  refine (markPic_any _ _ _ _ _ _ _ rG16 (by omega) (by omega)).mono ?_
  rintro e w17 ⟨rfl, hg17, ho17⟩
  have s17 := hg17.size
  have q17 := q16.grown hg17 q16.size (fun k hk => by have := bG k hk; have := qL.size; omega)
  have PA117 := PA116.kept hg17 (fun e => by have := bG _ e; omega)
  have PV17 := PV16.kept hg17 (fun e => by have := bG _ e; omega)
  have PY117 := PY116.kept hg17 (fun e => by have := bG _ e; omega)
  have PZ17 := PZ16.kept hg17 (fun e => by have := bG _ e; omega)
  have rM17 := rM16.kept hg17 (own_sep fun k hk k' hk' => by have := bM k hk; have := bG k' hk'; omega)
  have rK17 := ho17
  obtain ⟨uZ17, xZ17, yZ17, zZ17⟩ := id PZ17
  go_wp2_with fail
  refine (heldPic_any _ _ _ _ _ _ rK17.fc (by omega) (by omega)).mono ?_
  rintro e w18 ⟨rfl, hb18⟩
  have s18 := hb18.size
  have q18 : Below w.heap.size w w18 := q17.trans (hb18.mono (by have := q17.size; simp; try omega))
  have PA118 := PA117.below hb18
  have PV18 := PV17.below hb18
  have PY118 := PY117.below hb18
  have PZ18 := PZ17.below hb18
  have rM18 := rM17.below hb18
  have rK18 := rK17.below hb18
  obtain ⟨uA118, xA118, yA118, zA118⟩ := id PA118
  go_upto_region 30 with fail
  go_cut [15, 16] (fun sA sB wx => PicAt 22 w18 W' H' cs' ok sA sB wx ∧ Below w18.heap.size w18 wx)
  case first =>
    have hvK180 := hv0.below q18
    have hvK181 := hv1.below q18
    go_region_held3 (fun w' => Below w18.heap.size w18 w' ∧ w18.heap.size ≤ w'.heap.size ∧ (∀ b o, b < w18.heap.size → w'.cell? ⟨b, o, none⟩ = w18.cell? ⟨b, o, none⟩)) (first | exact keepStart _ | assumption | exact ⟨by assumption, by assumption, by assumption⟩ | exact keepCall (by assumption) (by assumption) | exact keepAlloc (by assumption) | (refine keepSet ?_ (keepSet ?_ (keepSet ?_ (keepSet ?_ ?_))) <;> first | assumption | omega | (simp; done) | (simp; omega)) | (refine keepSet ?_ (keepSet ?_ (keepSet ?_ ?_)) <;> first | assumption | omega | (simp; done) | (simp; omega)) | (refine keepSet ?_ (keepSet ?_ ?_) <;> first | assumption | omega | (simp; done) | (simp; omega)) | (refine keepSet ?_ ?_ <;> first | assumption | omega | (simp; done) | (simp; omega)))
      (first
        | (go_at_call 27; (with_reducible refine (toFC_any _ cs0 _ (hvK180.below (And.left (by assumption))) hn0).mono ?_); rintro e w19 ⟨a19, n19, c19, rfl, hb19, ho19⟩; have f19 := ho19.fc; have s19 := hb19.size; (try simp at s19); have hI := keepCall (n := w18.heap.size) (W1 := w18) (by assumption) hb19; obtain ⟨hc, hf⟩ := bcell hb19; have hz := hb19.size; (try simp at hz); (try simp only [World.size_drew, World.cell?_drew] at hc); (try simp only [World.size_drew, World.frozen?_drew] at hf); first | (have hs := Nat.lt_of_succ_le hz) | (have hs := Nat.lt_of_lt_of_le hs hz) | skip)
        | (go_at_call 28; (with_reducible refine (toPic_any _ _ _ cs1 _ (hvK181.below (And.left (by assumption))) hn1).mono ?_); rintro e w20 ⟨a20, n20, c20, rfl, hb20, ho20⟩; have bX20 : Below w19.heap.size w19 w20 := (by first | (with_reducible exact hb20) | exact (below1 _ _).trans (hb20.mono (by simp))); have t020 := f19.below bX20; have f20 := ho20.fc; have s20 := hb20.size; (try simp at s20); have hI := keepCall (n := w18.heap.size) (W1 := w18) (by assumption) hb20; obtain ⟨hc, hf⟩ := bcell hb20; have hz := hb20.size; (try simp at hz); (try simp only [World.size_drew, World.cell?_drew] at hc); (try simp only [World.size_drew, World.frozen?_drew] at hf); first | (have hs := Nat.lt_of_succ_le hz) | (have hs := Nat.lt_of_lt_of_le hs hz) | skip)
        | (go_at_call 29; (with_reducible refine (hImp _ _ _ _ _ _ _ (by first | (with_reducible exact t020) | (with_reducible exact t020.alloc _)) (by first | (with_reducible exact f20) | (with_reducible exact f20.alloc _))).mono ?_); rintro e w21 ⟨a21, n21, c21, rfl, hb21, ho21⟩; have s21 := hb21.size; (try simp at s21); have hI := keepCall (n := w18.heap.size) (W1 := w18) (by assumption) hb21; obtain ⟨hc, hf⟩ := bcell hb21; have hz := hb21.size; (try simp at hz); (try simp only [World.size_drew, World.cell?_drew] at hc); (try simp only [World.size_drew, World.frozen?_drew] at hf); first | (have hs := Nat.lt_of_succ_le hz) | (have hs := Nat.lt_of_lt_of_le hs hz) | skip))
    all_goals go_wp2_with fail
    all_goals go_meet
    all_goals refine ⟨⟨_, _, _, _, rfl, rfl, ?_, ?_, fun e => by have h := ho21.lt _ e; (first | omega | (simp at h; done) | (simp at h; omega)), by first | omega | (simp; done) | (simp; omega)⟩, And.left (by assumption)⟩
    all_goals first | ((with_reducible refine OC.atNew ho21 ?_); (first | omega | (simp; done) | (simp; omega))) | ((with_reducible refine OC.at3 ho21 ?_ ?_) <;> (first | omega | (simp; done) | (simp; omega))) | (unfold Pv; refine ⟨?_, ?_, ?_, ?_⟩ <;> (first | omega | (simp; done) | (simp; omega) | (go_simp; done)))
  obtain ⟨⟨bo22, a22, n22, c22, rfl, rfl, hP22, ho22, hne22, hbo22⟩, hbR22⟩ := hcut
  obtain ⟨w22, hV22⟩ : ∃ V, V = wc := ⟨_, rfl⟩
  subst hV22
  have s22 := hbR22.size
  have q22 : Below w.heap.size w w22 := q18.trans (hbR22.mono (by have := q18.size; simp; try omega))
  have PA122 := PA118.below hbR22
  have PV22 := PV18.below hbR22
  have PY122 := PY118.below hbR22
  have PZ22 := PZ18.below hbR22
  have rM22 := rM18.below hbR22
  have rK22 := rK18.below hbR22
  have hbl22 : bo22 < w22.heap.size := hP22.1
  have rN22 := ho22
  have bN : ∀ k, (Value.slice a22 n22 c22).ownBlock = some k → w18.heap.size ≤ k ∧ k < w22.heap.size := fun k hk => by have h := ho22.lt k hk; (try simp at h); omega
  have PN22 := hP22
  obtain ⟨uV22, xV22, yV22, zV22⟩ := id PV22
  obtain ⟨uN22, xN22, yN22, zN22⟩ := id PN22
  go_wp2_with fail
  refine (eqPic_any _ _ _ _ cs' _ rN22.fc rM22.fc (Nat.le_trans h256 (by decide))).mono ?_
  rintro e w23 ⟨rfl, hb23⟩
  have s23 := hb23.size
  have q23 : Below w.heap.size w w23 := q22.trans (hb23.mono (by have := q22.size; simp; try omega))
  have PA123 := PA122.below hb23
  have PV23 := PV22.below hb23
  have PY123 := PY122.below hb23
  have PZ23 := PZ22.below hb23
  have PN23 := PN22.below hb23
  have rM23 := rM22.below hb23
  have rK23 := rK22.below hb23
  have rN23 := rN22.below hb23
  obtain ⟨uZ23, xZ23, yZ23, zZ23⟩ := id PZ23
  go_wp2_with fail
  refine (heldPic_any _ _ _ _ _ _ rK23.fc (by omega) (by omega)).mono ?_
  rintro e w24 ⟨rfl, hb24⟩
  have s24 := hb24.size
  have q24 : Below w.heap.size w w24 := q23.trans (hb24.mono (by have := q23.size; simp; try omega))
  have PA124 := PA123.below hb24
  have PV24 := PV23.below hb24
  have PY124 := PY123.below hb24
  have PZ24 := PZ23.below hb24
  have PN24 := PN23.below hb24
  have rM24 := rM23.below hb24
  have rK24 := rK23.below hb24
  have rN24 := rN23.below hb24
  go_wp2_with fail
  go_ret
  exact ⟨rfl, q24⟩

set_option maxRecDepth 100000 in
theorem lifted (os : Os) (started : os.Started) (H : Type) (enc : TypeId × Value → H) :
    ReturnsInHanded {} Try.checked os 5 .any (Rows.fnExactBendPictureSpec.pre6 enc Try.prog Try.f5 Rows.fnExactBendPictureRow.domain false) (Rows.fnExactBendPictureSpec.post enc Try.prog Try.f5 false true false false) := by
  refine returnsInHanded_of_change (C := Try.checked) own started (by kernel_rfl) Try.func5
    (ChangeSpec.witness6 (enc := enc) (C := Try.checked) false ⟨#[], #[.slice none 0 0, .agg #[.int .i64 0, .int .i64 0, .slice none 0 0]], []⟩ 8 (by kernel_rfl) (by kernel_rfl) (by kernel_rfl) (by kernel_rfl)) ?_
  intro W base args ds gs before hval0 hW hcnd _
  have hval : ∀ (j : Nat) t v, Try.f5.params[j]? = some t → args[j]? = some v → Value.okWide Try.prog W .any base t v := hval0
  have hW' := hW
  obtain ⟨p, q, hA0, hV, rfl, hfz, hnd⟩ := hW
  have hA : DataW.TrodAll enc Try.prog W 0 (fun _ => true) true Try.f5.params.toList args.toList ds p := hA0
  rw [Try.params5] at hA hval
  obtain ⟨v0, vs0, d0, ds0, p0, q0, hargs, rfl, rfl, h0, r0⟩ := trodAll_cons hA
  obtain ⟨v1, vs1, d1, ds1, p1, q1, rfl, rfl, rfl, h1, r1⟩ := trodAll_cons r0
  obtain ⟨rfl, rfl, rfl⟩ := trodAll_nil r1
  obtain rfl : args = #[v0, v1] := by cases args; simp_all
  obtain ⟨rfl, rfl⟩ := trodVars_none hV
  have k0 := h0
  have lt0 : ∀ x ∈ p0, x.block < W.heap.size := by obtain ⟨m, hm⟩ := k0; exact DataW.trod_lt m _ _ _ hm
  have k1 := h1
  have lt1 : ∀ x ∈ p1, x.block < W.heap.size := by obtain ⟨m, hm⟩ := k1; exact DataW.trod_lt m _ _ _ hm
  obtain ⟨a0, len0, cap0, rfl⟩ := okWide_slice Try.underlying25 (hval 0 25 v0 rfl rfl)
  obtain ⟨z0, w0⟩ := fs_of Try.underlying25 Try.underlying22 (by kernel_rfl) h0
  obtain ⟨W1, H1, a1, n1, c1, z1, rfl, wW1, wH1, w1⟩ := pic_of Try.underlying45 (by kernel_rfl) (by kernel_rfl) Try.underlying2 Try.underlying2 Try.underlying25 Try.underlying22 (by kernel_rfl) (hval 1 45 v1 rfl rfl) h1
  clear hA0 hval0
  refine (walk a0 len0 cap0 z0 W1 H1 a1 n1 c1 z1 W w0 wW1 wH1 w1).mono fun e W' ⟨he, bel⟩ => ?_
  subst he
  exact ⟨_, rfl, _, _, _, [], _, [], hW', trodAll_mk1 (shut_bool Try.underlying4 _), (trodAll_cons_mk (Below.trod laidOut (by kernel_rfl) (of_decide_eq_true (by kernel_rfl)) k0 bel lt0) (trodAll_cons_mk (Below.trod laidOut (by kernel_rfl) (of_decide_eq_true (by kernel_rfl)) k1 bel lt1) trodAll_mk0)), rfl, bel.frame _, fun h => by cases h⟩

theorem over : Rows.fnExactBendPictureRow.holds Try.pinned (OpenSpec.ofChange Rows.fnExactBendPictureSpec) :=
  OpenClaim.holds_of_wide 5 Try.f5 rfl rfl rfl rfl rfl rfl rfl ⟨rfl, rfl, rfl, rfl, rfl⟩ rfl rfl rfl rfl rfl (by kernel_rfl) Try.func5 (by kernel_rfl)
    (of_decide_eq_true (by kernel_rfl)) (by unfold Func.isWrapper; first | (rw [if_pos (by decide +kernel)]; kernel_rfl) | (rw [if_neg (by decide +kernel)]; exact ⟨rfl, rfl⟩))
    (fun os started H enc _ => lifted os started H enc)

theorem proved : Rows.FnExactBendPictureSaid := over
#print axioms proved
end Go.Proofs.Ytnbilmlpngcobaa.lawFnExactBendPicture
