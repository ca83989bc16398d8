/-
  For all arguments (picture, picture), valid or not, the program's RowOffset answers as the model's, to the last bit, in memory of its own, and the arguments stay as they were; no condition but that they hold at most 1048576 numbers (else the law asks nothing).
-/
import Derived.Test.YtbiobmdibiplfaaBase
import Derived.Test.YtbiobmdibiplfaaPo
import Derived.Test.YtbiobmdibiplfaaVm
import Derived.Test.YtbiobmdibiplfaaRou
import Derived.Deep.DeepCutAuto
import Derived.Deep.DrawnRows
namespace Go.Proofs.Ytbiobmdibiplfaa.lawFnExactRowOffset
open Go.ChangeShapes Go.WideShapes Go.ChangeAt Go.RowKit Go.FX
open Go.ChangeMaps (open_string shut_string)
set_option linter.unusedVariables false
set_option linter.unusedSimpArgs false

attribute [local go_sem ↓] Go.wp_at_zero Go.wp_at_succ

set_option maxHeartbeats 16000000 in
set_option maxRecDepth 100000 in
theorem walk (W0 H0 : Int) (a0 : Option Addr) (n0 c0 : Nat) (z0 : List Nat) (W1 H1 : Int) (a1 : Option Addr) (n1 c1 : Nat) (z1 : List Nat) (a2 : Int) (w : World) (wW0 : (Lit.int .i64 W0).wf = true) (wH0 : (Lit.int .i64 H0).wf = true) (w0 : FS w (.slice a0 n0 c0) z0) (wW1 : (Lit.int .i64 W1).wf = true) (wH1 : (Lit.int .i64 H1).wf = true) (w1 : FS w (.slice a1 n1 c1) z1) (w2 : (Lit.int .i64 a2).wf = true) :
    Calls Try.prog 7 #[.agg #[.int .i64 W0, .int .i64 H0, .slice a0 n0 c0], .agg #[.int .i64 W1, .int .i64 H1, .slice a1 n1 c1], .int .i64 a2] w fun e w' => e = .returned (.bool true) ∧ Below w.heap.size w w' := by
  have hv0 : FC w (.slice a0 n0 c0) (z0.map (cn .f32)) := FC.of w0
  generalize z0.map (cn .f32) = cs0 at hv0
  clear w0
  obtain ⟨en0, hnc0, hcm0⟩ := hv0.sized
  have hmx0 : (n0 : Int) ≤ 9223372036854775807 := by unfold maxLen at hcm0; omega
  have hv1 : FC w (.slice a1 n1 c1) (z1.map (cn .f32)) := FC.of w1
  generalize z1.map (cn .f32) = cs1 at hv1
  clear w1
  obtain ⟨en1, hnc1, hcm1⟩ := hv1.sized
  have hmx1 : (n1 : Int) ≤ 9223372036854775807 := by unfold maxLen at hcm1; omega
  by_cases hlen0 : n0 ≤ 1048576
  case neg =>
    clear en0 hnc0 hcm0 en1 hnc1 hcm1
    go_enter Try.func7, Try.ntmps7
    go_wp2_with fail
    refine (szPic_no _ _ _ _ _ _ _ (by omega) (by omega) hmx0).mono ?_
    rintro e v0 ⟨rfl, hc0⟩
    have y0 := hc0.size; simp only [World.size_alloc] at y0
    have x0 : Below w.heap.size w v0 := (below2 _ _ _).trans (hc0.mono (by simp; try omega))
    have B00 := ((Pv.new w (W0) (H0) (.slice a0 n0 c0) 24).alloc _).below hc0
    have B10 := (Pv.new (w.alloc (.cells #[.int .i64 W0, .int .i64 H0, .slice a0 n0 c0] 24)) (W1) (H1) (.slice a1 n1 c1) 24).below hc0
    simp only [World.size_alloc] at B10
    go_wp2_with fail
    go_ret
    exact ⟨rfl, x0⟩
  by_cases hlen1 : n0 + n1 ≤ 1048576
  case neg =>
    clear en0 hnc0 hcm0 en1 hnc1 hcm1
    go_enter Try.func7, Try.ntmps7
    go_wp2_with fail
    refine (szPic_any _ _ _ _ _ _ _ (by omega) (by omega)).mono ?_
    rintro e v0 ⟨rfl, hc0⟩
    have y0 := hc0.size; simp only [World.size_alloc] at y0
    have x0 : Below w.heap.size w v0 := (below2 _ _ _).trans (hc0.mono (by simp; try omega))
    have B00 := ((Pv.new w (W0) (H0) (.slice a0 n0 c0) 24).alloc _).below hc0
    have B10 := (Pv.new (w.alloc (.cells #[.int .i64 W0, .int .i64 H0, .slice a0 n0 c0] 24)) (W1) (H1) (.slice a1 n1 c1) 24).below hc0
    simp only [World.size_alloc] at B10
    obtain ⟨ba0, bb0, bc0, bd0⟩ := id B10
    go_wp2_with fail
    refine (szPic_no _ _ _ _ _ _ _ (by omega) (by omega) hmx1).mono ?_
    rintro e v1 ⟨rfl, hc1⟩
    have x1 : Below w.heap.size w v1 := x0.trans (hc1.mono x0.size)
    have B01 := B00.below hc1
    have B11 := B10.below hc1
    go_wp2_with fail
    go_ret
    exact ⟨rfl, x1⟩
  obtain ⟨b, g, ok, hS, hImp⟩ := pairRowOffset W0 H0 cs0 W1 H1 cs1 a2
  have hn0 : cs0.length ≤ 1048576 := by omega
  have hn1 : cs1.length ≤ 1048576 := by omega
  have hnT : cs0.length + cs1.length ≤ 1048576 := by omega
  clear en0 hnc0 hcm0 hmx0
  clear en1 hnc1 hcm1 hmx1
  go_enter Try.func7, Try.ntmps7
  go_wp2_with fail
  refine (szPic_any _ _ _ _ _ _ _ (by omega) (by omega)).mono ?_
  rintro e w1 ⟨rfl, hb1⟩
  have s1 := hb1.size; simp only [World.size_alloc] at s1
  have q1 : Below w.heap.size w w1 := (bel_al (bel_al (Below.refl w.heap.size w) (by have := Nat.le_refl 0; simp; try omega) _) (by have := Nat.le_refl 0; simp; try omega) _).trans (hb1.mono (by have := Nat.le_refl 0; simp; try omega))
  have PA01 := ((Pv.new w (W0) (H0) (.slice a0 n0 c0) 24).alloc _).below hb1
  have PA11 := (Pv.new (w.alloc (.cells #[.int .i64 W0, .int .i64 H0, .slice a0 n0 c0] 24)) (W1) (H1) (.slice a1 n1 c1) 24).below hb1
  simp only [World.size_alloc] at PA11
  obtain ⟨uA11, xA11, yA11, zA11⟩ := id PA11
  go_wp2_with fail
  refine (szPic_any _ _ _ _ _ _ _ (by omega) (by omega)).mono ?_
  rintro e w2 ⟨rfl, hb2⟩
  have s2 := hb2.size
  have q2 : Below w.heap.size w w2 := q1.trans (hb2.mono (by have := q1.size; simp; try omega))
  have PA02 := PA01.below hb2
  have PA12 := PA11.below hb2
  obtain ⟨uA02, xA02, yA02, zA02⟩ := id PA02
  obtain ⟨uA12, xA12, yA12, zA12⟩ := id PA12
  go_wp2_with fail
  have hvK20 := hv0.below q2
  have hvK21 := hv1.below q2
  go_region_held3 (fun w' => Below w2.heap.size w2 w' ∧ w2.heap.size ≤ w'.heap.size ∧ (∀ b o, b < w2.heap.size → w'.cell? ⟨b, o, none⟩ = w2.cell? ⟨b, o, none⟩)) (first | exact keepStart _ | assumption | exact ⟨by assumption, by assumption, by assumption⟩ | exact keepCall (by assumption) (by assumption) | exact keepAlloc (by assumption) | (refine keepSet ?_ (keepSet ?_ (keepSet ?_ (keepSet ?_ ?_))) <;> first | assumption | omega | (simp; done) | (simp; omega)) | (refine keepSet ?_ (keepSet ?_ (keepSet ?_ ?_)) <;> first | assumption | omega | (simp; done) | (simp; omega)) | (refine keepSet ?_ (keepSet ?_ ?_) <;> first | assumption | omega | (simp; done) | (simp; omega)) | (refine keepSet ?_ ?_ <;> first | assumption | omega | (simp; done) | (simp; omega)))
    (first
      | (go_at_call 17; (with_reducible refine (toPic_any _ _ _ cs0 _ (hvK20.below (And.left (by assumption))) hn0).mono ?_); rintro e w3 ⟨a3, n3, c3, rfl, hb3, ho3⟩; have f3 := ho3.fc; have s3 := hb3.size; (try simp at s3); have hI := keepCall (n := w2.heap.size) (W1 := w2) (by assumption) hb3; obtain ⟨hc, hf⟩ := bcell hb3; have hz := hb3.size; (try simp at hz); (try simp only [World.size_drew, World.cell?_drew] at hc); (try simp only [World.size_drew, World.frozen?_drew] at hf); first | (have hs := Nat.lt_of_succ_le hz) | (have hs := Nat.lt_of_lt_of_le hs hz) | skip)
      | (go_at_call 17; (with_reducible refine (toPic_any _ _ _ cs1 _ (hvK21.below (And.left (by assumption))) hn1).mono ?_); rintro e w4 ⟨a4, n4, c4, rfl, hb4, ho4⟩; have bX4 : Below w3.heap.size w3 w4 := (by first | (with_reducible exact hb4) | exact (below1 _ _).trans (hb4.mono (by simp))); have t04 := f3.below bX4; have f4 := ho4.fc; have s4 := hb4.size; (try simp at s4); have hI := keepCall (n := w2.heap.size) (W1 := w2) (by assumption) hb4; obtain ⟨hc, hf⟩ := bcell hb4; have hz := hb4.size; (try simp at hz); (try simp only [World.size_drew, World.cell?_drew] at hc); (try simp only [World.size_drew, World.frozen?_drew] at hf); first | (have hs := Nat.lt_of_succ_le hz) | (have hs := Nat.lt_of_lt_of_le hs hz) | skip)
      | (go_at_call 36; (with_reducible refine (hS _ _ _ _ _ _ _ (by first | (with_reducible exact t04) | (with_reducible exact t04.alloc _)) (by first | (with_reducible exact f4) | (with_reducible exact f4.alloc _))).mono ?_); rintro e w5 ⟨g5, rfl, hb5, hg5⟩; have s5 := hb5.size; (try simp at s5); have hI := keepCall (n := w2.heap.size) (W1 := w2) (by assumption) hb5; obtain ⟨hc, hf⟩ := bcell hb5; have hz := hb5.size; (try simp at hz); (try simp only [World.size_drew, World.cell?_drew] at hc); (try simp only [World.size_drew, World.frozen?_drew] at hf); first | (have hs := Nat.lt_of_succ_le hz) | (have hs := Nat.lt_of_lt_of_le hs hz) | skip))
  have hbR5 : Below w2.heap.size w2 w5 := And.left (by assumption)
  have s5 := hbR5.size
  have q5 : Below w.heap.size w w5 := q2.trans (hbR5.mono (by have := q2.size; simp; try omega))
  have PA05 := PA02.below hbR5
  have PA15 := PA12.below hbR5
  obtain ⟨uA05, xA05, yA05, zA05⟩ := id PA05
  go_wp2_with fail
  refine (toPic_any _ _ _ cs0 _ (hv0.below q5) hn0).mono ?_
  rintro e w6 ⟨a6, n6, c6, rfl, hb6, ho6⟩
  have s6 := hb6.size
  have q6 : Below w.heap.size w w6 := q5.trans (hb6.mono (by have := q5.size; simp; try omega))
  have PA06 := PA05.below hb6
  have PA16 := PA15.below hb6
  have rX06 := ho6
  have bX0 : ∀ k, (Value.slice a6 n6 c6).ownBlock = some k → w5.heap.size ≤ k ∧ k < w6.heap.size := fun k hk => by have h := ho6.lt k hk; (try simp at h); omega
  obtain ⟨uA16, xA16, yA16, zA16⟩ := id PA16
  go_wp2_with fail
  refine (toPic_any _ _ _ cs1 _ (hv1.below (bel_al q6 (by have := q6.size; simp; try omega) _)) hn1).mono ?_
  rintro e w7 ⟨a7, n7, c7, rfl, hb7, ho7⟩
  have s7 := hb7.size; simp only [World.size_alloc] at s7
  have q7 : Below w.heap.size w w7 := (bel_al q6 (by have := q6.size; simp; try omega) _).trans (hb7.mono (by have := q6.size; simp; try omega))
  have PA07 := (PA06.alloc _).below hb7
  have PA17 := (PA16.alloc _).below hb7
  have rX07 := (rX06.alloc _).below hb7
  have PY07 := (Pv.new w6 (W0) (H0) (.slice a6 n6 c6) 27).below hb7
  have rX17 := ho7
  have bX1 : ∀ k, (Value.slice a7 n7 c7).ownBlock = some k → w6.heap.size + 1 ≤ k ∧ k < w7.heap.size := fun k hk => by have h := ho7.lt k hk; (try simp at h); omega
  obtain ⟨uY07, xY07, yY07, zY07⟩ := id PY07
  go_wp2_with fail
  refine (hImp _ _ _ _ _ _ _ (rX07.alloc _).fc (rX17.alloc _).fc).mono ?_
  rintro e w8 ⟨g8, rfl, hb8, hg8⟩
  have s8 := hb8.size; simp only [World.size_alloc] at s8
  have q8 : Below w.heap.size w w8 := (bel_al q7 (by have := q7.size; simp; try omega) _).trans (hb8.mono (by have := q7.size; simp; try omega))
  have PA08 := (PA07.alloc _).below hb8
  have PA18 := (PA17.alloc _).below hb8
  have PY08 := (PY07.alloc _).below hb8
  have rX08 := (rX07.alloc _).below hb8
  have rX18 := (rX17.alloc _).below hb8
  have PY18 := (Pv.new w7 (W1) (H1) (.slice a7 n7 c7) 27).below hb8
  go_wp2_with fail
  refine (sameFloatB (hg8.wide _) (hg5.wide _) _).mono ?_
  rintro e w9 ⟨rfl, hb9'⟩
  have hb9 := undrewN hb9'
  simp only [World.heap_drewN] at hb9
  have s9 := hb9.size
  have q9 : Below w.heap.size w w9 := q8.trans (hb9.mono (by have := q8.size; simp; try omega))
  have PA09 := PA08.below hb9
  have PA19 := PA18.below hb9
  have PY09 := PY08.below hb9
  have PY19 := PY18.below hb9
  have rX09 := rX08.below hb9
  have rX19 := rX18.below hb9
  obtain ⟨uY09, xY09, yY09, zY09⟩ := id PY09
  obtain ⟨uA09, xA09, yA09, zA09⟩ := id PA09
  go_wp2_with fail
  go_region_held3 (fun w' => Below w9.heap.size w9 w' ∧ w9.heap.size ≤ w'.heap.size ∧ (∀ b o, b < w9.heap.size → w'.cell? ⟨b, o, none⟩ = w9.cell? ⟨b, o, none⟩)) (first | exact keepStart _ | assumption | exact ⟨by assumption, by assumption, by assumption⟩ | exact keepCall (by assumption) (by assumption) | exact keepAlloc (by assumption) | (refine keepSet ?_ (keepSet ?_ (keepSet ?_ (keepSet ?_ ?_))) <;> first | assumption | omega | (simp; done) | (simp; omega)) | (refine keepSet ?_ (keepSet ?_ (keepSet ?_ ?_)) <;> first | assumption | omega | (simp; done) | (simp; omega)) | (refine keepSet ?_ (keepSet ?_ ?_) <;> first | assumption | omega | (simp; done) | (simp; omega)) | (refine keepSet ?_ ?_ <;> first | assumption | omega | (simp; done) | (simp; omega)))
    (first
      | (go_at_call 17; refine (toPic_any _ _ _ cs0 _ ((hv0.below q9).drewN 1) hn0).mono ?_; rintro e w10 ⟨a10, n10, c10, rfl, hb10, ho10⟩; have z10 := ((rX09.drewN 1).below hb10); have hI := keepCall (n := w9.heap.size) (W1 := w9) (by assumption) hb10; obtain ⟨hc, hf⟩ := bcell hb10; have hz := hb10.size; (try simp at hz); (try simp only [World.size_drew, World.cell?_drew] at hc); (try simp only [World.size_drew, World.frozen?_drew] at hf); first | (have hs := Nat.lt_of_succ_le hz) | (have hs := Nat.lt_of_lt_of_le hs hz) | skip)
      | (go_at_call 19; refine (eqPic_any _ _ _ _ cs0 _ z10.fc ho10.fc hn0).mono ?_; rintro e w11 ⟨rfl, hb11⟩; have hI := keepCall (n := w9.heap.size) (W1 := w9) (by assumption) hb11; obtain ⟨hc, hf⟩ := bcell hb11; have hz := hb11.size; (try simp at hz); (try simp only [World.size_drew, World.cell?_drew] at hc); (try simp only [World.size_drew, World.frozen?_drew] at hf); first | (have hs := Nat.lt_of_succ_le hz) | (have hs := Nat.lt_of_lt_of_le hs hz) | skip))
  have hbR11 : Below w9.heap.size w9 w11 := And.left (by assumption)
  have s11 := hbR11.size
  have q11 : Below w.heap.size w w11 := q9.trans (hbR11.mono (by have := q9.size; simp; try omega))
  have PA011 := PA09.below hbR11
  have PA111 := PA19.below hbR11
  have PY011 := PY09.below hbR11
  have PY111 := PY19.below hbR11
  have rX011 := rX09.below hbR11
  have rX111 := rX19.below hbR11
  obtain ⟨uY111, xY111, yY111, zY111⟩ := id PY111
  obtain ⟨uA111, xA111, yA111, zA111⟩ := id PA111
  go_wp2_with fail
  go_region_held3 (fun w' => Below w11.heap.size w11 w' ∧ w11.heap.size ≤ w'.heap.size ∧ (∀ b o, b < w11.heap.size → w'.cell? ⟨b, o, none⟩ = w11.cell? ⟨b, o, none⟩)) (first | exact keepStart _ | assumption | exact ⟨by assumption, by assumption, by assumption⟩ | exact keepCall (by assumption) (by assumption) | exact keepAlloc (by assumption) | (refine keepSet ?_ (keepSet ?_ (keepSet ?_ (keepSet ?_ ?_))) <;> first | assumption | omega | (simp; done) | (simp; omega)) | (refine keepSet ?_ (keepSet ?_ (keepSet ?_ ?_)) <;> first | assumption | omega | (simp; done) | (simp; omega)) | (refine keepSet ?_ (keepSet ?_ ?_) <;> first | assumption | omega | (simp; done) | (simp; omega)) | (refine keepSet ?_ ?_ <;> first | assumption | omega | (simp; done) | (simp; omega)))
    (first
      | (go_at_call 17; refine (toPic_any _ _ _ cs1 _ ((hv1.below q11).drewN 1) hn1).mono ?_; rintro e w12 ⟨a12, n12, c12, rfl, hb12, ho12⟩; have z12 := ((rX111.drewN 1).below hb12); have hI := keepCall (n := w11.heap.size) (W1 := w11) (by assumption) hb12; obtain ⟨hc, hf⟩ := bcell hb12; have hz := hb12.size; (try simp at hz); (try simp only [World.size_drew, World.cell?_drew] at hc); (try simp only [World.size_drew, World.frozen?_drew] at hf); first | (have hs := Nat.lt_of_succ_le hz) | (have hs := Nat.lt_of_lt_of_le hs hz) | skip)
      | (go_at_call 19; refine (eqPic_any _ _ _ _ cs1 _ z12.fc ho12.fc hn1).mono ?_; rintro e w13 ⟨rfl, hb13⟩; have hI := keepCall (n := w11.heap.size) (W1 := w11) (by assumption) hb13; obtain ⟨hc, hf⟩ := bcell hb13; have hz := hb13.size; (try simp at hz); (try simp only [World.size_drew, World.cell?_drew] at hc); (try simp only [World.size_drew, World.frozen?_drew] at hf); first | (have hs := Nat.lt_of_succ_le hz) | (have hs := Nat.lt_of_lt_of_le hs hz) | skip))
  have hbR13 : Below w11.heap.size w11 w13 := And.left (by assumption)
  have s13 := hbR13.size
  have q13 : Below w.heap.size w w13 := q11.trans (hbR13.mono (by have := q11.size; simp; try omega))
  have PA013 := PA011.below hbR13
  have PA113 := PA111.below hbR13
  have PY013 := PY011.below hbR13
  have PY113 := PY111.below hbR13
  have rX013 := rX011.below hbR13
  have rX113 := rX111.below hbR13
  go_wp2_with fail
  go_ret
  exact ⟨rfl, q13⟩

set_option maxRecDepth 100000 in
theorem lifted (os : Os) (started : os.Started) (H : Type) (enc : TypeId × Value → H) :
    ReturnsInHanded {} Try.checked os 7 .any (Rows.fnExactRowOffsetSpec.pre6 enc Try.prog Try.f7 Rows.fnExactRowOffsetRow.domain false) (Rows.fnExactRowOffsetSpec.post enc Try.prog Try.f7 false true false false) := by
  refine returnsInHanded_of_change (C := Try.checked) own started (by kernel_rfl) Try.func7
    (ChangeSpec.witness6 (enc := enc) (C := Try.checked) false ⟨#[], #[.agg #[.int .i64 0, .int .i64 0, .slice none 0 0], .agg #[.int .i64 0, .int .i64 0, .slice none 0 0], .int .i64 0], []⟩ 8 (by kernel_rfl) (by kernel_rfl) (by kernel_rfl) (by kernel_rfl)) ?_
  intro W base args ds gs before hval0 hW hcnd _
  have hval : ∀ (j : Nat) t v, Try.f7.params[j]? = some t → args[j]? = some v → Value.okWide Try.prog W .any base t v := hval0
  have hW' := hW
  obtain ⟨p, q, hA0, hV, rfl, hfz, hnd⟩ := hW
  have hA : DataW.TrodAll enc Try.prog W 0 (fun _ => true) true Try.f7.params.toList args.toList ds p := hA0
  rw [Try.params7] at hA hval
  obtain ⟨v0, vs0, d0, ds0, p0, q0, hargs, rfl, rfl, h0, r0⟩ := trodAll_cons hA
  obtain ⟨v1, vs1, d1, ds1, p1, q1, rfl, rfl, rfl, h1, r1⟩ := trodAll_cons r0
  obtain ⟨v2, vs2, d2, ds2, p2, q2, rfl, rfl, rfl, h2, r2⟩ := trodAll_cons r1
  obtain ⟨rfl, rfl, rfl⟩ := trodAll_nil r2
  obtain rfl : args = #[v0, v1, v2] := by cases args; simp_all
  obtain ⟨rfl, rfl⟩ := trodVars_none hV
  have k0 := h0
  have lt0 : ∀ x ∈ p0, x.block < W.heap.size := by obtain ⟨m, hm⟩ := k0; exact DataW.trod_lt m _ _ _ hm
  have k1 := h1
  have lt1 : ∀ x ∈ p1, x.block < W.heap.size := by obtain ⟨m, hm⟩ := k1; exact DataW.trod_lt m _ _ _ hm
  have k2 := h2
  have lt2 : ∀ x ∈ p2, x.block < W.heap.size := by obtain ⟨m, hm⟩ := k2; exact DataW.trod_lt m _ _ _ hm
  obtain ⟨W0, H0, a0, n0, c0, z0, rfl, wW0, wH0, w0⟩ := pic_of Try.underlying24 (by kernel_rfl) (by kernel_rfl) Try.underlying2 Try.underlying2 Try.underlying22 Try.underlying49 (by kernel_rfl) (hval 0 24 v0 rfl rfl) h0
  obtain ⟨W1, H1, a1, n1, c1, z1, rfl, wW1, wH1, w1⟩ := pic_of Try.underlying24 (by kernel_rfl) (by kernel_rfl) Try.underlying2 Try.underlying2 Try.underlying22 Try.underlying49 (by kernel_rfl) (hval 1 24 v1 rfl rfl) h1
  obtain ⟨a2, rfl, rfl, rfl, w2⟩ := open_int Try.underlying2 (hval 2 2 v2 rfl rfl) h2
  clear hA0 hval0
  refine (walk W0 H0 a0 n0 c0 z0 W1 H1 a1 n1 c1 z1 a2 W wW0 wH0 w0 wW1 wH1 w1 w2).mono fun e W' ⟨he, bel⟩ => ?_
  subst he
  exact ⟨_, rfl, _, _, _, [], _, [], hW', trodAll_mk1 (shut_bool Try.underlying4 _), (trodAll_cons_mk (Below.trod laidOut (by kernel_rfl) (of_decide_eq_true (by kernel_rfl)) k0 bel lt0) (trodAll_cons_mk (Below.trod laidOut (by kernel_rfl) (of_decide_eq_true (by kernel_rfl)) k1 bel lt1) (trodAll_cons_mk (Below.trod laidOut (by kernel_rfl) (of_decide_eq_true (by kernel_rfl)) k2 bel lt2) trodAll_mk0))), rfl, bel.frame _, fun h => by cases h⟩

theorem over : Rows.fnExactRowOffsetRow.holds Try.pinned (OpenSpec.ofChange Rows.fnExactRowOffsetSpec) :=
  OpenClaim.holds_of_wide 7 Try.f7 rfl rfl rfl rfl rfl rfl rfl ⟨rfl, rfl, rfl, rfl, rfl⟩ rfl rfl rfl rfl rfl (by kernel_rfl) Try.func7 (by kernel_rfl)
    (of_decide_eq_true (by kernel_rfl)) (by unfold Func.isWrapper; first | (rw [if_pos (by decide +kernel)]; kernel_rfl) | (rw [if_neg (by decide +kernel)]; exact ⟨rfl, rfl⟩))
    (fun os started H enc _ => lifted os started H enc)

theorem proved : Rows.FnExactRowOffsetSaid := over
#print axioms proved
end Go.Proofs.Ytbiobmdibiplfaa.lawFnExactRowOffset
