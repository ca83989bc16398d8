/-
  For every picture and tile (and number), valid or not, the program's HaloOf answers as the model's, and the arguments stay as they were; no condition but that the picture holds at most 1048576 greys (else the law asks nothing).
-/
import Derived.Test.YtmbohiebjgafoaaBase
import Derived.Test.YtmbohiebjgafoaaPo
import Derived.Test.YtmbohiebjgafoaaTb
import Derived.Deep.DeepCutAuto
import Derived.Deep.DrawnRows
namespace Go.Proofs.Ytmbohiebjgafoaa.lawFnExactHaloOf
open Go.ChangeShapes Go.WideShapes Go.ChangeAt Go.RowKit Go.FX
open Go.ChangeMaps (open_string shut_string)
set_option linter.unusedVariables false
set_option linter.unusedSimpArgs false

set_option maxHeartbeats 8000000 in
set_option maxRecDepth 100000 in
theorem walk (W0 H0 : Int) (a0 : Option Addr) (n0 c0 : Nat) (z0 : List Nat) (x1 y1 : Int) (a2 : Int) (w : World) (wW0 : (Lit.int .i64 W0).wf = true) (wH0 : (Lit.int .i64 H0).wf = true) (w0 : FS w (.slice a0 n0 c0) z0) (wx1 : (Lit.int .i64 x1).wf = true) (wy1 : (Lit.int .i64 y1).wf = true) (w2 : (Lit.int .i64 a2).wf = true) :
    Calls Try.prog 6 #[.agg #[.int .i64 W0, .int .i64 H0, .slice a0 n0 c0], .agg #[.int .i64 x1, .int .i64 y1], .int .i64 a2] w fun e w' => e = .returned (.bool true) ∧ Below w.heap.size w w' := by
  have hv0 : FC w (.slice a0 n0 c0) (z0.map (cn .f32)) := FC.of w0
  generalize z0.map (cn .f32) = cs0 at hv0
  clear w0
  obtain ⟨en0, hnc0, hcm0⟩ := hv0.sized
  have hmx0 : (n0 : Int) ≤ 9223372036854775807 := by unfold maxLen at hcm0; omega
  by_cases hlen0 : n0 ≤ 1048576
  case neg =>
    clear en0 hnc0 hcm0
    go_enter Try.func6, Try.ntmps6
    go_wp2_with fail
    refine (szPic_no _ _ _ _ _ _ _ (by omega) (by omega) hmx0).mono ?_
    rintro e v0 ⟨rfl, hc0⟩
    have x0 : Below w.heap.size w v0 := by ((repeat' (first | (refine bel_set ?_ ?_ _) | (refine bel_al ?_ ?_ _) | exact Below.refl _ _ | assumption | (refine below_drewN ?_ _) | (refine Below.drew ?_) | (refine Below.trans ?_ (Below.mono hc0 ?_)))) <;> (first | omega | (simp; done) | (simp; omega)))
    go_wp2_with fail
    go_ret
    exact ⟨rfl, x0⟩
  obtain ⟨x', y', ok, hS, hImp⟩ := pairHaloOf W0 H0 cs0 x1 y1 a2 wx1
  have hn0 : cs0.length ≤ 1048576 := by omega
  clear en0 hnc0 hcm0 hmx0
  obtain ⟨w0, hw0⟩ : ∃ u, u = ((w.alloc (.cells #[.int .i64 W0, .int .i64 H0, .slice a0 n0 c0] 41)).alloc (.cells #[.int .i64 x1, .int .i64 y1] 43)) := ⟨_, rfl⟩
  have PA0_0 : Pv w0 w.heap.size W0 H0 (.slice a0 n0 c0) := by rw [hw0]; exact (Pv.new _ _ _ _ _).alloc _
  have PA1_0 : Tv w0 (w.heap.size + 1) x1 y1 := by have h := Tv.new (w.alloc (.cells #[.int .i64 W0, .int .i64 H0, .slice a0 n0 c0] 41)) x1 y1 43; simp only [World.size_alloc] at h; rw [hw0]; exact h
  have q0 : Below w.heap.size w w0 := by rw [hw0]; exact below2 _ _ _
  go_enter Try.func6, Try.ntmps6
  go_wp2_with fail
  rw [← hw0]
  clear hw0
  refine (szPic_any _ _ _ _ _ _ _ (by omega) (by omega)).mono ?_
  rintro e w1 ⟨rfl, hb1⟩
  have PA0_1 := PA0_0.below hb1
  have PA1_1 := PA1_0.below hb1
  have q1 : Below w.heap.size w w1 := q0.trans (hb1.mono q0.size)
  have s1 := hb1.size
  obtain ⟨uPA01a, uPA01b, uPA01c, uPA01d⟩ := id PA0_1
  obtain ⟨uPA11a, uPA11b, uPA11c⟩ := id PA1_1
  go_upto_region 5 with fail
  go_cut [8, 9] (fun sA sB wx => (∃ bo, sA = .pointer (some ⟨bo, 0, none⟩) ∧ sB = .bool ok ∧ Tv wx bo x' y') ∧ Below w1.heap.size w1 wx)
  case first =>
    have hvK := hv0.below q1
    go_region_held3 (fun w' => Below w1.heap.size w1 w' ∧ w1.heap.size ≤ w'.heap.size ∧ (∀ b o, b < w1.heap.size → w'.cell? ⟨b, o, none⟩ = w1.cell? ⟨b, o, none⟩)) (first | exact keepStart _ | assumption | exact ⟨by assumption, by assumption, by assumption⟩ | exact keepCall (by assumption) (by assumption) | exact keepAlloc (by assumption) | (refine keepSet ?_ (keepSet ?_ (keepSet ?_ (keepSet ?_ ?_))) <;> first | assumption | omega | (simp; done) | (simp; omega)) | (refine keepSet ?_ (keepSet ?_ (keepSet ?_ ?_)) <;> first | assumption | omega | (simp; done) | (simp; omega)) | (refine keepSet ?_ (keepSet ?_ ?_) <;> first | assumption | omega | (simp; done) | (simp; omega)) | (refine keepSet ?_ ?_ <;> first | assumption | omega | (simp; done) | (simp; omega)))
      (first
        | (go_at_call 26; (with_reducible refine (toTile_any _ _ _).mono ?_); rintro e wp ⟨rfl, hp⟩; (try have fq : FC wp (.slice aq nq cq) cs0 := by first | (with_reducible exact fq.below hp) | (with_reducible exact (fq.alloc _).below hp)); have hI := keepCall (n := w1.heap.size) (W1 := w1) (by assumption) hp; obtain ⟨hc, hf⟩ := bcell hp; have hz := hp.size; (try simp at hz); (try simp only [World.size_drew, World.cell?_drew] at hc); (try simp only [World.size_drew, World.frozen?_drew] at hf); first | (have hs := Nat.lt_of_succ_le hz) | (have hs := Nat.lt_of_lt_of_le hs hz) | skip)
        | (go_at_call 25; (with_reducible refine (toPic_any _ _ _ cs0 _ (hvK.below (And.left (by assumption))) hn0).mono ?_); rintro e wq ⟨aq, nq, cq, rfl, hbq, hoq⟩; have fq := hoq.fc; have sq := hbq.size; (try simp at sq); have hI := keepCall (n := w1.heap.size) (W1 := w1) (by assumption) hbq; obtain ⟨hc, hf⟩ := bcell hbq; have hz := hbq.size; (try simp at hz); (try simp only [World.size_drew, World.cell?_drew] at hc); (try simp only [World.size_drew, World.frozen?_drew] at hf); first | (have hs := Nat.lt_of_succ_le hz) | (have hs := Nat.lt_of_lt_of_le hs hz) | skip)
        | (go_at_call 29; (with_reducible refine (hS _ _ _ _ (by first | (with_reducible exact fq) | (with_reducible exact fq.alloc _) | (with_reducible exact fq.below (by assumption)))).mono ?_); rintro e wr ⟨rfl, hbr⟩; have sr := hbr.size; (try simp at sr); have hI := keepCall (n := w1.heap.size) (W1 := w1) (by assumption) hbr; obtain ⟨hc, hf⟩ := bcell hbr; have hz := hbr.size; (try simp at hz); (try simp only [World.size_drew, World.cell?_drew] at hc); (try simp only [World.size_drew, World.frozen?_drew] at hf); first | (have hs := Nat.lt_of_succ_le hz) | (have hs := Nat.lt_of_lt_of_le hs hz) | skip))
    all_goals go_wp2_with fail
    all_goals go_meet
    all_goals refine ⟨⟨_, rfl, rfl, ?_⟩, And.left (by assumption)⟩
    all_goals (unfold Tv; refine ⟨?_, ?_, ?_⟩ <;> (first | omega | (simp; done) | (simp; omega) | (go_simp; done)))
  obtain ⟨⟨bo2, rfl, rfl, hT2⟩, hb2⟩ := hcut
  obtain ⟨w2, hV2⟩ : ∃ V, V = wc := ⟨_, rfl⟩
  subst hV2
  have PA0_2 := PA0_1.below hb2
  have PA1_2 := PA1_1.below hb2
  have q2 : Below w.heap.size w w2 := q1.trans (hb2.mono q1.size)
  have s2 := hb2.size
  have PW_2 := hT2
  obtain ⟨uPA02a, uPA02b, uPA02c, uPA02d⟩ := id PA0_2
  go_wp2_with fail
  refine (toPic_any _ _ _ cs0 _ (hv0.below q2) hn0).mono ?_
  rintro e w3 ⟨ax, nx, cx, rfl, hb3, hox⟩
  have PA0_3 := PA0_2.below hb3
  have PA1_3 := PA1_2.below hb3
  have PW_3 := PW_2.below hb3
  have q3 : Below w.heap.size w w3 := q2.trans (hb3.mono q2.size)
  have s3 := hb3.size
  have rX_3 := hox
  obtain ⟨w4, hw4⟩ : ∃ u, u = w3.alloc (.cells #[.int .i64 W0, .int .i64 H0, .slice ax nx cx] 46) := ⟨_, rfl⟩
  have hb4 : Below w3.heap.size w3 w4 := by rw [hw4]; exact below1 _ _
  have PA0_4 := PA0_3.below hb4
  have PA1_4 := PA1_3.below hb4
  have PW_4 := PW_3.below hb4
  have rX_4 := rX_3.below hb4
  have q4 : Below w.heap.size w w4 := q3.trans (hb4.mono q3.size)
  have s4 := hb4.size
  have PY_4 : Pv w4 w3.heap.size W0 H0 (.slice ax nx cx) := by rw [hw4]; exact Pv.new _ _ _ _ _
  obtain ⟨uPA04a, uPA04b, uPA04c, uPA04d⟩ := id PA0_4
  obtain ⟨uPA14a, uPA14b, uPA14c⟩ := id PA1_4
  obtain ⟨uPY4a, uPY4b, uPY4c, uPY4d⟩ := id PY_4
  go_upto_region 7 with fail
  rw [← hw4]
  clear hw4
  obtain ⟨uPA04a, uPA04b, uPA04c, uPA04d⟩ := id PA0_4
  obtain ⟨uPA14a, uPA14b, uPA14c⟩ := id PA1_4
  obtain ⟨uPY4a, uPY4b, uPY4c, uPY4d⟩ := id PY_4
  go_cut [11, 12] (fun sA sB wx => (∃ bo, sA = .pointer (some ⟨bo, 0, none⟩) ∧ sB = .bool ok ∧ Tv wx bo x' y') ∧ Below w4.heap.size w4 wx)
  case first =>
    have rXK := rX_4.fc
    go_region_held3 (fun w' => Below w4.heap.size w4 w' ∧ w4.heap.size ≤ w'.heap.size ∧ (∀ b o, b < w4.heap.size → w'.cell? ⟨b, o, none⟩ = w4.cell? ⟨b, o, none⟩)) (first | exact keepStart _ | assumption | exact ⟨by assumption, by assumption, by assumption⟩ | exact keepCall (by assumption) (by assumption) | exact keepAlloc (by assumption) | (refine keepSet ?_ (keepSet ?_ (keepSet ?_ (keepSet ?_ ?_))) <;> first | assumption | omega | (simp; done) | (simp; omega)) | (refine keepSet ?_ (keepSet ?_ (keepSet ?_ ?_)) <;> first | assumption | omega | (simp; done) | (simp; omega)) | (refine keepSet ?_ (keepSet ?_ ?_) <;> first | assumption | omega | (simp; done) | (simp; omega)) | (refine keepSet ?_ ?_ <;> first | assumption | omega | (simp; done) | (simp; omega)))
      (first
        | (go_at_call 26; (with_reducible refine (toTile_any _ _ _).mono ?_); rintro e wp ⟨rfl, hp⟩; have hI := keepCall (n := w4.heap.size) (W1 := w4) (by assumption) hp; obtain ⟨hc, hf⟩ := bcell hp; have hz := hp.size; (try simp at hz); (try simp only [World.size_drew, World.cell?_drew] at hc); (try simp only [World.size_drew, World.frozen?_drew] at hf); first | (have hs := Nat.lt_of_succ_le hz) | (have hs := Nat.lt_of_lt_of_le hs hz) | skip)
        | (go_at_call 30; (with_reducible refine (hImp _ _ _ _ (rXK.below (And.left (by assumption)))).mono ?_); rintro e wr ⟨rfl, hbr⟩; have sr := hbr.size; (try simp at sr); have hI := keepCall (n := w4.heap.size) (W1 := w4) (by assumption) hbr; obtain ⟨hc, hf⟩ := bcell hbr; have hz := hbr.size; (try simp at hz); (try simp only [World.size_drew, World.cell?_drew] at hc); (try simp only [World.size_drew, World.frozen?_drew] at hf); first | (have hs := Nat.lt_of_succ_le hz) | (have hs := Nat.lt_of_lt_of_le hs hz) | skip))
    all_goals go_wp2_with fail
    all_goals go_meet
    all_goals refine ⟨⟨_, rfl, rfl, ?_⟩, And.left (by assumption)⟩
    all_goals (unfold Tv; refine ⟨?_, ?_, ?_⟩ <;> (first | omega | (simp; done) | (simp; omega) | (go_simp; done)))
  obtain ⟨⟨bo5, rfl, rfl, hT5⟩, hb5⟩ := hcut
  obtain ⟨w5, hV5⟩ : ∃ V, V = wc := ⟨_, rfl⟩
  subst hV5
  have PA0_5 := PA0_4.below hb5
  have PA1_5 := PA1_4.below hb5
  have PW_5 := PW_4.below hb5
  have rX_5 := rX_4.below hb5
  have PY_5 := PY_4.below hb5
  have q5 : Below w.heap.size w w5 := q4.trans (hb5.mono q4.size)
  have s5 := hb5.size
  have PG_5 := hT5
  obtain ⟨uPG5a, uPG5b, uPG5c⟩ := id PG_5
  obtain ⟨uPW5a, uPW5b, uPW5c⟩ := id PW_5
  go_wp2_with fail
  refine (eqTile_any _ _ _).mono ?_
  rintro e w6 ⟨rfl, hb6⟩
  have PA0_6 := PA0_5.below hb6
  have PA1_6 := PA1_5.below hb6
  have PW_6 := PW_5.below hb6
  have rX_6 := rX_5.below hb6
  have PY_6 := PY_5.below hb6
  have PG_6 := PG_5.below hb6
  have q6 : Below w.heap.size w w6 := q5.trans (hb6.mono q5.size)
  have s6 := hb6.size
  obtain ⟨uPY6a, uPY6b, uPY6c, uPY6d⟩ := id PY_6
  obtain ⟨uPA06a, uPA06b, uPA06c, uPA06d⟩ := id PA0_6
  go_wp2_with fail
  have hvK := hv0.below q6
  go_region_held3 (fun w' => Below w6.heap.size w6 w' ∧ w6.heap.size ≤ w'.heap.size ∧ (∀ b o, b < w6.heap.size → w'.cell? ⟨b, o, none⟩ = w6.cell? ⟨b, o, none⟩)) (first | exact keepStart _ | assumption | exact ⟨by assumption, by assumption, by assumption⟩ | exact keepCall (by assumption) (by assumption) | exact keepAlloc (by assumption) | (refine keepSet ?_ (keepSet ?_ (keepSet ?_ (keepSet ?_ ?_))) <;> first | assumption | omega | (simp; done) | (simp; omega)) | (refine keepSet ?_ (keepSet ?_ (keepSet ?_ ?_)) <;> first | assumption | omega | (simp; done) | (simp; omega)) | (refine keepSet ?_ (keepSet ?_ ?_) <;> first | assumption | omega | (simp; done) | (simp; omega)) | (refine keepSet ?_ ?_ <;> first | assumption | omega | (simp; done) | (simp; omega)))
    (first
      | (go_at_call 25; refine (toPic_any _ _ _ cs0 _ (hvK.drewN 1) hn0).mono ?_; rintro e wz ⟨az, nz, cz, rfl, hbz, hoz⟩; have fz := ((rX_6.drewN 1).below hbz); have hI := keepCall (n := w6.heap.size) (W1 := w6) (by assumption) hbz; obtain ⟨hc, hf⟩ := bcell hbz; have hz := hbz.size; (try simp at hz); (try simp only [World.size_drew, World.cell?_drew] at hc); (try simp only [World.size_drew, World.frozen?_drew] at hf); first | (have hs := Nat.lt_of_succ_le hz) | (have hs := Nat.lt_of_lt_of_le hs hz) | skip)
      | (go_at_call 28; refine (eqPic_any _ _ _ _ cs0 _ fz.fc hoz.fc hn0).mono ?_; rintro e w7 ⟨rfl, hby⟩; have hI := keepCall (n := w6.heap.size) (W1 := w6) (by assumption) hby; obtain ⟨hc, hf⟩ := bcell hby; have hz := hby.size; (try simp at hz); (try simp only [World.size_drew, World.cell?_drew] at hc); (try simp only [World.size_drew, World.frozen?_drew] at hf); first | (have hs := Nat.lt_of_succ_le hz) | (have hs := Nat.lt_of_lt_of_le hs hz) | skip))
  have hb7 : Below w6.heap.size w6 w7 := And.left (by assumption)
  have q7 : Below w.heap.size w w7 := q6.trans (hb7.mono q6.size)
  go_wp2_with fail
  go_ret
  exact ⟨rfl, q7⟩

set_option maxRecDepth 100000 in
theorem lifted (os : Os) (started : os.Started) (H : Type) (enc : TypeId × Value → H) :
    ReturnsInHanded {} Try.checked os 6 .any (Rows.fnExactHaloOfSpec.pre6 enc Try.prog Try.f6 Rows.fnExactHaloOfRow.domain false) (Rows.fnExactHaloOfSpec.post enc Try.prog Try.f6 false true false false) := by
  refine returnsInHanded_of_change (C := Try.checked) own started (by kernel_rfl) Try.func6
    (ChangeSpec.witness6 (enc := enc) (C := Try.checked) false ⟨#[], #[.agg #[.int .i64 0, .int .i64 0, .slice none 0 0], .agg #[.int .i64 0, .int .i64 0], .int .i64 0], []⟩ 8 (by kernel_rfl) (by kernel_rfl) (by kernel_rfl) (by kernel_rfl)) ?_
  intro W base args ds gs before hval0 hW hcnd _
  have hval : ∀ (j : Nat) t v, Try.f6.params[j]? = some t → args[j]? = some v → Value.okWide Try.prog W .any base t v := hval0
  have hW' := hW
  obtain ⟨p, q, hA0, hV, rfl, hfz, hnd⟩ := hW
  have hA : DataW.TrodAll enc Try.prog W 0 (fun _ => true) true Try.f6.params.toList args.toList ds p := hA0
  rw [Try.params6] at hA hval
  obtain ⟨v0, vs0, d0, ds0, p0, q0, hargs, rfl, rfl, h0, r0⟩ := trodAll_cons hA
  obtain ⟨v1, vs1, d1, ds1, p1, q1, rfl, rfl, rfl, h1, r1⟩ := trodAll_cons r0
  obtain ⟨v2, vs2, d2, ds2, p2, q2, rfl, rfl, rfl, h2, r2⟩ := trodAll_cons r1
  obtain ⟨rfl, rfl, rfl⟩ := trodAll_nil r2
  obtain rfl : args = #[v0, v1, v2] := by cases args; simp_all
  obtain ⟨rfl, rfl⟩ := trodVars_none hV
  have k0 := h0
  have lt0 : ∀ x ∈ p0, x.block < W.heap.size := by obtain ⟨m, hm⟩ := k0; exact DataW.trod_lt m _ _ _ hm
  have k1 := h1
  have lt1 : ∀ x ∈ p1, x.block < W.heap.size := by obtain ⟨m, hm⟩ := k1; exact DataW.trod_lt m _ _ _ hm
  have k2 := h2
  have lt2 : ∀ x ∈ p2, x.block < W.heap.size := by obtain ⟨m, hm⟩ := k2; exact DataW.trod_lt m _ _ _ hm
  obtain ⟨W0, H0, a0, n0, c0, z0, rfl, wW0, wH0, w0⟩ := pic_of Try.underlying41 (by kernel_rfl) (by kernel_rfl) Try.underlying2 Try.underlying2 Try.underlying39 Try.underlying22 (by kernel_rfl) (hval 0 41 v0 rfl rfl) h0
  obtain ⟨x1, y1, rfl, wx1, wy1⟩ := tile_of Try.underlying43 (by kernel_rfl) (by kernel_rfl) Try.underlying2 Try.underlying2 (hval 1 43 v1 rfl rfl) h1
  obtain ⟨a2, rfl, rfl, rfl, w2⟩ := open_int Try.underlying2 (hval 2 2 v2 rfl rfl) h2
  clear hA0 hval0
  refine (walk W0 H0 a0 n0 c0 z0 x1 y1 a2 W wW0 wH0 w0 wx1 wy1 w2).mono fun e W' ⟨he, bel⟩ => ?_
  subst he
  exact ⟨_, rfl, _, _, _, [], _, [], hW', trodAll_mk1 (shut_bool Try.underlying4 _), (trodAll_cons_mk (Below.trod laidOut (by kernel_rfl) (of_decide_eq_true (by kernel_rfl)) k0 bel lt0) (trodAll_cons_mk (Below.trod laidOut (by kernel_rfl) (of_decide_eq_true (by kernel_rfl)) k1 bel lt1) (trodAll_cons_mk (Below.trod laidOut (by kernel_rfl) (of_decide_eq_true (by kernel_rfl)) k2 bel lt2) trodAll_mk0))), rfl, bel.frame _, fun h => by cases h⟩

theorem over : Rows.fnExactHaloOfRow.holds Try.pinned (OpenSpec.ofChange Rows.fnExactHaloOfSpec) :=
  OpenClaim.holds_of_wide 6 Try.f6 rfl rfl rfl rfl rfl rfl rfl ⟨rfl, rfl, rfl, rfl, rfl⟩ rfl rfl rfl rfl rfl (by kernel_rfl) Try.func6 (by kernel_rfl)
    (of_decide_eq_true (by kernel_rfl)) (by unfold Func.isWrapper; first | (rw [if_pos (by decide +kernel)]; kernel_rfl) | (rw [if_neg (by decide +kernel)]; exact ⟨rfl, rfl⟩))
    (fun os started H enc _ => lifted os started H enc)

theorem proved : Rows.FnExactHaloOfSaid := over
#print axioms proved
end Go.Proofs.Ytmbohiebjgafoaa.lawFnExactHaloOf
