/-
  For every picture of any numbers, valid or not, the program's RankAt answers as the model's, to the last bit, in memory of its own, and the picture stays as it was; no condition but that it holds at most 1048576 greys (else the law asks nothing).
-/
import Derived.Test.YtdgpjpabhbifbabBase
import Derived.Test.YtdgpjpabhbifbabPo
import Derived.Test.YtdgpjpabhbifbabPy
import Derived.Deep.DeepCutAuto
namespace Go.Proofs.Ytdgpjpabhbifbab.lawFnExactRankAt
open Go.ChangeShapes Go.WideShapes Go.ChangeAt Go.RowKit Go.FX
open Go.ChangeMaps (open_string shut_string)
set_option linter.unusedVariables false
set_option linter.unusedSimpArgs false

set_option maxHeartbeats 8000000 in
theorem walk (W0 H0 : Int) (a0 : Option Addr) (n0 c0 : Nat) (z0 : List Nat) (a1 : Int) (a2 : Int) (a3 : Int) (w : World) (w0 : FS w (.slice a0 n0 c0) z0) (w1 : (Lit.int .i64 a1).wf = true) (w2 : (Lit.int .i64 a2).wf = true) (w3 : (Lit.int .i64 a3).wf = true) :
    Calls Try.prog 9 #[.agg #[.int .i64 W0, .int .i64 H0, .slice a0 n0 c0], .int .i64 a1, .int .i64 a2, .int .i64 a3] w fun e w' => e = .returned (.bool true) ∧ Below w.heap.size w w' := by
  have hv : FC w (.slice a0 n0 c0) (z0.map (cn .f32)) := FC.of w0
  generalize z0.map (cn .f32) = cs at hv
  clear w0
  obtain ⟨en, hnc, hcm⟩ := hv.sized
  have hmx : (n0 : Int) ≤ 9223372036854775807 := by unfold maxLen at hcm; omega
  by_cases hlen : n0 ≤ 1048576
  · obtain ⟨g, ok, hS, hImp⟩ := pairRankAt W0 H0 cs a1 a2 a3
    have hn : cs.length ≤ 1048576 := by omega
    clear en hnc hcm hmx
    go_enter Try.func9, Try.ntmps9
    go_wp2_with fail
    refine (szPic_any _ _ _ _ _ _ _ (by omega) (by omega)).mono ?_
    rintro e w1 ⟨rfl, hb1⟩
    have s1 := hb1.size; simp only [World.size_alloc] at s1
    have q1 : Below w.heap.size w w1 := (below1 w _).trans (hb1.mono (by have := Nat.le_refl 0; simp; try omega))
    have PA1 := (Pv.new (w) (W0) (H0) (.slice a0 n0 c0) 24).below hb1
    obtain ⟨uA1, xA1, yA1, zA1⟩ := id PA1
    go_wp2_with fail
    refine (toPic_any _ _ _ cs _ (hv.below (q1)) hn).mono ?_
    rintro e w2 ⟨a2, n2, c2, rfl, hb2, ho2⟩
    have s2 := hb2.size
    have q2 : Below w.heap.size w w2 := q1.trans (hb2.mono (by have := q1.size; simp; try omega))
    have PA2 := PA1.below hb2
    go_wp2_with fail
    refine (hS _ _ _ _ ho2.fc).mono ?_
    rintro e w3 ⟨rfl, hb3⟩
    have s3 := hb3.size
    have q3 : Below w.heap.size w w3 := q2.trans (hb3.mono (by have := q2.size; simp; try omega))
    have PA3 := PA2.below hb3
    obtain ⟨uA3, xA3, yA3, zA3⟩ := id PA3
    go_wp2_with fail
    refine (toPic_any _ _ _ cs _ (hv.below (q3)) hn).mono ?_
    rintro e w4 ⟨a4, n4, c4, rfl, hb4, ho4⟩
    have s4 := hb4.size
    have q4 : Below w.heap.size w w4 := q3.trans (hb4.mono (by have := q3.size; simp; try omega))
    have PA4 := PA3.below hb4
    have rX4 := ho4
    go_wp2_with fail
    refine (hImp _ _ _ _ (ho4.alloc _).fc).mono ?_
    rintro e w5 ⟨rfl, hb5⟩
    have s5 := hb5.size; simp only [World.size_alloc] at s5
    have q5 : Below w.heap.size w w5 := (bel_al q4 (q4.size) _).trans (hb5.mono (by have := q4.size; simp; try omega))
    have PA5 := (PA4.alloc _).below hb5
    have rX5 := (rX4.alloc _).below hb5
    have PY5 := (Pv.new (w4) (W0) (H0) (.slice a4 n4 c4) 26).below hb5
    obtain ⟨uY5, xY5, yY5, zY5⟩ := id PY5
    obtain ⟨uA5, xA5, yA5, zA5⟩ := id PA5
    go_wp2_with fail
    go_region_held3 (fun w' => Below w5.heap.size w5 w' ∧ w5.heap.size ≤ w'.heap.size ∧ (∀ b o, b < w5.heap.size → w'.cell? ⟨b, o, none⟩ = w5.cell? ⟨b, o, none⟩)) (first | exact keepStart _ | assumption | exact ⟨by assumption, by assumption, by assumption⟩ | exact keepCall (by assumption) (by assumption) | exact keepAlloc (by assumption) | (refine keepSet ?_ (keepSet ?_ (keepSet ?_ ?_)) <;> first | assumption | omega | (simp; done) | (simp; omega)) | (refine keepSet ?_ (keepSet ?_ ?_) <;> first | assumption | omega | (simp; done) | (simp; omega)) | (refine keepSet ?_ ?_ <;> first | assumption | omega | (simp; done) | (simp; omega)))
      (first
        | (go_at_call 17; refine (toPic_any _ _ _ cs _ ((hv.below q5).drewN 1) hn).mono ?_; rintro e w9 ⟨a9, n9, c9, rfl, hb9, ho9⟩; have rX9 := ((rX5.drewN 1).below hb9); have hI := keepCall (n := w5.heap.size) (W1 := w5) (by assumption) hb9; obtain ⟨hc, hf⟩ := bcell hb9; have hz := hb9.size; (try simp at hz); (try simp only [World.size_drew, World.cell?_drew] at hc); (try simp only [World.size_drew, World.frozen?_drew] at hf); first | (have hs := Nat.lt_of_succ_le hz) | (have hs := Nat.lt_of_lt_of_le hs hz) | skip)
        | (go_at_call 19; refine (eqPic_any _ _ _ _ cs _ rX9.fc ho9.fc hn).mono ?_; rintro e w10 ⟨rfl, hb10⟩; have hI := keepCall (n := w5.heap.size) (W1 := w5) (by assumption) hb10; obtain ⟨hc, hf⟩ := bcell hb10; have hz := hb10.size; (try simp at hz); (try simp only [World.size_drew, World.cell?_drew] at hc); (try simp only [World.size_drew, World.frozen?_drew] at hf); first | (have hs := Nat.lt_of_succ_le hz) | (have hs := Nat.lt_of_lt_of_le hs hz) | skip))
    have hbE : Below w5.heap.size w5 w10 := And.left (by assumption)
    go_wp2_with fail
    go_ret
    exact ⟨rfl, q5.trans (hbE.mono q5.size)⟩
  · clear en hnc hcm hv
    go_enter Try.func9, Try.ntmps9
    go_wp2_with fail
    refine (szPic_no _ _ _ _ _ _ _ (by omega) (by omega) hmx).mono ?_
    rintro e w1 ⟨rfl, hb1⟩
    go_wp2_with fail
    go_ret
    exact ⟨rfl, (below1 _ _).trans (hb1.mono (by simp))⟩

set_option maxRecDepth 100000 in
theorem lifted (os : Os) (started : os.Started) (H : Type) (enc : TypeId × Value → H) :
    ReturnsInHanded {} Try.checked os 9 .any (Rows.fnExactRankAtSpec.pre6 enc Try.prog Try.f9 Rows.fnExactRankAtRow.domain false) (Rows.fnExactRankAtSpec.post enc Try.prog Try.f9 false true false false) := by
  refine returnsInHanded_of_change (C := Try.checked) own started (by kernel_rfl) Try.func9
    (ChangeSpec.witness6 (enc := enc) (C := Try.checked) false ⟨#[], #[.agg #[.int .i64 0, .int .i64 0, .slice none 0 0], .int .i64 0, .int .i64 0, .int .i64 0], []⟩ 8 (by kernel_rfl) (by kernel_rfl) (by kernel_rfl) (by kernel_rfl)) ?_
  intro W base args ds gs before hval0 hW hcnd _
  have hval : ∀ (j : Nat) t v, Try.f9.params[j]? = some t → args[j]? = some v → Value.okWide Try.prog W .any base t v := hval0
  have hW' := hW
  obtain ⟨p, q, hA0, hV, rfl, hfz, hnd⟩ := hW
  have hA : DataW.TrodAll enc Try.prog W 0 (fun _ => true) true Try.f9.params.toList args.toList ds p := hA0
  rw [Try.params9] at hA hval
  obtain ⟨v0, vs0, d0, ds0, p0, q0, hargs, rfl, rfl, h0, r0⟩ := trodAll_cons hA
  obtain ⟨v1, vs1, d1, ds1, p1, q1, rfl, rfl, rfl, h1, r1⟩ := trodAll_cons r0
  obtain ⟨v2, vs2, d2, ds2, p2, q2, rfl, rfl, rfl, h2, r2⟩ := trodAll_cons r1
  obtain ⟨v3, vs3, d3, ds3, p3, q3, rfl, rfl, rfl, h3, r3⟩ := trodAll_cons r2
  obtain ⟨rfl, rfl, rfl⟩ := trodAll_nil r3
  obtain rfl : args = #[v0, v1, v2, v3] := by cases args; simp_all
  obtain ⟨rfl, rfl⟩ := trodVars_none hV
  have k0 := h0
  have lt0 : ∀ x ∈ p0, x.block < W.heap.size := by obtain ⟨m, hm⟩ := k0; exact DataW.trod_lt m _ _ _ hm
  have k1 := h1
  have lt1 : ∀ x ∈ p1, x.block < W.heap.size := by obtain ⟨m, hm⟩ := k1; exact DataW.trod_lt m _ _ _ hm
  have k2 := h2
  have lt2 : ∀ x ∈ p2, x.block < W.heap.size := by obtain ⟨m, hm⟩ := k2; exact DataW.trod_lt m _ _ _ hm
  have k3 := h3
  have lt3 : ∀ x ∈ p3, x.block < W.heap.size := by obtain ⟨m, hm⟩ := k3; exact DataW.trod_lt m _ _ _ hm
  obtain ⟨W0, H0, a0, n0, c0, z0, rfl, _, _, w0⟩ := pic_of Try.underlying24 (by kernel_rfl) (by kernel_rfl) Try.underlying2 Try.underlying2 Try.underlying22 Try.underlying52 (by kernel_rfl) (hval 0 24 v0 rfl rfl) h0
  obtain ⟨a1, rfl, rfl, rfl, w1⟩ := open_int Try.underlying2 (hval 1 2 v1 rfl rfl) h1
  obtain ⟨a2, rfl, rfl, rfl, w2⟩ := open_int Try.underlying2 (hval 2 2 v2 rfl rfl) h2
  obtain ⟨a3, rfl, rfl, rfl, w3⟩ := open_int Try.underlying2 (hval 3 2 v3 rfl rfl) h3
  clear hA0 hval0
  refine (walk W0 H0 a0 n0 c0 z0 a1 a2 a3 W w0 w1 w2 w3).mono fun e W' ⟨he, bel⟩ => ?_
  subst he
  exact ⟨_, rfl, _, _, _, [], _, [], hW', trodAll_mk1 (shut_bool Try.underlying4 _), (trodAll_cons_mk (Below.trod laidOut (by kernel_rfl) (of_decide_eq_true (by kernel_rfl)) k0 bel lt0) (trodAll_cons_mk (Below.trod laidOut (by kernel_rfl) (of_decide_eq_true (by kernel_rfl)) k1 bel lt1) (trodAll_cons_mk (Below.trod laidOut (by kernel_rfl) (of_decide_eq_true (by kernel_rfl)) k2 bel lt2) (trodAll_cons_mk (Below.trod laidOut (by kernel_rfl) (of_decide_eq_true (by kernel_rfl)) k3 bel lt3) trodAll_mk0)))), rfl, bel.frame _, fun h => by cases h⟩

theorem over : Rows.fnExactRankAtRow.holds Try.pinned (OpenSpec.ofChange Rows.fnExactRankAtSpec) :=
  OpenClaim.holds_of_wide 9 Try.f9 rfl rfl rfl rfl rfl rfl rfl ⟨rfl, rfl, rfl, rfl, rfl⟩ rfl rfl rfl rfl rfl (by kernel_rfl) Try.func9 (by kernel_rfl)
    (of_decide_eq_true (by kernel_rfl)) (by unfold Func.isWrapper; first | (rw [if_pos (by decide +kernel)]; kernel_rfl) | (rw [if_neg (by decide +kernel)]; exact ⟨rfl, rfl⟩))
    (fun os started H enc _ => lifted os started H enc)

theorem proved : Rows.FnExactRankAtSaid := over
#print axioms proved
end Go.Proofs.Ytdgpjpabhbifbab.lawFnExactRankAt
