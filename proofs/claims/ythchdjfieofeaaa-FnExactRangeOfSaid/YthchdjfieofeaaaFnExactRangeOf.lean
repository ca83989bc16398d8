/-
  For every picture of any numbers, valid or not, the program's RangeOf answers as the model's, to the last bit, in memory of its own, and the picture stays as it was; no condition but that it holds at most 1048576 greys (else the law asks nothing).
-/
import Derived.Test.YthchdjfieofeaaaBase
import Derived.Test.YthchdjfieofeaaaPo
import Derived.Test.YthchdjfieofeaaaPr
import Derived.Deep.DeepCutAuto
namespace Go.Proofs.Ythchdjfieofeaaa.lawFnExactRangeOf
open Go.ChangeShapes Go.WideShapes Go.ChangeAt Go.RowKit Go.FX
open Go.ChangeMaps (open_string shut_string)
set_option linter.unusedVariables false
set_option linter.unusedSimpArgs false

set_option maxHeartbeats 8000000 in
theorem walk (W0 H0 : Int) (a0 : Option Addr) (n0 c0 : Nat) (z0 : List Nat) (w : World) (w0 : FS w (.slice a0 n0 c0) z0) :
    Calls Try.prog 3 #[.agg #[.int .i64 W0, .int .i64 H0, .slice a0 n0 c0]] w fun e w' => e = .returned (.bool true) ∧ Below w.heap.size w w' := by
  have hv : FC w (.slice a0 n0 c0) (z0.map (cn .f32)) := FC.of w0
  generalize z0.map (cn .f32) = cs at hv
  clear w0
  obtain ⟨en, hnc, hcm⟩ := hv.sized
  have hmx : (n0 : Int) ≤ 9223372036854775807 := by unfold maxLen at hcm; omega
  by_cases hlen : n0 ≤ 1048576
  · obtain ⟨g, j, ok, hS, hImp⟩ := pairRangeOf W0 H0 cs
    have hn : cs.length ≤ 1048576 := by omega
    clear en hnc hcm hmx
    go_enter Try.func3, Try.ntmps3
    go_wp2_with fail
    refine (szPic_any _ _ _ _ _ _ _ (by omega) (by omega)).mono ?_
    rintro e w1 ⟨rfl, hb1⟩
    have s1 := hb1.size; simp only [World.size_alloc] at s1
    have q1 : Below w.heap.size w w1 := (below1 w _).trans (hb1.mono (by have := Nat.le_refl 0; simp; try omega))
    have PA1 := (Pv.new (w) (W0) (H0) (.slice a0 n0 c0) 24).below hb1
    obtain ⟨uA1, xA1, yA1, zA1⟩ := id PA1
    go_wp2_with fail
    refine (toPic_any _ _ _ cs _ (hv.below (q1)) hn).mono ?_
    rintro e w2 ⟨a2, n2, c2, rfl, hb2, ho2⟩
    have s2 := hb2.size
    have q2 : Below w.heap.size w w2 := q1.trans (hb2.mono (by have := q1.size; simp; try omega))
    have PA2 := PA1.below hb2
    go_wp2_with fail
    refine (hS _ _ _ _ ho2.fc).mono ?_
    rintro e w3 ⟨g3, j3, rfl, hb3, hg3, hj3⟩
    have s3 := hb3.size
    have q3 : Below w.heap.size w w3 := q2.trans (hb3.mono (by have := q2.size; simp; try omega))
    have PA3 := PA2.below hb3
    obtain ⟨uA3, xA3, yA3, zA3⟩ := id PA3
    go_wp2_with fail
    refine (toPic_any _ _ _ cs _ (hv.below (q3)) hn).mono ?_
    rintro e w4 ⟨a4, n4, c4, rfl, hb4, ho4⟩
    have s4 := hb4.size
    have q4 : Below w.heap.size w w4 := q3.trans (hb4.mono (by have := q3.size; simp; try omega))
    have PA4 := PA3.below hb4
    have rX4 := ho4
    go_wp2_with fail
    refine (hImp _ _ _ _ (ho4.alloc _).fc).mono ?_
    rintro e w5 ⟨g5, j5, rfl, hb5, hg5, hj5⟩
    have s5 := hb5.size; simp only [World.size_alloc] at s5
    have q5 : Below w.heap.size w w5 := (bel_al q4 (q4.size) _).trans (hb5.mono (by have := q4.size; simp; try omega))
    have PA5 := (PA4.alloc _).below hb5
    have rX5 := (rX4.alloc _).below hb5
    have PY5 := (Pv.new (w4) (W0) (H0) (.slice a4 n4 c4) 29).below hb5
    obtain ⟨uY5, xY5, yY5, zY5⟩ := id PY5
    obtain ⟨uA5, xA5, yA5, zA5⟩ := id PA5
    go_wp2_with fail
    refine (sameFloatB (hg5.wide _) (hg3.wide _) _).mono ?_
    rintro e w6 ⟨rfl, hb6'⟩
    have hb6 := undrewN hb6'
    simp only [World.heap_drewN] at hb6
    have s6 := hb6.size
    have q6 : Below w.heap.size w w6 := q5.trans (hb6.mono (by have := q5.size; simp; try omega))
    have PA6 := PA5.below hb6
    have PY6 := PY5.below hb6
    have rX6 := rX5.below hb6
    obtain ⟨uY6, xY6, yY6, zY6⟩ := id PY6
    obtain ⟨uA6, xA6, yA6, zA6⟩ := id PA6
    go_wp2_with fail
    refine (sameFloatB (hj5.wide _) (hj3.wide _) _).mono ?_
    rintro e w7 ⟨rfl, hb7'⟩
    have hb7 := undrewN hb7'
    simp only [World.heap_drewN] at hb7
    have s7 := hb7.size
    have q7 : Below w.heap.size w w7 := q6.trans (hb7.mono (by have := q6.size; simp; try omega))
    have PA7 := PA6.below hb7
    have PY7 := PY6.below hb7
    have rX7 := rX6.below hb7
    obtain ⟨uY7, xY7, yY7, zY7⟩ := id PY7
    obtain ⟨uA7, xA7, yA7, zA7⟩ := id PA7
    go_wp2_with fail
    go_region_held3 (fun w' => Below w7.heap.size w7 w' ∧ w7.heap.size ≤ w'.heap.size ∧ (∀ b o, b < w7.heap.size → w'.cell? ⟨b, o, none⟩ = w7.cell? ⟨b, o, none⟩)) (first | exact keepStart _ | assumption | exact ⟨by assumption, by assumption, by assumption⟩ | exact keepCall (by assumption) (by assumption) | exact keepAlloc (by assumption) | (refine keepSet ?_ (keepSet ?_ (keepSet ?_ (keepSet ?_ ?_))) <;> first | assumption | omega | (simp; done) | (simp; omega)) | (refine keepSet ?_ (keepSet ?_ (keepSet ?_ ?_)) <;> first | assumption | omega | (simp; done) | (simp; omega)) | (refine keepSet ?_ (keepSet ?_ ?_) <;> first | assumption | omega | (simp; done) | (simp; omega)) | (refine keepSet ?_ ?_ <;> first | assumption | omega | (simp; done) | (simp; omega)))
      (first
        | (go_at_call 14; refine (toPic_any _ _ _ cs _ ((hv.below q7).drewN 1) hn).mono ?_; rintro e w9 ⟨a9, n9, c9, rfl, hb9, ho9⟩; have rX9 := ((rX7.drewN 1).below hb9); have hI := keepCall (n := w7.heap.size) (W1 := w7) (by assumption) hb9; obtain ⟨hc, hf⟩ := bcell hb9; have hz := hb9.size; (try simp at hz); (try simp only [World.size_drew, World.cell?_drew] at hc); (try simp only [World.size_drew, World.frozen?_drew] at hf); first | (have hs := Nat.lt_of_succ_le hz) | (have hs := Nat.lt_of_lt_of_le hs hz) | skip)
        | (go_at_call 17; refine (eqPic_any _ _ _ _ cs _ rX9.fc ho9.fc hn).mono ?_; rintro e w10 ⟨rfl, hb10⟩; have hI := keepCall (n := w7.heap.size) (W1 := w7) (by assumption) hb10; obtain ⟨hc, hf⟩ := bcell hb10; have hz := hb10.size; (try simp at hz); (try simp only [World.size_drew, World.cell?_drew] at hc); (try simp only [World.size_drew, World.frozen?_drew] at hf); first | (have hs := Nat.lt_of_succ_le hz) | (have hs := Nat.lt_of_lt_of_le hs hz) | skip))
    have hbE : Below w7.heap.size w7 w10 := And.left (by assumption)
    go_wp2_with fail
    go_ret
    exact ⟨rfl, q7.trans (hbE.mono q7.size)⟩
  · clear en hnc hcm hv
    go_enter Try.func3, Try.ntmps3
    go_wp2_with fail
    refine (szPic_no _ _ _ _ _ _ _ (by omega) (by omega) hmx).mono ?_
    rintro e w1 ⟨rfl, hb1⟩
    go_wp2_with fail
    go_ret
    exact ⟨rfl, (below1 _ _).trans (hb1.mono (by simp))⟩

set_option maxRecDepth 100000 in
theorem lifted (os : Os) (started : os.Started) (H : Type) (enc : TypeId × Value → H) :
    ReturnsInHanded {} Try.checked os 3 .any (Rows.fnExactRangeOfSpec.pre6 enc Try.prog Try.f3 Rows.fnExactRangeOfRow.domain false) (Rows.fnExactRangeOfSpec.post enc Try.prog Try.f3 false true false false) := by
  refine returnsInHanded_of_change (C := Try.checked) own started (by kernel_rfl) Try.func3
    (ChangeSpec.witness6 (enc := enc) (C := Try.checked) false ⟨#[], #[.agg #[.int .i64 0, .int .i64 0, .slice none 0 0]], []⟩ 8 (by kernel_rfl) (by kernel_rfl) (by kernel_rfl) (by kernel_rfl)) ?_
  intro W base args ds gs before hval0 hW hcnd _
  have hval : ∀ (j : Nat) t v, Try.f3.params[j]? = some t → args[j]? = some v → Value.okWide Try.prog W .any base t v := hval0
  have hW' := hW
  obtain ⟨p, q, hA0, hV, rfl, hfz, hnd⟩ := hW
  have hA : DataW.TrodAll enc Try.prog W 0 (fun _ => true) true Try.f3.params.toList args.toList ds p := hA0
  rw [Try.params3] at hA hval
  obtain ⟨v0, vs0, d0, ds0, p0, q0, hargs, rfl, rfl, h0, r0⟩ := trodAll_cons hA
  obtain ⟨rfl, rfl, rfl⟩ := trodAll_nil r0
  obtain rfl : args = #[v0] := by cases args; simp_all
  obtain ⟨rfl, rfl⟩ := trodVars_none hV
  have k0 := h0
  have lt0 : ∀ x ∈ p0, x.block < W.heap.size := by obtain ⟨m, hm⟩ := k0; exact DataW.trod_lt m _ _ _ hm
  obtain ⟨W0, H0, a0, n0, c0, z0, rfl, _, _, w0⟩ := pic_of Try.underlying24 (by kernel_rfl) (by kernel_rfl) Try.underlying2 Try.underlying2 Try.underlying22 Try.underlying26 (by kernel_rfl) (hval 0 24 v0 rfl rfl) h0
  clear hA0 hval0
  refine (walk W0 H0 a0 n0 c0 z0 W w0).mono fun e W' ⟨he, bel⟩ => ?_
  subst he
  exact ⟨_, rfl, _, _, _, [], _, [], hW', trodAll_mk1 (shut_bool Try.underlying4 _), (trodAll_cons_mk (Below.trod laidOut (by kernel_rfl) (of_decide_eq_true (by kernel_rfl)) k0 bel lt0) trodAll_mk0), rfl, bel.frame _, fun h => by cases h⟩

theorem over : Rows.fnExactRangeOfRow.holds Try.pinned (OpenSpec.ofChange Rows.fnExactRangeOfSpec) :=
  OpenClaim.holds_of_wide 3 Try.f3 rfl rfl rfl rfl rfl rfl rfl ⟨rfl, rfl, rfl, rfl, rfl⟩ rfl rfl rfl rfl rfl (by kernel_rfl) Try.func3 (by kernel_rfl)
    (of_decide_eq_true (by kernel_rfl)) (by unfold Func.isWrapper; first | (rw [if_pos (by decide +kernel)]; kernel_rfl) | (rw [if_neg (by decide +kernel)]; exact ⟨rfl, rfl⟩))
    (fun os started H enc _ => lifted os started H enc)

theorem proved : Rows.FnExactRangeOfSaid := over
#print axioms proved
end Go.Proofs.Ythchdjfieofeaaa.lawFnExactRangeOf
