/-
  For all arguments (picture), valid or not, the program's SampleAt answers as the model's, to the last bit, in memory of its own, and the arguments stay as they were; no condition but that they hold at most 1048576 numbers (else the law asks nothing).
-/
import Derived.Test.YtekpmhgdofjhdaaBase
import Derived.Test.YtekpmhgdofjhdaaPo
import Derived.Test.YtekpmhgdofjhdaaVm
import Derived.Test.YtekpmhgdofjhdaaSi
import Derived.Deep.DeepCutAuto
namespace Go.Proofs.Ytekpmhgdofjhdaa.lawFnExactSampleAt
open Go.ChangeShapes Go.WideShapes Go.ChangeAt Go.RowKit Go.FX
open Go.ChangeMaps (open_string shut_string)
set_option linter.unusedVariables false
set_option linter.unusedSimpArgs false

set_option maxHeartbeats 16000000 in
set_option maxRecDepth 100000 in
theorem walk (W0 H0 : Int) (a0 : Option Addr) (n0 c0 : Nat) (z0 : List Nat) (a1 : Nat) (a2 : Nat) (w : World) (wW0 : (Lit.int .i64 W0).wf = true) (wH0 : (Lit.int .i64 H0).wf = true) (w0 : FS w (.slice a0 n0 c0) z0) (w1 : (Lit.float .f32 a1).wf = true) (w2 : (Lit.float .f32 a2).wf = true) :
    Calls Try.prog 14 #[.agg #[.int .i64 W0, .int .i64 H0, .slice a0 n0 c0], .float .f32 a1, .float .f32 a2] w fun e w' => e = .returned (.bool true) ∧ Below w.heap.size w w' := by
  have hv0 : FC w (.slice a0 n0 c0) (z0.map (cn .f32)) := FC.of w0
  generalize z0.map (cn .f32) = cs0 at hv0
  clear w0
  obtain ⟨en0, hnc0, hcm0⟩ := hv0.sized
  have hmx0 : (n0 : Int) ≤ 9223372036854775807 := by unfold maxLen at hcm0; omega
  by_cases hlen0 : n0 ≤ 1048576
  case neg =>
    clear en0 hnc0 hcm0
    go_enter Try.func14, Try.ntmps14
    go_wp2_with fail
    refine (szPic_no _ _ _ _ _ _ _ (by omega) (by omega) hmx0).mono ?_
    rintro e v0 ⟨rfl, hc0⟩
    have y0 := hc0.size; simp only [World.size_alloc] at y0
    have x0 : Below w.heap.size w v0 := (below1 _ _).trans (hc0.mono (by simp; try omega))
    have B00 := (Pv.new w (W0) (H0) (.slice a0 n0 c0) 76).below hc0
    go_wp2_with fail
    go_ret
    exact ⟨rfl, x0⟩
  obtain ⟨g, ok, hS, hImp⟩ := pairSampleAt W0 H0 cs0 a1 a2 (lt32 w1) (lt32 w2)
  have hn0 : cs0.length ≤ 1048576 := by omega
  clear en0 hnc0 hcm0 hmx0
  go_enter Try.func14, Try.ntmps14
  go_wp2_with fail
  refine (szPic_any _ _ _ _ _ _ _ (by omega) (by omega)).mono ?_
  rintro e w1 ⟨rfl, hb1⟩
  have s1 := hb1.size; simp only [World.size_alloc] at s1
  have q1 : Below w.heap.size w w1 := (bel_al (Below.refl w.heap.size w) (by have := Nat.le_refl 0; simp; try omega) _).trans (hb1.mono (by have := Nat.le_refl 0; simp; try omega))
  have PA01 := (Pv.new w (W0) (H0) (.slice a0 n0 c0) 76).below hb1
  obtain ⟨uA01, xA01, yA01, zA01⟩ := id PA01
  go_wp2_with fail
  refine (toPic_any _ _ _ cs0 _ (hv0.below q1) hn0).mono ?_
  rintro e w2 ⟨a2, n2, c2, rfl, hb2, ho2⟩
  have s2 := hb2.size
  have q2 : Below w.heap.size w w2 := q1.trans (hb2.mono (by have := q1.size; simp; try omega))
  have PA02 := PA01.below hb2
  have rT2 := ho2
  have bT : ∀ k, (Value.slice a2 n2 c2).ownBlock = some k → w1.heap.size ≤ k ∧ k < w2.heap.size := fun k hk => by have h := ho2.lt k hk; (try simp at h); omega
  obtain ⟨uA02, xA02, yA02, zA02⟩ := id PA02
  go_wp2_with fail
  refine (hS _ _ _ _ ho2.fc).mono ?_
  rintro e w3 ⟨g3, rfl, hb3, hg3⟩
  have s3 := hb3.size
  have q3 : Below w.heap.size w w3 := q2.trans (hb3.mono (by have := q2.size; simp; try omega))
  have PA03 := PA02.below hb3
  obtain ⟨uA03, xA03, yA03, zA03⟩ := id PA03
  go_wp2_with fail
  refine (toPic_any _ _ _ cs0 _ (hv0.below q3) hn0).mono ?_
  rintro e w4 ⟨a4, n4, c4, rfl, hb4, ho4⟩
  have s4 := hb4.size
  have q4 : Below w.heap.size w w4 := q3.trans (hb4.mono (by have := q3.size; simp; try omega))
  have PA04 := PA03.below hb4
  have rX04 := ho4
  have bX0 : ∀ k, (Value.slice a4 n4 c4).ownBlock = some k → w3.heap.size ≤ k ∧ k < w4.heap.size := fun k hk => by have h := ho4.lt k hk; (try simp at h); omega
  go_wp2_with fail
  refine (hImp _ _ _ _ (rX04.alloc _).fc).mono ?_
  rintro e w5 ⟨g5, rfl, hb5, hg5⟩
  have s5 := hb5.size; simp only [World.size_alloc] at s5
  have q5 : Below w.heap.size w w5 := (bel_al q4 (by have := q4.size; simp; try omega) _).trans (hb5.mono (by have := q4.size; simp; try omega))
  have PA05 := (PA04.alloc _).below hb5
  have rX05 := (rX04.alloc _).below hb5
  have PY05 := (Pv.new w4 (W0) (H0) (.slice a4 n4 c4) 79).below hb5
  go_wp2_with fail
  refine (sameFloatB (hg5.wide _) (hg3.wide _) _).mono ?_
  rintro e w6 ⟨rfl, hb6'⟩
  have hb6 := undrewN hb6'
  simp only [World.heap_drewN] at hb6
  have s6 := hb6.size
  have q6 : Below w.heap.size w w6 := q5.trans (hb6.mono (by have := q5.size; simp; try omega))
  have PA06 := PA05.below hb6
  have PY06 := PY05.below hb6
  have rX06 := rX05.below hb6
  obtain ⟨uY06, xY06, yY06, zY06⟩ := id PY06
  obtain ⟨uA06, xA06, yA06, zA06⟩ := id PA06
  go_wp2_with fail
  go_region_held3 (fun w' => Below w6.heap.size w6 w' ∧ w6.heap.size ≤ w'.heap.size ∧ (∀ b o, b < w6.heap.size → w'.cell? ⟨b, o, none⟩ = w6.cell? ⟨b, o, none⟩)) (first | exact keepStart _ | assumption | exact ⟨by assumption, by assumption, by assumption⟩ | exact keepCall (by assumption) (by assumption) | exact keepAlloc (by assumption) | (refine keepSet ?_ (keepSet ?_ (keepSet ?_ (keepSet ?_ ?_))) <;> first | assumption | omega | (simp; done) | (simp; omega)) | (refine keepSet ?_ (keepSet ?_ (keepSet ?_ ?_)) <;> first | assumption | omega | (simp; done) | (simp; omega)) | (refine keepSet ?_ (keepSet ?_ ?_) <;> first | assumption | omega | (simp; done) | (simp; omega)) | (refine keepSet ?_ ?_ <;> first | assumption | omega | (simp; done) | (simp; omega)))
    (first
      | (go_at_call 55; refine (toPic_any _ _ _ cs0 _ ((hv0.below q6).drewN 1) hn0).mono ?_; rintro e w7 ⟨a7, n7, c7, rfl, hb7, ho7⟩; have z7 := ((rX06.drewN 1).below hb7); have hI := keepCall (n := w6.heap.size) (W1 := w6) (by assumption) hb7; obtain ⟨hc, hf⟩ := bcell hb7; have hz := hb7.size; (try simp at hz); (try simp only [World.size_drew, World.cell?_drew] at hc); (try simp only [World.size_drew, World.frozen?_drew] at hf); first | (have hs := Nat.lt_of_succ_le hz) | (have hs := Nat.lt_of_lt_of_le hs hz) | skip)
      | (go_at_call 57; refine (eqPic_any _ _ _ _ cs0 _ z7.fc ho7.fc hn0).mono ?_; rintro e w8 ⟨rfl, hb8⟩; have hI := keepCall (n := w6.heap.size) (W1 := w6) (by assumption) hb8; obtain ⟨hc, hf⟩ := bcell hb8; have hz := hb8.size; (try simp at hz); (try simp only [World.size_drew, World.cell?_drew] at hc); (try simp only [World.size_drew, World.frozen?_drew] at hf); first | (have hs := Nat.lt_of_succ_le hz) | (have hs := Nat.lt_of_lt_of_le hs hz) | skip))
  have hbR8 : Below w6.heap.size w6 w8 := And.left (by assumption)
  have s8 := hbR8.size
  have q8 : Below w.heap.size w w8 := q6.trans (hbR8.mono (by have := q6.size; simp; try omega))
  have PA08 := PA06.below hbR8
  have PY08 := PY06.below hbR8
  have rX08 := rX06.below hbR8
  go_wp2_with fail
  go_ret
  exact ⟨rfl, q8⟩

set_option maxRecDepth 100000 in
theorem lifted (os : Os) (started : os.Started) (H : Type) (enc : TypeId × Value → H) :
    ReturnsInHanded {} Try.checked os 14 .any (Rows.fnExactSampleAtSpec.pre6 enc Try.prog Try.f14 Rows.fnExactSampleAtRow.domain false) (Rows.fnExactSampleAtSpec.post enc Try.prog Try.f14 false true false false) := by
  refine returnsInHanded_of_change (C := Try.checked) own started (by kernel_rfl) Try.func14
    (ChangeSpec.witness6 (enc := enc) (C := Try.checked) false ⟨#[], #[.agg #[.int .i64 0, .int .i64 0, .slice none 0 0], .float .f32 0, .float .f32 0], []⟩ 8 (by kernel_rfl) (by kernel_rfl) (by kernel_rfl) (by kernel_rfl)) ?_
  intro W base args ds gs before hval0 hW hcnd _
  have hval : ∀ (j : Nat) t v, Try.f14.params[j]? = some t → args[j]? = some v → Value.okWide Try.prog W .any base t v := hval0
  have hW' := hW
  obtain ⟨p, q, hA0, hV, rfl, hfz, hnd⟩ := hW
  have hA : DataW.TrodAll enc Try.prog W 0 (fun _ => true) true Try.f14.params.toList args.toList ds p := hA0
  rw [Try.params14] at hA hval
  obtain ⟨v0, vs0, d0, ds0, p0, q0, hargs, rfl, rfl, h0, r0⟩ := trodAll_cons hA
  obtain ⟨v1, vs1, d1, ds1, p1, q1, rfl, rfl, rfl, h1, r1⟩ := trodAll_cons r0
  obtain ⟨v2, vs2, d2, ds2, p2, q2, rfl, rfl, rfl, h2, r2⟩ := trodAll_cons r1
  obtain ⟨rfl, rfl, rfl⟩ := trodAll_nil r2
  obtain rfl : args = #[v0, v1, v2] := by cases args; simp_all
  obtain ⟨rfl, rfl⟩ := trodVars_none hV
  have k0 := h0
  have lt0 : ∀ x ∈ p0, x.block < W.heap.size := by obtain ⟨m, hm⟩ := k0; exact DataW.trod_lt m _ _ _ hm
  have k1 := h1
  have lt1 : ∀ x ∈ p1, x.block < W.heap.size := by obtain ⟨m, hm⟩ := k1; exact DataW.trod_lt m _ _ _ hm
  have k2 := h2
  have lt2 : ∀ x ∈ p2, x.block < W.heap.size := by obtain ⟨m, hm⟩ := k2; exact DataW.trod_lt m _ _ _ hm
  obtain ⟨W0, H0, a0, n0, c0, z0, rfl, wW0, wH0, w0⟩ := pic_of Try.underlying76 (by kernel_rfl) (by kernel_rfl) Try.underlying2 Try.underlying2 Try.underlying51 Try.underlying22 (by kernel_rfl) (hval 0 76 v0 rfl rfl) h0
  obtain ⟨a1, rfl, rfl, rfl, w1⟩ := open_float Try.underlying22 (hval 1 22 v1 rfl rfl) h1
  obtain ⟨a2, rfl, rfl, rfl, w2⟩ := open_float Try.underlying22 (hval 2 22 v2 rfl rfl) h2
  clear hA0 hval0
  refine (walk W0 H0 a0 n0 c0 z0 a1 a2 W wW0 wH0 w0 w1 w2).mono fun e W' ⟨he, bel⟩ => ?_
  subst he
  exact ⟨_, rfl, _, _, _, [], _, [], hW', trodAll_mk1 (shut_bool Try.underlying4 _), (trodAll_cons_mk (Below.trod laidOut (by kernel_rfl) (of_decide_eq_true (by kernel_rfl)) k0 bel lt0) (trodAll_cons_mk (Below.trod laidOut (by kernel_rfl) (of_decide_eq_true (by kernel_rfl)) k1 bel lt1) (trodAll_cons_mk (Below.trod laidOut (by kernel_rfl) (of_decide_eq_true (by kernel_rfl)) k2 bel lt2) trodAll_mk0))), rfl, bel.frame _, fun h => by cases h⟩

theorem over : Rows.fnExactSampleAtRow.holds Try.pinned (OpenSpec.ofChange Rows.fnExactSampleAtSpec) :=
  OpenClaim.holds_of_wide 14 Try.f14 rfl rfl rfl rfl rfl rfl rfl ⟨rfl, rfl, rfl, rfl, rfl⟩ rfl rfl rfl rfl rfl (by kernel_rfl) Try.func14 (by kernel_rfl)
    (of_decide_eq_true (by kernel_rfl)) (by unfold Func.isWrapper; first | (rw [if_pos (by decide +kernel)]; kernel_rfl) | (rw [if_neg (by decide +kernel)]; exact ⟨rfl, rfl⟩))
    (fun os started H enc _ => lifted os started H enc)

theorem proved : Rows.FnExactSampleAtSaid := over
#print axioms proved
end Go.Proofs.Ytekpmhgdofjhdaa.lawFnExactSampleAt
