/-
  For all arguments (picture), valid or not, the program's StorePicture answers as the model's, to the last bit, in memory of its own, and the arguments stay as they were; no condition but that they hold at most 1048576 numbers (else the law asks nothing).
-/
import Derived.Test.YtmbohiebjgafoaaBase
import Derived.Test.YtmbohiebjgafoaaPo
import Derived.Test.YtmbohiebjgafoaaVm
import Derived.Test.YtmbohiebjgafoaaTh
import Derived.Deep.DeepCutAuto
namespace Go.Proofs.Ytmbohiebjgafoaa.lawFnExactStorePicture
open Go.ChangeShapes Go.WideShapes Go.ChangeAt Go.RowKit Go.FX
open Go.ChangeMaps (open_string shut_string)
set_option linter.unusedVariables false
set_option linter.unusedSimpArgs false

set_option maxHeartbeats 16000000 in
set_option maxRecDepth 100000 in
theorem walk (W0 H0 : Int) (a0 : Option Addr) (n0 c0 : Nat) (z0 : List Nat) (w : World) (wW0 : (Lit.int .i64 W0).wf = true) (wH0 : (Lit.int .i64 H0).wf = true) (w0 : FS w (.slice a0 n0 c0) z0) :
    Calls Try.prog 12 #[.agg #[.int .i64 W0, .int .i64 H0, .slice a0 n0 c0]] w fun e w' => e = .returned (.bool true) ∧ Below w.heap.size w w' := by
  have hv0 : FC w (.slice a0 n0 c0) (z0.map (cn .f32)) := FC.of w0
  generalize z0.map (cn .f32) = cs0 at hv0
  clear w0
  obtain ⟨en0, hnc0, hcm0⟩ := hv0.sized
  have hmx0 : (n0 : Int) ≤ 9223372036854775807 := by unfold maxLen at hcm0; omega
  by_cases hlen0 : n0 ≤ 1048576
  case neg =>
    clear en0 hnc0 hcm0
    go_enter Try.func12, Try.ntmps12
    go_wp2_with fail
    refine (szPic_no _ _ _ _ _ _ _ (by omega) (by omega) hmx0).mono ?_
    rintro e v0 ⟨rfl, hc0⟩
    have y0 := hc0.size; simp only [World.size_alloc] at y0
    have x0 : Below w.heap.size w v0 := (below1 _ _).trans (hc0.mono (by simp; try omega))
    have B00 := (Pv.new w (W0) (H0) (.slice a0 n0 c0) 41).below hc0
    go_wp2_with fail
    go_ret
    exact ⟨rfl, x0⟩
  obtain ⟨g, ok, hS, hImp⟩ := pairStorePicture W0 H0 cs0
  have hn0 : cs0.length ≤ 1048576 := by omega
  clear en0 hnc0 hcm0 hmx0
  go_enter Try.func12, Try.ntmps12
  go_wp2_with fail
  refine (szPic_any _ _ _ _ _ _ _ (by omega) (by omega)).mono ?_
  rintro e w1 ⟨rfl, hb1⟩
  have s1 := hb1.size; simp only [World.size_alloc] at s1
  have q1 : Below w.heap.size w w1 := (bel_al (Below.refl w.heap.size w) (by have := Nat.le_refl 0; simp; try omega) _).trans (hb1.mono (by have := Nat.le_refl 0; simp; try omega))
  have PA01 := (Pv.new w (W0) (H0) (.slice a0 n0 c0) 41).below hb1
  obtain ⟨uA01, xA01, yA01, zA01⟩ := id PA01
  go_wp2_with fail
  refine (toPic_any _ _ _ cs0 _ (hv0.below q1) hn0).mono ?_
  rintro e w2 ⟨a2, n2, c2, rfl, hb2, ho2⟩
  have s2 := hb2.size
  have q2 : Below w.heap.size w w2 := q1.trans (hb2.mono (by have := q1.size; simp; try omega))
  have PA02 := PA01.below hb2
  have rT2 := ho2
  have bT : ∀ k, (Value.slice a2 n2 c2).ownBlock = some k → w1.heap.size ≤ k ∧ k < w2.heap.size := fun k hk => by have h := ho2.lt k hk; (try simp at h); omega
  obtain ⟨uA02, xA02, yA02, zA02⟩ := id PA02
  go_wp2_with fail
  refine (hS _ _ _ _ ho2.fc).mono ?_
  rintro e w3 ⟨rfl, hb3⟩
  have s3 := hb3.size
  have q3 : Below w.heap.size w w3 := q2.trans (hb3.mono (by have := q2.size; simp; try omega))
  have PA03 := PA02.below hb3
  obtain ⟨uA03, xA03, yA03, zA03⟩ := id PA03
  go_wp2_with fail
  refine (toPic_any _ _ _ cs0 _ (hv0.below q3) hn0).mono ?_
  rintro e w4 ⟨a4, n4, c4, rfl, hb4, ho4⟩
  have s4 := hb4.size
  have q4 : Below w.heap.size w w4 := q3.trans (hb4.mono (by have := q3.size; simp; try omega))
  have PA04 := PA03.below hb4
  have rX04 := ho4
  have bX0 : ∀ k, (Value.slice a4 n4 c4).ownBlock = some k → w3.heap.size ≤ k ∧ k < w4.heap.size := fun k hk => by have h := ho4.lt k hk; (try simp at h); omega
  go_wp2_with fail
  refine (hImp _ _ _ _ (rX04.alloc _).fc).mono ?_
  rintro e w5 ⟨rfl, hb5⟩
  have s5 := hb5.size; simp only [World.size_alloc] at s5
  have q5 : Below w.heap.size w w5 := (bel_al q4 (by have := q4.size; simp; try omega) _).trans (hb5.mono (by have := q4.size; simp; try omega))
  have PA05 := (PA04.alloc _).below hb5
  have rX05 := (rX04.alloc _).below hb5
  have PY05 := (Pv.new w4 (W0) (H0) (.slice a4 n4 c4) 46).below hb5
  obtain ⟨uY05, xY05, yY05, zY05⟩ := id PY05
  obtain ⟨uA05, xA05, yA05, zA05⟩ := id PA05
  go_wp2_with fail
  go_region_held3 (fun w' => Below w5.heap.size w5 w' ∧ w5.heap.size ≤ w'.heap.size ∧ (∀ b o, b < w5.heap.size → w'.cell? ⟨b, o, none⟩ = w5.cell? ⟨b, o, none⟩)) (first | exact keepStart _ | assumption | exact ⟨by assumption, by assumption, by assumption⟩ | exact keepCall (by assumption) (by assumption) | exact keepAlloc (by assumption) | (refine keepSet ?_ (keepSet ?_ (keepSet ?_ (keepSet ?_ ?_))) <;> first | assumption | omega | (simp; done) | (simp; omega)) | (refine keepSet ?_ (keepSet ?_ (keepSet ?_ ?_)) <;> first | assumption | omega | (simp; done) | (simp; omega)) | (refine keepSet ?_ (keepSet ?_ ?_) <;> first | assumption | omega | (simp; done) | (simp; omega)) | (refine keepSet ?_ ?_ <;> first | assumption | omega | (simp; done) | (simp; omega)))
    (first
      | (go_at_call 25; refine (toPic_any _ _ _ cs0 _ ((hv0.below q5).drewN 1) hn0).mono ?_; rintro e w6 ⟨a6, n6, c6, rfl, hb6, ho6⟩; have z6 := ((rX05.drewN 1).below hb6); have hI := keepCall (n := w5.heap.size) (W1 := w5) (by assumption) hb6; obtain ⟨hc, hf⟩ := bcell hb6; have hz := hb6.size; (try simp at hz); (try simp only [World.size_drew, World.cell?_drew] at hc); (try simp only [World.size_drew, World.frozen?_drew] at hf); first | (have hs := Nat.lt_of_succ_le hz) | (have hs := Nat.lt_of_lt_of_le hs hz) | skip)
      | (go_at_call 28; refine (eqPic_any _ _ _ _ cs0 _ z6.fc ho6.fc hn0).mono ?_; rintro e w7 ⟨rfl, hb7⟩; have hI := keepCall (n := w5.heap.size) (W1 := w5) (by assumption) hb7; obtain ⟨hc, hf⟩ := bcell hb7; have hz := hb7.size; (try simp at hz); (try simp only [World.size_drew, World.cell?_drew] at hc); (try simp only [World.size_drew, World.frozen?_drew] at hf); first | (have hs := Nat.lt_of_succ_le hz) | (have hs := Nat.lt_of_lt_of_le hs hz) | skip))
  have hbR7 : Below w5.heap.size w5 w7 := And.left (by assumption)
  have s7 := hbR7.size
  have q7 : Below w.heap.size w w7 := q5.trans (hbR7.mono (by have := q5.size; simp; try omega))
  have PA07 := PA05.below hbR7
  have PY07 := PY05.below hbR7
  have rX07 := rX05.below hbR7
  go_wp2_with fail
  go_ret
  exact ⟨rfl, q7⟩

set_option maxRecDepth 100000 in
theorem lifted (os : Os) (started : os.Started) (H : Type) (enc : TypeId × Value → H) :
    ReturnsInHanded {} Try.checked os 12 .any (Rows.fnExactStorePictureSpec.pre6 enc Try.prog Try.f12 Rows.fnExactStorePictureRow.domain false) (Rows.fnExactStorePictureSpec.post enc Try.prog Try.f12 false true false false) := by
  refine returnsInHanded_of_change (C := Try.checked) own started (by kernel_rfl) Try.func12
    (ChangeSpec.witness6 (enc := enc) (C := Try.checked) false ⟨#[], #[.agg #[.int .i64 0, .int .i64 0, .slice none 0 0]], []⟩ 8 (by kernel_rfl) (by kernel_rfl) (by kernel_rfl) (by kernel_rfl)) ?_
  intro W base args ds gs before hval0 hW hcnd _
  have hval : ∀ (j : Nat) t v, Try.f12.params[j]? = some t → args[j]? = some v → Value.okWide Try.prog W .any base t v := hval0
  have hW' := hW
  obtain ⟨p, q, hA0, hV, rfl, hfz, hnd⟩ := hW
  have hA : DataW.TrodAll enc Try.prog W 0 (fun _ => true) true Try.f12.params.toList args.toList ds p := hA0
  rw [Try.params12] at hA hval
  obtain ⟨v0, vs0, d0, ds0, p0, q0, hargs, rfl, rfl, h0, r0⟩ := trodAll_cons hA
  obtain ⟨rfl, rfl, rfl⟩ := trodAll_nil r0
  obtain rfl : args = #[v0] := by cases args; simp_all
  obtain ⟨rfl, rfl⟩ := trodVars_none hV
  have k0 := h0
  have lt0 : ∀ x ∈ p0, x.block < W.heap.size := by obtain ⟨m, hm⟩ := k0; exact DataW.trod_lt m _ _ _ hm
  obtain ⟨W0, H0, a0, n0, c0, z0, rfl, wW0, wH0, w0⟩ := pic_of Try.underlying41 (by kernel_rfl) (by kernel_rfl) Try.underlying2 Try.underlying2 Try.underlying39 Try.underlying22 (by kernel_rfl) (hval 0 41 v0 rfl rfl) h0
  clear hA0 hval0
  refine (walk W0 H0 a0 n0 c0 z0 W wW0 wH0 w0).mono fun e W' ⟨he, bel⟩ => ?_
  subst he
  exact ⟨_, rfl, _, _, _, [], _, [], hW', trodAll_mk1 (shut_bool Try.underlying4 _), (trodAll_cons_mk (Below.trod laidOut (by kernel_rfl) (of_decide_eq_true (by kernel_rfl)) k0 bel lt0) trodAll_mk0), rfl, bel.frame _, fun h => by cases h⟩

theorem over : Rows.fnExactStorePictureRow.holds Try.pinned (OpenSpec.ofChange Rows.fnExactStorePictureSpec) :=
  OpenClaim.holds_of_wide 12 Try.f12 rfl rfl rfl rfl rfl rfl rfl ⟨rfl, rfl, rfl, rfl, rfl⟩ rfl rfl rfl rfl rfl (by kernel_rfl) Try.func12 (by kernel_rfl)
    (of_decide_eq_true (by kernel_rfl)) (by unfold Func.isWrapper; first | (rw [if_pos (by decide +kernel)]; kernel_rfl) | (rw [if_neg (by decide +kernel)]; exact ⟨rfl, rfl⟩))
    (fun os started H enc _ => lifted os started H enc)

theorem proved : Rows.FnExactStorePictureSaid := over
#print axioms proved
end Go.Proofs.Ytmbohiebjgafoaa.lawFnExactStorePicture
