/-
  For all arguments (volume), valid or not, the program's ChecksOf answers as the model's, to the last bit, in memory of its own, and the arguments stay as they were; no condition but that they hold at most 1048576 numbers (else the law asks nothing).
-/
import Derived.Test.YtaclgmafcakiiaaBase
import Derived.Test.YtaclgmafcakiiaaPo
import Derived.Test.YtaclgmafcakiiaaVm
import Derived.Test.YtaclgmafcakiiaaCkp
import Derived.Deep.DeepCutAuto
namespace Go.Proofs.Ytaclgmafcakiiaa.lawFnExactChecksOf
open Go.ChangeShapes Go.WideShapes Go.ChangeAt Go.RowKit Go.FX
open Go.ChangeMaps (open_string shut_string)
set_option linter.unusedVariables false
set_option linter.unusedSimpArgs false

set_option maxHeartbeats 16000000 in
set_option maxRecDepth 100000 in
theorem walk (W0 H0 D0 : Int) (a0 : Option Addr) (n0 c0 : Nat) (z0 : List Nat) (a1 : Nat) (w : World) (wW0 : (Lit.int .i64 W0).wf = true) (wH0 : (Lit.int .i64 H0).wf = true) (wD0 : (Lit.int .i64 D0).wf = true) (w0 : FS w (.slice a0 n0 c0) z0) (w1 : (Lit.float .f32 a1).wf = true) :
    Calls Try.prog 5 #[.agg #[.int .i64 W0, .int .i64 H0, .int .i64 D0, .slice a0 n0 c0], .float .f32 a1] w fun e w' => e = .returned (.bool true) ∧ Below w.heap.size w w' := by
  have hv0 : FC w (.slice a0 n0 c0) (z0.map (cn .f32)) := FC.of w0
  generalize z0.map (cn .f32) = cs0 at hv0
  clear w0
  obtain ⟨en0, hnc0, hcm0⟩ := hv0.sized
  have hmx0 : (n0 : Int) ≤ 9223372036854775807 := by unfold maxLen at hcm0; omega
  by_cases hlen0 : n0 ≤ 1048576
  case neg =>
    clear en0 hnc0 hcm0
    go_enter Try.func5, Try.ntmps5
    go_wp2_with fail
    refine (szVol_no _ _ _ _ _ _ _ _ (by omega) (by omega) hmx0).mono ?_
    rintro e v0 ⟨rfl, hc0⟩
    have y0 := hc0.size; simp only [World.size_alloc] at y0
    have x0 : Below w.heap.size w v0 := (below1 _ _).trans (hc0.mono (by simp; try omega))
    have B00 := (Pw.new w (W0) (H0) (D0) (.slice a0 n0 c0) 24).below hc0
    go_wp2_with fail
    go_ret
    exact ⟨rfl, x0⟩
  obtain ⟨W', H', cs', ok, hS, hImp, h256⟩ := pairChecksOf W0 H0 D0 cs0 a1 (lt32 w1)
  have hn0 : cs0.length ≤ 1048576 := by omega
  clear en0 hnc0 hcm0 hmx0
  go_enter Try.func5, Try.ntmps5
  go_wp2_with fail
  refine (szVol_any _ _ _ _ _ _ _ _ (by omega) (by omega)).mono ?_
  rintro e w1 ⟨rfl, hb1⟩
  have s1 := hb1.size; simp only [World.size_alloc] at s1
  have q1 : Below w.heap.size w w1 := (bel_al (Below.refl w.heap.size w) (by have := Nat.le_refl 0; simp; try omega) _).trans (hb1.mono (by have := Nat.le_refl 0; simp; try omega))
  have PA01 := (Pw.new w (W0) (H0) (D0) (.slice a0 n0 c0) 24).below hb1
  obtain ⟨uA01, xA01, yA01, zA01, tA01⟩ := id PA01
  go_wp2_with fail
  refine (toVol_any _ _ _ _ cs0 _ (hv0.below q1) hn0).mono ?_
  rintro e w2 ⟨a2, n2, c2, rfl, hb2, ho2⟩
  have s2 := hb2.size
  have q2 : Below w.heap.size w w2 := q1.trans (hb2.mono (by have := q1.size; simp; try omega))
  have PA02 := PA01.below hb2
  have rT2 := ho2
  have bT : ∀ k, (Value.slice a2 n2 c2).ownBlock = some k → w1.heap.size ≤ k ∧ k < w2.heap.size := fun k hk => by have h := ho2.lt k hk; (try simp at h); omega
  obtain ⟨uA02, xA02, yA02, zA02, tA02⟩ := id PA02
  go_wp2_with fail
  refine (hS _ _ _ _ ho2.fc).mono ?_
  rintro e w3 ⟨a3, n3, c3, rfl, hb3, ho3⟩
  have s3 := hb3.size
  have q3 : Below w.heap.size w w3 := q2.trans (hb3.mono (by have := q2.size; simp; try omega))
  have PA03 := PA02.below hb3
  have rM3 := ho3
  have bM : ∀ k, (Value.slice a3 n3 c3).ownBlock = some k → w2.heap.size ≤ k ∧ k < w3.heap.size := fun k hk => by have h := ho3.lt k hk; (try simp at h); omega
  have qL := q3
  obtain ⟨uA03, xA03, yA03, zA03, tA03⟩ := id PA03
  go_wp2_with fail
  refine (toVol_any _ _ _ _ cs0 _ (hv0.below (bel_al q3 (by have := q3.size; simp; try omega) _)) hn0).mono ?_
  rintro e w4 ⟨a4, n4, c4, rfl, hb4, ho4⟩
  have s4 := hb4.size; simp only [World.size_alloc] at s4
  have q4 : Below w.heap.size w w4 := (bel_al q3 (by have := q3.size; simp; try omega) _).trans (hb4.mono (by have := q3.size; simp; try omega))
  have PA04 := (PA03.alloc _).below hb4
  have rM4 := (rM3.alloc _).below hb4
  have PV4 := (Pv.new w3 (W') (H') (.slice a3 n3 c3) 27).below hb4
  have rX04 := ho4
  have bX0 : ∀ k, (Value.slice a4 n4 c4).ownBlock = some k → w3.heap.size + 1 ≤ k ∧ k < w4.heap.size := fun k hk => by have h := ho4.lt k hk; (try simp at h); omega
  go_wp2_with fail
  refine (hImp _ _ _ _ (rX04.alloc _).fc).mono ?_
  rintro e w5 ⟨a5, n5, c5, rfl, hb5, ho5⟩
  have s5 := hb5.size; simp only [World.size_alloc] at s5
  have q5 : Below w.heap.size w w5 := (bel_al q4 (by have := q4.size; simp; try omega) _).trans (hb5.mono (by have := q4.size; simp; try omega))
  have PA05 := (PA04.alloc _).below hb5
  have PV5 := (PV4.alloc _).below hb5
  have rM5 := (rM4.alloc _).below hb5
  have rX05 := (rX04.alloc _).below hb5
  have PY05 := (Pw.new w4 (W0) (H0) (D0) (.slice a4 n4 c4) 30).below hb5
  have rG5 := ho5
  have bG : ∀ k, (Value.slice a5 n5 c5).ownBlock = some k → w4.heap.size + 1 ≤ k ∧ k < w5.heap.size := fun k hk => by have h := ho5.lt k hk; (try simp at h); omega
  obtain ⟨uV5, xV5, yV5, zV5⟩ := id PV5
  go_wp2_with fail
  refine (eqMap_any _ _ _ _ cs' _ (rG5.alloc _).fc (rM5.alloc _).fc (Nat.le_trans h256 (by decide))).mono ?_
  rintro e w6 ⟨rfl, hb6⟩
  have s6 := hb6.size; simp only [World.size_alloc] at s6
  have q6 : Below w.heap.size w w6 := (bel_al q5 (by have := q5.size; simp; try omega) _).trans (hb6.mono (by have := q5.size; simp; try omega))
  have PA06 := (PA05.alloc _).below hb6
  have PV6 := (PV5.alloc _).below hb6
  have PY06 := (PY05.alloc _).below hb6
  have rM6 := (rM5.alloc _).below hb6
  have rX06 := (rX05.alloc _).below hb6
  have rG6 := (rG5.alloc _).below hb6
  have PZ6 := (Pv.new w5 (W') (H') (.slice a5 n5 c5) 27).below hb6
  obtain ⟨uY06, xY06, yY06, zY06, tY06⟩ := id PY06
  obtain ⟨uA06, xA06, yA06, zA06, tA06⟩ := id PA06
  go_wp2_with fail
  go_region_held3 (fun w' => Below w6.heap.size w6 w' ∧ w6.heap.size ≤ w'.heap.size ∧ (∀ b o, b < w6.heap.size → w'.cell? ⟨b, o, none⟩ = w6.cell? ⟨b, o, none⟩)) (first | exact keepStart _ | assumption | exact ⟨by assumption, by assumption, by assumption⟩ | exact keepCall (by assumption) (by assumption) | exact keepAlloc (by assumption) | (refine keepSet ?_ (keepSet ?_ (keepSet ?_ (keepSet ?_ ?_))) <;> first | assumption | omega | (simp; done) | (simp; omega)) | (refine keepSet ?_ (keepSet ?_ (keepSet ?_ ?_)) <;> first | assumption | omega | (simp; done) | (simp; omega)) | (refine keepSet ?_ (keepSet ?_ ?_) <;> first | assumption | omega | (simp; done) | (simp; omega)) | (refine keepSet ?_ ?_ <;> first | assumption | omega | (simp; done) | (simp; omega)))
    (first
      | (go_at_call 8; refine (toVol_any _ _ _ _ cs0 _ ((hv0.below q6).drewN 1) hn0).mono ?_; rintro e w7 ⟨a7, n7, c7, rfl, hb7, ho7⟩; have z7 := ((rX06.drewN 1).below hb7); have hI := keepCall (n := w6.heap.size) (W1 := w6) (by assumption) hb7; obtain ⟨hc, hf⟩ := bcell hb7; have hz := hb7.size; (try simp at hz); (try simp only [World.size_drew, World.cell?_drew] at hc); (try simp only [World.size_drew, World.frozen?_drew] at hf); first | (have hs := Nat.lt_of_succ_le hz) | (have hs := Nat.lt_of_lt_of_le hs hz) | skip)
      | (go_at_call 11; refine (eqVol_any _ _ _ _ _ cs0 _ z7.fc ho7.fc hn0).mono ?_; rintro e w8 ⟨rfl, hb8⟩; have hI := keepCall (n := w6.heap.size) (W1 := w6) (by assumption) hb8; obtain ⟨hc, hf⟩ := bcell hb8; have hz := hb8.size; (try simp at hz); (try simp only [World.size_drew, World.cell?_drew] at hc); (try simp only [World.size_drew, World.frozen?_drew] at hf); first | (have hs := Nat.lt_of_succ_le hz) | (have hs := Nat.lt_of_lt_of_le hs hz) | skip))
  have hbR8 : Below w6.heap.size w6 w8 := And.left (by assumption)
  have s8 := hbR8.size
  have q8 : Below w.heap.size w w8 := q6.trans (hbR8.mono (by have := q6.size; simp; try omega))
  have PA08 := PA06.below hbR8
  have PV8 := PV6.below hbR8
  have PY08 := PY06.below hbR8
  have PZ8 := PZ6.below hbR8
  have rM8 := rM6.below hbR8
  have rX08 := rX06.below hbR8
  have rG8 := rG6.below hbR8
  obtain ⟨uY08, xY08, yY08, zY08, tY08⟩ := id PY08
  go_wp2_with fail
  refine (markVol_any _ _ _ _ _ _ _ _ rX08 (by omega) (by omega)).mono ?_
  rintro e w9 ⟨rfl, hg9, ho9⟩
  have s9 := hg9.size
  have q9 := q8.grown hg9 q8.size (fun k hk => by have := bX0 k hk; have := qL.size; omega)
  have PA09 := PA08.kept hg9 (fun e => by have := bX0 _ e; omega)
  have PV9 := PV8.kept hg9 (fun e => by have := bX0 _ e; omega)
  have PY09 := PY08.kept hg9 (fun e => by have := bX0 _ e; omega)
  have PZ9 := PZ8.kept hg9 (fun e => by have := bX0 _ e; omega)
  have rM9 := rM8.kept hg9 (own_sep fun k hk k' hk' => by have := bM k hk; have := bX0 k' hk'; omega)
  have rG9 := rG8.kept hg9 (own_sep fun k hk k' hk' => by have := bG k hk; have := bX0 k' hk'; omega)
  obtain ⟨uZ9, xZ9, yZ9, zZ9⟩ := id PZ9
  obtain ⟨uV9, xV9, yV9, zV9⟩ := id PV9
  go_wp2_with fail
  refine (eqMap_any _ _ _ _ cs' _ rG9.fc rM9.fc (Nat.le_trans h256 (by decide))).mono ?_
  rintro e w10 ⟨rfl, hb10⟩
  have s10 := hb10.size
  have q10 : Below w.heap.size w w10 := q9.trans (hb10.mono (by have := q9.size; simp; try omega))
  have PA010 := PA09.below hb10
  have PV10 := PV9.below hb10
  have PY010 := PY09.below hb10
  have PZ10 := PZ9.below hb10
  have rM10 := rM9.below hb10
  have rG10 := rG9.below hb10
  obtain ⟨uZ10, xZ10, yZ10, zZ10⟩ := id PZ10
  go_wp2_with fail
  refine (markMap_any _ _ _ _ _ _ _ rG10 (by omega) (by omega)).mono ?_
  rintro e w11 ⟨rfl, hg11, ho11⟩
  have s11 := hg11.size
  have q11 := q10.grown hg11 q10.size (fun k hk => by have := bG k hk; have := qL.size; omega)
  have PA011 := PA010.kept hg11 (fun e => by have := bG _ e; omega)
  have PV11 := PV10.kept hg11 (fun e => by have := bG _ e; omega)
  have PY011 := PY010.kept hg11 (fun e => by have := bG _ e; omega)
  have PZ11 := PZ10.kept hg11 (fun e => by have := bG _ e; omega)
  have rM11 := rM10.kept hg11 (own_sep fun k hk k' hk' => by have := bM k hk; have := bG k' hk'; omega)
  have rK11 := ho11
  obtain ⟨uZ11, xZ11, yZ11, zZ11⟩ := id PZ11
  go_wp2_with fail
  refine (heldMap_any _ _ _ _ _ _ rK11.fc (by omega) (by omega)).mono ?_
  rintro e w12 ⟨rfl, hb12⟩
  have s12 := hb12.size
  have q12 : Below w.heap.size w w12 := q11.trans (hb12.mono (by have := q11.size; simp; try omega))
  have PA012 := PA011.below hb12
  have PV12 := PV11.below hb12
  have PY012 := PY011.below hb12
  have PZ12 := PZ11.below hb12
  have rM12 := rM11.below hb12
  have rK12 := rK11.below hb12
  obtain ⟨uA012, xA012, yA012, zA012, tA012⟩ := id PA012
  go_wp2_with fail
  refine (toVol_any _ _ _ _ cs0 _ (hv0.below q12) hn0).mono ?_
  rintro e w13 ⟨a13, n13, c13, rfl, hb13, ho13⟩
  have s13 := hb13.size
  have q13 : Below w.heap.size w w13 := q12.trans (hb13.mono (by have := q12.size; simp; try omega))
  have PA013 := PA012.below hb13
  have PV13 := PV12.below hb13
  have PY013 := PY012.below hb13
  have PZ13 := PZ12.below hb13
  have rM13 := rM12.below hb13
  have rK13 := rK12.below hb13
  have rT13 := ho13
  have bT : ∀ k, (Value.slice a13 n13 c13).ownBlock = some k → w12.heap.size ≤ k ∧ k < w13.heap.size := fun k hk => by have h := ho13.lt k hk; (try simp at h); omega
  obtain ⟨uA013, xA013, yA013, zA013, tA013⟩ := id PA013
  go_wp2_with fail
  refine (hImp _ _ _ _ ho13.fc).mono ?_
  rintro e w14 ⟨a14, n14, c14, rfl, hb14, ho14⟩
  have s14 := hb14.size
  have q14 : Below w.heap.size w w14 := q13.trans (hb14.mono (by have := q13.size; simp; try omega))
  have PA014 := PA013.below hb14
  have PV14 := PV13.below hb14
  have PY014 := PY013.below hb14
  have PZ14 := PZ13.below hb14
  have rM14 := rM13.below hb14
  have rK14 := rK13.below hb14
  have rN14 := ho14
  have bN : ∀ k, (Value.slice a14 n14 c14).ownBlock = some k → w13.heap.size ≤ k ∧ k < w14.heap.size := fun k hk => by have h := ho14.lt k hk; (try simp at h); omega
  obtain ⟨uV14, xV14, yV14, zV14⟩ := id PV14
  go_wp2_with fail
  refine (eqMap_any _ _ _ _ cs' _ (rN14.alloc _).fc (rM14.alloc _).fc (Nat.le_trans h256 (by decide))).mono ?_
  rintro e w15 ⟨rfl, hb15⟩
  have s15 := hb15.size; simp only [World.size_alloc] at s15
  have q15 : Below w.heap.size w w15 := (bel_al q14 (by have := q14.size; simp; try omega) _).trans (hb15.mono (by have := q14.size; simp; try omega))
  have PA015 := (PA014.alloc _).below hb15
  have PV15 := (PV14.alloc _).below hb15
  have PY015 := (PY014.alloc _).below hb15
  have PZ15 := (PZ14.alloc _).below hb15
  have rM15 := (rM14.alloc _).below hb15
  have rK15 := (rK14.alloc _).below hb15
  have rN15 := (rN14.alloc _).below hb15
  obtain ⟨uZ15, xZ15, yZ15, zZ15⟩ := id PZ15
  go_wp2_with fail
  refine (heldMap_any _ _ _ _ _ _ rK15.fc (by omega) (by omega)).mono ?_
  rintro e w16 ⟨rfl, hb16⟩
  have s16 := hb16.size
  have q16 : Below w.heap.size w w16 := q15.trans (hb16.mono (by have := q15.size; simp; try omega))
  have PA016 := PA015.below hb16
  have PV16 := PV15.below hb16
  have PY016 := PY015.below hb16
  have PZ16 := PZ15.below hb16
  have rM16 := rM15.below hb16
  have rK16 := rK15.below hb16
  have rN16 := rN15.below hb16
  go_wp2_with fail
  go_ret
  exact ⟨rfl, q16⟩

set_option maxRecDepth 100000 in
theorem lifted (os : Os) (started : os.Started) (H : Type) (enc : TypeId × Value → H) :
    ReturnsInHanded {} Try.checked os 5 .any (Rows.fnExactChecksOfSpec.pre6 enc Try.prog Try.f5 Rows.fnExactChecksOfRow.domain false) (Rows.fnExactChecksOfSpec.post enc Try.prog Try.f5 false true false false) := by
  refine returnsInHanded_of_change (C := Try.checked) own started (by kernel_rfl) Try.func5
    (ChangeSpec.witness6 (enc := enc) (C := Try.checked) false ⟨#[], #[.agg #[.int .i64 0, .int .i64 0, .int .i64 0, .slice none 0 0], .float .f32 0], []⟩ 8 (by kernel_rfl) (by kernel_rfl) (by kernel_rfl) (by kernel_rfl)) ?_
  intro W base args ds gs before hval0 hW hcnd _
  have hval : ∀ (j : Nat) t v, Try.f5.params[j]? = some t → args[j]? = some v → Value.okWide Try.prog W .any base t v := hval0
  have hW' := hW
  obtain ⟨p, q, hA0, hV, rfl, hfz, hnd⟩ := hW
  have hA : DataW.TrodAll enc Try.prog W 0 (fun _ => true) true Try.f5.params.toList args.toList ds p := hA0
  rw [Try.params5] at hA hval
  obtain ⟨v0, vs0, d0, ds0, p0, q0, hargs, rfl, rfl, h0, r0⟩ := trodAll_cons hA
  obtain ⟨v1, vs1, d1, ds1, p1, q1, rfl, rfl, rfl, h1, r1⟩ := trodAll_cons r0
  obtain ⟨rfl, rfl, rfl⟩ := trodAll_nil r1
  obtain rfl : args = #[v0, v1] := by cases args; simp_all
  obtain ⟨rfl, rfl⟩ := trodVars_none hV
  have k0 := h0
  have lt0 : ∀ x ∈ p0, x.block < W.heap.size := by obtain ⟨m, hm⟩ := k0; exact DataW.trod_lt m _ _ _ hm
  have k1 := h1
  have lt1 : ∀ x ∈ p1, x.block < W.heap.size := by obtain ⟨m, hm⟩ := k1; exact DataW.trod_lt m _ _ _ hm
  obtain ⟨W0, H0, D0, a0, n0, c0, z0, rfl, wW0, wH0, wD0, w0⟩ := vol_of Try.underlying24 (by kernel_rfl) (by kernel_rfl) Try.underlying2 Try.underlying2 Try.underlying2 Try.underlying22 Try.underlying37 (by kernel_rfl) (hval 0 24 v0 rfl rfl) h0
  obtain ⟨a1, rfl, rfl, rfl, w1⟩ := open_float Try.underlying37 (hval 1 37 v1 rfl rfl) h1
  clear hA0 hval0
  refine (walk W0 H0 D0 a0 n0 c0 z0 a1 W wW0 wH0 wD0 w0 w1).mono fun e W' ⟨he, bel⟩ => ?_
  subst he
  exact ⟨_, rfl, _, _, _, [], _, [], hW', trodAll_mk1 (shut_bool Try.underlying4 _), (trodAll_cons_mk (Below.trod laidOut (by kernel_rfl) (of_decide_eq_true (by kernel_rfl)) k0 bel lt0) (trodAll_cons_mk (Below.trod laidOut (by kernel_rfl) (of_decide_eq_true (by kernel_rfl)) k1 bel lt1) trodAll_mk0)), rfl, bel.frame _, fun h => by cases h⟩

theorem over : Rows.fnExactChecksOfRow.holds Try.pinned (OpenSpec.ofChange Rows.fnExactChecksOfSpec) :=
  OpenClaim.holds_of_wide 5 Try.f5 rfl rfl rfl rfl rfl rfl rfl ⟨rfl, rfl, rfl, rfl, rfl⟩ rfl rfl rfl rfl rfl (by kernel_rfl) Try.func5 (by kernel_rfl)
    (of_decide_eq_true (by kernel_rfl)) (by unfold Func.isWrapper; first | (rw [if_pos (by decide +kernel)]; kernel_rfl) | (rw [if_neg (by decide +kernel)]; exact ⟨rfl, rfl⟩))
    (fun os started H enc _ => lifted os started H enc)

theorem proved : Rows.FnExactChecksOfSaid := over
#print axioms proved
end Go.Proofs.Ytaclgmafcakiiaa.lawFnExactChecksOf
