/-
  For every two lists of 32-bit numbers the program's DotNumbers answers as the model's, to the last bit, and the lists stay as they were; no condition.
-/
import Derived.Test.YtgfmcehgecbbaabBase
import Derived.Test.YtgfmcehgecbbaabCDot
namespace Go.Proofs.Ytgfmcehgecbbaab.lawFnExactDotNumbers
open Go.ChangeShapes Go.WideShapes Go.ChangeAt Go.RowKit Go.FX
open Go.ChangeMaps (open_string shut_string)
set_option linter.unusedVariables false
set_option linter.unusedSimpArgs false

set_option maxHeartbeats 2000000 in
theorem walk (a0 : Option Addr) (len0 cap0 : Nat) (z0 : List Nat) (a1 : Option Addr) (len1 cap1 : Nat) (z1 : List Nat) (w : World) (w0 : FS w (.slice a0 len0 cap0) z0) (w1 : FS w (.slice a1 len1 cap1) z1) :
    Calls Try.prog 6 #[.slice a0 len0 cap0, .slice a1 len1 cap1] w fun e w' => e = .returned (.bool true) ∧ Below w.heap.size w w' := by
  have hva := w0
  have hvb := w1
  obtain ⟨hz0, a, cap, ev, h1, h2, _⟩ := w0
  obtain ⟨hz1, b, cap', ev', g1, g2, _⟩ := w1
  simp only [Value.slice.injEq] at ev ev'
  obtain ⟨rfl, rfl, rfl⟩ := ev
  obtain ⟨rfl, rfl, rfl⟩ := ev'
  have hm0 := Nat.le_trans h1 h2
  have hm1 := Nat.le_trans g1 g2
  unfold maxLen at h2 g2
  by_cases hl0 : z0.length ≤ 1048576
  · by_cases hl1 : z1.length ≤ 1048576
    · by_cases hg : z0.length = z1.length ∧ z0.length ≤ 256
      · obtain ⟨hg1, hg2⟩ := hg
        have HG := Lib.hid hg1
        clear hg1
        go_enter Try.func6, Try.ntmps6
        go_wp2_with (go_at_call 19; ((with_reducible refine (toF_any _ z0 _ hva hl0).mono ?_); rintro e w1 ⟨rfl, o1, hb1⟩))
        have va1 := hva.below hb1
        have vb1 := hvb.below hb1
        have f1 := FS.of_own hz0 hm0 o1
        go_wp2_with (go_at_call 19; ((with_reducible refine (toF_any _ z1 _ vb1 hl1).mono ?_); rintro e w2 ⟨rfl, o2, hb2⟩))
        have va2 := va1.below hb2
        have vb2 := vb1.below hb2
        have f1' := f1.below hb2
        have f2 := FS.of_own hz1 hm1 o2
        go_wp2_with (go_at_call 24; ((with_reducible refine (specDot_any _ _ z0 z1 _ f1' f2 HG.out hg2).mono ?_); rintro e w' ⟨r, n1, rfl, rfl, hr⟩))
        have va2' := va2.drewN n1
        have vb2' := vb2.drewN n1
        go_wp2_with (go_at_call 19; ((with_reducible refine (toF_any _ z0 _ va2' hl0).mono ?_); rintro e w3 ⟨rfl, o3, hb3⟩))
        have va3 := va2'.below hb3
        have vb3 := vb2'.below hb3
        have f3 := FS.of_own hz0 hm0 o3
        simp only [World.heap_drewN] at f3
        go_wp2_with (go_at_call 19; ((with_reducible refine (toF_any _ z1 _ vb3 hl1).mono ?_); rintro e w4 ⟨rfl, o4, hb4⟩))
        have va4 := va3.below hb4
        have vb4 := vb3.below hb4
        have f3' := f3.below hb4
        have f4 := FS.of_own hz1 hm1 o4
        go_wp2_with (go_at_call 25; ((with_reducible refine (implDot_any _ _ z0 z1 _ f3' f4 HG.out hg2).mono ?_); rintro e w' ⟨r2, n2, rfl, rfl, hr2⟩))
        go_wp2_with (go_at_call 17; refine (sameFloat_any (hr2.wide _) (hr.wide _) _).mono ?_; rintro e w' ⟨n3, rfl, rfl⟩)
        go_wp2_with (go_at_call 19; ((with_reducible refine (toF_any _ z0 _ (va4.drewN _) hl0).mono ?_); rintro e w5 ⟨rfl, o5, hb5⟩))
        have vb5 := (vb4.drewN _).below hb5
        have f3'' := (f3'.drewN _).below hb5
        have f4' := (f4.drewN _).below hb5
        have f5 := FS.of_own hz0 hm0 o5
        simp only [World.heap_drewN] at f5
        go_wp2_with (go_at_call 21; ((with_reducible refine (eqF_any _ _ z0 z0 _ f3'' f5 rfl hl0).mono ?_); rintro e w' ⟨n4, rfl, rfl⟩))
        have vb5' := vb5.drewN n4
        go_wp2_with (go_at_call 19; ((with_reducible refine (toF_any _ z1 _ vb5' hl1).mono ?_); rintro e w6 ⟨rfl, o6, hb6⟩))
        have f4'' := (f4'.drewN _).below hb6
        have f6 := FS.of_own hz1 hm1 o6
        simp only [World.heap_drewN] at f6
        go_wp2_with (go_at_call 21; ((with_reducible refine (eqF_any _ _ z1 z1 _ f4'' f6 rfl hl1).mono ?_); rintro e w' ⟨n5, rfl, rfl⟩))
        go_ret
        have s1 := hb1.size
        have s2 := hb2.size
        have s3 := hb3.size
        have s4 := hb4.size
        have s5 := hb5.size
        simp only [World.heap_drewN] at s3 s5
        have c2 := hb1.trans (hb2.mono s1)
        have c3 := c2.trans ((below_drewN (Below.refl _ _) n1 |>.trans hb3).mono (Nat.le_trans s1 s2))
        have z3 := Nat.le_trans (Nat.le_trans s1 s2) s3
        have c4 := c3.trans (hb4.mono z3)
        have z4 := Nat.le_trans z3 s4
        have c5 := c4.trans ((below_drewN (Below.refl _ _) _ |>.trans hb5).mono z4)
        have z5 := Nat.le_trans z4 s5
        have c6 := c5.trans ((below_drewN (Below.refl _ _) n4 |>.trans hb6).mono z5)
        exact ⟨rfl, below_drewN c6 _⟩
      · have hno : z0.length ≠ z1.length ∨ 256 < z0.length := by omega
        have HN := Lib.hid hno
        clear hno hg
        go_enter Try.func6, Try.ntmps6
        go_wp2_with (go_at_call 19; ((with_reducible refine (toF_any _ z0 _ hva hl0).mono ?_); rintro e w1 ⟨rfl, o1, hb1⟩))
        have va1 := hva.below hb1
        have vb1 := hvb.below hb1
        have f1 := FS.of_own hz0 hm0 o1
        go_wp2_with (go_at_call 19; ((with_reducible refine (toF_any _ z1 _ vb1 hl1).mono ?_); rintro e w2 ⟨rfl, o2, hb2⟩))
        have va2 := va1.below hb2
        have vb2 := vb1.below hb2
        have f1' := f1.below hb2
        have f2 := FS.of_own hz1 hm1 o2
        go_wp2_with (go_at_call 24; ((with_reducible refine (specDot_no _ _ z0 z1 _ f1' f2 HN.out hl0 hl1).mono ?_); rintro e w' ⟨r, n1, rfl, rfl, hr⟩))
        have va2' := va2.drewN n1
        have vb2' := vb2.drewN n1
        go_wp2_with (go_at_call 19; ((with_reducible refine (toF_any _ z0 _ va2' hl0).mono ?_); rintro e w3 ⟨rfl, o3, hb3⟩))
        have va3 := va2'.below hb3
        have vb3 := vb2'.below hb3
        have f3 := FS.of_own hz0 hm0 o3
        simp only [World.heap_drewN] at f3
        go_wp2_with (go_at_call 19; ((with_reducible refine (toF_any _ z1 _ vb3 hl1).mono ?_); rintro e w4 ⟨rfl, o4, hb4⟩))
        have va4 := va3.below hb4
        have vb4 := vb3.below hb4
        have f3' := f3.below hb4
        have f4 := FS.of_own hz1 hm1 o4
        go_wp2_with (go_at_call 25; ((with_reducible refine (implDot_no _ _ z0 z1 _ f3' f4 HN.out hl0 hl1).mono ?_); rintro e w' ⟨r2, n2, rfl, rfl, hr2⟩))
        go_wp2_with (go_at_call 17; refine (sameFloat_any (hr2.wide _) (hr.wide _) _).mono ?_; rintro e w' ⟨n3, rfl, rfl⟩)
        go_wp2_with (go_at_call 19; ((with_reducible refine (toF_any _ z0 _ (va4.drewN _) hl0).mono ?_); rintro e w5 ⟨rfl, o5, hb5⟩))
        have vb5 := (vb4.drewN _).below hb5
        have f3'' := (f3'.drewN _).below hb5
        have f4' := (f4.drewN _).below hb5
        have f5 := FS.of_own hz0 hm0 o5
        simp only [World.heap_drewN] at f5
        go_wp2_with (go_at_call 21; ((with_reducible refine (eqF_any _ _ z0 z0 _ f3'' f5 rfl hl0).mono ?_); rintro e w' ⟨n4, rfl, rfl⟩))
        have vb5' := vb5.drewN n4
        go_wp2_with (go_at_call 19; ((with_reducible refine (toF_any _ z1 _ vb5' hl1).mono ?_); rintro e w6 ⟨rfl, o6, hb6⟩))
        have f4'' := (f4'.drewN _).below hb6
        have f6 := FS.of_own hz1 hm1 o6
        simp only [World.heap_drewN] at f6
        go_wp2_with (go_at_call 21; ((with_reducible refine (eqF_any _ _ z1 z1 _ f4'' f6 rfl hl1).mono ?_); rintro e w' ⟨n5, rfl, rfl⟩))
        go_ret
        have s1 := hb1.size
        have s2 := hb2.size
        have s3 := hb3.size
        have s4 := hb4.size
        have s5 := hb5.size
        simp only [World.heap_drewN] at s3 s5
        have c2 := hb1.trans (hb2.mono s1)
        have c3 := c2.trans ((below_drewN (Below.refl _ _) n1 |>.trans hb3).mono (Nat.le_trans s1 s2))
        have z3 := Nat.le_trans (Nat.le_trans s1 s2) s3
        have c4 := c3.trans (hb4.mono z3)
        have z4 := Nat.le_trans z3 s4
        have c5 := c4.trans ((below_drewN (Below.refl _ _) _ |>.trans hb5).mono z4)
        have z5 := Nat.le_trans z4 s5
        have c6 := c5.trans ((below_drewN (Below.refl _ _) n4 |>.trans hb6).mono z5)
        exact ⟨rfl, below_drewN c6 _⟩
    · go_enter Try.func6, Try.ntmps6
      go_wp2
      go_ret
      exact ⟨rfl, Below.refl _ _⟩
  · go_enter Try.func6, Try.ntmps6
    go_wp2
    go_ret
    exact ⟨rfl, Below.refl _ _⟩

set_option maxRecDepth 100000 in
theorem lifted (os : Os) (started : os.Started) (H : Type) (enc : TypeId × Value → H) :
    ReturnsInHanded {} Try.checked os 6 .any (Rows.fnExactDotNumbersSpec.pre6 enc Try.prog Try.f6 Rows.fnExactDotNumbersRow.domain false) (Rows.fnExactDotNumbersSpec.post enc Try.prog Try.f6 false true false false) := by
  refine returnsInHanded_of_change (C := Try.checked) own started (by kernel_rfl) Try.func6
    (ChangeSpec.witness6 (enc := enc) (C := Try.checked) false ⟨#[], #[.slice none 0 0, .slice none 0 0], []⟩ 8 (by kernel_rfl) (by kernel_rfl) (by kernel_rfl) (by kernel_rfl)) ?_
  intro W base args ds gs before hval0 hW hcnd _
  have hval : ∀ (j : Nat) t v, Try.f6.params[j]? = some t → args[j]? = some v → Value.okWide Try.prog W .any base t v := hval0
  have hW' := hW
  obtain ⟨p, q, hA0, hV, rfl, hfz, hnd⟩ := hW
  have hA : DataW.TrodAll enc Try.prog W 0 (fun _ => true) true Try.f6.params.toList args.toList ds p := hA0
  rw [Try.params6] at hA hval
  obtain ⟨v0, vs0, d0, ds0, p0, q0, hargs, rfl, rfl, h0, r0⟩ := trodAll_cons hA
  obtain ⟨v1, vs1, d1, ds1, p1, q1, rfl, rfl, rfl, h1, r1⟩ := trodAll_cons r0
  obtain ⟨rfl, rfl, rfl⟩ := trodAll_nil r1
  obtain rfl : args = #[v0, v1] := by cases args; simp_all
  obtain ⟨rfl, rfl⟩ := trodVars_none hV
  have k0 := h0
  have lt0 : ∀ x ∈ p0, x.block < W.heap.size := by obtain ⟨m, hm⟩ := k0; exact DataW.trod_lt m _ _ _ hm
  have k1 := h1
  have lt1 : ∀ x ∈ p1, x.block < W.heap.size := by obtain ⟨m, hm⟩ := k1; exact DataW.trod_lt m _ _ _ hm
  obtain ⟨a0, len0, cap0, rfl⟩ := okWide_slice Try.underlying27 (hval 0 27 v0 rfl rfl)
  obtain ⟨z0, w0⟩ := fs_of Try.underlying27 Try.underlying22 (by kernel_rfl) h0
  obtain ⟨a1, len1, cap1, rfl⟩ := okWide_slice Try.underlying27 (hval 1 27 v1 rfl rfl)
  obtain ⟨z1, w1⟩ := fs_of Try.underlying27 Try.underlying22 (by kernel_rfl) h1
  clear hA0 hval0
  refine (walk a0 len0 cap0 z0 a1 len1 cap1 z1 W w0 w1).mono fun e W' ⟨he, bel⟩ => ?_
  subst he
  exact ⟨_, rfl, _, _, _, [], _, [], hW', trodAll_mk1 (shut_bool Try.underlying4 _), (trodAll_cons_mk (Below.trod laidOut (by kernel_rfl) (of_decide_eq_true (by kernel_rfl)) k0 bel lt0) (trodAll_cons_mk (Below.trod laidOut (by kernel_rfl) (of_decide_eq_true (by kernel_rfl)) k1 bel lt1) trodAll_mk0)), rfl, bel.frame _, fun h => by cases h⟩

theorem over : Rows.fnExactDotNumbersRow.holds Try.pinned (OpenSpec.ofChange Rows.fnExactDotNumbersSpec) :=
  OpenClaim.holds_of_wide 6 Try.f6 rfl rfl rfl rfl rfl rfl rfl ⟨rfl, rfl, rfl, rfl, rfl⟩ rfl rfl rfl rfl rfl (by kernel_rfl) Try.func6 (by kernel_rfl)
    (of_decide_eq_true (by kernel_rfl)) (by unfold Func.isWrapper; first | (rw [if_pos (by decide +kernel)]; kernel_rfl) | (rw [if_neg (by decide +kernel)]; exact ⟨rfl, rfl⟩))
    (fun os started H enc _ => lifted os started H enc)

theorem proved : Rows.FnExactDotNumbersSaid := over
#print axioms proved
end Go.Proofs.Ytgfmcehgecbbaab.lawFnExactDotNumbers
