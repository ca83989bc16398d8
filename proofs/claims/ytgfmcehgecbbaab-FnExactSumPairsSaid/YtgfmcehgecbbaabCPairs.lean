import Derived.Test.YtgfmcehgecbbaabFs
set_option linter.unusedVariables false
set_option linter.unusedSimpArgs false
namespace Go.FX
open Go Go.RowKit
/-- The sum of both halves. -/
def sumP : Nat → List Nat → Nat
  | 0, _ => 0
  | f + 1, l => if l.length = 0 then 0 else if l.length = 1 then cn .f32 (l.getD 0 0) else fop .add .f32 (sumP f (l.take ((l.length + 1) / 2))) (sumP f (l.drop ((l.length + 1) / 2)))
theorem FS.take {w : World} {b off n cap h : Nat} {zs : List Nat} (hv : FS w (.slice (some ⟨b, off, none⟩) n cap) zs) (h1 : h ≤ zs.length) : FS w (.slice (some ⟨b, off, none⟩) h cap) (zs.take h) := by
  obtain ⟨hz, a, cap', ev, g1, g2, g3⟩ := hv
  simp only [Value.slice.injEq] at ev
  obtain ⟨rfl, rfl, rfl⟩ := ev
  have hl : (zs.take h).length = h := by simp; omega
  refine ⟨fun z hz' => hz z (List.mem_of_mem_take hz'), _, cap, by rw [hl], by omega, g2, ?_⟩
  rcases g3 with g3 | ⟨b', off', e, hb, hc⟩
  · subst g3; exact .inl (by simp)
  · refine .inr ⟨b', off', e, hb, fun i hi => ?_⟩
    rw [hc i (by omega)]
    congr 2
    simp only [List.getD, List.getElem?_take]
    rw [if_pos (by omega)]
theorem FS.drop {w : World} {b off n cap h : Nat} {zs : List Nat} (hv : FS w (.slice (some ⟨b, off, none⟩) n cap) zs) (h1 : h < zs.length) : FS w (.slice (some ⟨b, off + h, none⟩) (n - h) (cap - h)) (zs.drop h) := by
  obtain ⟨hz, a, cap', ev, g1, g2, g3⟩ := hv
  simp only [Value.slice.injEq] at ev
  obtain ⟨rfl, rfl, rfl⟩ := ev
  have hl : (zs.drop h).length = zs.length - h := by simp
  refine ⟨fun z hz' => hz z (List.mem_of_mem_drop hz'), _, cap - h, by rw [hl], by omega, by omega, ?_⟩
  rcases g3 with g3 | ⟨b', off', e, hb, hc⟩
  · subst g3; simp at h1
  · simp only [Option.some.injEq, Addr.mk.injEq, and_true] at e
    obtain ⟨rfl, rfl⟩ := e
    refine .inr ⟨b, off + h, rfl, hb, fun i hi => ?_⟩
    have := hc (h + i) (by omega)
    rw [← Nat.add_assoc] at this
    rw [this]
    congr 2
    simp only [List.getD, List.getElem?_drop]
end Go.FX
namespace Go.Proofs.Ytgfmcehgecbbaab
open Go.FX Go.RowKit

theorem implHalves_any (f : Nat) : ∀ (v : Value) (zs : List Nat) (w : World), FS w v zs → zs.length ≤ f → zs.length ≤ 256 → Calls Try.prog 47 #[v] w (RF .f32 (sumP f zs) w) := by
  induction f with
  | zero =>
    intro v zs w hv hl _
    have e0 : Hid (sumP 0 zs = 0) := Lib.hid rfl
    obtain ⟨_, a, cap, rfl, h1, h2, _⟩ := hv
    have hz : zs.length = 0 := by omega
    unfold maxLen at h2
    rw [hz]
    clear hz hl
    go_enter Try.func47, Try.ntmps47
    go_wp2_with fail
    go_ret
    rw [e0.out]
    exact RF.of0 (by decide) (by decide)
  | succ f ih =>
    intro v zs w hv hl hb
    by_cases c0 : zs.length = 0
    · have e0 : Hid (sumP (f + 1) zs = 0) := Lib.hid (by unfold sumP; rw [if_pos c0])
      obtain ⟨_, a, cap, rfl, h1, h2, _⟩ := hv
      unfold maxLen at h2
      rw [c0]
      clear c0 hl ih
      go_enter Try.func47, Try.ntmps47
      go_wp2_with fail
      go_ret
      rw [e0.out]
      exact RF.of0 (by decide) (by decide)
    · by_cases c1 : zs.length = 1
      · have e0 : Hid (sumP (f + 1) zs = cn .f32 (zs.getD 0 0)) := Lib.hid (by unfold sumP; rw [if_neg c0, if_pos c1])
        obtain ⟨b, off, cap, z, rfl, h1, h2, _, ez, lz, hc⟩ := hv.cell (k := 0) (by omega)
        unfold maxLen at h2
        rw [← ez] at e0
        rw [Nat.add_zero] at hc
        rw [c1]
        clear c0 c1 hl ih ez hv
        go_enter Try.func47, Try.ntmps47
        go_wp2_with fail
        go_ret
        rw [e0.out]
        exact RF.of0 lz rfl
      · have hv0 := hv
        obtain ⟨b, off, cap, z, rfl, h1, h2, _, _, _, _⟩ := hv.cell (k := 0) (by omega)
        unfold maxLen at h2
        obtain ⟨h, hh⟩ : ∃ h, h = (zs.length + 1) / 2 := ⟨_, rfl⟩
        have e0 : Hid (sumP (f + 1) zs = fop .add .f32 (sumP f (zs.take h)) (sumP f (zs.drop h))) := Lib.hid (by rw [hh]; simp only [sumP]; rw [if_neg c0, if_neg c1])
        have t1 := hv0.take (h := h) (by omega)
        have t2 := hv0.drop (h := h) (by omega)
        have l1 : (zs.take h).length ≤ f := by simp; omega
        have l2 : (zs.drop h).length ≤ f := by simp; omega
        have l3 : (zs.take h).length ≤ 256 := by simp; omega
        have l4 : (zs.drop h).length ≤ 256 := by simp; omega
        have i1 := fun (w : World) (hv : FS w (Value.slice (some ⟨b, off, none⟩) h cap) (zs.take h)) => ih _ _ w hv l1 l3
        have i2 := fun (w : World) (hv : FS w (Value.slice (some ⟨b, off + h, none⟩) (zs.length - h) (cap - h)) (zs.drop h)) => ih _ _ w hv l2 l4
        have q0 : ((zs.length : Int) == 0) = false := by rw [beq_eq_false_iff_ne]; omega
        have q1 : ((zs.length : Int) == 1) = false := by rw [beq_eq_false_iff_ne]; omega
        have qh : ((zs.length : Int) + 1) / 2 = (h : Int) := by omega
        have qc : ¬ cap = h := by omega
        have b1 : h ≤ zs.length := by omega
        have b2 : (h : Int) ≤ (zs.length : Int) := by omega
        have b3 : (h : Int) ≤ (cap : Int) := by omega
        clear hh c0 c1 l1 l2 l3 l4 ih hv hl
        go_enter Try.func47, Try.ntmps47
        go_wp2_with fail
        go_region_with (first | (go_at_call_of 47 (Value.slice (some ⟨b, off, none⟩) h cap); refine (i1 _ (t1.drewN _)).mono ?_; rintro e w' ⟨r1, n1, rfl, rfl, hr1⟩) | (go_at_call 47; refine (i2 _ (t2.drewN _)).mono ?_; rintro e w' ⟨r2, n2, rfl, rfl, hr2⟩))
        go_wp2_with fail
        go_ret
        rw [e0.out]
        exact RF.of (flR_lt _) ((hr1.flR hr2 _).eq)
theorem specHalves_any (f : Nat) : ∀ (v : Value) (zs : List Nat) (w : World), FS w v zs → zs.length ≤ f → zs.length ≤ 256 → Calls Try.prog 46 #[v] w (RF .f32 (sumP f zs) w) := by
  induction f with
  | zero =>
    intro v zs w hv hl _
    have e0 : Hid (sumP 0 zs = 0) := Lib.hid rfl
    obtain ⟨_, a, cap, rfl, h1, h2, _⟩ := hv
    have hz : zs.length = 0 := by omega
    unfold maxLen at h2
    rw [hz]
    clear hz hl
    go_enter Try.func46, Try.ntmps46
    go_wp2_with fail
    go_ret
    rw [e0.out]
    exact RF.of0 (by decide) (by decide)
  | succ f ih =>
    intro v zs w hv hl hb
    by_cases c0 : zs.length = 0
    · have e0 : Hid (sumP (f + 1) zs = 0) := Lib.hid (by unfold sumP; rw [if_pos c0])
      obtain ⟨_, a, cap, rfl, h1, h2, _⟩ := hv
      unfold maxLen at h2
      rw [c0]
      clear c0 hl ih
      go_enter Try.func46, Try.ntmps46
      go_wp2_with fail
      go_ret
      rw [e0.out]
      exact RF.of0 (by decide) (by decide)
    · by_cases c1 : zs.length = 1
      · have e0 : Hid (sumP (f + 1) zs = cn .f32 (zs.getD 0 0)) := Lib.hid (by unfold sumP; rw [if_neg c0, if_pos c1])
        obtain ⟨b, off, cap, z, rfl, h1, h2, _, ez, lz, hc⟩ := hv.cell (k := 0) (by omega)
        unfold maxLen at h2
        rw [← ez] at e0
        rw [Nat.add_zero] at hc
        rw [c1]
        clear c0 c1 hl ih ez hv
        go_enter Try.func46, Try.ntmps46
        go_wp2_with fail
        go_ret
        rw [e0.out]
        exact RF.of0 lz rfl
      · have hv0 := hv
        obtain ⟨b, off, cap, z, rfl, h1, h2, _, _, _, _⟩ := hv.cell (k := 0) (by omega)
        unfold maxLen at h2
        obtain ⟨h, hh⟩ : ∃ h, h = (zs.length + 1) / 2 := ⟨_, rfl⟩
        have e0 : Hid (sumP (f + 1) zs = fop .add .f32 (sumP f (zs.take h)) (sumP f (zs.drop h))) := Lib.hid (by rw [hh]; simp only [sumP]; rw [if_neg c0, if_neg c1])
        have t1 := hv0.take (h := h) (by omega)
        have t2 := hv0.drop (h := h) (by omega)
        have l1 : (zs.take h).length ≤ f := by simp; omega
        have l2 : (zs.drop h).length ≤ f := by simp; omega
        have l3 : (zs.take h).length ≤ 256 := by simp; omega
        have l4 : (zs.drop h).length ≤ 256 := by simp; omega
        have i1 := fun (w : World) (hv : FS w (Value.slice (some ⟨b, off, none⟩) h cap) (zs.take h)) => ih _ _ w hv l1 l3
        have i2 := fun (w : World) (hv : FS w (Value.slice (some ⟨b, off + h, none⟩) (zs.length - h) (cap - h)) (zs.drop h)) => ih _ _ w hv l2 l4
        have q0 : ((zs.length : Int) == 0) = false := by rw [beq_eq_false_iff_ne]; omega
        have q1 : ((zs.length : Int) == 1) = false := by rw [beq_eq_false_iff_ne]; omega
        have qh : ((zs.length : Int) + 1) / 2 = (h : Int) := by omega
        have qc : ¬ cap = h := by omega
        have b1 : h ≤ zs.length := by omega
        have b2 : (h : Int) ≤ (zs.length : Int) := by omega
        have b3 : (h : Int) ≤ (cap : Int) := by omega
        clear hh c0 c1 l1 l2 l3 l4 ih hv hl
        go_enter Try.func46, Try.ntmps46
        go_wp2_with fail
        go_region_with (first | (go_at_call_of 46 (Value.slice (some ⟨b, off, none⟩) h cap); refine (i1 _ (t1.drewN _)).mono ?_; rintro e w' ⟨r1, n1, rfl, rfl, hr1⟩) | (go_at_call 46; refine (i2 _ (t2.drewN _)).mono ?_; rintro e w' ⟨r2, n2, rfl, rfl, hr2⟩))
        go_wp2_with fail
        go_ret
        rw [e0.out]
        exact RF.of (flR_lt _) ((hr1.flR hr2 _).eq)

theorem implPairs_any (v : Value) (zs : List Nat) (w : World) (hv : FS w v zs) (hn : zs.length ≤ 256) :
    Calls Try.prog 23 #[v] w (RFB .f32 (sumP 256 zs) true w) := by
  have s1 := fun w hv => implHalves_any 256 v zs w hv hn hn
  have hv0 := hv
  obtain ⟨hz, a, cap, rfl, h1, h2, h3⟩ := hv
  unfold maxLen at h2
  clear h3
  have hd : decide ((zs.length : Int) ≤ 256) = true := by simp; omega
  go_enter Try.func23, Try.ntmps23
  go_wp2_with (first | (go_at_call 47; refine (s1 _ hv0).mono ?_; rintro e w' ⟨r, n, rfl, rfl, hr⟩) | go_in)
  go_ret2
  exact ⟨_, _, rfl, rfl, hr⟩
theorem implPairs_no (v : Value) (zs : List Nat) (w : World) (hv : FS w v zs) (hn : 256 < zs.length) :
    Calls Try.prog 23 #[v] w (RFB .f32 0 false w) := by
  obtain ⟨hz, a, cap, rfl, h1, h2, h3⟩ := hv
  unfold maxLen at h2
  clear h3
  have hd : decide ((zs.length : Int) ≤ 256) = false := by simp; omega
  go_enter Try.func23, Try.ntmps23
  go_wp2
  go_ret2
  exact RFB.of0 (by decide) (by decide) rfl

theorem specPairs_any (v : Value) (zs : List Nat) (w : World) (hv : FS w v zs) (hn : zs.length ≤ 256) :
    Calls Try.prog 22 #[v] w (RFB .f32 (sumP 256 zs) true w) := by
  have s1 := fun w hv => specHalves_any 256 v zs w hv hn hn
  have hv0 := hv
  obtain ⟨hz, a, cap, rfl, h1, h2, h3⟩ := hv
  unfold maxLen at h2
  clear h3
  have hd : decide ((zs.length : Int) ≤ 256) = true := by simp; omega
  go_enter Try.func22, Try.ntmps22
  go_wp2_with (first | (go_at_call 46; refine (s1 _ hv0).mono ?_; rintro e w' ⟨r, n, rfl, rfl, hr⟩) | go_in)
  go_ret2
  exact ⟨_, _, rfl, rfl, hr⟩
theorem specPairs_no (v : Value) (zs : List Nat) (w : World) (hv : FS w v zs) (hn : 256 < zs.length) :
    Calls Try.prog 22 #[v] w (RFB .f32 0 false w) := by
  obtain ⟨hz, a, cap, rfl, h1, h2, h3⟩ := hv
  unfold maxLen at h2
  clear h3
  have hd : decide ((zs.length : Int) ≤ 256) = false := by simp; omega
  go_enter Try.func22, Try.ntmps22
  go_wp2
  go_ret2
  exact RFB.of0 (by decide) (by decide) rfl
end Go.Proofs.Ytgfmcehgecbbaab
