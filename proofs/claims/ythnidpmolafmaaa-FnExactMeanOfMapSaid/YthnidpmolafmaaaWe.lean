import Derived.Test.YthnidpmolafmaaaWg
import Derived.Test.YthnidpmolafmaaaPr
import Derived.Test.YthnidpmolafmaaaPy
import Derived.Deep.DrawnRows
set_option linter.unusedVariables false
set_option linter.unusedSimpArgs false
namespace Go.Proofs.Ythnidpmolafmaaa
open Go.FX Go.RowKit Go.WideShapes Go.ChangeShapes

theorem sumF_cn (zs : List Nat) : sumF (zs.map (cn .f32)) = sumF zs := by
  unfold sumF
  rw [List.foldl_map]
  congr 1
  funext c z
  rw [cn_cn]
theorem sumF_push (l : List Nat) (c : Nat) (hc : cn .f32 c = c) : sumF (l ++ [c]) = fop .add .f32 (sumF l) c := by
  simp [sumF, hc]
def meanF (ks : List Nat) : Nat := if ks.length = 0 then 0 else fop .quo .f32 (sumF ks) (fi ks.length)
theorem fiFl (k : Int) : Fl .f32 (fi k) (fi k) := ⟨fi_lt k, cn_of_not (fi_not k)⟩
set_option maxHeartbeats 1000000 in
theorem meanOf_any (v : Value) (ks : List Nat) (w : World) (hv : FC w v ks) (hmx : ks.length ≤ 256) :
    Calls Try.prog 81 #[v] w (RFBb (meanF ks) (decide (0 < ks.length)) w) := by
  obtain ⟨zs, hF, rfl⟩ := hv
  have hs := fun w1 (hb : Below w.heap.size w w1) => implSum_any v zs w1 (hF.below hb) (by simpa using hmx)
  obtain ⟨_, a, cap, rfl, k1, k2, k3⟩ := hF
  unfold maxLen at k2
  clear k3
  by_cases h0 : zs.length = 0
  · have e1 : Hid (meanF (zs.map (cn .f32)) = 0) := Lib.hid (by unfold meanF; rw [List.length_map, if_pos h0])
    have e2 : Hid (decide (0 < (zs.map (cn .f32)).length) = false) := Lib.hid (by rw [List.length_map, h0]; rfl)
    rw [e1.out, e2.out, h0]
    clear hs h0 hmx k1
    go_enter Try.func81, Try.ntmps81
    go_wp2_with fail
    go_ret2
    exact ⟨_, rfl, Below.refl _ _, fl0⟩
  · have e1 : Hid (meanF (zs.map (cn .f32)) = fop .quo .f32 (sumF zs) (fi (zs.length : Int))) := Lib.hid (by unfold meanF; rw [List.length_map, if_neg h0, sumF_cn])
    have e2 : Hid (decide (0 < (zs.map (cn .f32)).length) = true) := Lib.hid (by rw [List.length_map]; exact decide_eq_true (by omega))
    rw [e1.out, e2.out]
    have f1 : ((zs.length : Int) == 0) = false := by rw [beq_eq_false_iff_ne]; omega
    have f2 : decide ((zs.length : Int) = 0) = false := decide_eq_false (by omega)
    have hpos : 0 < zs.length := by omega
    have h0' := Lib.hid h0
    clear h0 hmx
    go_enter Try.func81, Try.ntmps81
    go_wp2_with fail
    refine (hs _ (Below.refl _ _)).mono ?_
    rintro e w1 ⟨r, nn, rfl, rfl, hr⟩
    go_wp2_with fail
    go_ret2
    exact ⟨_, rfl, by first | exact below_drewN (below_drewN (Below.refl _ _) _) _ | exact below_drewN (Below.refl _ _) _, hr.flR (fiFl _) _⟩
theorem implMeanOfMap_any (W H : Nat) (a : Option Addr) (n c : Nat) (cs : List Nat) (w : World) (hv : FC w (.slice a n c) cs) (b1 : 1 ≤ W) (b2 : W ≤ 24) (b3 : 1 ≤ H) (b4 : H ≤ 24) (b5 : H * W ≤ 256) (hl : cs.length = H * W) :
    Calls Try.prog 40 #[.agg #[.int .i64 W, .int .i64 H, .slice a n c]] w (RFBb (meanF (knownL cs)) (decide (0 < (knownL cs).length)) w) := by
  obtain ⟨rfl, hnc, hcm⟩ := hv.sized
  have hval := Lib.hid (validB_mk b1 b2 b3 b4 b5 hl)
  have h1 := fun w1 => validMap_any W H a cs.length c hnc hcm w1
  have h256 : cs.length ≤ 256 := by omega
  have h0 : 0 < cs.length := by rw [hl]; exact Nat.mul_pos b3 b1
  have hkn := Lib.hid (known_len cs)
  obtain ⟨ks, hks⟩ : ∃ ks, ks = knownL cs := ⟨_, rfl⟩
  have hkl : ks.length ≤ 256 := by rw [hks]; have := hkn.out; omega
  have hk := fun w1 (hb : Below w.heap.size w w1) => known_any (.slice a cs.length c) cs w1 (hv.below hb) h0 (by omega)
  rw [← hks] at hk ⊢
  clear hv hl hks
  go_enter Try.func40, Try.ntmps40
  go_wp2_with fail
  refine (h1 _).mono ?_
  rintro e w1 ⟨rfl, hb1⟩
  rw [hval.out]
  have hP := (Pv.new w W H (.slice a cs.length c) 26).below hb1
  have s1 := hb1.size
  simp only [World.size_alloc] at s1
  have hb0 : Below w.heap.size w w1 := by ((repeat' (first | (refine bel_set ?_ ?_ _) | (refine bel_al ?_ ?_ _) | exact Below.refl _ _ | assumption | (refine below_drewN ?_ _) | (refine Below.drew ?_) | (refine Below.trans ?_ (Below.mono hb1 ?_)))) <;> (first | omega | (simp; done) | (simp; omega)))
  obtain ⟨l1, p0, p1, p2⟩ := id hP
  go_wp2_with fail
  refine (hk _ hb0).mono ?_
  rintro e w2 ⟨a2, n2, c2, rfl, hb2, hf2⟩
  have hbW := hb0.trans (hb2.mono hb0.size)
  go_wp2_with fail
  refine (meanOf_any _ ks _ hf2 hkl).mono ?_
  rintro e w3 ⟨r, rfl, hb3, hr⟩
  go_wp2_with fail
  go_ret2
  exact ⟨_, rfl, hbW.trans (hb3.mono hbW.size), hr⟩
theorem implMeanOfMap_no (W H : Int) (a : Option Addr) (n c : Nat) (w : World) (hnc : n ≤ c) (hcm : c ≤ maxLen) (hval : validB W H n = false) :
    Calls Try.prog 40 #[.agg #[.int .i64 W, .int .i64 H, .slice a n c]] w (RFBb 0 false w) := by
  have h1 := fun w1 => validMap_any W H a n c hnc hcm w1
  have hval := Lib.hid hval
  go_enter Try.func40, Try.ntmps40
  go_wp2_with fail
  refine (h1 _).mono ?_
  rintro e w1 ⟨rfl, hb1⟩
  rw [hval.out]
  have s1 := hb1.size
  simp only [World.size_alloc] at s1
  go_wp2_with fail
  go_ret2
  exact ⟨_, rfl, by ((repeat' (first | (refine bel_set ?_ ?_ _) | (refine bel_al ?_ ?_ _) | exact Below.refl _ _ | assumption | (refine below_drewN ?_ _) | (refine Below.drew ?_) | (refine Below.trans ?_ (Below.mono hb1 ?_)))) <;> (first | omega | (simp; done) | (simp; omega))), fl0⟩
/-- The sum of what is known so far, and how many. -/
def MGat (cs : List Nat) (k : Nat) (r m : Nat) : Prop := Fl .f32 r (sumF (knownL (cs.take k))) ∧ m = (knownL (cs.take k)).length
theorem MGat.zero (cs : List Nat) : MGat cs 0 0 0 := ⟨by simpa [knownL, sumF] using fl0, by simp [knownL]⟩
theorem MGat.hole {cs : List Nat} {k r m : Nat} (h : MGat cs k r m) (hk : k < cs.length) (hh : holeB (cs.getD k 0) = true) : MGat cs (k + 1) r m := by
  unfold MGat; rw [known_yes cs k hk hh]; exact h
theorem MGat.num {cs : List Nat} {k r m z : Nat} (h : MGat cs k r m) (hk : k < cs.length) (hh : holeB (cs.getD k 0) = false) (hz : Fl .f32 z (cs.getD k 0)) (w : World) : MGat cs (k + 1) (flR .add .f32 r z w) (m + 1) := by
  unfold MGat at h ⊢
  rw [known_no cs k hk hh, sumF_push _ _ hz.canon, List.length_append]
  exact ⟨h.1.flR hz w, by rw [h.2]; rfl⟩
theorem known_take_le (cs : List Nat) (k : Nat) : (knownL (cs.take k)).length ≤ k := Nat.le_trans (List.length_filter_le _ _) (List.length_take_le _ _)
set_option maxHeartbeats 2000000 in
theorem specMeanOfMap_any (W H : Nat) (a : Option Addr) (n c : Nat) (cs : List Nat) (w : World) (hv : FC w (.slice a n c) cs) (b1 : 1 ≤ W) (b2 : W ≤ 24) (b3 : 1 ≤ H) (b4 : H ≤ 24) (b5 : H * W ≤ 256) (hl : cs.length = H * W) :
    Calls Try.prog 39 #[.agg #[.int .i64 W, .int .i64 H, .slice a n c]] w (RFBb (meanF (knownL cs)) (decide (0 < (knownL cs).length)) w) := by
  obtain ⟨rfl, hnc, hcm⟩ := hv.sized
  have hval := Lib.hid (validB_mk b1 b2 b3 b4 b5 hl)
  have h1 := fun w1 hp => specMIs_any W H a cs.length c w.heap.size w1 hp (by unfold maxLen at hcm; omega)
  have h256 : cs.length ≤ 256 := by omega
  clear hl
  go_enter Try.func39, Try.ntmps39
  go_wp2_with fail
  refine (h1 _ (Pv.new _ _ _ _ _)).mono ?_
  rintro e w1 ⟨k0, rfl, rfl⟩
  rw [hval.out]
  obtain ⟨w0, hw0⟩ : ∃ w0, w0 = (w.alloc (.cells #[.int .i64 W, .int .i64 H, .slice a cs.length c] 26)).drewN k0 := ⟨_, rfl⟩
  rw [← hw0]
  have hp0 : Pv w0 w.heap.size W H (.slice a cs.length c) := by rw [hw0]; exact (Pv.new _ _ _ _ _).drewN k0
  have hb0 : Below w.heap.size w w0 := by rw [hw0]; exact below_drewN (below1 _ _) _
  clear hw0
  have hv' := Lib.hid (hv.below hb0)
  obtain ⟨l0, p0, p1, p2⟩ := id hp0
  clear hp0 hv h1
  go_wp2_with fail
  go_loopw [4, 5, 12] (fun s t i wr => ∃ k r m n : Nat, k ≤ cs.length ∧ i = .int .i64 k ∧ s = .float .f32 r ∧ t = .int .i64 m ∧ wr = w0.drewN n ∧ m ≤ k ∧ Hid (MGat cs k r m)) (fun _ _ i _ => cs.length - (intOf i).toNat)
  case atStart => exact ⟨0, 0, 0, 0, Nat.zero_le _, rfl, rfl, rfl, rfl, Nat.le_refl _, MGat.zero cs⟩
  case round =>
    obtain ⟨k, r, m, nn, hk, rfl, rfl, rfl, rfl, hmk, hr⟩ := hrel
    by_cases hlt : k < cs.length
    · obtain ⟨bb, off, cc, z, ev, _, _, _, hz, hc⟩ := hv'.out.cell hlt
      simp only [Value.slice.injEq, true_and] at ev
      obtain ⟨rfl, rfl⟩ := ev
      have hh := Lib.hid (holeB_fl hz)
      cases hA : holeB (cs.getD k 0) with
      | true =>
        have hA' := Lib.hid hA
        have hr' := Lib.hid (hr.out.hole hlt hA)
        clear hA hz
        go_wp2_with fail
        refine (specHole_any _ _).mono ?_
        rintro e w' ⟨rfl, rfl⟩
        rw [hh.out, hA'.out]
        go_wp2_with fail
        go_roundw
        case rel => exact ⟨k + 1, _, _, _, by omega, by go_num, rfl, rfl, rfl, by omega, hr'⟩
        case measure => simp [intOf]; omega
      | false =>
        have hA' := Lib.hid hA
        have hr' := Lib.hid (fun w => hr.out.num hlt hA hz w)
        clear hA hz
        go_wp2_with fail
        refine (specHole_any _ _).mono ?_
        rintro e w' ⟨rfl, rfl⟩
        rw [hh.out, hA'.out]
        go_wp2_with fail
        go_roundw
        case rel => exact ⟨k + 1, _, m + 1, _, by omega, by go_num, rfl, by go_num, by first | rfl | (simp only [World.drewN_drewN]; rfl), by omega, hr'.out _⟩
        case measure => simp [intOf]; omega
    · obtain rfl : k = cs.length := by omega
      have h := hr.out
      unfold MGat at h
      rw [List.take_length] at h
      obtain ⟨hr1, hm⟩ := h
      generalize knownL cs = ks at *
      have hm' := Lib.hid hm
      by_cases h0 : m = 0
      · have e1 : Hid (meanF ks = 0) := Lib.hid (by unfold meanF; rw [if_pos (by omega)])
        have e2 : Hid (decide (0 < ks.length) = false) := Lib.hid (decide_eq_false (by omega))
        rw [e1.out, e2.out]
        subst h0
        clear hm hr
        go_wp2_with fail
        go_ret2
        try rw [e1.out]
        try rw [e2.out]
        exact ⟨_, rfl, by first | exact below_drewN hb0 _ | exact hb0, fl0⟩
      · have e1 : Hid (meanF ks = fop .quo .f32 (sumF ks) (fi (m : Int))) := Lib.hid (by unfold meanF; rw [if_neg (by omega), hm])
        have e2 : Hid (decide (0 < ks.length) = true) := Lib.hid (decide_eq_true (by omega))
        rw [e1.out, e2.out]
        have f1 : ((m : Int) == 0) = false := by rw [beq_eq_false_iff_ne]; omega
        have f2 : decide ((m : Int) = 0) = false := decide_eq_false (by omega)
        have hr1 := Lib.hid hr1
        clear hm h0 hr
        go_wp2_with fail
        go_ret2
        try rw [e1.out]
        try rw [e2.out]
        exact ⟨_, rfl, by first | exact below_drewN (below_drewN hb0 _) _ | exact below_drewN hb0 _, hr1.out.flR (fiFl _) _⟩
theorem specMeanOfMap_no (W H : Int) (a : Option Addr) (n c : Nat) (w : World) (hnc : n ≤ c) (hcm : c ≤ maxLen) (hval : validB W H n = false) :
    Calls Try.prog 39 #[.agg #[.int .i64 W, .int .i64 H, .slice a n c]] w (RFBb 0 false w) := by
  have h1 := fun w1 hp => specMIs_any W H a n c w.heap.size w1 hp (by unfold maxLen at hcm; omega)
  have hval := Lib.hid hval
  go_enter Try.func39, Try.ntmps39
  go_wp2_with fail
  refine (h1 _ (Pv.new _ _ _ _ _)).mono ?_
  rintro e w1 ⟨k0, rfl, rfl⟩
  rw [hval.out]
  go_wp2_with fail
  go_ret2
  exact ⟨_, rfl, by ((repeat' (first | (refine bel_set ?_ ?_ _) | (refine bel_al ?_ ?_ _) | exact Below.refl _ _ | assumption | (refine below_drewN ?_ _) | (refine Below.drew ?_))) <;> (first | omega | (simp; done) | (simp; omega))), fl0⟩
theorem pairMeanOfMap (W H : Int) (cs : List Nat) :
    ∃ (g : Nat) (ok : Bool),
      (∀ a n c w, FC w (.slice a n c) cs → Calls Try.prog 39 #[.agg #[.int .i64 W, .int .i64 H, .slice a n c]] w (RFBb g ok w)) ∧
      (∀ a n c w, FC w (.slice a n c) cs → Calls Try.prog 40 #[.agg #[.int .i64 W, .int .i64 H, .slice a n c]] w (RFBb g ok w)) := by
  cases hval : validB W H cs.length with
  | true =>
    obtain ⟨wn, hn, rfl, rfl, b1, b2, b3, b4, b5, hl⟩ := validB_parts hval
    exact ⟨_, _, fun a n c w hv => specMeanOfMap_any wn hn a n c cs w hv b1 b2 b3 b4 b5 hl, fun a n c w hv => implMeanOfMap_any wn hn a n c cs w hv b1 b2 b3 b4 b5 hl⟩
  | false =>
    refine ⟨0, false, fun a n c w hv => ?_, fun a n c w hv => ?_⟩
    · obtain ⟨rfl, h1, h2⟩ := hv.sized
      exact specMeanOfMap_no W H a _ c w h1 h2 hval
    · obtain ⟨rfl, h1, h2⟩ := hv.sized
      exact implMeanOfMap_no W H a _ c w h1 h2 hval
end Go.Proofs.Ythnidpmolafmaaa
