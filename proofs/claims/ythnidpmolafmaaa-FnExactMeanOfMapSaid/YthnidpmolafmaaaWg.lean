import Derived.Test.YthnidpmolafmaaaWo
import Derived.Test.YthnidpmolafmaaaPr
import Derived.Test.YthnidpmolafmaaaPy
import Derived.Deep.DrawnRows
set_option linter.unusedVariables false
set_option linter.unusedSimpArgs false
namespace Go.Proofs.Ythnidpmolafmaaa
open Go.FX Go.RowKit Go.WideShapes Go.ChangeShapes

/-- The fold over what is known so far. -/
def KGat (cs : List Nat) (k : Nat) (rl rh : Nat) (s : Bool) : Prop := RGat (knownL (cs.take k)) (knownL (cs.take k)).length rl rh s
theorem known_yes (cs : List Nat) (k : Nat) (h : k < cs.length) (hh : holeB (cs.getD k 0) = true) : knownL (cs.take (k + 1)) = knownL (cs.take k) := by
  unfold knownL; rw [take_step cs k h, List.filter_append, List.filter_cons, if_neg (by rw [hh]; simp), List.filter_nil, List.append_nil]
theorem known_no (cs : List Nat) (k : Nat) (h : k < cs.length) (hh : holeB (cs.getD k 0) = false) : knownL (cs.take (k + 1)) = knownL (cs.take k) ++ [cs.getD k 0] := by
  unfold knownL; rw [take_step cs k h, List.filter_append, List.filter_cons, if_pos (by rw [hh]; rfl), List.filter_nil]
theorem KGat.zero (cs : List Nat) : KGat cs 0 0 0 false := by
  have h := RGat.zero (knownL (cs.take 0))
  unfold KGat
  have e : (knownL (cs.take 0)).length = 0 := by simp [knownL]
  rw [e]; exact h
theorem KGat.hole {cs : List Nat} {k rl rh : Nat} {s : Bool} (h : KGat cs k rl rh s) (hk : k < cs.length) (hh : holeB (cs.getD k 0) = true) : KGat cs (k + 1) rl rh s := by
  unfold KGat; rw [known_yes cs k hk hh]; exact h
theorem KGat.num {cs : List Nat} {k rl rh z : Nat} {s : Bool} (h : KGat cs k rl rh s) (hk : k < cs.length) (hh : holeB (cs.getD k 0) = false) (hz : Fl .f32 z (cs.getD k 0)) :
    KGat cs (k + 1) (if !s || (FloatKind.f32.format.order z rl == some Ordering.lt) then z else rl) (if !s || (FloatKind.f32.format.order z rh == some Ordering.gt) then z else rh) true := by
  have hn : isN .f32 z = false := by
    cases hn : isN .f32 z
    · rfl
    · have := (holeB_fl hz).symm.trans (hole_nan hn); rw [hh] at this; cases this
  unfold KGat at h ⊢
  rw [known_no cs k hk hh]
  generalize knownL (cs.take k) = L at h
  have h1 : RGat (L ++ [cs.getD k 0]) L.length rl rh s := by
    unfold RGat at h ⊢
    rw [List.take_left']
    · rw [List.take_length] at h; exact h
    · rfl
  have h2 := h1.num (z := z) (by simp) (by simpa [List.getD] using hz) hn
  rw [List.length_append]
  exact h2
set_option maxHeartbeats 2000000 in
theorem rangeNums_any (v : Value) (cs : List Nat) (w : World) (hv : FC w v cs) (hmx : cs.length ≤ 1048576) :
    Calls Try.prog 80 #[v] w (RRat cs w) := by
  obtain ⟨a, c, rfl, hnc, hcm⟩ := hv.shape
  unfold maxLen at hcm
  have hv' := Lib.hid hv
  clear hv
  go_enter Try.func80, Try.ntmps80
  go_wp2_with fail
  go_loop [5, 6, 7, 12] (fun l h s i => ∃ (k rl rh : Nat) (b : Bool), k ≤ cs.length ∧ i = .int .i64 k ∧ l = .float .f32 rl ∧ h = .float .f32 rh ∧ s = .bool b ∧ Hid (RGat cs k rl rh b)) (fun _ _ _ i => cs.length - (intOf i).toNat)
  case atStart => exact ⟨0, 0, 0, false, Nat.zero_le _, rfl, rfl, rfl, rfl, RGat.zero cs⟩
  case round =>
    obtain ⟨k, rl, rh, b, hk, rfl, rfl, rfl, rfl, hr⟩ := hrel
    by_cases hlt : k < cs.length
    · obtain ⟨bb, off, cc, z, ev, _, _, _, hz, hc⟩ := hv'.out.cell hlt
      simp only [Value.slice.injEq, true_and] at ev
      obtain ⟨rfl, rfl⟩ := ev
      have hz := Lib.hid hz
      cases hn : isN .f32 z with
      | true =>
        go_wp2
        go_round
        case rel => exact ⟨k + 1, _, _, _, by omega, by go_num, rfl, rfl, rfl, hr.out.nan hlt hz.out hn⟩
        case measure => simp [intOf]; omega
      | false =>
        have hr' := Lib.hid (hr.out.num hlt hz.out hn)
        cases b with
        | false =>
          go_wp2
          go_round
          case rel => exact ⟨k + 1, _, _, _, by omega, by go_num, rfl, rfl, rfl, hr'⟩
          case measure => simp [intOf]; omega
        | true =>
          cases t1 : (FloatKind.f32.format.order z rl == some Ordering.lt) <;> cases t2 : (FloatKind.f32.format.order z rh == some Ordering.gt)
          all_goals
            have hr2 := hr'.out
            rw [t1, t2] at hr2
            have hr2 := Lib.hid hr2
            clear hr'
            go_wp2
            go_round
            case rel => exact ⟨k + 1, _, _, _, by omega, by go_num, rfl, rfl, rfl, hr2⟩
            case measure => simp [intOf]; omega
    · obtain rfl : k = cs.length := by omega
      go_wp2_with fail
      go_ret3
      exact ⟨_, _, _, rfl, rfl, hr⟩
theorem implRangeOfMap_any (W H : Nat) (a : Option Addr) (n c : Nat) (cs : List Nat) (w : World) (hv : FC w (.slice a n c) cs) (b1 : 1 ≤ W) (b2 : W ≤ 24) (b3 : 1 ≤ H) (b4 : H ≤ 24) (b5 : H * W ≤ 256) (hl : cs.length = H * W) :
    Calls Try.prog 37 #[.agg #[.int .i64 W, .int .i64 H, .slice a n c]] w (RFFB (RG (knownL cs)).1 (RG (knownL cs)).2.1 (RG (knownL cs)).2.2 w) := by
  obtain ⟨rfl, hnc, hcm⟩ := hv.sized
  have hval := Lib.hid (validB_mk b1 b2 b3 b4 b5 hl)
  have h1 := fun w1 => validMap_any W H a cs.length c hnc hcm w1
  have h256 : cs.length ≤ 256 := by omega
  have h0 : 0 < cs.length := by rw [hl]; exact Nat.mul_pos b3 b1
  have hkn := Lib.hid (known_len cs)
  obtain ⟨ks, hks⟩ : ∃ ks, ks = knownL cs := ⟨_, rfl⟩
  have hkl : ks.length ≤ 1048576 := by rw [hks]; have := hkn.out; omega
  have hk := fun w1 (hb : Below w.heap.size w w1) => known_any (.slice a cs.length c) cs w1 (hv.below hb) h0 (by omega)
  rw [← hks] at hk ⊢
  clear hv hl hks
  go_enter Try.func37, Try.ntmps37
  go_wp2_with fail
  refine (h1 _).mono ?_
  rintro e w1 ⟨rfl, hb1⟩
  rw [hval.out]
  have hP := (Pv.new w W H (.slice a cs.length c) 26).below hb1
  have s1 := hb1.size
  simp only [World.size_alloc] at s1
  have hb0 : Below w.heap.size w w1 := by ((repeat' (first | (refine bel_set ?_ ?_ _) | (refine bel_al ?_ ?_ _) | exact Below.refl _ _ | assumption | (refine below_drewN ?_ _) | (refine Below.drew ?_) | (refine Below.trans ?_ (Below.mono hb1 ?_)))) <;> (first | omega | (simp; done) | (simp; omega)))
  obtain ⟨l1, p0, p1, p2⟩ := id hP
  go_wp2_with fail
  refine (hk _ hb0).mono ?_
  rintro e w2 ⟨a2, n2, c2, rfl, hb2, hf2⟩
  have hbW := hb0.trans (hb2.mono hb0.size)
  go_wp2_with fail
  refine (rangeNums_any _ ks _ hf2 hkl).mono ?_
  rintro e w3 ⟨rl, rh, s, rfl, rfl, hr⟩
  unfold RGat at hr
  rw [List.take_length] at hr
  go_wp2_with fail
  go_ret3
  rw [← hr.2.2]
  exact ⟨_, _, rfl, hbW, hr.1, hr.2.1⟩
theorem implRangeOfMap_no (W H : Int) (a : Option Addr) (n c : Nat) (w : World) (hnc : n ≤ c) (hcm : c ≤ maxLen) (hval : validB W H n = false) :
    Calls Try.prog 37 #[.agg #[.int .i64 W, .int .i64 H, .slice a n c]] w (RFFB 0 0 false w) := by
  have h1 := fun w1 => validMap_any W H a n c hnc hcm w1
  have hval := Lib.hid hval
  go_enter Try.func37, Try.ntmps37
  go_wp2_with fail
  refine (h1 _).mono ?_
  rintro e w1 ⟨rfl, hb1⟩
  rw [hval.out]
  have s1 := hb1.size
  simp only [World.size_alloc] at s1
  go_wp2_with fail
  go_ret3
  exact ⟨_, _, rfl, by ((repeat' (first | (refine bel_set ?_ ?_ _) | (refine bel_al ?_ ?_ _) | exact Below.refl _ _ | assumption | (refine below_drewN ?_ _) | (refine Below.drew ?_) | (refine Below.trans ?_ (Below.mono hb1 ?_)))) <;> (first | omega | (simp; done) | (simp; omega))), zeroF, zeroF⟩
set_option maxHeartbeats 2000000 in
theorem specRangeOfMap_any (W H : Nat) (a : Option Addr) (n c : Nat) (cs : List Nat) (w : World) (hv : FC w (.slice a n c) cs) (b1 : 1 ≤ W) (b2 : W ≤ 24) (b3 : 1 ≤ H) (b4 : H ≤ 24) (b5 : H * W ≤ 256) (hl : cs.length = H * W) :
    Calls Try.prog 36 #[.agg #[.int .i64 W, .int .i64 H, .slice a n c]] w (RFFB (RG (knownL cs)).1 (RG (knownL cs)).2.1 (RG (knownL cs)).2.2 w) := by
  obtain ⟨rfl, hnc, hcm⟩ := hv.sized
  have hval := Lib.hid (validB_mk b1 b2 b3 b4 b5 hl)
  have h1 := fun w1 hp => specMIs_any W H a cs.length c w.heap.size w1 hp (by unfold maxLen at hcm; omega)
  have h256 : cs.length ≤ 256 := by omega
  clear hl
  go_enter Try.func36, Try.ntmps36
  go_wp2_with fail
  refine (h1 _ (Pv.new _ _ _ _ _)).mono ?_
  rintro e w1 ⟨k0, rfl, rfl⟩
  rw [hval.out]
  obtain ⟨w0, hw0⟩ : ∃ w0, w0 = (w.alloc (.cells #[.int .i64 W, .int .i64 H, .slice a cs.length c] 26)).drewN k0 := ⟨_, rfl⟩
  rw [← hw0]
  have hp0 : Pv w0 w.heap.size W H (.slice a cs.length c) := by rw [hw0]; exact (Pv.new _ _ _ _ _).drewN k0
  have hb0 : Below w.heap.size w w0 := by rw [hw0]; exact below_drewN (below1 _ _) _
  clear hw0
  have hv' := Lib.hid (hv.below hb0)
  obtain ⟨l0, p0, p1, p2⟩ := id hp0
  clear hp0 hv h1
  go_wp2_with fail
  go_loop [5, 6, 7, 15] (fun l h s i => ∃ (k rl rh : Nat) (b : Bool), k ≤ cs.length ∧ i = .int .i64 k ∧ l = .float .f32 rl ∧ h = .float .f32 rh ∧ s = .bool b ∧ Hid (KGat cs k rl rh b)) (fun _ _ _ i => cs.length - (intOf i).toNat)
  case atStart => exact ⟨0, 0, 0, false, Nat.zero_le _, rfl, rfl, rfl, rfl, KGat.zero cs⟩
  case round =>
    obtain ⟨k, rl, rh, b, hk, rfl, rfl, rfl, rfl, hr⟩ := hrel
    by_cases hlt : k < cs.length
    · obtain ⟨bb, off, cc, z, ev, _, _, _, hz, hc⟩ := hv'.out.cell hlt
      simp only [Value.slice.injEq, true_and] at ev
      obtain ⟨rfl, rfl⟩ := ev
      have hh := Lib.hid (holeB_fl hz)
      have hz := Lib.hid hz
      cases hA : holeB (cs.getD k 0) with
      | true =>
        have hA' := Lib.hid hA
        have hr' := Lib.hid (hr.out.hole hlt hA)
        clear hA
        go_wp2_with fail
        refine (specHole_any _ _).mono ?_
        rintro e w' ⟨rfl, rfl⟩
        rw [hh.out, hA'.out]
        go_wp2_with fail
        go_round
        case rel => exact ⟨k + 1, _, _, _, by omega, by go_num, rfl, rfl, rfl, hr'⟩
        case measure => simp [intOf]; omega
      | false =>
        have hA' := Lib.hid hA
        have hr' := Lib.hid (hr.out.num hlt hA hz.out)
        clear hA
        cases b with
        | false =>
          go_wp2_with fail
          refine (specHole_any _ _).mono ?_
          rintro e w' ⟨rfl, rfl⟩
          rw [hh.out, hA'.out]
          go_wp2_with fail
          go_round
          case rel => exact ⟨k + 1, _, _, _, by omega, by go_num, rfl, rfl, rfl, hr'⟩
          case measure => simp [intOf]; omega
        | true =>
          cases t1 : (FloatKind.f32.format.order z rl == some Ordering.lt) <;> cases t2 : (FloatKind.f32.format.order z rh == some Ordering.gt)
          all_goals
            have hr2 := hr'.out
            rw [t1, t2] at hr2
            have hr2 := Lib.hid hr2
            clear hr'
            go_wp2_with fail
            refine (specHole_any _ _).mono ?_
            rintro e w' ⟨rfl, rfl⟩
            rw [hh.out, hA'.out]
            go_wp2_with fail
            go_round
            case rel => exact ⟨k + 1, _, _, _, by omega, by go_num, rfl, rfl, rfl, hr2⟩
            case measure => simp [intOf]; omega
    · obtain rfl : k = cs.length := by omega
      have h := hr.out
      unfold KGat RGat at h
      rw [List.take_length, List.take_length] at h
      have hnone := RG_none (knownL cs)
      rw [← h.2.2] at hnone ⊢
      have hX := Lib.hid h
      have hY := Lib.hid hnone
      clear h hnone
      cases b with
      | true =>
        go_wp2_with fail
        go_ret3
        first | exact ⟨_, _, rfl, hb0, hX.out.1, hX.out.2.1⟩ | (rw [← hX.out.2.2]; exact ⟨_, _, rfl, hb0, hX.out.1, hX.out.2.1⟩)
      | false =>
        go_wp2_with fail
        go_ret3
        obtain ⟨z1, z2⟩ := hY.out (by first | rfl | trivial)
        rw [z1, z2]
        first | exact ⟨_, _, rfl, hb0, zeroF, zeroF⟩ | (rw [← hX.out.2.2]; exact ⟨_, _, rfl, hb0, zeroF, zeroF⟩)
theorem specRangeOfMap_no (W H : Int) (a : Option Addr) (n c : Nat) (w : World) (hnc : n ≤ c) (hcm : c ≤ maxLen) (hval : validB W H n = false) :
    Calls Try.prog 36 #[.agg #[.int .i64 W, .int .i64 H, .slice a n c]] w (RFFB 0 0 false w) := by
  have h1 := fun w1 hp => specMIs_any W H a n c w.heap.size w1 hp (by unfold maxLen at hcm; omega)
  have hval := Lib.hid hval
  go_enter Try.func36, Try.ntmps36
  go_wp2_with fail
  refine (h1 _ (Pv.new _ _ _ _ _)).mono ?_
  rintro e w1 ⟨k0, rfl, rfl⟩
  rw [hval.out]
  go_wp2_with fail
  go_ret3
  exact ⟨_, _, rfl, by ((repeat' (first | (refine bel_set ?_ ?_ _) | (refine bel_al ?_ ?_ _) | exact Below.refl _ _ | assumption | (refine below_drewN ?_ _) | (refine Below.drew ?_))) <;> (first | omega | (simp; done) | (simp; omega))), zeroF, zeroF⟩
theorem pairRangeOfMap (W H : Int) (cs : List Nat) :
    ∃ (g j : Nat) (ok : Bool),
      (∀ a n c w, FC w (.slice a n c) cs → Calls Try.prog 36 #[.agg #[.int .i64 W, .int .i64 H, .slice a n c]] w (RFFB g j ok w)) ∧
      (∀ a n c w, FC w (.slice a n c) cs → Calls Try.prog 37 #[.agg #[.int .i64 W, .int .i64 H, .slice a n c]] w (RFFB g j ok w)) := by
  cases hval : validB W H cs.length with
  | true =>
    obtain ⟨wn, hn, rfl, rfl, b1, b2, b3, b4, b5, hl⟩ := validB_parts hval
    exact ⟨_, _, _, fun a n c w hv => specRangeOfMap_any wn hn a n c cs w hv b1 b2 b3 b4 b5 hl, fun a n c w hv => implRangeOfMap_any wn hn a n c cs w hv b1 b2 b3 b4 b5 hl⟩
  | false =>
    refine ⟨0, 0, false, fun a n c w hv => ?_, fun a n c w hv => ?_⟩
    · obtain ⟨rfl, h1, h2⟩ := hv.sized
      exact specRangeOfMap_no W H a _ c w h1 h2 hval
    · obtain ⟨rfl, h1, h2⟩ := hv.sized
      exact implRangeOfMap_no W H a _ c w h1 h2 hval
end Go.Proofs.Ythnidpmolafmaaa
