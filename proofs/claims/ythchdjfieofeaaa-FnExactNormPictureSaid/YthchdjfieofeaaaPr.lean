import Derived.Test.YthchdjfieofeaaaPs
import Derived.Test.YthchdjfieofeaaaPo
import Derived.Test.YthchdjfieofeaaaPq
set_option linter.unusedVariables false
set_option linter.unusedSimpArgs false
namespace Go.FX
open Go Go.RowKit
/-! The least and the greatest one. -/
def stepR (p : Nat × Nat × Bool) (c : Nat) : Nat × Nat × Bool :=
  if isN .f32 c then p else
    (if !p.2.2 || (FloatKind.f32.format.order c p.1 == some Ordering.lt) then c else p.1,
     if !p.2.2 || (FloatKind.f32.format.order c p.2.1 == some Ordering.gt) then c else p.2.1, true)
def RG (l : List Nat) : Nat × Nat × Bool := l.foldl stepR (0, 0, false)
theorem RG_step (l : List Nat) (k : Nat) (h : k < l.length) : RG (l.take (k + 1)) = stepR (RG (l.take k)) (l.getD k 0) := by
  rw [take_step l k h]; simp [RG]
theorem RG_none (l : List Nat) : (RG l).2.2 = false → (RG l).1 = 0 ∧ (RG l).2.1 = 0 := by
  have key : ∀ (l : List Nat) (p : Nat × Nat × Bool), (p.2.2 = false → p.1 = 0 ∧ p.2.1 = 0) → ((l.foldl stepR p).2.2 = false → (l.foldl stepR p).1 = 0 ∧ (l.foldl stepR p).2.1 = 0) := by
    intro l
    induction l with
    | nil => intro p hp; exact hp
    | cons c l ih =>
      intro p hp
      refine ih (stepR p c) ?_
      unfold stepR
      split
      · exact hp
      · intro h; cases h
  exact key l _ (fun _ => ⟨rfl, rfl⟩)
/-- What holds of the three slots. -/
def RGat (cs : List Nat) (k : Nat) (rl rh : Nat) (s : Bool) : Prop := Fl .f32 rl (RG (cs.take k)).1 ∧ Fl .f32 rh (RG (cs.take k)).2.1 ∧ s = (RG (cs.take k)).2.2
theorem RGat.zero (cs : List Nat) : RGat cs 0 0 0 false := ⟨⟨by decide, by simp [RG]; decide⟩, ⟨by decide, by simp [RG]; decide⟩, by simp [RG]⟩
theorem RGat.nan {cs : List Nat} {k rl rh z : Nat} {s : Bool} (h : RGat cs k rl rh s) (hk : k < cs.length) (hz : Fl .f32 z (cs.getD k 0)) (hn : isN .f32 z = true) : RGat cs (k + 1) rl rh s := by
  have : stepR (RG (cs.take k)) (cs.getD k 0) = RG (cs.take k) := by
    unfold stepR; rw [if_pos]; rw [← hz.eq, isN_cn]; exact hn
  unfold RGat; rw [RG_step cs k hk, this]; exact h
theorem RGat.num {cs : List Nat} {k rl rh z : Nat} {s : Bool} (h : RGat cs k rl rh s) (hk : k < cs.length) (hz : Fl .f32 z (cs.getD k 0)) (hn : isN .f32 z = false) :
    RGat cs (k + 1) (if !s || (FloatKind.f32.format.order z rl == some Ordering.lt) then z else rl) (if !s || (FloatKind.f32.format.order z rh == some Ordering.gt) then z else rh) true := by
  obtain ⟨h1, h2, h3⟩ := h
  have e1 : FloatKind.f32.format.order z rl = FloatKind.f32.format.order (cs.getD k 0) (RG (cs.take k)).1 := hz.order h1
  have e2 : FloatKind.f32.format.order z rh = FloatKind.f32.format.order (cs.getD k 0) (RG (cs.take k)).2.1 := hz.order h2
  have hs : stepR (RG (cs.take k)) (cs.getD k 0) = (if !s || (FloatKind.f32.format.order z rl == some Ordering.lt) then cs.getD k 0 else (RG (cs.take k)).1, if !s || (FloatKind.f32.format.order z rh == some Ordering.gt) then cs.getD k 0 else (RG (cs.take k)).2.1, true) := by
    unfold stepR; rw [if_neg]
    · rw [e1, e2, h3]
    · rw [← hz.eq, isN_cn, hn]; simp
  unfold RGat
  rw [RG_step cs k hk, hs]
  refine ⟨?_, ?_, rfl⟩
  · split
    · exact hz
    · exact h1
  · split
    · exact hz
    · exact h2
theorem zeroF : Fl .f32 0 0 := ⟨by decide, by decide⟩
def RRat (cs : List Nat) (w : World) (e : Ending) (w' : World) : Prop := ∃ rl rh s, e = .returned (.tuple #[.float .f32 rl, .float .f32 rh, .bool s]) ∧ w = w' ∧ RGat cs cs.length rl rh s
def RFFB (c d : Nat) (ok : Bool) (w : World) (e : Ending) (w' : World) : Prop := ∃ r q, e = .returned (.tuple #[.float .f32 r, .float .f32 q, .bool ok]) ∧ Below w.heap.size w w' ∧ Fl .f32 r c ∧ Fl .f32 q d
end Go.FX
namespace Go.Proofs.Ythchdjfieofeaaa
open Go.FX Go.RowKit Go.WideShapes Go.ChangeShapes

set_option maxHeartbeats 2000000 in
theorem specRange0_any (W H : Int) (a : Option Addr) (n c bp : Nat) (cs : List Nat) (w : World) (hp : Pv w bp W H (.slice a n c)) (hv : FC w (.slice a n c) cs) :
    Calls Try.prog 45 #[.pointer (some ⟨bp, 0, none⟩)] w (RRat cs w) := by
  obtain ⟨rfl, hnc, hcm⟩ := hv.sized
  unfold maxLen at hcm
  obtain ⟨_, p0, p1, p2⟩ := hp
  have hv' := Lib.hid hv
  clear hv
  go_enter Try.func45, Try.ntmps45
  go_wp2_with fail
  go_loop [5, 6, 7, 8] (fun l h s i => ∃ (k rl rh : Nat) (b : Bool), k ≤ cs.length ∧ i = .int .i64 k ∧ l = .float .f32 rl ∧ h = .float .f32 rh ∧ s = .bool b ∧ Hid (RGat cs k rl rh b)) (fun _ _ _ i => cs.length - (intOf i).toNat)
  case atStart => exact ⟨0, 0, 0, false, Nat.zero_le _, rfl, rfl, rfl, rfl, RGat.zero cs⟩
  case round =>
    obtain ⟨k, rl, rh, b, hk, rfl, rfl, rfl, rfl, hr⟩ := hrel
    by_cases hlt : k < cs.length
    · obtain ⟨bb, off, cc, z, ev, _, _, _, hz, hc⟩ := hv'.out.cell hlt
      simp only [Value.slice.injEq, true_and] at ev
      obtain ⟨rfl, rfl⟩ := ev
      have hz := Lib.hid hz
      cases hn : isN .f32 z with
      | true =>
        go_wp2_with fail
        go_round
        case rel => exact ⟨k + 1, _, _, _, by omega, by go_num, rfl, rfl, rfl, hr.out.nan hlt hz.out hn⟩
        case measure => simp [intOf]; omega
      | false =>
        have hr' := Lib.hid (hr.out.num hlt hz.out hn)
        cases b with
        | false =>
          go_wp2_with fail
          go_round
          case rel => exact ⟨k + 1, _, _, _, by omega, by go_num, rfl, rfl, rfl, hr'⟩
          case measure => simp [intOf]; omega
        | true =>
          cases t1 : (FloatKind.f32.format.order z rl == some Ordering.lt) <;> cases t2 : (FloatKind.f32.format.order z rh == some Ordering.gt)
          all_goals
            have hr2 := hr'.out
            rw [t1, t2] at hr2
            have hr2 := Lib.hid hr2
            clear hr'
            go_wp2_with fail
            go_round
            case rel => exact ⟨k + 1, _, _, _, by omega, by go_num, rfl, rfl, rfl, hr2⟩
            case measure => simp [intOf]; omega
    · obtain rfl : k = cs.length := by omega
      go_wp2_with fail
      go_ret3
      exact ⟨_, _, _, rfl, rfl, hr⟩
theorem specRangeOf_any (W H : Int) (a : Option Addr) (n c : Nat) (cs : List Nat) (w : World) (hv : FC w (.slice a n c) cs) (hval : validB W H cs.length = true) :
    Calls Try.prog 13 #[.agg #[.int .i64 W, .int .i64 H, .slice a n c]] w (RFFB (RG cs).1 (RG cs).2.1 (RG cs).2.2 w) := by
  obtain ⟨rfl, hnc, hcm⟩ := hv.sized
  obtain ⟨g1, g2, q, hR⟩ : ∃ g1 g2 q, RG cs = (g1, g2, q) := ⟨_, _, _, rfl⟩
  have hn := RG_none cs
  rw [hR] at hn ⊢
  change q = false → g1 = 0 ∧ g2 = 0 at hn
  show Calls Try.prog _ _ _ (RFFB g1 g2 q w)
  have hR := Lib.hid hR
  have h1 := fun w1 hp => specIs_any W H a cs.length c w.heap.size w1 hp (by unfold maxLen at hcm; omega)
  have h2 := fun w1 (hb : Below w.heap.size w w1) hp => specRange0_any W H a cs.length c w.heap.size cs w1 hp (hv.below hb)
  have hval := Lib.hid hval
  go_enter Try.func13, Try.ntmps13
  go_wp2_with fail
  refine (h1 _ (Pv.new _ _ _ _ _)).mono ?_
  rintro e w1 ⟨k, rfl, rfl⟩
  rw [hval.out]
  go_wp2_with fail
  refine (h2 _ (by ((repeat' (first | (refine bel_set ?_ ?_ _) | (refine bel_al ?_ ?_ _) | exact Below.refl _ _ | assumption | (refine below_drewN ?_ _) | (refine Below.drew ?_))) <;> (first | omega | (simp; done) | (simp; omega)))) ((Pv.new _ _ _ _ _).drewN _)).mono ?_
  rintro e w2 ⟨rl, rh, s, rfl, rfl, h3, h4, h5⟩
  rw [List.take_length, hR.out] at h3 h4 h5
  change Fl .f32 rl g1 at h3
  change Fl .f32 rh g2 at h4
  change s = q at h5
  subst h5
  cases s with
  | true =>
    clear hn
    go_wp2_with fail
    go_ret3
    exact ⟨_, _, rfl, by ((repeat' (first | (refine bel_set ?_ ?_ _) | (refine bel_al ?_ ?_ _) | exact Below.refl _ _ | assumption | (refine below_drewN ?_ _) | (refine Below.drew ?_))) <;> (first | omega | (simp; done) | (simp; omega))), h3, h4⟩
  | false =>
    obtain ⟨z1, z2⟩ := hn rfl
    subst z1
    subst z2
    clear hn h3 h4
    go_wp2_with fail
    go_ret3
    exact ⟨_, _, rfl, by ((repeat' (first | (refine bel_set ?_ ?_ _) | (refine bel_al ?_ ?_ _) | exact Below.refl _ _ | assumption | (refine below_drewN ?_ _) | (refine Below.drew ?_))) <;> (first | omega | (simp; done) | (simp; omega))), zeroF, zeroF⟩
theorem specRangeOf_no (W H : Int) (a : Option Addr) (n c : Nat) (w : World) (hnc : n ≤ c) (hcm : c ≤ maxLen) (hval : validB W H n = false) :
    Calls Try.prog 13 #[.agg #[.int .i64 W, .int .i64 H, .slice a n c]] w (RFFB 0 0 false w) := by
  have h1 := fun w1 hp => specIs_any W H a n c w.heap.size w1 hp (by unfold maxLen at hcm; omega)
  have hval := Lib.hid hval
  go_enter Try.func13, Try.ntmps13
  go_wp2_with fail
  refine (h1 _ (Pv.new _ _ _ _ _)).mono ?_
  rintro e w1 ⟨k, rfl, rfl⟩
  rw [hval.out]
  go_wp2_with fail
  go_ret3
  exact ⟨_, _, rfl, by ((repeat' (first | (refine bel_set ?_ ?_ _) | (refine bel_al ?_ ?_ _) | exact Below.refl _ _ | assumption | (refine below_drewN ?_ _) | (refine Below.drew ?_))) <;> (first | omega | (simp; done) | (simp; omega))), zeroF, zeroF⟩
set_option maxHeartbeats 2000000 in
theorem rangeNums_any (v : Value) (cs : List Nat) (w : World) (hv : FC w v cs) (hmx : cs.length ≤ 1048576) :
    Calls Try.prog 48 #[v] w (RRat cs w) := by
  obtain ⟨a, c, rfl, hnc, hcm⟩ := hv.shape
  unfold maxLen at hcm
  have hv' := Lib.hid hv
  clear hv
  go_enter Try.func48, Try.ntmps48
  go_wp2_with fail
  go_loop [5, 6, 7, 12] (fun l h s i => ∃ (k rl rh : Nat) (b : Bool), k ≤ cs.length ∧ i = .int .i64 k ∧ l = .float .f32 rl ∧ h = .float .f32 rh ∧ s = .bool b ∧ Hid (RGat cs k rl rh b)) (fun _ _ _ i => cs.length - (intOf i).toNat)
  case atStart => exact ⟨0, 0, 0, false, Nat.zero_le _, rfl, rfl, rfl, rfl, RGat.zero cs⟩
  case round =>
    obtain ⟨k, rl, rh, b, hk, rfl, rfl, rfl, rfl, hr⟩ := hrel
    by_cases hlt : k < cs.length
    · obtain ⟨bb, off, cc, z, ev, _, _, _, hz, hc⟩ := hv'.out.cell hlt
      simp only [Value.slice.injEq, true_and] at ev
      obtain ⟨rfl, rfl⟩ := ev
      have hz := Lib.hid hz
      cases hn : isN .f32 z with
      | true =>
        go_wp2
        go_round
        case rel => exact ⟨k + 1, _, _, _, by omega, by go_num, rfl, rfl, rfl, hr.out.nan hlt hz.out hn⟩
        case measure => simp [intOf]; omega
      | false =>
        have hr' := Lib.hid (hr.out.num hlt hz.out hn)
        cases b with
        | false =>
          go_wp2
          go_round
          case rel => exact ⟨k + 1, _, _, _, by omega, by go_num, rfl, rfl, rfl, hr'⟩
          case measure => simp [intOf]; omega
        | true =>
          cases t1 : (FloatKind.f32.format.order z rl == some Ordering.lt) <;> cases t2 : (FloatKind.f32.format.order z rh == some Ordering.gt)
          all_goals
            have hr2 := hr'.out
            rw [t1, t2] at hr2
            have hr2 := Lib.hid hr2
            clear hr'
            go_wp2
            go_round
            case rel => exact ⟨k + 1, _, _, _, by omega, by go_num, rfl, rfl, rfl, hr2⟩
            case measure => simp [intOf]; omega
    · obtain rfl : k = cs.length := by omega
      go_wp2_with fail
      go_ret3
      exact ⟨_, _, _, rfl, rfl, hr⟩
set_option maxHeartbeats 2000000 in
theorem implRangeOf_any (W H : Int) (a : Option Addr) (n c : Nat) (cs : List Nat) (w : World) (hv : FC w (.slice a n c) cs) (hval : validB W H cs.length = true) :
    Calls Try.prog 15 #[.agg #[.int .i64 W, .int .i64 H, .slice a n c]] w (RFFB (RG cs).1 (RG cs).2.1 (RG cs).2.2 w) := by
  obtain ⟨rfl, hnc, hcm⟩ := hv.sized
  have h1 := fun w1 => validPic_any W H (.slice a cs.length c) cs.length w1 ⟨a, c, rfl, hnc, hcm⟩
  have hmx : cs.length ≤ 1048576 := by
    obtain ⟨_, _, _, _, _, _, _, _, h5, hl⟩ := validB_parts hval
    omega
  have hval := Lib.hid hval
  go_enter Try.func15, Try.ntmps15
  go_wp2_with fail
  refine (h1 _).mono ?_
  rintro e w1 ⟨rfl, hb1⟩
  rw [hval.out]
  obtain ⟨l1, q0, q1, q2⟩ := (Pv.new _ _ _ _ _).below hb1
  have s1 := hb1.size
  simp only [World.size_alloc] at s1
  have hb0 : Below w.heap.size w w1 := by ((repeat' (first | (refine bel_set ?_ ?_ _) | (refine bel_al ?_ ?_ _) | exact Below.refl _ _ | assumption | (refine below_drewN ?_ _) | (refine Below.drew ?_) | (refine Below.trans ?_ (Below.mono hb1 ?_)))) <;> (first | omega | (simp; done) | (simp; omega)))
  go_wp2_with fail
  refine (rangeNums_any _ cs _ (hv.below hb0) hmx).mono ?_
  rintro e w3 ⟨rl, rh, s, rfl, rfl, hr⟩
  unfold RGat at hr
  rw [List.take_length] at hr
  go_wp2_with fail
  go_ret3
  rw [← hr.2.2]
  exact ⟨_, _, rfl, hb0, hr.1, hr.2.1⟩
theorem implRangeOf_no (W H : Int) (a : Option Addr) (n c : Nat) (w : World) (hnc : n ≤ c) (hcm : c ≤ maxLen) (hval : validB W H n = false) :
    Calls Try.prog 15 #[.agg #[.int .i64 W, .int .i64 H, .slice a n c]] w (RFFB 0 0 false w) := by
  have h1 := fun w1 => validPic_any W H (.slice a n c) n w1 ⟨a, c, rfl, hnc, hcm⟩
  have hval := Lib.hid hval
  go_enter Try.func15, Try.ntmps15
  go_wp2_with fail
  refine (h1 _).mono ?_
  rintro e w1 ⟨rfl, hb1⟩
  rw [hval.out]
  go_wp2_with fail
  go_ret3
  exact ⟨_, _, rfl, by ((repeat' (first | (refine bel_set ?_ ?_ _) | (refine bel_al ?_ ?_ _) | exact Below.refl _ _ | assumption | (refine below_drewN ?_ _) | (refine Below.drew ?_) | (refine Below.trans ?_ (Below.mono hb1 ?_)))) <;> (first | omega | (simp; done) | (simp; omega))), zeroF, zeroF⟩
theorem pairRangeOf (W H : Int) (cs : List Nat) :
    ∃ (g j : Nat) (ok : Bool),
      (∀ a n c w, FC w (.slice a n c) cs → Calls Try.prog 13 #[.agg #[.int .i64 W, .int .i64 H, .slice a n c]] w (RFFB g j ok w)) ∧
      (∀ a n c w, FC w (.slice a n c) cs → Calls Try.prog 15 #[.agg #[.int .i64 W, .int .i64 H, .slice a n c]] w (RFFB g j ok w)) := by
  cases hval : validB W H cs.length with
  | true => exact ⟨_, _, _, fun a n c w hv => specRangeOf_any W H a n c cs w hv hval, fun a n c w hv => implRangeOf_any W H a n c cs w hv hval⟩
  | false =>
    refine ⟨0, 0, false, fun a n c w hv => ?_, fun a n c w hv => ?_⟩
    · obtain ⟨rfl, h1, h2⟩ := hv.sized
      exact specRangeOf_no W H a _ c w h1 h2 hval
    · obtain ⟨rfl, h1, h2⟩ := hv.sized
      exact implRangeOf_no W H a _ c w h1 h2 hval
end Go.Proofs.Ythchdjfieofeaaa
