import Derived.Test.YthnidpmolafmaaaKn
import Derived.Test.YthnidpmolafmaaaPr
import Derived.Test.YthnidpmolafmaaaPy
import Derived.Deep.DrawnRows
set_option linter.unusedVariables false
set_option linter.unusedSimpArgs false
namespace Go.Proofs.Ythnidpmolafmaaa
open Go.FX Go.RowKit Go.WideShapes Go.ChangeShapes

theorem validMap_any (W H : Int) (a : Option Addr) (n c : Nat) (hnc : n ≤ c) (hcm : c ≤ maxLen) (w : World) :
    Calls Try.prog 78 #[.agg #[.int .i64 W, .int .i64 H, .slice a n c]] w (RBb (validB W H n) w) := by
  go_enter Try.func78, Try.ntmps78
  go_wp2_with fail
  refine (mapPic_any _ _ _ _ _ _).mono ?_
  rintro e w1 ⟨rfl, hb1⟩
  have s1 := hb1.size; simp only [World.size_alloc] at s1
  go_wp2_with fail
  refine (validPic_any _ _ _ _ _ ⟨_, _, rfl, hnc, hcm⟩).mono ?_
  rintro e w2 ⟨rfl, hb2⟩
  have s2 := hb2.size; (try simp only [World.size_alloc] at s2)
  go_wp2_with fail
  go_ret
  exact ⟨rfl, by ((repeat' (first | (refine bel_set ?_ ?_ _) | (refine bel_al ?_ ?_ _) | exact Below.refl _ _ | assumption | (refine below_drewN ?_ _) | (refine Below.drew ?_) | (refine Below.trans ?_ (Below.mono hb2 ?_)) | (refine Below.trans ?_ (Below.mono hb1 ?_)))) <;> (first | omega | (simp; done) | (simp; omega)))⟩
/-- How many of the first k are holes. -/
def holesN (cs : List Nat) (k : Nat) : Nat := ((cs.take k).filter holeB).length
theorem holesN_zero (cs : List Nat) : holesN cs 0 = 0 := by simp [holesN]
theorem holesN_yes (cs : List Nat) (k : Nat) (h : k < cs.length) (hh : holeB (cs.getD k 0) = true) : holesN cs (k + 1) = holesN cs k + 1 := by
  unfold holesN; rw [take_step cs k h, List.filter_append, List.length_append, List.filter_cons, if_pos hh]; rfl
theorem holesN_no (cs : List Nat) (k : Nat) (h : k < cs.length) (hh : holeB (cs.getD k 0) = false) : holesN cs (k + 1) = holesN cs k := by
  unfold holesN; rw [take_step cs k h, List.filter_append, List.length_append, List.filter_cons, if_neg (by rw [hh]; simp)]; rfl
theorem holesN_le (cs : List Nat) (k : Nat) : holesN cs k ≤ k := Nat.le_trans (List.length_filter_le _ _) (List.length_take_le _ _)
theorem known_len (cs : List Nat) : (cs.filter holeB).length + (knownL cs).length = cs.length := by
  unfold knownL
  induction cs with
  | nil => rfl
  | cons c cs ih =>
    rw [List.filter_cons, List.filter_cons]
    cases hc : holeB c
    · simp only [Bool.false_eq_true, if_false, Bool.not_false, if_true, List.length_cons]; omega
    · simp only [if_true, Bool.not_true, Bool.false_eq_true, if_false, List.length_cons]; omega
theorem holesN_all (cs : List Nat) : holesN cs cs.length + (knownL cs).length = cs.length := by unfold holesN; rw [List.take_length]; exact known_len cs
set_option maxHeartbeats 2000000 in
theorem implHolesOf_any (W H : Nat) (a : Option Addr) (n c : Nat) (cs : List Nat) (w : World) (hv : FC w (.slice a n c) cs) (b1 : 1 ≤ W) (b2 : W ≤ 24) (b3 : 1 ≤ H) (b4 : H ≤ 24) (b5 : H * W ≤ 256) (hl : cs.length = H * W) :
    Calls Try.prog 35 #[.agg #[.int .i64 W, .int .i64 H, .slice a n c]] w (RIBb (holesN cs cs.length) true w) := by
  obtain ⟨rfl, hnc, hcm⟩ := hv.sized
  have hval := Lib.hid (validB_mk b1 b2 b3 b4 b5 hl)
  have h1 := fun w1 => validMap_any W H a cs.length c hnc hcm w1
  have h256 : cs.length ≤ 256 := by omega
  have h0 : 0 < cs.length := by rw [hl]; exact Nat.mul_pos b3 b1
  obtain ⟨kl, hkl⟩ : ∃ kl, kl = (knownL cs).length := ⟨_, rfl⟩
  obtain ⟨hn, hhn⟩ : ∃ hn, hn = holesN cs cs.length := ⟨_, rfl⟩
  have hall := holesN_all cs
  rw [← hkl, ← hhn] at hall
  rw [← hhn]
  have hk := fun w1 (hb : Below w.heap.size w w1) => (known_any (.slice a cs.length c) cs w1 (hv.below hb) h0 (by omega)).mono fun e w' ⟨a, n, c, he, h1, h2⟩ => (⟨a, c, by rw [he, h2.sized.1, ← hkl], h1⟩ : ∃ a c, e = Ending.returned (.slice a kl c) ∧ Below w1.heap.size w1 w')
  have s7 : IntKind.i64.wrap (hn : Int) = (hn : Int) := IntWalk.i64_in _ (by omega)
  have s8 : (cs.length : Int) - (kl : Int) = (hn : Int) := by omega
  clear hv hl hall hkl hhn
  go_enter Try.func35, Try.ntmps35
  go_wp2_with fail
  refine (h1 _).mono ?_
  rintro e w1 ⟨rfl, hb1⟩
  rw [hval.out]
  have hP := (Pv.new w W H (.slice a cs.length c) 26).below hb1
  have s1 := hb1.size
  simp only [World.size_alloc] at s1
  have hb0 : Below w.heap.size w w1 := by ((repeat' (first | (refine bel_set ?_ ?_ _) | (refine bel_al ?_ ?_ _) | exact Below.refl _ _ | assumption | (refine below_drewN ?_ _) | (refine Below.drew ?_) | (refine Below.trans ?_ (Below.mono hb1 ?_)))) <;> (first | omega | (simp; done) | (simp; omega)))
  obtain ⟨l1, p0, p1, p2⟩ := id hP
  go_wp2_with fail
  go_region_held3 (fun w' => Below w1.heap.size w1 w' ∧ w1.heap.size ≤ w'.heap.size ∧ (∀ b o, b < w1.heap.size → w'.cell? ⟨b, o, none⟩ = w1.cell? ⟨b, o, none⟩)) (first | exact keepStart _ | assumption | exact ⟨by assumption, by assumption, by assumption⟩ | exact keepCall (by assumption) (by assumption) | exact keepAlloc (by assumption) | (refine keepSet ?_ (keepSet ?_ (keepSet ?_ (keepSet ?_ ?_))) <;> first | assumption | omega | (simp; done) | (simp; omega)) | (refine keepSet ?_ (keepSet ?_ (keepSet ?_ ?_)) <;> first | assumption | omega | (simp; done) | (simp; omega)) | (refine keepSet ?_ (keepSet ?_ ?_) <;> first | assumption | omega | (simp; done) | (simp; omega)) | (refine keepSet ?_ ?_ <;> first | assumption | omega | (simp; done) | (simp; omega)))
    ((go_at_call 79; (with_reducible refine (hk _ (hb0.trans ((And.left (by assumption) : Below w1.heap.size w1 _).mono hb0.size))).mono ?_); rintro e w2 ⟨a2, c2, rfl, hb2⟩; have hI := keepCall (n := w1.heap.size) (W1 := w1) (by assumption) hb2; obtain ⟨hc, hf⟩ := bcell hb2; have hz := hb2.size; (try simp at hz); (try simp only [World.size_drew, World.cell?_drew] at hc); (try simp only [World.size_drew, World.frozen?_drew] at hf); first | (have hs := Nat.lt_of_succ_le hz) | (have hs := Nat.lt_of_lt_of_le hs hz) | skip))
  have hbR : Below w1.heap.size w1 w2 := And.left (by assumption)
  go_wp2_with fail
  go_ret2
  exact ⟨by first | rfl | (rw [s7]; rfl), hb0.trans (hbR.mono hb0.size)⟩
theorem implHolesOf_no (W H : Int) (a : Option Addr) (n c : Nat) (w : World) (hnc : n ≤ c) (hcm : c ≤ maxLen) (hval : validB W H n = false) :
    Calls Try.prog 35 #[.agg #[.int .i64 W, .int .i64 H, .slice a n c]] w (RIBb 0 false w) := by
  have h1 := fun w1 => validMap_any W H a n c hnc hcm w1
  have hval := Lib.hid hval
  go_enter Try.func35, Try.ntmps35
  go_wp2_with fail
  refine (h1 _).mono ?_
  rintro e w1 ⟨rfl, hb1⟩
  rw [hval.out]
  have s1 := hb1.size
  simp only [World.size_alloc] at s1
  go_wp2_with fail
  go_ret2
  exact ⟨rfl, by ((repeat' (first | (refine bel_set ?_ ?_ _) | (refine bel_al ?_ ?_ _) | exact Below.refl _ _ | assumption | (refine below_drewN ?_ _) | (refine Below.drew ?_) | (refine Below.trans ?_ (Below.mono hb1 ?_)))) <;> (first | omega | (simp; done) | (simp; omega)))⟩
set_option maxHeartbeats 2000000 in
theorem specHolesOf_any (W H : Nat) (a : Option Addr) (n c : Nat) (cs : List Nat) (w : World) (hv : FC w (.slice a n c) cs) (b1 : 1 ≤ W) (b2 : W ≤ 24) (b3 : 1 ≤ H) (b4 : H ≤ 24) (b5 : H * W ≤ 256) (hl : cs.length = H * W) :
    Calls Try.prog 34 #[.agg #[.int .i64 W, .int .i64 H, .slice a n c]] w (RIBb (holesN cs cs.length) true w) := by
  obtain ⟨rfl, hnc, hcm⟩ := hv.sized
  have hval := Lib.hid (validB_mk b1 b2 b3 b4 b5 hl)
  have h1 := fun w1 hp => specMIs_any W H a cs.length c w.heap.size w1 hp (by unfold maxLen at hcm; omega)
  have h256 : cs.length ≤ 256 := by omega
  clear hl
  go_enter Try.func34, Try.ntmps34
  go_wp2_with fail
  refine (h1 _ (Pv.new _ _ _ _ _)).mono ?_
  rintro e w1 ⟨k0, rfl, rfl⟩
  rw [hval.out]
  obtain ⟨w0, hw0⟩ : ∃ w0, w0 = (w.alloc (.cells #[.int .i64 W, .int .i64 H, .slice a cs.length c] 26)).drewN k0 := ⟨_, rfl⟩
  rw [← hw0]
  have hp0 : Pv w0 w.heap.size W H (.slice a cs.length c) := by rw [hw0]; exact (Pv.new _ _ _ _ _).drewN k0
  have hb0 : Below w.heap.size w w0 := by rw [hw0]; exact below_drewN (below1 _ _) _
  clear hw0
  have hv' := Lib.hid (hv.below hb0)
  obtain ⟨l0, p0, p1, p2⟩ := id hp0
  clear hp0 hv h1
  go_wp2_with fail
  go_loop [4, 11] (fun s i => ∃ k : Nat, k ≤ cs.length ∧ i = .int .i64 k ∧ s = .int .i64 (holesN cs k)) (fun _ i => cs.length - (intOf i).toNat)
  case atStart => exact ⟨0, Nat.zero_le _, rfl, by rw [holesN_zero]; rfl⟩
  case round =>
    obtain ⟨k, hk, rfl, rfl⟩ := hrel
    have hle := holesN_le cs k
    by_cases hlt : k < cs.length
    · obtain ⟨bb, off, cc, z, ev, _, _, _, hz, hc⟩ := hv'.out.cell hlt
      simp only [Value.slice.injEq, true_and] at ev
      obtain ⟨rfl, rfl⟩ := ev
      have hh := Lib.hid (holeB_fl hz)
      cases hA : holeB (cs.getD k 0) with
      | true =>
        have hA' := Lib.hid hA
        have hs := Lib.hid (holesN_yes cs k hlt hA)
        clear hA hz
        go_wp2_with fail
        refine (specHole_any _ _).mono ?_
        rintro e w' ⟨rfl, rfl⟩
        rw [hh.out, hA'.out]
        go_wp2_with fail
        go_round
        case rel => exact ⟨k + 1, by omega, by go_num, by rw [hs.out]; go_num⟩
        case measure => simp [intOf]; omega
      | false =>
        have hA' := Lib.hid hA
        have hs := Lib.hid (holesN_no cs k hlt hA)
        clear hA hz
        go_wp2_with fail
        refine (specHole_any _ _).mono ?_
        rintro e w' ⟨rfl, rfl⟩
        rw [hh.out, hA'.out]
        go_wp2_with fail
        go_round
        case rel => exact ⟨k + 1, by omega, by go_num, by rw [hs.out]⟩
        case measure => simp [intOf]; omega
    · obtain rfl : k = cs.length := by omega
      go_wp2_with fail
      go_ret2
      exact ⟨rfl, hb0⟩
theorem specHolesOf_no (W H : Int) (a : Option Addr) (n c : Nat) (w : World) (hnc : n ≤ c) (hcm : c ≤ maxLen) (hval : validB W H n = false) :
    Calls Try.prog 34 #[.agg #[.int .i64 W, .int .i64 H, .slice a n c]] w (RIBb 0 false w) := by
  have h1 := fun w1 hp => specMIs_any W H a n c w.heap.size w1 hp (by unfold maxLen at hcm; omega)
  have hval := Lib.hid hval
  go_enter Try.func34, Try.ntmps34
  go_wp2_with fail
  refine (h1 _ (Pv.new _ _ _ _ _)).mono ?_
  rintro e w1 ⟨k0, rfl, rfl⟩
  rw [hval.out]
  go_wp2_with fail
  go_ret2
  exact ⟨rfl, by ((repeat' (first | (refine bel_set ?_ ?_ _) | (refine bel_al ?_ ?_ _) | exact Below.refl _ _ | assumption | (refine below_drewN ?_ _) | (refine Below.drew ?_))) <;> (first | omega | (simp; done) | (simp; omega)))⟩
theorem pairHolesOf (W H : Int) (cs : List Nat) :
    ∃ (g : Int) (ok : Bool),
      (∀ a n c w, FC w (.slice a n c) cs → Calls Try.prog 34 #[.agg #[.int .i64 W, .int .i64 H, .slice a n c]] w (RIBb g ok w)) ∧
      (∀ a n c w, FC w (.slice a n c) cs → Calls Try.prog 35 #[.agg #[.int .i64 W, .int .i64 H, .slice a n c]] w (RIBb g ok w)) := by
  cases hval : validB W H cs.length with
  | true =>
    obtain ⟨wn, hn, rfl, rfl, b1, b2, b3, b4, b5, hl⟩ := validB_parts hval
    exact ⟨_, _, fun a n c w hv => specHolesOf_any wn hn a n c cs w hv b1 b2 b3 b4 b5 hl, fun a n c w hv => implHolesOf_any wn hn a n c cs w hv b1 b2 b3 b4 b5 hl⟩
  | false =>
    refine ⟨0, false, fun a n c w hv => ?_, fun a n c w hv => ?_⟩
    · obtain ⟨rfl, h1, h2⟩ := hv.sized
      exact specHolesOf_no W H a _ c w h1 h2 hval
    · obtain ⟨rfl, h1, h2⟩ := hv.sized
      exact implHolesOf_no W H a _ c w h1 h2 hval
end Go.Proofs.Ythnidpmolafmaaa
