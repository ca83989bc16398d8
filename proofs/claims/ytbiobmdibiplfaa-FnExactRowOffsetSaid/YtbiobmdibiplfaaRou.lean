import Derived.Test.YtbiobmdibiplfaaRot
set_option linter.unusedVariables false
set_option linter.unusedSimpArgs false
namespace Go.Proofs.Ytbiobmdibiplfaa
open Go.FX Go.RowKit Go.WideShapes Go.ChangeShapes
theorem implRowOffset_no1 (W H : Int) (a : Option Addr) (n c : Nat) (W' H' : Int) (a' : Option Addr) (n' c' : Nat) (m : Int) (w : World) (hnc : n ≤ c) (hcm : c ≤ maxLen) (hnc' : n' ≤ c') (hcm' : c' ≤ maxLen) (hval : pairB W H n W' H' n' = false) :
    Calls Try.prog 37 #[.agg #[.int .i64 W, .int .i64 H, .slice a n c], .agg #[.int .i64 W', .int .i64 H', .slice a' n' c'], .int .i64 m] w (ROff 0 0 false w) := by
  have h1 := fun w1 => isPair_any W H a n c W' H' a' n' c' w1 hnc hcm hnc' hcm'
  rw [hval] at h1
  clear hval
  go_enter Try.func37, Try.ntmps37
  go_wp2_with fail
  refine (h1 _).mono ?_
  rintro e w1 ⟨rfl, hb1⟩
  go_wp2_with fail
  refine bodyPost_ret (v := ?v) ?hr rfl ?post
  case hr => (simp [results, Try.results37, go_sem]; try rfl)
  case post => exact ⟨_, rfl, by ((repeat' (first | (refine bel_set ?_ ?_ _) | (refine bel_al ?_ ?_ _) | exact Below.refl _ _ | assumption | (refine below_drewN ?_ _) | (refine Below.drew ?_) | (refine Below.trans ?_ (Below.mono hb1 ?_)))) <;> (first | omega | (simp; done) | (simp; omega))), ⟨by decide, by decide⟩⟩
theorem implRowOffset_no2 (W H : Int) (a : Option Addr) (n c : Nat) (W' H' : Int) (a' : Option Addr) (n' c' : Nat) (m : Int) (w : World) (hnc : n ≤ c) (hcm : c ≤ maxLen) (hnc' : n' ≤ c') (hcm' : c' ≤ maxLen) (hval : pairB W H n W' H' n' = true) (hm : inB m 0 8 = false) :
    Calls Try.prog 37 #[.agg #[.int .i64 W, .int .i64 H, .slice a n c], .agg #[.int .i64 W', .int .i64 H', .slice a' n' c'], .int .i64 m] w (ROff 0 0 false w) := by
  have h1 := fun w1 => isPair_any W H a n c W' H' a' n' c' w1 hnc hcm hnc' hcm'
  rw [hval] at h1
  have hm2 : idxB m 9 = false := by rw [← hm]; unfold inB idxB; congr 1; simp; omega
  have h2 := fun w1 => isIndex_any m 9 w1
  rw [hm2] at h2
  clear hval hm hm2
  go_enter Try.func37, Try.ntmps37
  go_wp2_with fail
  refine (h1 _).mono ?_
  rintro e w1 ⟨rfl, hb1⟩
  go_wp2_with fail
  refine (h2 _).mono ?_
  rintro e w2 ⟨rfl, rfl⟩
  go_wp2_with fail
  refine bodyPost_ret (v := ?v) ?hr rfl ?post
  case hr => (simp [results, Try.results37, go_sem]; try rfl)
  case post => exact ⟨_, rfl, by ((repeat' (first | (refine bel_set ?_ ?_ _) | (refine bel_al ?_ ?_ _) | exact Below.refl _ _ | assumption | (refine below_drewN ?_ _) | (refine Below.drew ?_) | (refine Below.trans ?_ (Below.mono hb1 ?_)))) <;> (first | omega | (simp; done) | (simp; omega))), ⟨by decide, by decide⟩⟩
theorem specRowOffset_no1 (W H : Int) (a : Option Addr) (n c : Nat) (W' H' : Int) (a' : Option Addr) (n' c' : Nat) (m : Int) (w : World) (hnc : n ≤ c) (hcm : c ≤ maxLen) (hnc' : n' ≤ c') (hcm' : c' ≤ maxLen) (hval : pairB W H n W' H' n' = false) :
    Calls Try.prog 36 #[.agg #[.int .i64 W, .int .i64 H, .slice a n c], .agg #[.int .i64 W', .int .i64 H', .slice a' n' c'], .int .i64 m] w (ROff 0 0 false w) := by
  have h1 := fun w1 hp hp' => specTwo_any W H a n c w.heap.size W' H' a' n' c' (w.heap.size + 1) w1 hp hp' (by omega) (by unfold maxLen at hcm; omega) (by unfold maxLen at hcm'; omega)
  rw [hval] at h1
  clear hval
  go_enter Try.func36, Try.ntmps36
  go_wp2_with fail
  have hP1 := (Pv.new w W H (.slice a n c) 27).alloc (.cells #[.int .i64 W', .int .i64 H', .slice a' n' c'] 27)
  have hP2 := Pv.new (w.alloc (.cells #[.int .i64 W, .int .i64 H, .slice a n c] 27)) W' H' (.slice a' n' c') 27
  simp only [World.size_alloc] at hP2
  refine (h1 _ hP1 hP2).mono ?_
  rintro e w1 ⟨k, rfl, rfl⟩
  go_wp2_with fail
  refine bodyPost_ret (v := ?v) ?hr rfl ?post
  case hr => (simp [results, Try.results36, go_sem]; try rfl)
  case post => exact ⟨_, rfl, by ((repeat' (first | (refine bel_set ?_ ?_ _) | (refine bel_al ?_ ?_ _) | exact Below.refl _ _ | assumption | (refine below_drewN ?_ _) | (refine Below.drew ?_))) <;> (first | omega | (simp; done) | (simp; omega))), ⟨by decide, by decide⟩⟩
theorem specRowOffset_no2 (W H : Int) (a : Option Addr) (n c : Nat) (W' H' : Int) (a' : Option Addr) (n' c' : Nat) (m : Int) (w : World) (hnc : n ≤ c) (hcm : c ≤ maxLen) (hnc' : n' ≤ c') (hcm' : c' ≤ maxLen) (hval : pairB W H n W' H' n' = true) (hm : inB m 0 8 = false) :
    Calls Try.prog 36 #[.agg #[.int .i64 W, .int .i64 H, .slice a n c], .agg #[.int .i64 W', .int .i64 H', .slice a' n' c'], .int .i64 m] w (ROff 0 0 false w) := by
  have h1 := fun w1 hp hp' => specTwo_any W H a n c w.heap.size W' H' a' n' c' (w.heap.size + 1) w1 hp hp' (by omega) (by unfold maxLen at hcm; omega) (by unfold maxLen at hcm'; omega)
  rw [hval] at h1
  have h2 := fun w1 => specIn_any m 0 8 w1
  rw [hm] at h2
  clear hval hm
  go_enter Try.func36, Try.ntmps36
  go_wp2_with fail
  have hP1 := (Pv.new w W H (.slice a n c) 27).alloc (.cells #[.int .i64 W', .int .i64 H', .slice a' n' c'] 27)
  have hP2 := Pv.new (w.alloc (.cells #[.int .i64 W, .int .i64 H, .slice a n c] 27)) W' H' (.slice a' n' c') 27
  simp only [World.size_alloc] at hP2
  refine (h1 _ hP1 hP2).mono ?_
  rintro e w1 ⟨k, rfl, rfl⟩
  go_wp2_with fail
  refine (h2 _).mono ?_
  rintro e w2 ⟨rfl, rfl⟩
  go_wp2_with fail
  refine bodyPost_ret (v := ?v) ?hr rfl ?post
  case hr => (simp [results, Try.results36, go_sem]; try rfl)
  case post => exact ⟨_, rfl, by ((repeat' (first | (refine bel_set ?_ ?_ _) | (refine bel_al ?_ ?_ _) | exact Below.refl _ _ | assumption | (refine below_drewN ?_ _) | (refine Below.drew ?_))) <;> (first | omega | (simp; done) | (simp; omega))), ⟨by decide, by decide⟩⟩
theorem pairRowOffset (W H : Int) (cs : List Nat) (W' H' : Int) (cs' : List Nat) (m : Int) :
    ∃ (b : Int) (g : Nat) (ok : Bool),
      (∀ a n c a' n' c' w, FC w (.slice a n c) cs → FC w (.slice a' n' c') cs' → Calls Try.prog 36 #[.agg #[.int .i64 W, .int .i64 H, .slice a n c], .agg #[.int .i64 W', .int .i64 H', .slice a' n' c'], .int .i64 m] w (ROff b g ok w)) ∧
      (∀ a n c a' n' c' w, FC w (.slice a n c) cs → FC w (.slice a' n' c') cs' → Calls Try.prog 37 #[.agg #[.int .i64 W, .int .i64 H, .slice a n c], .agg #[.int .i64 W', .int .i64 H', .slice a' n' c'], .int .i64 m] w (ROff b g ok w)) := by
  cases hv : pairB W H cs.length W' H' cs'.length with
  | false =>
    refine ⟨0, 0, false, fun a n c a' n' c' w hf hf' => ?_, fun a n c a' n' c' w hf hf' => ?_⟩
    · obtain ⟨rfl, h1, h2⟩ := hf.sized
      obtain ⟨rfl, h3, h4⟩ := hf'.sized
      exact specRowOffset_no1 W H a _ c W' H' a' _ c' m w h1 h2 h3 h4 hv
    · obtain ⟨rfl, h1, h2⟩ := hf.sized
      obtain ⟨rfl, h3, h4⟩ := hf'.sized
      exact implRowOffset_no1 W H a _ c W' H' a' _ c' m w h1 h2 h3 h4 hv
  | true =>
    cases hm : inB m 0 8 with
    | false =>
      refine ⟨0, 0, false, fun a n c a' n' c' w hf hf' => ?_, fun a n c a' n' c' w hf hf' => ?_⟩
      · obtain ⟨rfl, h1, h2⟩ := hf.sized
        obtain ⟨rfl, h3, h4⟩ := hf'.sized
        exact specRowOffset_no2 W H a _ c W' H' a' _ c' m w h1 h2 h3 h4 hv hm
      · obtain ⟨rfl, h1, h2⟩ := hf.sized
        obtain ⟨rfl, h3, h4⟩ := hf'.sized
        exact implRowOffset_no2 W H a _ c W' H' a' _ c' m w h1 h2 h3 h4 hv hm
    | true =>
      unfold pairB at hv
      simp only [Bool.and_eq_true, decide_eq_true_eq] at hv
      obtain ⟨hv, hv', rfl, rfl⟩ := hv
      obtain ⟨Wn, Hn, rfl, rfl, b1, b2, b3, b4, b5, hl⟩ := validB_parts hv
      obtain ⟨Wm, Hm, e1, e2, _, _, _, _, _, hl'⟩ := validB_parts hv'
      obtain rfl : Wm = Wn := by omega
      obtain rfl : Hm = Hn := by omega
      obtain ⟨m0, m8⟩ : 0 ≤ m ∧ m ≤ 8 := by unfold inB at hm; simpa using hm
      obtain ⟨k, rfl⟩ := Int.eq_ofNat_of_zero_le m0
      exact ⟨_, _, _, fun a n c a' n' c' w hf hf' => specRowOffset_any Wm Hm a n c cs a' n' c' cs' k w hf hf' (by omega) b1 b2 b3 b4 b5 hl hl', fun a n c a' n' c' w hf hf' => implRowOffset_any Wm Hm a n c cs a' n' c' cs' k w hf hf' (by omega) b1 b2 b3 b4 b5 hl hl'⟩
end Go.Proofs.Ytbiobmdibiplfaa
