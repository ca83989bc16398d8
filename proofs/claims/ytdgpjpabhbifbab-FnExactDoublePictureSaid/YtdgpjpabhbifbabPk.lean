import Derived.Test.YtdgpjpabhbifbabPl
import Derived.Test.YtdgpjpabhbifbabPn
import Derived.Test.YtdgpjpabhbifbabPi
set_option linter.unusedVariables false
set_option linter.unusedSimpArgs false
namespace Go.Proofs.Ytdgpjpabhbifbab
open Go.FX Go.RowKit Go.WideShapes Go.ChangeShapes

theorem specSlopePicture_no (W H : Int) (a : Option Addr) (n c : Nat) (w : World) (hnc : n ≤ c) (hcm : c ≤ maxLen) (hval : validB W H n = false) :
    Calls Try.prog 33 #[.agg #[.int .i64 W, .int .i64 H, .slice a n c]] w (RPic 52 0 0 [] false w) := by
  have h1 := fun w1 hp => specIs_any W H a n c w.heap.size w1 hp (by unfold maxLen at hcm; omega)
  have hval := Lib.hid hval
  go_enter Try.func33, Try.ntmps33
  go_wp2_with fail
  refine (h1 _ ((Pv.new _ _ _ _ _).alloc _)).mono ?_
  rintro e w1 ⟨k, rfl, rfl⟩
  rw [hval.out]
  go_wp2_with fail
  refine bodyPost_ret (v := ?v) ?hr rfl ?post
  case hr => (simp [results, Try.results33, go_sem]; try rfl)
  case post => exact ⟨_, _, _, rfl, by ((repeat' (first | exact Below.refl _ _ | assumption | (refine bel_set ?_ ?_ _) | (refine bel_al ?_ ?_ _) | (refine below_drewN ?_ _) | (refine Below.drew ?_))) <;> (first | omega | (simp; done) | (simp; omega))), OC.nil _ _ _⟩
/-- Of each picture both answer one and the same. -/
theorem pairSlopePicture (W H : Int) (cs : List Nat) :
    ∃ (W' H' : Int) (cs' : List Nat) (ok : Bool),
      (∀ a n c w, FC w (.slice a n c) cs → Calls Try.prog 33 #[.agg #[.int .i64 W, .int .i64 H, .slice a n c]] w (RPic 52 W' H' cs' ok w)) ∧
      (∀ a n c w, FC w (.slice a n c) cs → Calls Try.prog 34 #[.agg #[.int .i64 W, .int .i64 H, .slice a n c]] w (RPic 52 W' H' cs' ok w)) ∧ cs'.length ≤ 256 := by
  cases hval : validB W H cs.length with
  | true =>
    obtain ⟨wn, hn, rfl, rfl, b1, b2, b3, b4, b5, hl⟩ := validB_parts hval
    exact ⟨_, _, _, _, fun a n c w hv => specSlopePicture_any wn hn a n c cs w hv b1 b2 b3 b4 b5 hl, fun a n c w hv => implSlopePicture_any wn hn a n c cs w hv b1 b2 b3 b4 b5 hl, by rw [gridL_len]; first | exact b5 | (rw [Nat.mul_comm]; exact b5)⟩
  | false =>
    refine ⟨0, 0, [], false, fun a n c w hv => ?_, fun a n c w hv => ?_, by simp⟩
    · obtain ⟨rfl, h1, h2⟩ := hv.sized
      exact specSlopePicture_no W H a _ c w h1 h2 hval
    · obtain ⟨rfl, h1, h2⟩ := hv.sized
      exact implSlopePicture_no W H a _ c w h1 h2 hval
theorem specDoublePicture_no (W H : Int) (a : Option Addr) (n c : Nat) (w : World) (hnc : n ≤ c) (hcm : c ≤ maxLen) (W' H' : Int) (hval : validB W H n = false ∨ sizeB W' H' = false) :
    Calls Try.prog 26 #[.agg #[.int .i64 W, .int .i64 H, .slice a n c], .int .i64 W', .int .i64 H'] w (RPic 52 0 0 [] false w) := by
  have h1 := fun w1 hp => specIs_any W H a n c w.heap.size w1 hp (by unfold maxLen at hcm; omega)
  cases hv : validB W H n with
  | false =>
    have hv := Lib.hid hv
    go_enter Try.func26, Try.ntmps26
    go_wp2_with fail
    refine (h1 _ ((Pv.new _ _ _ _ _).alloc _)).mono ?_
    rintro e w1 ⟨k, rfl, rfl⟩
    rw [hv.out]
    go_wp2_with fail
    refine bodyPost_ret (v := ?v) ?hr rfl ?post
    case hr => (simp [results, Try.results26, go_sem]; try rfl)
    case post => exact ⟨_, _, _, rfl, by ((repeat' (first | exact Below.refl _ _ | assumption | (refine bel_set ?_ ?_ _) | (refine bel_al ?_ ?_ _) | (refine below_drewN ?_ _) | (refine Below.drew ?_))) <;> (first | omega | (simp; done) | (simp; omega))), OC.nil _ _ _⟩
  | true =>
    have hs : sizeB W' H' = false := by rcases hval with h | h; · rw [h] at hv; cases hv
                                        · exact h
    have hv := Lib.hid hv
    have hs := Lib.hid hs
    go_enter Try.func26, Try.ntmps26
    go_wp2_with fail
    refine (h1 _ ((Pv.new _ _ _ _ _).alloc _)).mono ?_
    rintro e w1 ⟨k, rfl, rfl⟩
    rw [hv.out]
    go_wp2_with fail
    refine (specSize_any _ _ _).mono ?_
    rintro e w1 ⟨rfl, rfl⟩
    rw [hs.out]
    go_wp2_with fail
    refine bodyPost_ret (v := ?v) ?hr rfl ?post
    case hr => (simp [results, Try.results26, go_sem]; try rfl)
    case post => exact ⟨_, _, _, rfl, by ((repeat' (first | exact Below.refl _ _ | assumption | (refine bel_set ?_ ?_ _) | (refine bel_al ?_ ?_ _) | (refine below_drewN ?_ _) | (refine Below.drew ?_))) <;> (first | omega | (simp; done) | (simp; omega))), OC.nil _ _ _⟩
theorem pairDoublePicture (W H : Int) (cs : List Nat) (x y : Int) :
    ∃ (W' H' : Int) (cs' : List Nat) (ok : Bool),
      (∀ a n c w, FC w (.slice a n c) cs → Calls Try.prog 26 #[.agg #[.int .i64 W, .int .i64 H, .slice a n c], .int .i64 x, .int .i64 y] w (RPic 52 W' H' cs' ok w)) ∧
      (∀ a n c w, FC w (.slice a n c) cs → Calls Try.prog 27 #[.agg #[.int .i64 W, .int .i64 H, .slice a n c], .int .i64 x, .int .i64 y] w (RPic 52 W' H' cs' ok w)) ∧ cs'.length ≤ 256 := by
  by_cases hg : validB W H cs.length = true ∧ sizeB x y = true
  · obtain ⟨hval, hs⟩ := hg
    obtain ⟨wn, hn, rfl, rfl, b1, b2, b3, b4, b5, hl⟩ := validB_parts hval
    have hx : validB x y (x * y).toNat = true := by
      have := sizeB_iff.1 hs
      have h0 := area_lo this.1 this.2.2.1
      unfold validB; rw [hs]; simp; omega
    obtain ⟨xn, yn, rfl, rfl, d1, d2, d3, d4, d5, _⟩ := validB_parts hx
    exact ⟨_, _, _, _, fun a n c w hv => specDoublePicture_any wn hn a n c cs w hv b1 b2 b3 b4 b5 hl xn yn d1 d2 d3 d4 d5, fun a n c w hv => implDoublePicture_any wn hn a n c cs w hv b1 b2 b3 b4 b5 hl xn yn d1 d2 d3 d4 d5, by rw [gridL_len]; exact d5⟩
  · have hg' : validB W H cs.length = false ∨ sizeB x y = false := by
      cases h1 : validB W H cs.length
      · exact .inl rfl
      · cases h2 : sizeB x y
        · exact .inr rfl
        · exact absurd ⟨h1, h2⟩ hg
    refine ⟨0, 0, [], false, fun a n c w hv => ?_, fun a n c w hv => ?_, by simp⟩
    · obtain ⟨rfl, h1, h2⟩ := hv.sized
      exact specDoublePicture_no W H a _ c w h1 h2 x y hg'
    · obtain ⟨rfl, h1, h2⟩ := hv.sized
      exact implDoublePicture_no W H a _ c w h1 h2 x y hg'

end Go.Proofs.Ytdgpjpabhbifbab
