import Derived.Test.YtdgpjpabhbifbaaPl
import Derived.Test.YtdgpjpabhbifbaaPn
import Derived.Test.YtdgpjpabhbifbaaPi
set_option linter.unusedVariables false
set_option linter.unusedSimpArgs false
namespace Go.Proofs.Ytdgpjpabhbifbaa
open Go.FX Go.RowKit Go.WideShapes Go.ChangeShapes

set_option maxHeartbeats 1000000 in
theorem specMirrorPicture_any (W H : Nat) (a : Option Addr) (n c : Nat) (cs : List Nat) (w : World) (hv : FC w (.slice a n c) cs) (b1 : 1 ≤ W) (b2 : W ≤ 24) (b3 : 1 ≤ H) (b4 : H ≤ 24) (b5 : H * W ≤ 256) (hl : cs.length = H * W) :
    Calls Try.prog 31 #[.agg #[.int .i64 W, .int .i64 H, .slice a n c]] w (RPic 32 W H (gridL W (fun x y => atC W H cs ((W : Int) - 1 - x) y) (H * W)) true w) := by
  obtain ⟨rfl, hnc, hcm⟩ := hv.sized
  have hval := validB_mk b1 b2 b3 b4 b5 hl
  have h1 := fun w1 hp => specIs_any W H a cs.length c w.heap.size w1 hp (by unfold maxLen at hcm; omega)
  have h2 := fun w1 (hb : Below w.heap.size w w1) hp => specMirror_any W H a cs.length c w.heap.size cs w1 hp (hv.below hb) b1 b2 b3 b4 b5 hl
  have hval := Lib.hid hval
  clear hl
  go_enter Try.func31, Try.ntmps31
  go_wp2_with (first
    | (go_at_call 46; refine (h1 _ ((Pv.new _ _ _ _ _).alloc _)).mono ?_; rintro e w1 ⟨k, rfl, rfl⟩; rw [hval.out])
    | (go_at_call 64; refine (h2 _ (by ((repeat' (first | exact Below.refl _ _ | assumption | (refine bel_set ?_ ?_ _) | (refine bel_al ?_ ?_ _) | (refine below_drewN ?_ _) | (refine Below.drew ?_))) <;> (first | omega | (simp; done) | (simp; omega)))) (((Pv.new _ _ _ _ _).alloc _).drewN _)).mono ?_; rintro e w2 ⟨a2, n2, c2, rfl, hb2, ho2⟩; obtain ⟨l1, q0, q1, q2, qf⟩ := ((Nv.new (w.alloc (.cells #[.int .i64 W, .int .i64 H, .slice a cs.length c] 27)) (.int .i64 0) (.int .i64 0) (.slice none 0 0) 27).drewN k).below hb2; simp only [World.size_alloc] at l1 q0 q1 q2 qf))
  refine bodyPost_ret (v := ?v) ?hr rfl ?post
  case hr => (simp [results, Try.results31, go_sem, q0, q1, q2, qf]; try rfl)
  case post =>
    refine ⟨_, _, _, rfl, ?_, ?_⟩
    · ((repeat' (first | exact Below.refl _ _ | assumption | (refine bel_set ?_ ?_ _) | (refine bel_al ?_ ?_ _) | (refine below_drewN ?_ _) | (refine Below.drew ?_) | (refine Below.trans ?_ (Below.mono hb2 ?_)))) <;> (first | omega | (simp; done) | (simp; omega)))
    · (refine OC.mono (base := ?bb) ?hh ?hl; (case hh => ((repeat' (first | exact ho2 | (refine OC.set ?_ _ ?_) | (refine OC.alloc ?_ _) | (refine OC.drewN ?_ _))) <;> (first | omega | (simp; done) | (simp; omega)))); (case hl => (first | omega | (simp; done) | (simp; omega))))
theorem specMirrorPicture_no (W H : Int) (a : Option Addr) (n c : Nat) (w : World) (hnc : n ≤ c) (hcm : c ≤ maxLen) (hval : validB W H n = false) :
    Calls Try.prog 31 #[.agg #[.int .i64 W, .int .i64 H, .slice a n c]] w (RPic 32 0 0 [] false w) := by
  have h1 := fun w1 hp => specIs_any W H a n c w.heap.size w1 hp (by unfold maxLen at hcm; omega)
  have hval := Lib.hid hval
  go_enter Try.func31, Try.ntmps31
  go_wp2_with fail
  refine (h1 _ ((Pv.new _ _ _ _ _).alloc _)).mono ?_
  rintro e w1 ⟨k, rfl, rfl⟩
  rw [hval.out]
  go_wp2_with fail
  refine bodyPost_ret (v := ?v) ?hr rfl ?post
  case hr => (simp [results, Try.results31, go_sem]; try rfl)
  case post => exact ⟨_, _, _, rfl, by ((repeat' (first | exact Below.refl _ _ | assumption | (refine bel_set ?_ ?_ _) | (refine bel_al ?_ ?_ _) | (refine below_drewN ?_ _) | (refine Below.drew ?_))) <;> (first | omega | (simp; done) | (simp; omega))), OC.nil _ _ _⟩
/-- Of each picture both answer one and the same. -/
theorem pairMirrorPicture (W H : Int) (cs : List Nat) :
    ∃ (W' H' : Int) (cs' : List Nat) (ok : Bool),
      (∀ a n c w, FC w (.slice a n c) cs → Calls Try.prog 31 #[.agg #[.int .i64 W, .int .i64 H, .slice a n c]] w (RPic 32 W' H' cs' ok w)) ∧
      (∀ a n c w, FC w (.slice a n c) cs → Calls Try.prog 32 #[.agg #[.int .i64 W, .int .i64 H, .slice a n c]] w (RPic 32 W' H' cs' ok w)) ∧ cs'.length ≤ 256 := by
  cases hval : validB W H cs.length with
  | true =>
    obtain ⟨wn, hn, rfl, rfl, b1, b2, b3, b4, b5, hl⟩ := validB_parts hval
    exact ⟨_, _, _, _, fun a n c w hv => specMirrorPicture_any wn hn a n c cs w hv b1 b2 b3 b4 b5 hl, fun a n c w hv => implMirrorPicture_any wn hn a n c cs w hv b1 b2 b3 b4 b5 hl, by rw [gridL_len]; first | exact b5 | (rw [Nat.mul_comm]; exact b5)⟩
  | false =>
    refine ⟨0, 0, [], false, fun a n c w hv => ?_, fun a n c w hv => ?_, by simp⟩
    · obtain ⟨rfl, h1, h2⟩ := hv.sized
      exact specMirrorPicture_no W H a _ c w h1 h2 hval
    · obtain ⟨rfl, h1, h2⟩ := hv.sized
      exact implMirrorPicture_no W H a _ c w h1 h2 hval
theorem specFlipPicture_no (W H : Int) (a : Option Addr) (n c : Nat) (w : World) (hnc : n ≤ c) (hcm : c ≤ maxLen) (hval : validB W H n = false) :
    Calls Try.prog 33 #[.agg #[.int .i64 W, .int .i64 H, .slice a n c]] w (RPic 32 0 0 [] false w) := by
  have h1 := fun w1 hp => specIs_any W H a n c w.heap.size w1 hp (by unfold maxLen at hcm; omega)
  have hval := Lib.hid hval
  go_enter Try.func33, Try.ntmps33
  go_wp2_with fail
  refine (h1 _ ((Pv.new _ _ _ _ _).alloc _)).mono ?_
  rintro e w1 ⟨k, rfl, rfl⟩
  rw [hval.out]
  go_wp2_with fail
  refine bodyPost_ret (v := ?v) ?hr rfl ?post
  case hr => (simp [results, Try.results33, go_sem]; try rfl)
  case post => exact ⟨_, _, _, rfl, by ((repeat' (first | exact Below.refl _ _ | assumption | (refine bel_set ?_ ?_ _) | (refine bel_al ?_ ?_ _) | (refine below_drewN ?_ _) | (refine Below.drew ?_))) <;> (first | omega | (simp; done) | (simp; omega))), OC.nil _ _ _⟩
/-- Of each picture both answer one and the same. -/
theorem pairFlipPicture (W H : Int) (cs : List Nat) :
    ∃ (W' H' : Int) (cs' : List Nat) (ok : Bool),
      (∀ a n c w, FC w (.slice a n c) cs → Calls Try.prog 33 #[.agg #[.int .i64 W, .int .i64 H, .slice a n c]] w (RPic 32 W' H' cs' ok w)) ∧
      (∀ a n c w, FC w (.slice a n c) cs → Calls Try.prog 34 #[.agg #[.int .i64 W, .int .i64 H, .slice a n c]] w (RPic 32 W' H' cs' ok w)) ∧ cs'.length ≤ 256 := by
  cases hval : validB W H cs.length with
  | true =>
    obtain ⟨wn, hn, rfl, rfl, b1, b2, b3, b4, b5, hl⟩ := validB_parts hval
    exact ⟨_, _, _, _, fun a n c w hv => specFlipPicture_any wn hn a n c cs w hv b1 b2 b3 b4 b5 hl, fun a n c w hv => implFlipPicture_any wn hn a n c cs w hv b1 b2 b3 b4 b5 hl, by rw [gridL_len]; first | exact b5 | (rw [Nat.mul_comm]; exact b5)⟩
  | false =>
    refine ⟨0, 0, [], false, fun a n c w hv => ?_, fun a n c w hv => ?_, by simp⟩
    · obtain ⟨rfl, h1, h2⟩ := hv.sized
      exact specFlipPicture_no W H a _ c w h1 h2 hval
    · obtain ⟨rfl, h1, h2⟩ := hv.sized
      exact implFlipPicture_no W H a _ c w h1 h2 hval
theorem specSwapPicture_no (W H : Int) (a : Option Addr) (n c : Nat) (w : World) (hnc : n ≤ c) (hcm : c ≤ maxLen) (hval : validB W H n = false) :
    Calls Try.prog 35 #[.agg #[.int .i64 W, .int .i64 H, .slice a n c]] w (RPic 32 0 0 [] false w) := by
  have h1 := fun w1 hp => specIs_any W H a n c w.heap.size w1 hp (by unfold maxLen at hcm; omega)
  have hval := Lib.hid hval
  go_enter Try.func35, Try.ntmps35
  go_wp2_with fail
  refine (h1 _ ((Pv.new _ _ _ _ _).alloc _)).mono ?_
  rintro e w1 ⟨k, rfl, rfl⟩
  rw [hval.out]
  go_wp2_with fail
  refine bodyPost_ret (v := ?v) ?hr rfl ?post
  case hr => (simp [results, Try.results35, go_sem]; try rfl)
  case post => exact ⟨_, _, _, rfl, by ((repeat' (first | exact Below.refl _ _ | assumption | (refine bel_set ?_ ?_ _) | (refine bel_al ?_ ?_ _) | (refine below_drewN ?_ _) | (refine Below.drew ?_))) <;> (first | omega | (simp; done) | (simp; omega))), OC.nil _ _ _⟩
/-- Of each picture both answer one and the same. -/
theorem pairSwapPicture (W H : Int) (cs : List Nat) :
    ∃ (W' H' : Int) (cs' : List Nat) (ok : Bool),
      (∀ a n c w, FC w (.slice a n c) cs → Calls Try.prog 35 #[.agg #[.int .i64 W, .int .i64 H, .slice a n c]] w (RPic 32 W' H' cs' ok w)) ∧
      (∀ a n c w, FC w (.slice a n c) cs → Calls Try.prog 36 #[.agg #[.int .i64 W, .int .i64 H, .slice a n c]] w (RPic 32 W' H' cs' ok w)) ∧ cs'.length ≤ 256 := by
  cases hval : validB W H cs.length with
  | true =>
    obtain ⟨wn, hn, rfl, rfl, b1, b2, b3, b4, b5, hl⟩ := validB_parts hval
    exact ⟨_, _, _, _, fun a n c w hv => specSwapPicture_any wn hn a n c cs w hv b1 b2 b3 b4 b5 hl, fun a n c w hv => implSwapPicture_any wn hn a n c cs w hv b1 b2 b3 b4 b5 hl, by rw [gridL_len]; first | exact b5 | (rw [Nat.mul_comm]; exact b5)⟩
  | false =>
    refine ⟨0, 0, [], false, fun a n c w hv => ?_, fun a n c w hv => ?_, by simp⟩
    · obtain ⟨rfl, h1, h2⟩ := hv.sized
      exact specSwapPicture_no W H a _ c w h1 h2 hval
    · obtain ⟨rfl, h1, h2⟩ := hv.sized
      exact implSwapPicture_no W H a _ c w h1 h2 hval
theorem specIn_any (n lo hi : Int) (w : World) : Calls Try.prog 69 #[.int .i64 n, .int .i64 lo, .int .i64 hi] w fun e w' => e = .returned (.bool (decide (lo ≤ n ∧ n ≤ hi))) ∧ w = w' := by
  by_cases h1 : lo ≤ n
  · by_cases h2 : n ≤ hi
    all_goals
      go_enter Try.func69, Try.ntmps69
      go_wp2
      go_ret
      exact ⟨by simp [h1, h2], rfl⟩
  · go_enter Try.func69, Try.ntmps69
    go_wp2
    go_ret
    exact ⟨by simp; intros; omega, rfl⟩
set_option maxHeartbeats 1000000 in
theorem specShiftPicture_any (W H : Nat) (a : Option Addr) (n c : Nat) (cs : List Nat) (w : World) (hv : FC w (.slice a n c) cs) (b1 : 1 ≤ W) (b2 : W ≤ 24) (b3 : 1 ≤ H) (b4 : H ≤ 24) (b5 : H * W ≤ 256) (hl : cs.length = H * W) (by_ : Int) (e1 : -24 ≤ by_) (e2 : by_ ≤ 24) :
    Calls Try.prog 37 #[.agg #[.int .i64 W, .int .i64 H, .slice a n c], .int .i64 by_] w (RPic 32 W H (gridL W (fun x y => atC W H cs (x + by_) y) (H * W)) true w) := by
  obtain ⟨rfl, hnc, hcm⟩ := hv.sized
  have hval := Lib.hid (validB_mk b1 b2 b3 b4 b5 hl)
  have h1 := fun w1 hp => specIs_any W H a cs.length c w.heap.size w1 hp (by unfold maxLen at hcm; omega)
  have h2 := fun w1 (hb : Below w.heap.size w w1) hp => specShift0_any W H a cs.length c w.heap.size cs w1 hp (hv.below hb) b1 b2 b3 b4 b5 hl by_ e1 e2
  have hin := Lib.hid (show decide (-24 ≤ by_ ∧ by_ ≤ 24) = true by simp [e1, e2])
  clear hl
  go_enter Try.func37, Try.ntmps37
  go_wp2_with fail
  refine (h1 _ ((Pv.new _ _ _ _ _).alloc _)).mono ?_
  rintro e w1 ⟨k, rfl, rfl⟩
  rw [hval.out]
  go_wp2_with fail
  refine (specIn_any _ _ _ _).mono ?_
  rintro e w1 ⟨rfl, rfl⟩
  rw [hin.out]
  go_wp2_with fail
  refine (h2 _ (by ((repeat' (first | exact Below.refl _ _ | assumption | (refine bel_set ?_ ?_ _) | (refine bel_al ?_ ?_ _) | (refine below_drewN ?_ _) | (refine Below.drew ?_))) <;> (first | omega | (simp; done) | (simp; omega)))) (((Pv.new _ _ _ _ _).alloc _).drewN _)).mono ?_
  rintro e w2 ⟨a2, n2, c2, rfl, hb2, ho2⟩
  obtain ⟨l1, q0, q1, q2, qf⟩ := ((Nv.new (w.alloc (.cells #[.int .i64 W, .int .i64 H, .slice a cs.length c] 27)) (.int .i64 0) (.int .i64 0) (.slice none 0 0) 27).drewN k).below hb2
  simp only [World.size_alloc] at l1 q0 q1 q2 qf
  go_wp2_with fail
  refine bodyPost_ret (v := ?v) ?hr rfl ?post
  case hr => (simp [results, Try.results37, go_sem, q0, q1, q2, qf]; try rfl)
  case post =>
    refine ⟨_, _, _, rfl, ?_, ?_⟩
    · ((repeat' (first | exact Below.refl _ _ | assumption | (refine bel_set ?_ ?_ _) | (refine bel_al ?_ ?_ _) | (refine below_drewN ?_ _) | (refine Below.drew ?_) | (refine Below.trans ?_ (Below.mono hb2 ?_)))) <;> (first | omega | (simp; done) | (simp; omega)))
    · (refine OC.mono (base := ?bb) ?hh ?hl; (case hh => ((repeat' (first | exact ho2 | (refine OC.set ?_ _ ?_) | (refine OC.alloc ?_ _) | (refine OC.drewN ?_ _))) <;> (first | omega | (simp; done) | (simp; omega)))); (case hl => (first | omega | (simp; done) | (simp; omega))))
theorem specShiftPicture_no1 (W H : Int) (a : Option Addr) (n c : Nat) (w : World) (hnc : n ≤ c) (hcm : c ≤ maxLen) (by_ : Int) (hval : validB W H n = false) :
    Calls Try.prog 37 #[.agg #[.int .i64 W, .int .i64 H, .slice a n c], .int .i64 by_] w (RPic 32 0 0 [] false w) := by
  have h1 := fun w1 hp => specIs_any W H a n c w.heap.size w1 hp (by unfold maxLen at hcm; omega)
  have hval := Lib.hid hval
  go_enter Try.func37, Try.ntmps37
  go_wp2_with fail
  refine (h1 _ ((Pv.new _ _ _ _ _).alloc _)).mono ?_
  rintro e w1 ⟨k, rfl, rfl⟩
  rw [hval.out]
  go_wp2_with fail
  refine bodyPost_ret (v := ?v) ?hr rfl ?post
  case hr => (simp [results, Try.results37, go_sem]; try rfl)
  case post => exact ⟨_, _, _, rfl, by ((repeat' (first | exact Below.refl _ _ | assumption | (refine bel_set ?_ ?_ _) | (refine bel_al ?_ ?_ _) | (refine below_drewN ?_ _) | (refine Below.drew ?_))) <;> (first | omega | (simp; done) | (simp; omega))), OC.nil _ _ _⟩
theorem specShiftPicture_no2 (W H : Int) (a : Option Addr) (n c : Nat) (w : World) (hnc : n ≤ c) (hcm : c ≤ maxLen) (by_ : Int) (hval : validB W H n = true) (hby : ¬ (-24 ≤ by_ ∧ by_ ≤ 24)) :
    Calls Try.prog 37 #[.agg #[.int .i64 W, .int .i64 H, .slice a n c], .int .i64 by_] w (RPic 32 0 0 [] false w) := by
  have h1 := fun w1 hp => specIs_any W H a n c w.heap.size w1 hp (by unfold maxLen at hcm; omega)
  have hval := Lib.hid hval
  have hin := Lib.hid (decide_eq_false hby)
  clear hby
  go_enter Try.func37, Try.ntmps37
  go_wp2_with fail
  refine (h1 _ ((Pv.new _ _ _ _ _).alloc _)).mono ?_
  rintro e w1 ⟨k, rfl, rfl⟩
  rw [hval.out]
  go_wp2_with fail
  refine (specIn_any _ _ _ _).mono ?_
  rintro e w1 ⟨rfl, rfl⟩
  rw [hin.out]
  go_wp2_with fail
  refine bodyPost_ret (v := ?v) ?hr rfl ?post
  case hr => (simp [results, Try.results37, go_sem]; try rfl)
  case post => exact ⟨_, _, _, rfl, by ((repeat' (first | exact Below.refl _ _ | assumption | (refine bel_set ?_ ?_ _) | (refine bel_al ?_ ?_ _) | (refine below_drewN ?_ _) | (refine Below.drew ?_))) <;> (first | omega | (simp; done) | (simp; omega))), OC.nil _ _ _⟩
theorem pairShiftPicture (W H : Int) (cs : List Nat) (x : Int) :
    ∃ (W' H' : Int) (cs' : List Nat) (ok : Bool),
      (∀ a n c w, FC w (.slice a n c) cs → Calls Try.prog 37 #[.agg #[.int .i64 W, .int .i64 H, .slice a n c], .int .i64 x] w (RPic 32 W' H' cs' ok w)) ∧
      (∀ a n c w, FC w (.slice a n c) cs → Calls Try.prog 38 #[.agg #[.int .i64 W, .int .i64 H, .slice a n c], .int .i64 x] w (RPic 32 W' H' cs' ok w)) ∧ cs'.length ≤ 256 := by
  cases hval : validB W H cs.length with
  | true =>
    by_cases hx : -24 ≤ x ∧ x ≤ 24
    · obtain ⟨wn, hn, rfl, rfl, b1, b2, b3, b4, b5, hl⟩ := validB_parts hval
      exact ⟨_, _, _, _, fun a n c w hv => specShiftPicture_any wn hn a n c cs w hv b1 b2 b3 b4 b5 hl x hx.1 hx.2, fun a n c w hv => implShiftPicture_any wn hn a n c cs w hv b1 b2 b3 b4 b5 hl x hx.1 hx.2, by rw [gridL_len]; exact b5⟩
    · refine ⟨0, 0, [], false, fun a n c w hv => ?_, fun a n c w hv => ?_, by simp⟩
      · obtain ⟨rfl, h1, h2⟩ := hv.sized
        exact specShiftPicture_no2 W H a _ c w h1 h2 x hval hx
      · obtain ⟨rfl, h1, h2⟩ := hv.sized
        exact implShiftPicture_no W H a _ c w h1 h2 x (.inr hx)
  | false =>
    refine ⟨0, 0, [], false, fun a n c w hv => ?_, fun a n c w hv => ?_, by simp⟩
    · obtain ⟨rfl, h1, h2⟩ := hv.sized
      exact specShiftPicture_no1 W H a _ c w h1 h2 x hval
    · obtain ⟨rfl, h1, h2⟩ := hv.sized
      exact implShiftPicture_no W H a _ c w h1 h2 x (.inl hval)

end Go.Proofs.Ytdgpjpabhbifbaa
