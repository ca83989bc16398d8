import Derived.Test.YtbiobmdibiplfaaWi
set_option linter.unusedVariables false
set_option linter.unusedSimpArgs false
namespace Go.Proofs.Ytbiobmdibiplfaa
open Go.FX Go.RowKit Go.WideShapes Go.ChangeShapes
attribute [local go_sem ↓] Go.wp_at_zero Go.wp_at_succ
theorem tell_cells (W H D : Nat) (cs : List Nat) (V : List Nat → Nat) (b1 : 1 ≤ W) : gridL W (tellG W D cs V) (H * W) = seqL (fun i => V (rowC D cs i)) (H * W) := by
  rw [gridL_seq]
  refine seqL_congr fun i hi => ?_
  unfold tellG
  simp only [Int.toNat_natCast]
  rw [Nat.mul_comm, Nat.div_add_mod]
set_option maxHeartbeats 4000000 in
theorem tellWinners_no (W H D : Int) (a : Option Addr) (n c : Nat) (f : Fn) (first cap : Array Value) (w : World) (hnc : n ≤ c) (hcm : c ≤ maxLen) (hval : volB W H D n = false) :
    Calls Try.prog 82 #[.agg #[.int .i64 W, .int .i64 H, .int .i64 D, .slice a n c], .func f first cap] w (RPic 49 0 0 [] false w) := by
  have hval := Lib.hid hval
  go_enter Try.func82, Try.ntmps82
  go_wp2_with fail
  refine (validVol_any _ _ _ _ n _ ⟨a, c, rfl, hnc, hcm⟩).mono ?_
  rintro e w1 ⟨rfl, hb1⟩
  rw [hval.out]
  have hn := (Nv.new _ _ _ _ _).below hb1
  have s1 := hb1.size
  simp only [World.size_alloc] at hn s1
  obtain ⟨l1, q0, q1, q2, qf⟩ := id hn
  go_wp2_with fail
  refine bodyPost_ret (v := ?v) ?hr rfl ?post
  case hr => (simp [results, Try.results82, go_sem, q0, q1, q2, qf]; try rfl)
  case post => exact ⟨_, _, _, rfl, by ((repeat' (first | (refine bel_set ?_ ?_ _) | (refine bel_al ?_ ?_ _) | exact Below.refl _ _ | assumption | (refine below_drewN ?_ _) | (refine Below.drew ?_) | (refine Below.trans ?_ (Below.mono hb1 ?_)))) <;> (first | omega | (simp; done) | (simp; omega))), OC.nil _ _ _⟩
set_option maxHeartbeats 2000000 in
theorem implWinnersOf_of (W H D : Int) (a : Option Addr) (n c : Nat) (W' H' : Int) (cs' : List Nat) (ok : Bool) (w : World)
    (h : ∀ w1, Below w.heap.size w w1 → Calls Try.prog 82 #[.agg #[.int .i64 W, .int .i64 H, .int .i64 D, .slice a n c], .func (.func 83) #[] #[]] w1 (RPic 49 W' H' cs' ok w1)) :
    Calls Try.prog 40 #[.agg #[.int .i64 W, .int .i64 H, .int .i64 D, .slice a n c]] w (RPic 49 W' H' cs' ok w) := by
  go_enter Try.func40, Try.ntmps40
  go_wp2_with fail
  refine (h _ (by ((repeat' (first | (refine bel_set ?_ ?_ _) | (refine bel_al ?_ ?_ _) | exact Below.refl _ _ | assumption | (refine below_drewN ?_ _) | (refine Below.drew ?_))) <;> (first | omega | (simp; done) | (simp; omega))))).mono ?_
  rintro e w1 ⟨a1, n1, c1, rfl, hb1, ho1⟩
  have hn := (Nv.new _ _ _ _ _).below hb1
  have s1 := hb1.size
  simp only [World.size_alloc] at hn s1
  obtain ⟨l1, q0, q1, q2, qf⟩ := id hn
  go_wp2_with fail
  refine bodyPost_ret (v := ?v) ?hr rfl ?post
  case hr => (simp [results, Try.results40, go_sem, q0, q1, q2, qf]; try rfl)
  case post =>
    refine ⟨_, _, _, rfl, ?_, ?_⟩
    · ((repeat' (first | (refine bel_set ?_ ?_ _) | (refine bel_al ?_ ?_ _) | exact Below.refl _ _ | assumption | (refine below_drewN ?_ _) | (refine Below.drew ?_) | (refine Below.trans ?_ (Below.mono hb1 ?_)))) <;> (first | omega | (simp; done) | (simp; omega)))
    · (refine OC.mono (base := ?bb) ?hh ?hl; (case hh => ((repeat' (first | (refine OC.set ?_ _ ?_) | (refine OC.alloc ?_ _) | exact ho1 | (refine OC.drewN ?_ _))) <;> (first | omega | (simp; done) | (simp; omega)))); (case hl => (first | omega | (simp; done) | (simp; omega))))
theorem specWinnersOf_no (W H D : Int) (a : Option Addr) (n c : Nat) (w : World) (hcm : c ≤ maxLen) (hnc : n ≤ c) (hv : volB W H D n = false) :
    Calls Try.prog 39 #[.agg #[.int .i64 W, .int .i64 H, .int .i64 D, .slice a n c]] w (RPic 49 0 0 [] false w) := by
  have h1 := fun w1 hp => specVIs_any W H D a n c w.heap.size w1 hp (by unfold maxLen at hcm; omega)
  have hv := Lib.hid hv
  go_enter Try.func39, Try.ntmps39
  go_wp2_with fail
  refine (h1 _ ((Pw.new _ _ _ _ _ _).alloc _)).mono ?_
  rintro e w1 ⟨k, rfl, rfl⟩
  rw [hv.out]
  go_wp2_with fail
  refine bodyPost_ret (v := ?v) ?hr rfl ?post
  case hr => (simp [results, Try.results39, go_sem]; try rfl)
  case post => exact ⟨_, _, _, rfl, by ((repeat' (first | (refine bel_set ?_ ?_ _) | (refine bel_al ?_ ?_ _) | exact Below.refl _ _ | assumption | (refine below_drewN ?_ _) | (refine Below.drew ?_))) <;> (first | omega | (simp; done) | (simp; omega))), OC.nil _ _ _⟩
/-- Both sides, when the function told of a cell and the specification's answer are known. -/
theorem pairWinnersOf_of (V : List Nat → Nat)
    (hT : ∀ D w, TellFn Try.prog 83 #[] #[] D V w)
    (hS : ∀ (W H D : Nat) (a : Option Addr) (n c : Nat) (cs : List Nat) (w : World), FC w (.slice a n c) cs → 1 ≤ W → W ≤ 24 → 1 ≤ H → H ≤ 24 → H * W ≤ 256 → 1 ≤ D → D ≤ 8 → cs.length = H * W * D → Calls Try.prog 39 #[.agg #[.int .i64 W, .int .i64 H, .int .i64 D, .slice a n c]] w (RPic 49 W H (seqL (fun i => V (rowC D cs i)) (H * W)) true w))
    (W H D : Int) (cs : List Nat) :
    ∃ (W' H' : Int) (cs' : List Nat) (ok : Bool),
      (∀ a n c w, FC w (.slice a n c) cs → Calls Try.prog 39 #[.agg #[.int .i64 W, .int .i64 H, .int .i64 D, .slice a n c]] w (RPic 49 W' H' cs' ok w)) ∧
      (∀ a n c w, FC w (.slice a n c) cs → Calls Try.prog 40 #[.agg #[.int .i64 W, .int .i64 H, .int .i64 D, .slice a n c]] w (RPic 49 W' H' cs' ok w)) ∧ cs'.length ≤ 256 := by
  cases hv : volB W H D cs.length with
  | false =>
    refine ⟨0, 0, [], false, fun a n c w hv' => ?_, fun a n c w hv' => ?_, by simp⟩
    · obtain ⟨rfl, h1, h2⟩ := hv'.sized
      exact specWinnersOf_no W H D a _ c w h2 h1 hv
    · obtain ⟨rfl, h1, h2⟩ := hv'.sized
      exact implWinnersOf_of _ _ _ _ _ _ _ _ _ _ w fun w1 _ => tellWinners_no W H D a _ c _ _ _ w1 h1 h2 hv
  | true =>
    obtain ⟨Wn, Hn, Dn, rfl, rfl, rfl, b1, b2, b3, b4, b5, d1, d2, hl⟩ := volB_parts hv
    refine ⟨_, _, _, _, fun a n c w hv => hS Wn Hn Dn a n c cs w hv b1 b2 b3 b4 b5 d1 d2 hl, fun a n c w hv => ?_, by rw [seqL_len]; exact b5⟩
    rw [← tell_cells Wn Hn Dn cs V b1]
    exact implWinnersOf_of _ _ _ _ _ _ _ _ _ _ w fun w1 hb => tellWinners_any Wn Hn Dn a n c cs _ _ _ V w1 (hv.below hb) b1 b2 b3 b4 b5 d1 d2 hl (enters_of Try.func83 (by kernel_rfl) rfl) (hT _ _)
set_option maxHeartbeats 2000000 in
theorem implLeastCosts_of (W H D : Int) (a : Option Addr) (n c : Nat) (W' H' : Int) (cs' : List Nat) (ok : Bool) (w : World)
    (h : ∀ w1, Below w.heap.size w w1 → Calls Try.prog 82 #[.agg #[.int .i64 W, .int .i64 H, .int .i64 D, .slice a n c], .func (.func 87) #[] #[]] w1 (RPic 49 W' H' cs' ok w1)) :
    Calls Try.prog 45 #[.agg #[.int .i64 W, .int .i64 H, .int .i64 D, .slice a n c]] w (RPic 49 W' H' cs' ok w) := by
  go_enter Try.func45, Try.ntmps45
  go_wp2_with fail
  refine (h _ (by ((repeat' (first | (refine bel_set ?_ ?_ _) | (refine bel_al ?_ ?_ _) | exact Below.refl _ _ | assumption | (refine below_drewN ?_ _) | (refine Below.drew ?_))) <;> (first | omega | (simp; done) | (simp; omega))))).mono ?_
  rintro e w1 ⟨a1, n1, c1, rfl, hb1, ho1⟩
  have hn := (Nv.new _ _ _ _ _).below hb1
  have s1 := hb1.size
  simp only [World.size_alloc] at hn s1
  obtain ⟨l1, q0, q1, q2, qf⟩ := id hn
  go_wp2_with fail
  refine bodyPost_ret (v := ?v) ?hr rfl ?post
  case hr => (simp [results, Try.results45, go_sem, q0, q1, q2, qf]; try rfl)
  case post =>
    refine ⟨_, _, _, rfl, ?_, ?_⟩
    · ((repeat' (first | (refine bel_set ?_ ?_ _) | (refine bel_al ?_ ?_ _) | exact Below.refl _ _ | assumption | (refine below_drewN ?_ _) | (refine Below.drew ?_) | (refine Below.trans ?_ (Below.mono hb1 ?_)))) <;> (first | omega | (simp; done) | (simp; omega)))
    · (refine OC.mono (base := ?bb) ?hh ?hl; (case hh => ((repeat' (first | (refine OC.set ?_ _ ?_) | (refine OC.alloc ?_ _) | exact ho1 | (refine OC.drewN ?_ _))) <;> (first | omega | (simp; done) | (simp; omega)))); (case hl => (first | omega | (simp; done) | (simp; omega))))
theorem specLeastCosts_no (W H D : Int) (a : Option Addr) (n c : Nat) (w : World) (hcm : c ≤ maxLen) (hnc : n ≤ c) (hv : volB W H D n = false) :
    Calls Try.prog 44 #[.agg #[.int .i64 W, .int .i64 H, .int .i64 D, .slice a n c]] w (RPic 49 0 0 [] false w) := by
  have h1 := fun w1 hp => specVIs_any W H D a n c w.heap.size w1 hp (by unfold maxLen at hcm; omega)
  have hv := Lib.hid hv
  go_enter Try.func44, Try.ntmps44
  go_wp2_with fail
  refine (h1 _ ((Pw.new _ _ _ _ _ _).alloc _)).mono ?_
  rintro e w1 ⟨k, rfl, rfl⟩
  rw [hv.out]
  go_wp2_with fail
  refine bodyPost_ret (v := ?v) ?hr rfl ?post
  case hr => (simp [results, Try.results44, go_sem]; try rfl)
  case post => exact ⟨_, _, _, rfl, by ((repeat' (first | (refine bel_set ?_ ?_ _) | (refine bel_al ?_ ?_ _) | exact Below.refl _ _ | assumption | (refine below_drewN ?_ _) | (refine Below.drew ?_))) <;> (first | omega | (simp; done) | (simp; omega))), OC.nil _ _ _⟩
/-- Both sides, when the function told of a cell and the specification's answer are known. -/
theorem pairLeastCosts_of (V : List Nat → Nat)
    (hT : ∀ D w, TellFn Try.prog 87 #[] #[] D V w)
    (hS : ∀ (W H D : Nat) (a : Option Addr) (n c : Nat) (cs : List Nat) (w : World), FC w (.slice a n c) cs → 1 ≤ W → W ≤ 24 → 1 ≤ H → H ≤ 24 → H * W ≤ 256 → 1 ≤ D → D ≤ 8 → cs.length = H * W * D → Calls Try.prog 44 #[.agg #[.int .i64 W, .int .i64 H, .int .i64 D, .slice a n c]] w (RPic 49 W H (seqL (fun i => V (rowC D cs i)) (H * W)) true w))
    (W H D : Int) (cs : List Nat) :
    ∃ (W' H' : Int) (cs' : List Nat) (ok : Bool),
      (∀ a n c w, FC w (.slice a n c) cs → Calls Try.prog 44 #[.agg #[.int .i64 W, .int .i64 H, .int .i64 D, .slice a n c]] w (RPic 49 W' H' cs' ok w)) ∧
      (∀ a n c w, FC w (.slice a n c) cs → Calls Try.prog 45 #[.agg #[.int .i64 W, .int .i64 H, .int .i64 D, .slice a n c]] w (RPic 49 W' H' cs' ok w)) ∧ cs'.length ≤ 256 := by
  cases hv : volB W H D cs.length with
  | false =>
    refine ⟨0, 0, [], false, fun a n c w hv' => ?_, fun a n c w hv' => ?_, by simp⟩
    · obtain ⟨rfl, h1, h2⟩ := hv'.sized
      exact specLeastCosts_no W H D a _ c w h2 h1 hv
    · obtain ⟨rfl, h1, h2⟩ := hv'.sized
      exact implLeastCosts_of _ _ _ _ _ _ _ _ _ _ w fun w1 _ => tellWinners_no W H D a _ c _ _ _ w1 h1 h2 hv
  | true =>
    obtain ⟨Wn, Hn, Dn, rfl, rfl, rfl, b1, b2, b3, b4, b5, d1, d2, hl⟩ := volB_parts hv
    refine ⟨_, _, _, _, fun a n c w hv => hS Wn Hn Dn a n c cs w hv b1 b2 b3 b4 b5 d1 d2 hl, fun a n c w hv => ?_, by rw [seqL_len]; exact b5⟩
    rw [← tell_cells Wn Hn Dn cs V b1]
    exact implLeastCosts_of _ _ _ _ _ _ _ _ _ _ w fun w1 hb => tellWinners_any Wn Hn Dn a n c cs _ _ _ V w1 (hv.below hb) b1 b2 b3 b4 b5 d1 d2 hl (enters_of Try.func87 (by kernel_rfl) rfl) (hT _ _)
set_option maxHeartbeats 2000000 in
theorem implMarginsOf_of (W H D : Int) (a : Option Addr) (n c : Nat) (W' H' : Int) (cs' : List Nat) (ok : Bool) (w : World)
    (h : ∀ w1, Below w.heap.size w w1 → Calls Try.prog 82 #[.agg #[.int .i64 W, .int .i64 H, .int .i64 D, .slice a n c], .func (.func 90) #[] #[]] w1 (RPic 49 W' H' cs' ok w1)) :
    Calls Try.prog 47 #[.agg #[.int .i64 W, .int .i64 H, .int .i64 D, .slice a n c]] w (RPic 49 W' H' cs' ok w) := by
  go_enter Try.func47, Try.ntmps47
  go_wp2_with fail
  refine (h _ (by ((repeat' (first | (refine bel_set ?_ ?_ _) | (refine bel_al ?_ ?_ _) | exact Below.refl _ _ | assumption | (refine below_drewN ?_ _) | (refine Below.drew ?_))) <;> (first | omega | (simp; done) | (simp; omega))))).mono ?_
  rintro e w1 ⟨a1, n1, c1, rfl, hb1, ho1⟩
  have hn := (Nv.new _ _ _ _ _).below hb1
  have s1 := hb1.size
  simp only [World.size_alloc] at hn s1
  obtain ⟨l1, q0, q1, q2, qf⟩ := id hn
  go_wp2_with fail
  refine bodyPost_ret (v := ?v) ?hr rfl ?post
  case hr => (simp [results, Try.results47, go_sem, q0, q1, q2, qf]; try rfl)
  case post =>
    refine ⟨_, _, _, rfl, ?_, ?_⟩
    · ((repeat' (first | (refine bel_set ?_ ?_ _) | (refine bel_al ?_ ?_ _) | exact Below.refl _ _ | assumption | (refine below_drewN ?_ _) | (refine Below.drew ?_) | (refine Below.trans ?_ (Below.mono hb1 ?_)))) <;> (first | omega | (simp; done) | (simp; omega)))
    · (refine OC.mono (base := ?bb) ?hh ?hl; (case hh => ((repeat' (first | (refine OC.set ?_ _ ?_) | (refine OC.alloc ?_ _) | exact ho1 | (refine OC.drewN ?_ _))) <;> (first | omega | (simp; done) | (simp; omega)))); (case hl => (first | omega | (simp; done) | (simp; omega))))
theorem specMarginsOf_no (W H D : Int) (a : Option Addr) (n c : Nat) (w : World) (hcm : c ≤ maxLen) (hnc : n ≤ c) (hv : volB W H D n = false) :
    Calls Try.prog 46 #[.agg #[.int .i64 W, .int .i64 H, .int .i64 D, .slice a n c]] w (RPic 49 0 0 [] false w) := by
  have h1 := fun w1 hp => specVIs_any W H D a n c w.heap.size w1 hp (by unfold maxLen at hcm; omega)
  have hv := Lib.hid hv
  go_enter Try.func46, Try.ntmps46
  go_wp2_with fail
  refine (h1 _ ((Pw.new _ _ _ _ _ _).alloc _)).mono ?_
  rintro e w1 ⟨k, rfl, rfl⟩
  rw [hv.out]
  go_wp2_with fail
  refine bodyPost_ret (v := ?v) ?hr rfl ?post
  case hr => (simp [results, Try.results46, go_sem]; try rfl)
  case post => exact ⟨_, _, _, rfl, by ((repeat' (first | (refine bel_set ?_ ?_ _) | (refine bel_al ?_ ?_ _) | exact Below.refl _ _ | assumption | (refine below_drewN ?_ _) | (refine Below.drew ?_))) <;> (first | omega | (simp; done) | (simp; omega))), OC.nil _ _ _⟩
/-- Both sides, when the function told of a cell and the specification's answer are known. -/
theorem pairMarginsOf_of (V : List Nat → Nat)
    (hT : ∀ D w, TellFn Try.prog 90 #[] #[] D V w)
    (hS : ∀ (W H D : Nat) (a : Option Addr) (n c : Nat) (cs : List Nat) (w : World), FC w (.slice a n c) cs → 1 ≤ W → W ≤ 24 → 1 ≤ H → H ≤ 24 → H * W ≤ 256 → 1 ≤ D → D ≤ 8 → cs.length = H * W * D → Calls Try.prog 46 #[.agg #[.int .i64 W, .int .i64 H, .int .i64 D, .slice a n c]] w (RPic 49 W H (seqL (fun i => V (rowC D cs i)) (H * W)) true w))
    (W H D : Int) (cs : List Nat) :
    ∃ (W' H' : Int) (cs' : List Nat) (ok : Bool),
      (∀ a n c w, FC w (.slice a n c) cs → Calls Try.prog 46 #[.agg #[.int .i64 W, .int .i64 H, .int .i64 D, .slice a n c]] w (RPic 49 W' H' cs' ok w)) ∧
      (∀ a n c w, FC w (.slice a n c) cs → Calls Try.prog 47 #[.agg #[.int .i64 W, .int .i64 H, .int .i64 D, .slice a n c]] w (RPic 49 W' H' cs' ok w)) ∧ cs'.length ≤ 256 := by
  cases hv : volB W H D cs.length with
  | false =>
    refine ⟨0, 0, [], false, fun a n c w hv' => ?_, fun a n c w hv' => ?_, by simp⟩
    · obtain ⟨rfl, h1, h2⟩ := hv'.sized
      exact specMarginsOf_no W H D a _ c w h2 h1 hv
    · obtain ⟨rfl, h1, h2⟩ := hv'.sized
      exact implMarginsOf_of _ _ _ _ _ _ _ _ _ _ w fun w1 _ => tellWinners_no W H D a _ c _ _ _ w1 h1 h2 hv
  | true =>
    obtain ⟨Wn, Hn, Dn, rfl, rfl, rfl, b1, b2, b3, b4, b5, d1, d2, hl⟩ := volB_parts hv
    refine ⟨_, _, _, _, fun a n c w hv => hS Wn Hn Dn a n c cs w hv b1 b2 b3 b4 b5 d1 d2 hl, fun a n c w hv => ?_, by rw [seqL_len]; exact b5⟩
    rw [← tell_cells Wn Hn Dn cs V b1]
    exact implMarginsOf_of _ _ _ _ _ _ _ _ _ _ w fun w1 hb => tellWinners_any Wn Hn Dn a n c cs _ _ _ V w1 (hv.below hb) b1 b2 b3 b4 b5 d1 d2 hl (enters_of Try.func90 (by kernel_rfl) rfl) (hT _ _)
theorem winFn_any (D : Nat) (w : World) : TellFn Try.prog 83 #[] #[] D (fun row => fi (winI row fun _ => true)) w := by
  intro w1 v row hb hv hl
  obtain ⟨a, c, rfl, _, _⟩ := hv.shape
  obtain ⟨B, hB⟩ : ∃ B, B = winI row (fun _ => true) := ⟨_, rfl⟩
  show Calls Try.prog 83 #[.slice a row.length c, .int .i64 (winI row fun _ => true)] w1 (RFb .f32 (fi (winI row fun _ => true)) w1)
  rw [← hB]
  clear hv hl hB
  generalize row.length = n
  go_enter Try.func83, Try.ntmps83
  go_wp2_with fail
  go_ret
  exact ⟨_, rfl, by first | exact Below.refl _ _ | exact below_drewN (Below.refl _ _) _, fiFl2 B⟩
theorem specWinnersOf_any (W H D : Nat) (a : Option Addr) (n c : Nat) (cs : List Nat) (w : World) (hv : FC w (.slice a n c) cs) (b1 : 1 ≤ W) (b2 : W ≤ 24) (b3 : 1 ≤ H) (b4 : H ≤ 24) (b5 : H * W ≤ 256) (d1 : 1 ≤ D) (d2 : D ≤ 8) (hl : cs.length = H * W * D) :
    Calls Try.prog 39 #[.agg #[.int .i64 W, .int .i64 H, .int .i64 D, .slice a n c]] w (RPic 49 W H (seqL (fun i => fi (winI (rowC D cs i) fun _ => true)) (H * W)) true w) := by
  obtain ⟨rfl, hnc, hcm⟩ := hv.sized
  have hval := Lib.hid (volB_mk b1 b2 b3 b4 b5 d1 d2 hl)
  have h1 := fun w1 hp => specVIs_any W H D a cs.length c w.heap.size w1 hp (by unfold maxLen at hcm; omega)
  have h3 := fun w1 (hb : Below w.heap.size w w1) hp => specWinners_any W H D a cs.length c w.heap.size cs w1 hp (hv.below hb) b1 b2 b3 b4 b5 d1 d2 hl
  clear hl
  go_enter Try.func39, Try.ntmps39
  go_wp2_with fail
  refine (h1 _ ((Pw.new _ _ _ _ _ _).alloc _)).mono ?_
  rintro e w1 ⟨k, rfl, rfl⟩
  rw [hval.out]
  go_wp2_with fail
  refine (h3 _ (by ((repeat' (first | (refine bel_set ?_ ?_ _) | (refine bel_al ?_ ?_ _) | exact Below.refl _ _ | assumption | (refine below_drewN ?_ _) | (refine Below.drew ?_))) <;> (first | omega | (simp; done) | (simp; omega)))) (((Pw.new _ _ _ _ _ _).alloc _).drewN _)).mono ?_
  rintro e w2 ⟨a2, n2, c2, rfl, hb2, ho2⟩
  have hn := ((Nv.new _ _ _ _ _).drewN k).below hb2
  have s2 := hb2.size
  simp only [World.size_alloc, World.heap_drewN] at hn s2
  obtain ⟨l2, q0, q1, q2, qf⟩ := id hn
  go_wp2_with fail
  refine bodyPost_ret (v := ?v) ?hr rfl ?post
  case hr => (simp [results, Try.results39, go_sem, q0, q1, q2, qf]; try rfl)
  case post =>
    refine ⟨_, _, _, rfl, ?_, ?_⟩
    · ((repeat' (first | (refine bel_set ?_ ?_ _) | (refine bel_al ?_ ?_ _) | exact Below.refl _ _ | assumption | (refine below_drewN ?_ _) | (refine Below.drew ?_) | (refine Below.trans ?_ (Below.mono hb2 ?_)))) <;> (first | omega | (simp; done) | (simp; omega)))
    · (refine OC.mono (base := ?bb) ?hh ?hl; (case hh => ((repeat' (first | (refine OC.set ?_ _ ?_) | (refine OC.alloc ?_ _) | exact ho2 | (refine OC.drewN ?_ _))) <;> (first | omega | (simp; done) | (simp; omega)))); (case hl => (first | omega | (simp; done) | (simp; omega))))
theorem pairWinnersOf (W H D : Int) (cs : List Nat) :
    ∃ (W' H' : Int) (cs' : List Nat) (ok : Bool),
      (∀ a n c w, FC w (.slice a n c) cs → Calls Try.prog 39 #[.agg #[.int .i64 W, .int .i64 H, .int .i64 D, .slice a n c]] w (RPic 49 W' H' cs' ok w)) ∧
      (∀ a n c w, FC w (.slice a n c) cs → Calls Try.prog 40 #[.agg #[.int .i64 W, .int .i64 H, .int .i64 D, .slice a n c]] w (RPic 49 W' H' cs' ok w)) ∧ cs'.length ≤ 256 :=
  pairWinnersOf_of (fun row => fi (winI row fun _ => true)) winFn_any (fun W H D a n c cs w hv b1 b2 b3 b4 b5 d1 d2 hl => specWinnersOf_any W H D a n c cs w hv b1 b2 b3 b4 b5 d1 d2 hl) W H D cs
end Go.Proofs.Ytbiobmdibiplfaa
