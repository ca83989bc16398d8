import Derived.Test.YtaclgmafcakiiaaWi
set_option linter.unusedVariables false
set_option linter.unusedSimpArgs false
namespace Go.Proofs.Ytaclgmafcakiiaa
open Go.FX Go.RowKit Go.WideShapes Go.ChangeShapes
attribute [local go_sem ↓] Go.wp_at_zero Go.wp_at_succ
theorem tell_cells (W H D : Nat) (cs : List Nat) (V : List Nat → Nat) (b1 : 1 ≤ W) : gridL W (tellG W D cs V) (H * W) = seqL (fun i => V (rowC D cs i)) (H * W) := by
  rw [gridL_seq]
  refine seqL_congr fun i hi => ?_
  unfold tellG
  simp only [Int.toNat_natCast]
  rw [Nat.mul_comm, Nat.div_add_mod]
set_option maxHeartbeats 4000000 in
theorem tellWinners_no (W H D : Int) (a : Option Addr) (n c : Nat) (f : Fn) (first cap : Array Value) (w : World) (hnc : n ≤ c) (hcm : c ≤ maxLen) (hval : volB W H D n = false) :
    Calls Try.prog 24 #[.agg #[.int .i64 W, .int .i64 H, .int .i64 D, .slice a n c], .func f first cap] w (RPic 37 0 0 [] false w) := by
  have hval := Lib.hid hval
  go_enter Try.func24, Try.ntmps24
  go_wp2_with fail
  refine (validVol_any _ _ _ _ n _ ⟨a, c, rfl, hnc, hcm⟩).mono ?_
  rintro e w1 ⟨rfl, hb1⟩
  rw [hval.out]
  have hn := (Nv.new _ _ _ _ _).below hb1
  have s1 := hb1.size
  simp only [World.size_alloc] at hn s1
  obtain ⟨l1, q0, q1, q2, qf⟩ := id hn
  go_wp2_with fail
  refine bodyPost_ret (v := ?v) ?hr rfl ?post
  case hr => (simp [results, Try.results24, go_sem, q0, q1, q2, qf]; try rfl)
  case post => exact ⟨_, _, _, rfl, by ((repeat' (first | (refine bel_set ?_ ?_ _) | (refine bel_al ?_ ?_ _) | exact Below.refl _ _ | assumption | (refine below_drewN ?_ _) | (refine Below.drew ?_) | (refine Below.trans ?_ (Below.mono hb1 ?_)))) <;> (first | omega | (simp; done) | (simp; omega))), OC.nil _ _ _⟩
set_option maxHeartbeats 2000000 in
theorem implWinnersOf_of (W H D : Int) (a : Option Addr) (n c : Nat) (W' H' : Int) (cs' : List Nat) (ok : Bool) (w : World)
    (h : ∀ w1, Below w.heap.size w w1 → Calls Try.prog 24 #[.agg #[.int .i64 W, .int .i64 H, .int .i64 D, .slice a n c], .func (.func 70) #[] #[]] w1 (RPic 37 W' H' cs' ok w1)) :
    Calls Try.prog 42 #[.agg #[.int .i64 W, .int .i64 H, .int .i64 D, .slice a n c]] w (RPic 37 W' H' cs' ok w) := by
  go_enter Try.func42, Try.ntmps42
  go_wp2_with fail
  refine (h _ (by ((repeat' (first | (refine bel_set ?_ ?_ _) | (refine bel_al ?_ ?_ _) | exact Below.refl _ _ | assumption | (refine below_drewN ?_ _) | (refine Below.drew ?_))) <;> (first | omega | (simp; done) | (simp; omega))))).mono ?_
  rintro e w1 ⟨a1, n1, c1, rfl, hb1, ho1⟩
  have hn := (Nv.new _ _ _ _ _).below hb1
  have s1 := hb1.size
  simp only [World.size_alloc] at hn s1
  obtain ⟨l1, q0, q1, q2, qf⟩ := id hn
  go_wp2_with fail
  refine bodyPost_ret (v := ?v) ?hr rfl ?post
  case hr => (simp [results, Try.results42, go_sem, q0, q1, q2, qf]; try rfl)
  case post =>
    refine ⟨_, _, _, rfl, ?_, ?_⟩
    · ((repeat' (first | (refine bel_set ?_ ?_ _) | (refine bel_al ?_ ?_ _) | exact Below.refl _ _ | assumption | (refine below_drewN ?_ _) | (refine Below.drew ?_) | (refine Below.trans ?_ (Below.mono hb1 ?_)))) <;> (first | omega | (simp; done) | (simp; omega)))
    · (refine OC.mono (base := ?bb) ?hh ?hl; (case hh => ((repeat' (first | (refine OC.set ?_ _ ?_) | (refine OC.alloc ?_ _) | exact ho1 | (refine OC.drewN ?_ _))) <;> (first | omega | (simp; done) | (simp; omega)))); (case hl => (first | omega | (simp; done) | (simp; omega))))
set_option maxHeartbeats 2000000 in
theorem implLeastCosts_of (W H D : Int) (a : Option Addr) (n c : Nat) (W' H' : Int) (cs' : List Nat) (ok : Bool) (w : World)
    (h : ∀ w1, Below w.heap.size w w1 → Calls Try.prog 24 #[.agg #[.int .i64 W, .int .i64 H, .int .i64 D, .slice a n c], .func (.func 59) #[] #[]] w1 (RPic 37 W' H' cs' ok w1)) :
    Calls Try.prog 33 #[.agg #[.int .i64 W, .int .i64 H, .int .i64 D, .slice a n c]] w (RPic 37 W' H' cs' ok w) := by
  go_enter Try.func33, Try.ntmps33
  go_wp2_with fail
  refine (h _ (by ((repeat' (first | (refine bel_set ?_ ?_ _) | (refine bel_al ?_ ?_ _) | exact Below.refl _ _ | assumption | (refine below_drewN ?_ _) | (refine Below.drew ?_))) <;> (first | omega | (simp; done) | (simp; omega))))).mono ?_
  rintro e w1 ⟨a1, n1, c1, rfl, hb1, ho1⟩
  have hn := (Nv.new _ _ _ _ _).below hb1
  have s1 := hb1.size
  simp only [World.size_alloc] at hn s1
  obtain ⟨l1, q0, q1, q2, qf⟩ := id hn
  go_wp2_with fail
  refine bodyPost_ret (v := ?v) ?hr rfl ?post
  case hr => (simp [results, Try.results33, go_sem, q0, q1, q2, qf]; try rfl)
  case post =>
    refine ⟨_, _, _, rfl, ?_, ?_⟩
    · ((repeat' (first | (refine bel_set ?_ ?_ _) | (refine bel_al ?_ ?_ _) | exact Below.refl _ _ | assumption | (refine below_drewN ?_ _) | (refine Below.drew ?_) | (refine Below.trans ?_ (Below.mono hb1 ?_)))) <;> (first | omega | (simp; done) | (simp; omega)))
    · (refine OC.mono (base := ?bb) ?hh ?hl; (case hh => ((repeat' (first | (refine OC.set ?_ _ ?_) | (refine OC.alloc ?_ _) | exact ho1 | (refine OC.drewN ?_ _))) <;> (first | omega | (simp; done) | (simp; omega)))); (case hl => (first | omega | (simp; done) | (simp; omega))))
set_option maxHeartbeats 2000000 in
theorem implMarginsOf_of (W H D : Int) (a : Option Addr) (n c : Nat) (W' H' : Int) (cs' : List Nat) (ok : Bool) (w : World)
    (h : ∀ w1, Below w.heap.size w w1 → Calls Try.prog 24 #[.agg #[.int .i64 W, .int .i64 H, .int .i64 D, .slice a n c], .func (.func 55) #[] #[]] w1 (RPic 37 W' H' cs' ok w1)) :
    Calls Try.prog 32 #[.agg #[.int .i64 W, .int .i64 H, .int .i64 D, .slice a n c]] w (RPic 37 W' H' cs' ok w) := by
  go_enter Try.func32, Try.ntmps32
  go_wp2_with fail
  refine (h _ (by ((repeat' (first | (refine bel_set ?_ ?_ _) | (refine bel_al ?_ ?_ _) | exact Below.refl _ _ | assumption | (refine below_drewN ?_ _) | (refine Below.drew ?_))) <;> (first | omega | (simp; done) | (simp; omega))))).mono ?_
  rintro e w1 ⟨a1, n1, c1, rfl, hb1, ho1⟩
  have hn := (Nv.new _ _ _ _ _).below hb1
  have s1 := hb1.size
  simp only [World.size_alloc] at hn s1
  obtain ⟨l1, q0, q1, q2, qf⟩ := id hn
  go_wp2_with fail
  refine bodyPost_ret (v := ?v) ?hr rfl ?post
  case hr => (simp [results, Try.results32, go_sem, q0, q1, q2, qf]; try rfl)
  case post =>
    refine ⟨_, _, _, rfl, ?_, ?_⟩
    · ((repeat' (first | (refine bel_set ?_ ?_ _) | (refine bel_al ?_ ?_ _) | exact Below.refl _ _ | assumption | (refine below_drewN ?_ _) | (refine Below.drew ?_) | (refine Below.trans ?_ (Below.mono hb1 ?_)))) <;> (first | omega | (simp; done) | (simp; omega)))
    · (refine OC.mono (base := ?bb) ?hh ?hl; (case hh => ((repeat' (first | (refine OC.set ?_ _ ?_) | (refine OC.alloc ?_ _) | exact ho1 | (refine OC.drewN ?_ _))) <;> (first | omega | (simp; done) | (simp; omega)))); (case hl => (first | omega | (simp; done) | (simp; omega))))
theorem winFn_any (D : Nat) (w : World) : TellFn Try.prog 70 #[] #[] D (fun row => fi (winI row fun _ => true)) w := by
  intro w1 v row hb hv hl
  obtain ⟨a, c, rfl, _, _⟩ := hv.shape
  obtain ⟨B, hB⟩ : ∃ B, B = winI row (fun _ => true) := ⟨_, rfl⟩
  show Calls Try.prog 70 #[.slice a row.length c, .int .i64 (winI row fun _ => true)] w1 (RFb .f32 (fi (winI row fun _ => true)) w1)
  rw [← hB]
  clear hv hl hB
  generalize row.length = n
  go_enter Try.func70, Try.ntmps70
  go_wp2_with fail
  go_ret
  exact ⟨_, rfl, by first | exact Below.refl _ _ | exact below_drewN (Below.refl _ _) _, fiFl2 B⟩
end Go.Proofs.Ytaclgmafcakiiaa
