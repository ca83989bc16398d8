import Derived.Test.YtmgdofengamcmaaRk
set_option linter.unusedVariables false
set_option linter.unusedSimpArgs false
namespace Go.FX
open Go Go.RowKit
def ROCB (E : TypeId) (cs : List Nat) (ok : Bool) (w : World) (e : Ending) (w' : World) : Prop :=
  ∃ a n c, e = .returned (.tuple #[.slice a n c, .bool ok]) ∧ Below w.heap.size w w' ∧ OC w' w.heap.size E (.slice a n c) cs
end Go.FX
namespace Go.Proofs.Ytmgdofengamcmaa
open Go.FX Go.RowKit Go.WideShapes Go.ChangeShapes

theorem eqFCB (va vb : Value) (cs : List Nat) (w : World) (ha : FC w va cs) (hb : FC w vb cs) (hn : cs.length ≤ 1048576) :
    Calls Try.prog 41 #[va, vb] w (RBb true w) :=
  (eqFC_any va vb cs w ha hb hn).mono fun _ _ ⟨n, h1, h2⟩ => ⟨h1, by rw [h2]; exact below_drewN (Below.refl _ _) _⟩
theorem specJumpCosts_no (x y : Nat) (a : Option Addr) (n c : Nat) (cs : List Nat) (w : World) (hv : FC w (.slice a n c) cs) (hno : (deepB cs.length && okPB x y) = false) :
    Calls Try.prog 38 #[.slice a n c, .agg #[.float .f32 x, .float .f32 y]] w (ROCB 22 [] false w) := by
  obtain ⟨rfl, hnc, hcm⟩ := hv.sized
  have h1 := fun w1 hp => specPrIs_any x y w.heap.size w1 hp
  clear hv
  cases hd : deepB cs.length with
  | false =>
    have hd' := Lib.hid hd
    clear hd
    go_enter Try.func38, Try.ntmps38
    go_wp2_with fail
    refine (specIn_any _ _ _ _).mono ?_
    rintro e w1 ⟨rfl, rfl⟩
    rw [inB_deep, hd'.out]
    go_wp2_with fail
    go_ret2
    exact ⟨_, _, _, rfl, by ((repeat' (first | (refine bel_set ?_ ?_ _) | (refine bel_al ?_ ?_ _) | exact Below.refl _ _ | assumption | (refine below_drewN ?_ _) | (refine Below.drew ?_))) <;> (first | omega | (simp; done) | (simp; omega))), OC.nil _ _ _⟩
  | true =>
    have hd' := Lib.hid hd
    have hp' : okPB x y = false := by rw [hd] at hno; simpa using hno
    have hp' := Lib.hid hp'
    clear hd hno
    go_enter Try.func38, Try.ntmps38
    go_wp2_with fail
    refine (specIn_any _ _ _ _).mono ?_
    rintro e w1 ⟨rfl, rfl⟩
    rw [inB_deep, hd'.out]
    go_wp2_with fail
    refine (h1 _ (P2.new _ _ _ _)).mono ?_
    rintro e w1 ⟨k, rfl, rfl⟩
    rw [hp'.out]
    go_wp2_with fail
    go_ret2
    exact ⟨_, _, _, rfl, by ((repeat' (first | (refine bel_set ?_ ?_ _) | (refine bel_al ?_ ?_ _) | exact Below.refl _ _ | assumption | (refine below_drewN ?_ _) | (refine Below.drew ?_))) <;> (first | omega | (simp; done) | (simp; omega))), OC.nil _ _ _⟩
theorem implJumpCosts_no (x y : Nat) (a : Option Addr) (n c : Nat) (cs : List Nat) (w : World) (hv : FC w (.slice a n c) cs) (hno : (deepB cs.length && okPB x y) = false) :
    Calls Try.prog 40 #[.slice a n c, .agg #[.float .f32 x, .float .f32 y]] w (ROCB 22 [] false w) := by
  obtain ⟨rfl, hnc, hcm⟩ := hv.sized
  clear hv
  cases hd : deepB cs.length with
  | false =>
    have hd' := Lib.hid hd
    clear hd
    go_enter Try.func40, Try.ntmps40
    go_wp2_with fail
    refine (isDeep_any _ _).mono ?_
    rintro e w1 ⟨rfl, rfl⟩
    rw [hd'.out]
    go_wp2_with fail
    go_ret2
    exact ⟨_, _, _, rfl, by ((repeat' (first | (refine bel_set ?_ ?_ _) | (refine bel_al ?_ ?_ _) | exact Below.refl _ _ | assumption | (refine below_drewN ?_ _) | (refine Below.drew ?_))) <;> (first | omega | (simp; done) | (simp; omega))), OC.nil _ _ _⟩
  | true =>
    have hd' := Lib.hid hd
    have hp' : okPB x y = false := by rw [hd] at hno; simpa using hno
    have hp' := Lib.hid hp'
    clear hd hno
    go_enter Try.func40, Try.ntmps40
    go_wp2_with fail
    refine (isDeep_any _ _).mono ?_
    rintro e w1 ⟨rfl, rfl⟩
    rw [hd'.out]
    go_wp2_with fail
    refine (validPr_any _ _ _).mono ?_
    rintro e w1 ⟨rfl, hb1⟩
    rw [hp'.out]
    go_wp2_with fail
    go_ret2
    exact ⟨_, _, _, rfl, by ((repeat' (first | (refine bel_set ?_ ?_ _) | (refine bel_al ?_ ?_ _) | exact Below.refl _ _ | assumption | (refine below_drewN ?_ _) | (refine Below.drew ?_) | (refine Below.trans ?_ (Below.mono hb1 ?_)))) <;> (first | omega | (simp; done) | (simp; omega))), OC.nil _ _ _⟩
theorem specJumpCosts_any (x xc y yc : Nat) (hx : Fl .f32 x xc) (hy : Fl .f32 y yc) (a : Option Addr) (n c : Nat) (cs : List Nat) (w : World) (hv : FC w (.slice a n c) cs) (hd : deepB cs.length = true) (hp : okPB x y = true) :
    Calls Try.prog 38 #[.slice a n c, .agg #[.float .f32 x, .float .f32 y]] w (ROCB 22 (jumpsL cs xc yc) true w) := by
  obtain ⟨rfl, hnc, hcm⟩ := hv.sized
  have h1 := fun w1 hp => specPrIs_any x y w.heap.size w1 hp
  obtain ⟨g1, g2⟩ := deepB_iff.1 hd
  have h2 := fun w1 (hb : Below w.heap.size w w1) hp => specJumps_any x xc y yc hx hy (.slice a cs.length c) cs w.heap.size w1 hp (hv.below hb) (by omega) (by omega)
  have hd' := Lib.hid hd
  have hp' := Lib.hid hp
  clear hd hp hv
  go_enter Try.func38, Try.ntmps38
  go_wp2_with fail
  refine (specIn_any _ _ _ _).mono ?_
  rintro e w1 ⟨rfl, rfl⟩
  rw [inB_deep, hd'.out]
  go_wp2_with fail
  refine (h1 _ (P2.new _ _ _ _)).mono ?_
  rintro e w1 ⟨k, rfl, rfl⟩
  rw [hp'.out]
  go_wp2_with fail
  refine (h2 _ (by ((repeat' (first | (refine bel_set ?_ ?_ _) | (refine bel_al ?_ ?_ _) | exact Below.refl _ _ | assumption | (refine below_drewN ?_ _) | (refine Below.drew ?_))) <;> (first | omega | (simp; done) | (simp; omega)))) ((P2.new _ _ _ _).drewN _)).mono ?_
  rintro e w2 ⟨a2, n2, c2, rfl, hb2, ho2⟩
  have s2 := hb2.size
  go_wp2_with fail
  go_ret2
  exact ⟨_, _, _, rfl, by ((repeat' (first | (refine bel_set ?_ ?_ _) | (refine bel_al ?_ ?_ _) | exact Below.refl _ _ | assumption | (refine below_drewN ?_ _) | (refine Below.drew ?_) | (refine Below.trans ?_ (Below.mono hb2 ?_)))) <;> (first | omega | (simp; done) | (simp; omega))), by (refine OC.mono (base := ?bb) ?hh ?hl; (case hh => ((repeat' (first | (refine OC.set ?_ _ ?_) | (refine OC.alloc ?_ _) | exact ho2 | (refine OC.drewN ?_ _))) <;> (first | omega | (simp; done) | (simp; omega)))); (case hl => (first | omega | (simp; done) | (simp; omega))))⟩
theorem implJumpCosts_any (x xc y yc : Nat) (hx : Fl .f32 x xc) (hy : Fl .f32 y yc) (a : Option Addr) (n c : Nat) (cs : List Nat) (w : World) (hv : FC w (.slice a n c) cs) (hd : deepB cs.length = true) (hp : okPB x y = true) :
    Calls Try.prog 40 #[.slice a n c, .agg #[.float .f32 x, .float .f32 y]] w (ROCB 22 (jumpsL cs xc yc) true w) := by
  obtain ⟨rfl, hnc, hcm⟩ := hv.sized
  obtain ⟨g1, g2⟩ := deepB_iff.1 hd
  have h2 := fun w1 (hb : Below w.heap.size w w1) => jumps_any x xc y yc hx hy (.slice a cs.length c) cs w1 (hv.below hb) (by omega) (by omega)
  have hd' := Lib.hid hd
  have hp' := Lib.hid hp
  clear hd hp hv
  go_enter Try.func40, Try.ntmps40
  go_wp2_with fail
  refine (isDeep_any _ _).mono ?_
  rintro e w1 ⟨rfl, rfl⟩
  rw [hd'.out]
  go_wp2_with fail
  refine (validPr_any _ _ _).mono ?_
  rintro e w1 ⟨rfl, hb1⟩
  rw [hp'.out]
  have s1 := hb1.size; simp only [World.size_alloc] at s1
  obtain ⟨l1, p1, p2⟩ := (P2.new _ _ _ _).below hb1
  go_wp2_with fail
  refine (h2 _ (by ((repeat' (first | (refine bel_set ?_ ?_ _) | (refine bel_al ?_ ?_ _) | exact Below.refl _ _ | assumption | (refine below_drewN ?_ _) | (refine Below.drew ?_) | (refine Below.trans ?_ (Below.mono hb1 ?_)))) <;> (first | omega | (simp; done) | (simp; omega))))).mono ?_
  rintro e w2 ⟨a2, n2, c2, rfl, hb2, ho2⟩
  have s2 := hb2.size
  go_wp2_with fail
  go_ret2
  exact ⟨_, _, _, rfl, by ((repeat' (first | (refine bel_set ?_ ?_ _) | (refine bel_al ?_ ?_ _) | exact Below.refl _ _ | assumption | (refine below_drewN ?_ _) | (refine Below.drew ?_) | (refine Below.trans ?_ (Below.mono hb2 ?_)) | (refine Below.trans ?_ (Below.mono hb1 ?_)))) <;> (first | omega | (simp; done) | (simp; omega))), by (refine OC.mono (base := ?bb) ?hh ?hl; (case hh => ((repeat' (first | (refine OC.set ?_ _ ?_) | (refine OC.alloc ?_ _) | exact ho2 | (refine OC.drewN ?_ _))) <;> (first | omega | (simp; done) | (simp; omega)))); (case hl => (first | omega | (simp; done) | (simp; omega))))⟩
theorem pairJumpCosts (cs : List Nat) (x y : Nat) (hx : x < width .f32) (hy : y < width .f32) :
    ∃ (cs' : List Nat) (ok : Bool),
      (∀ a n c w, FC w (.slice a n c) cs → Calls Try.prog 38 #[.slice a n c, .agg #[.float .f32 x, .float .f32 y]] w (ROCB 22 cs' ok w)) ∧
      (∀ a n c w, FC w (.slice a n c) cs → Calls Try.prog 40 #[.slice a n c, .agg #[.float .f32 x, .float .f32 y]] w (ROCB 22 cs' ok w)) ∧ cs'.length ≤ 8 := by
  cases h : (deepB cs.length && okPB x y) with
  | false => exact ⟨[], false, fun a n c w hv => specJumpCosts_no x y a n c cs w hv h, fun a n c w hv => implJumpCosts_no x y a n c cs w hv h, by simp⟩
  | true =>
    obtain ⟨h1, h2⟩ := Bool.and_eq_true_iff.1 h
    have := deepB_iff.1 h1
    exact ⟨_, _, fun a n c w hv => specJumpCosts_any x _ y _ (Fl.of hx) (Fl.of hy) a n c cs w hv h1 h2, fun a n c w hv => implJumpCosts_any x _ y _ (Fl.of hx) (Fl.of hy) a n c cs w hv h1 h2, by unfold jumpsL; rw [seqL_len]; omega⟩
end Go.Proofs.Ytmgdofengamcmaa
