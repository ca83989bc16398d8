import Derived.Test.YtmfdiobpdaonaaaPs
import Derived.Test.YtmfdiobpdaonaaaPo
set_option linter.unusedVariables false
set_option linter.unusedSimpArgs false
namespace Go.FX
open Go Go.RowKit
def RFBb (c : Nat) (ok : Bool) (w : World) (e : Ending) (w' : World) : Prop := ∃ r, e = .returned (.tuple #[.float .f32 r, .bool ok]) ∧ Below w.heap.size w w' ∧ Fl .f32 r c
theorem undrewN {n k : Nat} {w w1 : World} (h : Below n (w.drewN k) w1) : Below n w w1 := ⟨h.os, h.tape, h.output, h.size, h.block⟩
def cellB (W H x y : Int) : Bool := decide (0 ≤ x ∧ x < W ∧ 0 ≤ y ∧ y < H)
end Go.FX
namespace Go.Proofs.Ytmfdiobpdaonaaa
open Go.FX Go.RowKit Go.WideShapes Go.ChangeShapes

theorem sameFloatB {a b c : Nat} (ha : Fl .f64 a c) (hb : Fl .f64 b c) (w : World) : Calls Try.prog 31 #[.float .f64 a, .float .f64 b] w (RBb true w) :=
  (sameFloat_any ha hb w).mono fun e w' ⟨n, he, hw⟩ => ⟨he, hw ▸ below_drewN (Below.refl _ _) n⟩

theorem hasCell_any (W H : Int) (a : Option Addr) (n c : Nat) (x y : Int) (w : World) :
    Calls Try.prog 94 #[.agg #[.int .i64 W, .int .i64 H, .slice a n c], .int .i64 x, .int .i64 y] w (RBb (cellB W H x y) w) := by
  by_cases h1 : 0 ≤ x
  · by_cases h2 : x < W
    · by_cases h3 : 0 ≤ y
      · by_cases h4 : y < H
        all_goals
          go_enter Try.func94, Try.ntmps94
          go_wp2
          go_ret
          exact ⟨by simp [cellB, h1, h2, h3, h4], below1 _ _⟩
      · go_enter Try.func94, Try.ntmps94
        go_wp2
        go_ret
        exact ⟨by simp [cellB]; intros; omega, below1 _ _⟩
    · go_enter Try.func94, Try.ntmps94
      go_wp2
      go_ret
      exact ⟨by simp [cellB]; intros; omega, below1 _ _⟩
  · go_enter Try.func94, Try.ntmps94
    go_wp2
    go_ret
    exact ⟨by simp [cellB]; intros; omega, below1 _ _⟩
theorem zeroFl : Fl .f32 0 0 := ⟨by decide, by decide⟩
set_option maxHeartbeats 1000000 in
theorem implGreyAt_any (W H : Nat) (a : Option Addr) (n c : Nat) (cs : List Nat) (w : World) (hv : FC w (.slice a n c) cs) (b1 : 1 ≤ W) (b2 : W ≤ 24) (b3 : 1 ≤ H) (b4 : H ≤ 24) (b5 : H * W ≤ 256) (hl : cs.length = H * W) (x y : Int) (ok : Bool) (hc : cellB W H x y = ok) :
    Calls Try.prog 71 #[.agg #[.int .i64 W, .int .i64 H, .slice a n c], .int .i64 x, .int .i64 y] w (RFBb (if ok then atC W H cs x y else 0) ok w) := by
  obtain ⟨rfl, hnc, hcm⟩ := hv.sized
  have hval := Lib.hid (validB_mk b1 b2 b3 b4 b5 hl)
  have h1 := fun w1 => validPic_any W H (.slice a cs.length c) cs.length w1 ⟨a, c, rfl, hnc, hcm⟩
  have hc' := Lib.hid hc
  cases ok with
  | true =>
    have hxy : 0 ≤ x ∧ x < W ∧ 0 ≤ y ∧ y < H := by simpa [cellB] using hc
    have h2 := fun w1 (hb : Below w.heap.size w w1) => about_any W H (.slice a cs.length c) cs x y w1 (hv.below hb) b1 b2 b3 b4 hl (by omega) (by omega) (by omega) (by omega)
    clear hl hc
    go_enter Try.func71, Try.ntmps71
    go_wp2_with fail
    refine (h1 _).mono ?_
    rintro e w1 ⟨rfl, hb1⟩
    rw [hval.out]
    have hP := (Pv.new _ _ _ _ _).below hb1
    obtain ⟨l1, q0, q1, q2⟩ := id hP
    have s1 := hb1.size
    simp only [World.size_alloc] at s1
    go_wp2_with fail
    refine (hasCell_any _ _ _ _ _ _ _ _).mono ?_
    rintro e w2 ⟨rfl, hb2⟩
    rw [hc'.out]
    obtain ⟨l2, q3, q4, q5⟩ := hP.below hb2
    have s2 := hb2.size
    go_wp2_with fail
    refine (h2 _ (by ((repeat' (first | exact Below.refl _ _ | assumption | (refine bel_set ?_ ?_ _) | (refine bel_al ?_ ?_ _) | (refine below_drewN ?_ _) | (refine Below.drew ?_) | (refine Below.trans ?_ (Below.mono hb2 ?_)) | (refine Below.trans ?_ (Below.mono hb1 ?_)))) <;> (first | omega | (simp; done) | (simp; omega))))).mono ?_
    rintro e w3 ⟨r, rfl, hb3, hr⟩
    go_wp2_with fail
    go_ret2
    exact ⟨_, rfl, by ((repeat' (first | exact Below.refl _ _ | assumption | (refine bel_set ?_ ?_ _) | (refine bel_al ?_ ?_ _) | (refine below_drewN ?_ _) | (refine Below.drew ?_) | (refine Below.trans ?_ (Below.mono hb3 ?_)) | (refine Below.trans ?_ (Below.mono hb2 ?_)) | (refine Below.trans ?_ (Below.mono hb1 ?_)))) <;> (first | omega | (simp; done) | (simp; omega))), hr⟩
  | false =>
    clear hl hc
    go_enter Try.func71, Try.ntmps71
    go_wp2_with fail
    refine (h1 _).mono ?_
    rintro e w1 ⟨rfl, hb1⟩
    rw [hval.out]
    have hP := (Pv.new _ _ _ _ _).below hb1
    obtain ⟨l1, q0, q1, q2⟩ := id hP
    have s1 := hb1.size
    simp only [World.size_alloc] at s1
    go_wp2_with fail
    refine (hasCell_any _ _ _ _ _ _ _ _).mono ?_
    rintro e w2 ⟨rfl, hb2⟩
    rw [hc'.out]
    go_wp2_with fail
    go_ret2
    exact ⟨_, rfl, by ((repeat' (first | exact Below.refl _ _ | assumption | (refine bel_set ?_ ?_ _) | (refine bel_al ?_ ?_ _) | (refine below_drewN ?_ _) | (refine Below.drew ?_) | (refine Below.trans ?_ (Below.mono hb2 ?_)) | (refine Below.trans ?_ (Below.mono hb1 ?_)))) <;> (first | omega | (simp; done) | (simp; omega))), zeroFl⟩
theorem implGreyAt_no (W H : Int) (a : Option Addr) (n c : Nat) (w : World) (hnc : n ≤ c) (hcm : c ≤ maxLen) (hval : validB W H n = false) (x y : Int) :
    Calls Try.prog 71 #[.agg #[.int .i64 W, .int .i64 H, .slice a n c], .int .i64 x, .int .i64 y] w (RFBb 0 false w) := by
  have h1 := fun w1 => validPic_any W H (.slice a n c) n w1 ⟨a, c, rfl, hnc, hcm⟩
  have hval := Lib.hid hval
  go_enter Try.func71, Try.ntmps71
  go_wp2_with fail
  refine (h1 _).mono ?_
  rintro e w1 ⟨rfl, hb1⟩
  rw [hval.out]
  go_wp2_with fail
  go_ret2
  exact ⟨_, rfl, by ((repeat' (first | exact Below.refl _ _ | assumption | (refine bel_set ?_ ?_ _) | (refine bel_al ?_ ?_ _) | (refine below_drewN ?_ _) | (refine Below.drew ?_) | (refine Below.trans ?_ (Below.mono hb1 ?_)))) <;> (first | omega | (simp; done) | (simp; omega))), zeroFl⟩
end Go.Proofs.Ytmfdiobpdaonaaa
