import Derived.Test.YtblaojflcemfdaaVa
import Derived.Test.YtblaojflcemfdaaWp
import Derived.Test.YtblaojflcemfdaaPj
import Derived.IntWalk
set_option linter.unusedVariables false
set_option linter.unusedSimpArgs false
namespace Go.FX
open Go Go.RowKit
/-! What a map costs. -/
def sameCB (W H D : Int) (n : Nat) (W' H' : Int) (n' : Nat) : Bool := volB W H D n && (validB W' H' n' && (decide (W = W') && decide (H = H')))
def costTo (D : Nat) (cs ms : List Nat) : Nat → Nat
  | 0 => 0
  | i + 1 => if idxB (placeI (ms.getD i 0)) D = true then fop .add .f32 (costTo D cs ms i) (cs.getD (i * D + (placeI (ms.getD i 0)).toNat) 0) else costTo D cs ms i
theorem costTo_yes {D : Nat} {cs ms : List Nat} {i p : Nat} (h : placeI (ms.getD i 0) = p) (hp : p < D) : costTo D cs ms (i + 1) = fop .add .f32 (costTo D cs ms i) (cs.getD (i * D + p) 0) := by
  show (if _ then _ else _) = _
  rw [h, if_pos (by simp [idxB]; omega), Int.toNat_natCast]
theorem costTo_no {D : Nat} {cs ms : List Nat} {i : Nat} (h : idxB (placeI (ms.getD i 0)) D = false) : costTo D cs ms (i + 1) = costTo D cs ms i := by
  show (if _ then _ else _) = _
  rw [if_neg (by rw [h]; simp)]
end Go.FX
namespace Go.Proofs.Ytblaojflcemfdaa
open Go.FX Go.RowKit Go.WideShapes Go.ChangeShapes

set_option maxHeartbeats 1000000 in
theorem haveSame_any (W H D : Int) (a : Option Addr) (n c : Nat) (W' H' : Int) (a' : Option Addr) (n' c' : Nat) (w : World) (hnc : n ≤ c) (hcm : c ≤ maxLen) (hnc' : n' ≤ c') (hcm' : c' ≤ maxLen) :
    Calls Try.prog 40 #[.agg #[.int .i64 W, .int .i64 H, .int .i64 D, .slice a n c], .agg #[.int .i64 W', .int .i64 H', .slice a' n' c']] w (RBb (sameCB W H D n W' H' n') w) := by
  have h1 := fun w1 => validVol_any W H D (.slice a n c) n w1 ⟨a, c, rfl, hnc, hcm⟩
  have h2 := fun w1 => validPic_any W' H' (.slice a' n' c') n' w1 ⟨a', c', rfl, hnc', hcm'⟩
  cases v1 : volB W H D n with
  | false =>
    have o1 := Lib.hid v1
    go_enter Try.func40, Try.ntmps40
    go_wp2_with fail
    refine (h1 _).mono ?_
    rintro e w1 ⟨rfl, hb1⟩
    rw [o1.out]
    have s1 := hb1.size; simp only [World.size_alloc] at s1
    go_wp2_with fail
    go_ret
    exact ⟨by simp [sameCB, v1], by ((repeat' (first | (refine bel_set ?_ ?_ _) | (refine bel_al ?_ ?_ _) | exact Below.refl _ _ | assumption | (refine below_drewN ?_ _) | (refine Below.drew ?_) | (refine Below.trans ?_ (Below.mono hb1 ?_)))) <;> (first | omega | (simp; done) | (simp; omega)))⟩
  | true =>
    have o1 := Lib.hid v1
    have hQ0 := fun w1 (h : Below ((w.alloc (.cells #[.int .i64 W, .int .i64 H, .int .i64 D, .slice a n c] 44)).alloc (.cells #[.int .i64 W', .int .i64 H', .slice a' n' c'] 30)).heap.size ((w.alloc (.cells #[.int .i64 W, .int .i64 H, .int .i64 D, .slice a n c] 44)).alloc (.cells #[.int .i64 W', .int .i64 H', .slice a' n' c'] 30)) w1) => (Pv.new (w.alloc (.cells #[.int .i64 W, .int .i64 H, .int .i64 D, .slice a n c] 44)) W' H' (.slice a' n' c') 30).below h
    simp only [World.size_alloc] at hQ0
    cases v2 : validB W' H' n' with
    | false =>
      have o2 := Lib.hid v2
      go_enter Try.func40, Try.ntmps40
      go_wp2_with fail
      refine (h1 _).mono ?_
      rintro e w1 ⟨rfl, hb1⟩
      rw [o1.out]
      have hQ := hQ0 _ (by simpa using hb1)
      have s1 := hb1.size; simp only [World.size_alloc] at s1
      obtain ⟨l1, q0, q1, q2⟩ := id hQ
      go_wp2_with fail
      refine (h2 _).mono ?_
      rintro e w2 ⟨rfl, hb2⟩
      rw [o2.out]
      have s2 := hb2.size
      go_wp2_with fail
      go_ret
      exact ⟨by simp [sameCB, v1, v2], by ((repeat' (first | (refine bel_set ?_ ?_ _) | (refine bel_al ?_ ?_ _) | exact Below.refl _ _ | assumption | (refine below_drewN ?_ _) | (refine Below.drew ?_) | (refine Below.trans ?_ (Below.mono hb2 ?_)) | (refine Below.trans ?_ (Below.mono hb1 ?_)))) <;> (first | omega | (simp; done) | (simp; omega)))⟩
    | true =>
      have o2 := Lib.hid v2
      by_cases e1 : W = W'
      · subst e1
        by_cases e2 : H = H'
        · subst e2
          go_enter Try.func40, Try.ntmps40
          go_wp2_with fail
          refine (h1 _).mono ?_
          rintro e w1 ⟨rfl, hb1⟩
          rw [o1.out]
          have hQ := hQ0 _ (by simpa using hb1)
          have hP := ((Pw.new _ _ _ _ _ _).alloc _).below hb1
          have s1 := hb1.size; simp only [World.size_alloc] at s1
          obtain ⟨l1, q0, q1, q2⟩ := id hQ
          go_wp2_with fail
          refine (h2 _).mono ?_
          rintro e w2 ⟨rfl, hb2⟩
          rw [o2.out]
          have s2 := hb2.size
          obtain ⟨l2, r0, r1, r2⟩ := hQ.below hb2
          obtain ⟨l3, p0, p1, p2, p3⟩ := hP.below hb2
          go_wp2_with fail
          go_ret
          exact ⟨by simp [sameCB, v1, v2], by ((repeat' (first | (refine bel_set ?_ ?_ _) | (refine bel_al ?_ ?_ _) | exact Below.refl _ _ | assumption | (refine below_drewN ?_ _) | (refine Below.drew ?_) | (refine Below.trans ?_ (Below.mono hb2 ?_)) | (refine Below.trans ?_ (Below.mono hb1 ?_)))) <;> (first | omega | (simp; done) | (simp; omega)))⟩
        · have f1 : (H == H') = false := by simpa using e2
          have f2 : decide (H = H') = false := by simpa using e2
          have ee := Lib.hid e2
          clear e2
          go_enter Try.func40, Try.ntmps40
          go_wp2_with fail
          refine (h1 _).mono ?_
          rintro e w1 ⟨rfl, hb1⟩
          rw [o1.out]
          have hQ := hQ0 _ (by simpa using hb1)
          have hP := ((Pw.new _ _ _ _ _ _).alloc _).below hb1
          have s1 := hb1.size; simp only [World.size_alloc] at s1
          obtain ⟨l1, q0, q1, q2⟩ := id hQ
          go_wp2_with fail
          refine (h2 _).mono ?_
          rintro e w2 ⟨rfl, hb2⟩
          rw [o2.out]
          have s2 := hb2.size
          obtain ⟨l2, r0, r1, r2⟩ := hQ.below hb2
          obtain ⟨l3, p0, p1, p2, p3⟩ := hP.below hb2
          go_wp2_with fail
          go_ret
          exact ⟨by simp [sameCB, v1, v2, f2], by ((repeat' (first | (refine bel_set ?_ ?_ _) | (refine bel_al ?_ ?_ _) | exact Below.refl _ _ | assumption | (refine below_drewN ?_ _) | (refine Below.drew ?_) | (refine Below.trans ?_ (Below.mono hb2 ?_)) | (refine Below.trans ?_ (Below.mono hb1 ?_)))) <;> (first | omega | (simp; done) | (simp; omega)))⟩
      · have f1 : (W == W') = false := by simpa using e1
        have f2 : decide (W = W') = false := by simpa using e1
        have ee := Lib.hid e1
        clear e1
        go_enter Try.func40, Try.ntmps40
        go_wp2_with fail
        refine (h1 _).mono ?_
        rintro e w1 ⟨rfl, hb1⟩
        rw [o1.out]
        have hQ := hQ0 _ (by simpa using hb1)
        have hP := ((Pw.new _ _ _ _ _ _).alloc _).below hb1
        have s1 := hb1.size; simp only [World.size_alloc] at s1
        obtain ⟨l1, q0, q1, q2⟩ := id hQ
        go_wp2_with fail
        refine (h2 _).mono ?_
        rintro e w2 ⟨rfl, hb2⟩
        rw [o2.out]
        have s2 := hb2.size
        obtain ⟨l2, r0, r1, r2⟩ := hQ.below hb2
        obtain ⟨l3, p0, p1, p2, p3⟩ := hP.below hb2
        go_wp2_with fail
        go_ret
        exact ⟨by simp [sameCB, v1, v2, f2], by ((repeat' (first | (refine bel_set ?_ ?_ _) | (refine bel_al ?_ ?_ _) | exact Below.refl _ _ | assumption | (refine below_drewN ?_ _) | (refine Below.drew ?_) | (refine Below.trans ?_ (Below.mono hb2 ?_)) | (refine Below.trans ?_ (Below.mono hb1 ?_)))) <;> (first | omega | (simp; done) | (simp; omega)))⟩
end Go.Proofs.Ytblaojflcemfdaa
