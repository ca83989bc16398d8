import Derived.Test.YtmgdofengamcmaaRp
import Derived.IntWalk
set_option linter.unusedVariables false
set_option linter.unusedSimpArgs false
namespace Go.Proofs.Ytmgdofengamcmaa
open Go.FX Go.RowKit Go.WideShapes Go.ChangeShapes

theorem specValidPr_any (x y : Nat) (w : World) : Calls Try.prog 15 #[.agg #[.float .f32 x, .float .f32 y]] w (RBb (okPB x y) w) := by
  have hh := fun w1 hp => specPrIs_any x y w.heap.size w1 hp
  go_enter Try.func15, Try.ntmps15
  go_wp2_with fail
  refine (hh _ (P2.new _ _ _ _)).mono ?_
  rintro e w1 ⟨k, rfl, rfl⟩
  go_wp2_with fail
  go_ret
  exact ⟨rfl, below_drewN (below1 _ _) _⟩
theorem specDeep_any (n : Int) (w : World) : Calls Try.prog 57 #[.int .i64 n] w fun e w' => e = .returned (.bool (idxB n 8)) ∧ w' = w := by
  go_enter Try.func57, Try.ntmps57
  go_wp2_with fail
  refine (specIn_any _ _ _ _).mono ?_
  rintro e w1 ⟨rfl, rfl⟩
  go_wp2_with fail
  go_ret
  exact ⟨by rw [← inB_idx]; rfl, rfl⟩
def priceR (x y : Nat) (a b : Int) : Nat := if okPB x y && (idxB a 8 && idxB b 8) then priceF x y a b else 0
set_option maxHeartbeats 1000000 in
theorem specPriceOf_any (x y : Nat) (a b : Int) (w : World) : Calls Try.prog 18 #[.agg #[.float .f32 x, .float .f32 y], .int .i64 a, .int .i64 b] w
    fun e w' => e = .returned (.tuple #[.float .f32 (priceR x y a b), .bool (okPB x y && (idxB a 8 && idxB b 8))]) ∧ Below w.heap.size w w' := by
  have h1 := fun w1 hp => specPrIs_any x y w.heap.size w1 hp
  have h2 := fun w1 hp a0 a1 b0 b1 => specPrice_any x y a b w.heap.size w1 hp a0 a1 b0 b1
  unfold priceR
  cases c1 : okPB x y with
  | false =>
    have c1' := Lib.hid c1
    clear c1
    go_enter Try.func18, Try.ntmps18
    go_wp2_with fail
    refine (h1 _ (P2.new _ _ _ _)).mono ?_
    rintro e w1 ⟨k, rfl, rfl⟩
    rw [c1'.out]
    go_wp2_with fail
    go_ret2
    exact ⟨rfl, below_drewN (below1 _ _) _⟩
  | true =>
    have c1' := Lib.hid c1
    clear c1
    cases c2 : idxB a 8 with
    | false =>
      have c2' := Lib.hid c2
      clear c2
      go_enter Try.func18, Try.ntmps18
      go_wp2_with fail
      refine (h1 _ (P2.new _ _ _ _)).mono ?_
      rintro e w1 ⟨k, rfl, rfl⟩
      rw [c1'.out]
      go_wp2_with fail
      refine (specDeep_any _ _).mono ?_
      rintro e w1 ⟨rfl, rfl⟩
      rw [c2'.out]
      go_wp2_with fail
      go_ret2
      exact ⟨rfl, below_drewN (below1 _ _) _⟩
    | true =>
      have c2' := Lib.hid c2
      have a01 : 0 ≤ a ∧ a < 8 := by unfold idxB at c2; simpa using c2
      clear c2
      cases c3 : idxB b 8 with
      | false =>
        have c3' := Lib.hid c3
        clear c3
        go_enter Try.func18, Try.ntmps18
        go_wp2_with fail
        refine (h1 _ (P2.new _ _ _ _)).mono ?_
        rintro e w1 ⟨k, rfl, rfl⟩
        rw [c1'.out]
        go_wp2_with fail
        refine (specDeep_any _ _).mono ?_
        rintro e w1 ⟨rfl, rfl⟩
        rw [c2'.out]
        go_wp2_with fail
        refine (specDeep_any _ _).mono ?_
        rintro e w1 ⟨rfl, rfl⟩
        rw [c3'.out]
        go_wp2_with fail
        go_ret2
        exact ⟨rfl, below_drewN (below1 _ _) _⟩
      | true =>
        have c3' := Lib.hid c3
        have b01 : 0 ≤ b ∧ b < 8 := by unfold idxB at c3; simpa using c3
        clear c3
        go_enter Try.func18, Try.ntmps18
        go_wp2_with fail
        refine (h1 _ (P2.new _ _ _ _)).mono ?_
        rintro e w1 ⟨k, rfl, rfl⟩
        rw [c1'.out]
        go_wp2_with fail
        refine (specDeep_any _ _).mono ?_
        rintro e w1 ⟨rfl, rfl⟩
        rw [c2'.out]
        go_wp2_with fail
        refine (specDeep_any _ _).mono ?_
        rintro e w1 ⟨rfl, rfl⟩
        rw [c3'.out]
        go_wp2_with fail
        refine (h2 _ ((P2.new _ _ _ _).drewN _) a01.1 a01.2 b01.1 b01.2).mono ?_
        rintro e w1 ⟨rfl, rfl⟩
        go_wp2_with fail
        go_ret2
        exact ⟨rfl, below_drewN (below1 _ _) _⟩
set_option maxHeartbeats 1000000 in
theorem implPriceOf_any (x y : Nat) (a b : Int) (w : World) : Calls Try.prog 19 #[.agg #[.float .f32 x, .float .f32 y], .int .i64 a, .int .i64 b] w
    fun e w' => e = .returned (.tuple #[.float .f32 (priceR x y a b), .bool (okPB x y && (idxB a 8 && idxB b 8))]) ∧ Below w.heap.size w w' := by
  unfold priceR
  cases c1 : okPB x y with
  | false =>
    have c1' := Lib.hid c1
    clear c1
    go_enter Try.func19, Try.ntmps19
    go_wp2_with fail
    refine (validPr_any _ _ _).mono ?_
    rintro e w1 ⟨rfl, hb1⟩
    rw [c1'.out]
    go_wp2_with fail
    go_ret2
    exact ⟨rfl, by ((repeat' (first | (refine bel_set ?_ ?_ _) | (refine bel_al ?_ ?_ _) | exact Below.refl _ _ | assumption | (refine below_drewN ?_ _) | (refine Below.drew ?_) | (refine Below.trans ?_ (Below.mono hb1 ?_)))) <;> (first | omega | (simp; done) | (simp; omega)))⟩
  | true =>
    have c1' := Lib.hid c1
    clear c1
    cases c2 : idxB a 8 with
    | false =>
      have c2' := Lib.hid c2
      clear c2
      go_enter Try.func19, Try.ntmps19
      go_wp2_with fail
      refine (validPr_any _ _ _).mono ?_
      rintro e w1 ⟨rfl, hb1⟩
      rw [c1'.out]
      have s1 := hb1.size; simp only [World.size_alloc] at s1
      obtain ⟨l1, p1, p2⟩ := (P2.new _ _ _ _).below hb1
      go_wp2_with fail
      refine (isIndex_any _ _ _).mono ?_
      rintro e w' ⟨rfl, rfl⟩
      rw [c2'.out]
      go_wp2_with fail
      go_ret2
      exact ⟨rfl, by ((repeat' (first | (refine bel_set ?_ ?_ _) | (refine bel_al ?_ ?_ _) | exact Below.refl _ _ | assumption | (refine below_drewN ?_ _) | (refine Below.drew ?_) | (refine Below.trans ?_ (Below.mono hb1 ?_)))) <;> (first | omega | (simp; done) | (simp; omega)))⟩
    | true =>
      have c2' := Lib.hid c2
      have a01 : 0 ≤ a ∧ a < 8 := by unfold idxB at c2; simpa using c2
      clear c2
      cases c3 : idxB b 8 with
      | false =>
        have c3' := Lib.hid c3
        clear c3
        go_enter Try.func19, Try.ntmps19
        go_wp2_with fail
        refine (validPr_any _ _ _).mono ?_
        rintro e w1 ⟨rfl, hb1⟩
        rw [c1'.out]
        have s1 := hb1.size; simp only [World.size_alloc] at s1
        obtain ⟨l1, p1, p2⟩ := (P2.new _ _ _ _).below hb1
        go_wp2_with fail
        refine (isIndex_any _ _ _).mono ?_
        rintro e w' ⟨rfl, rfl⟩
        rw [c2'.out]
        go_wp2_with fail
        refine (isIndex_any _ _ _).mono ?_
        rintro e w' ⟨rfl, rfl⟩
        rw [c3'.out]
        go_wp2_with fail
        go_ret2
        exact ⟨rfl, by ((repeat' (first | (refine bel_set ?_ ?_ _) | (refine bel_al ?_ ?_ _) | exact Below.refl _ _ | assumption | (refine below_drewN ?_ _) | (refine Below.drew ?_) | (refine Below.trans ?_ (Below.mono hb1 ?_)))) <;> (first | omega | (simp; done) | (simp; omega)))⟩
      | true =>
        have c3' := Lib.hid c3
        have b01 : 0 ≤ b ∧ b < 8 := by unfold idxB at c3; simpa using c3
        clear c3
        have hpr := fun w1 => price_any x y a b w1 a01.1 a01.2 b01.1 b01.2
        go_enter Try.func19, Try.ntmps19
        go_wp2_with fail
        refine (validPr_any _ _ _).mono ?_
        rintro e w1 ⟨rfl, hb1⟩
        rw [c1'.out]
        have s1 := hb1.size; simp only [World.size_alloc] at s1
        obtain ⟨l1, p1, p2⟩ := (P2.new _ _ _ _).below hb1
        go_wp2_with fail
        refine (isIndex_any _ _ _).mono ?_
        rintro e w' ⟨rfl, rfl⟩
        rw [c2'.out]
        go_wp2_with fail
        refine (isIndex_any _ _ _).mono ?_
        rintro e w' ⟨rfl, rfl⟩
        rw [c3'.out]
        go_wp2_with fail
        refine (hpr _).mono ?_
        rintro e w2 ⟨rfl, hb2⟩
        go_wp2_with fail
        go_ret2
        exact ⟨rfl, by ((repeat' (first | (refine bel_set ?_ ?_ _) | (refine bel_al ?_ ?_ _) | exact Below.refl _ _ | assumption | (refine below_drewN ?_ _) | (refine Below.drew ?_) | (refine Below.trans ?_ (Below.mono hb2 ?_)) | (refine Below.trans ?_ (Below.mono hb1 ?_)))) <;> (first | omega | (simp; done) | (simp; omega)))⟩
theorem priceR_lt {x y : Nat} (hx : x < width .f32) (hy : y < width .f32) (a b : Int) : priceR x y a b < width .f32 := by
  unfold priceR; split
  · exact priceF_lt hx hy a b
  · decide
end Go.Proofs.Ytmgdofengamcmaa
