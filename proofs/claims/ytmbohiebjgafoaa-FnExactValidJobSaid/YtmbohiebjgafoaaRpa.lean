import Derived.Test.YtmbohiebjgafoaaBase
import Derived.Test.YtmbohiebjgafoaaHeld
import Derived.Test.YtmbohiebjgafoaaVa
set_option linter.unusedVariables false
set_option linter.unusedSimpArgs false
namespace Go.FX
open Go Go.RowKit

/-! Prices: a block of two 32-bit numbers. -/
def P2 (w : World) (b x y : Nat) : Prop := b < w.heap.size ∧ w.cell? ⟨b, 0, none⟩ = some (.float .f32 x) ∧ w.cell? ⟨b, 1, none⟩ = some (.float .f32 y)
theorem P2.below {w w' : World} {b x y : Nat} (h : P2 w b x y) (hb : Below w.heap.size w w') : P2 w' b x y := by
  obtain ⟨h0, h1, h2⟩ := h
  have hc := (bcell hb).1
  exact ⟨Nat.lt_of_lt_of_le h0 hb.size, by rw [hc _ _ h0]; exact h1, by rw [hc _ _ h0]; exact h2⟩
theorem P2.kept {w w' : World} {b x y : Nat} {row : Option Nat} (h : P2 w b x y) (hg : w.grownBy w' row) (hne : row ≠ some b) : P2 w' b x y := by
  obtain ⟨h0, h1, h2⟩ := h
  have hc : ∀ o, w'.cell? ⟨b, o, none⟩ = w.cell? ⟨b, o, none⟩ := fun o => World.cell?_of_block (hg.block b h0 (fun e => hne e.symm))
  exact ⟨Nat.lt_of_lt_of_le h0 hg.size, by rw [hc]; exact h1, by rw [hc]; exact h2⟩
theorem P2.alloc {w : World} {b x y : Nat} (h : P2 w b x y) (o : Obj) : P2 (w.alloc o) b x y := h.below (below1 w o)
theorem P2.drewN {w : World} {b x y : Nat} (h : P2 w b x y) (n : Nat) : P2 (w.drewN n) b x y := h
theorem P2.new (w : World) (x y : Nat) (T : TypeId) : P2 (w.alloc (.cells #[.float .f32 x, .float .f32 y] T)) w.heap.size x y := by
  refine ⟨by simp, ?_, ?_⟩ <;> go_simp

/-- Are these prices? -/
def ge0 (x : Nat) : Bool := FloatKind.f32.format.order x 0 == some Ordering.gt || FloatKind.f32.format.order x 0 == some Ordering.eq
def le2 (x y : Nat) : Bool := FloatKind.f32.format.order x y == some Ordering.lt || FloatKind.f32.format.order x y == some Ordering.eq
theorem le2_zero (x : Nat) : le2 0 x = ge0 x := by
  unfold le2 ge0
  by_cases h : isN .f32 x = true
  · rw [order_nan_right h, order_nan_left h]; rfl
  · have hx : isN .f32 x = false := by simpa using h
    have h0 : isN .f32 0 = false := by decide
    rw [lt_key h0 hx, gt_key hx h0, eq_key h0 hx, eq_key hx h0]
    congr 1
    simp only [decide_eq_decide]
    omega
def okPB (x y : Nat) : Bool := isF .f32 x && isF .f32 y && ge0 x && le2 x y
/-- The price of a jump. -/
def priceF (x y : Nat) (a b : Int) : Nat := if a = b then 0 else if a = b + 1 ∨ b = a + 1 then x else y
theorem priceF_lt {x y : Nat} (hx : x < width .f32) (hy : y < width .f32) (a b : Int) : priceF x y a b < width .f32 := by
  unfold priceF; split
  · decide
  · split
    · exact hx
    · exact hy
theorem enc0 : (0 : Nat) < width .f32 := by decide
end Go.FX
namespace Go.Proofs.Ytmbohiebjgafoaa
open Go.FX Go.RowKit Go.WideShapes Go.ChangeShapes

/-- A struct of two 32-bit numbers by value, opened. -/
theorem prices_of {H : Type} {enc : TypeId × Value → H} {P : Program} {w : World} {base : Nat} {spare : Nat → Bool} {held : Bool} {r : Reach} {b0 : Nat} {t : TypeId} {f0 f1 : Field} {v : Value} {d : DataW H} {p : List MemPlace}
    (hs : P.underlying t = some (.struct #[f0, f1])) (hone : Deep.oneCellFields P #[f0, f1] = true) (hC : P.cellsOf t = 2) (e0 : P.underlying f0.type = some (.float .f32)) (e1 : P.underlying f1.type = some (.float .f32))
    (hv : Value.okWide P w r b0 t v) (h : DataW.Trod enc P w base spare held t v d p) :
    ∃ x y : Nat, v = .agg #[.float .f32 x, .float .f32 y] ∧ x < width .f32 ∧ y < width .f32 := by
  obtain ⟨v0, v1, y0, y1, m, rfl, _, _, t0, t1⟩ := Joins.open_agg2 hs hone hC hv h
  obtain ⟨x, ex, _, wx⟩ := trod_float e0 t0
  obtain ⟨y, ey, _, wy⟩ := trod_float e1 t1
  simp only [List.cons.injEq, and_true] at ex ey
  subst ex; subst ey
  exact ⟨x, y, rfl, lt32 wx, lt32 wy⟩
theorem toPrices_any (x y : Nat) (w : World) : Calls Try.prog 59 #[.agg #[.float .f32 x, .float .f32 y]] w fun e w' => e = .returned (.agg #[.float .f32 x, .float .f32 y]) ∧ Below w.heap.size w w' := by
  go_enter Try.func59, Try.ntmps59
  go_wp2
  refine bodyPost_ret (v := ?v) ?hr rfl ?post
  case hr => (simp [results, Try.results59, go_sem]; rfl)
  case post => exact ⟨rfl, below3 _ _ _ _⟩
theorem isFinite_any (x : Nat) (w : World) : Calls Try.prog 111 #[.float .f32 x] w (RB (isF .f32 x) w) := by
  go_enter Try.func111, Try.ntmps111
  go_wp2
  go_ret
  exact RB.of rfl
theorem specFinite_any (x : Nat) (w : World) : Calls Try.prog 131 #[.float .f32 x] w (RB (isF .f32 x) w) := by
  go_enter Try.func131, Try.ntmps131
  go_wp2
  go_ret
  exact RB.of rfl
theorem validPr_any (x y : Nat) (w : World) : Calls Try.prog 62 #[.agg #[.float .f32 x, .float .f32 y]] w (RBb (okPB x y) w) := by
  have e0 := le2_zero x
  have hx := Lib.hid (show isF .f32 x = isF .f32 x from rfl)
  cases h1 : isF .f32 x with
  | false =>
    have h1' := Lib.hid h1
    clear h1 hx
    go_enter Try.func62, Try.ntmps62
    go_wp2_with fail
    refine (isFinite_any _ _).mono ?_
    rintro e w1 ⟨k, rfl, rfl⟩
    rw [h1'.out]
    go_wp2_with fail
    go_ret
    exact ⟨by unfold okPB; rw [h1'.out]; rfl, by ((repeat' (first | (refine bel_set ?_ ?_ _) | (refine bel_al ?_ ?_ _) | exact Below.refl _ _ | assumption | (refine below_drewN ?_ _) | (refine Below.drew ?_))) <;> (first | omega | (simp; done) | (simp; omega)))⟩
  | true =>
    have h1' := Lib.hid h1
    clear h1 hx
    cases h2 : isF .f32 y with
    | false =>
      have h2' := Lib.hid h2
      clear h2
      go_enter Try.func62, Try.ntmps62
      go_wp2_with fail
      refine (isFinite_any _ _).mono ?_
      rintro e w1 ⟨k, rfl, rfl⟩
      rw [h1'.out]
      go_wp2_with fail
      refine (isFinite_any _ _).mono ?_
      rintro e w1 ⟨k2, rfl, rfl⟩
      rw [h2'.out]
      go_wp2_with fail
      go_ret
      exact ⟨by unfold okPB; rw [h1'.out, h2'.out]; rfl, by ((repeat' (first | (refine bel_set ?_ ?_ _) | (refine bel_al ?_ ?_ _) | exact Below.refl _ _ | assumption | (refine below_drewN ?_ _) | (refine Below.drew ?_))) <;> (first | omega | (simp; done) | (simp; omega)))⟩
    | true =>
      have h2' := Lib.hid h2
      clear h2
      cases h3 : le2 0 x with
      | false =>
        have h3' := Lib.hid (e0.symm.trans h3)
        unfold le2 at h3
        go_enter Try.func62, Try.ntmps62
        go_wp2_with fail
        refine (isFinite_any _ _).mono ?_
        rintro e w1 ⟨k, rfl, rfl⟩
        rw [h1'.out]
        go_wp2_with fail
        refine (isFinite_any _ _).mono ?_
        rintro e w1 ⟨k2, rfl, rfl⟩
        rw [h2'.out]
        go_wp2_with fail
        go_ret
        exact ⟨by unfold okPB; rw [h1'.out, h2'.out, h3'.out]; rfl, by ((repeat' (first | (refine bel_set ?_ ?_ _) | (refine bel_al ?_ ?_ _) | exact Below.refl _ _ | assumption | (refine below_drewN ?_ _) | (refine Below.drew ?_))) <;> (first | omega | (simp; done) | (simp; omega)))⟩
      | true =>
        have h3' := Lib.hid (e0.symm.trans h3)
        unfold le2 at h3
        go_enter Try.func62, Try.ntmps62
        go_wp2_with fail
        refine (isFinite_any _ _).mono ?_
        rintro e w1 ⟨k, rfl, rfl⟩
        rw [h1'.out]
        go_wp2_with fail
        refine (isFinite_any _ _).mono ?_
        rintro e w1 ⟨k2, rfl, rfl⟩
        rw [h2'.out]
        go_wp2_with fail
        go_ret
        exact ⟨by unfold okPB; rw [h1'.out, h2'.out, h3'.out]; rfl, by ((repeat' (first | (refine bel_set ?_ ?_ _) | (refine bel_al ?_ ?_ _) | exact Below.refl _ _ | assumption | (refine below_drewN ?_ _) | (refine Below.drew ?_))) <;> (first | omega | (simp; done) | (simp; omega)))⟩
set_option maxHeartbeats 1000000 in
theorem specPrIs_any (x y b : Nat) (w : World) (hp : P2 w b x y) : Calls Try.prog 110 #[.pointer (some ⟨b, 0, none⟩)] w (RB (okPB x y) w) := by
  obtain ⟨l0, p0, p1⟩ := hp
  cases h1 : isF .f32 x with
  | false =>
    have h1' := Lib.hid h1
    have h2' := h1'
    clear h1
    go_enter Try.func110, Try.ntmps110
    go_wp2_with fail
    go_quiet ((go_at_call 131; exact Calls.quiet_of ((specFinite_any _ _).mono fun _ _ ⟨m, he, hw⟩ => ⟨he.trans (by first | rw [h1'.out] | rw [h2'.out]), m, hw⟩)))
    go_wp2
    go_ret
    exact ⟨_, by unfold okPB; rw [h1'.out]; rfl, rfl⟩
  | true =>
    have h1' := Lib.hid h1
    clear h1
    cases h2 : isF .f32 y with
    | false =>
      have h2' := Lib.hid h2
      clear h2
      go_enter Try.func110, Try.ntmps110
      go_wp2_with fail
      go_quiet ((go_at_call 131; exact Calls.quiet_of ((specFinite_any _ _).mono fun _ _ ⟨m, he, hw⟩ => ⟨he.trans (by first | rw [h1'.out] | rw [h2'.out]), m, hw⟩)))
      go_wp2
      go_ret
      exact ⟨_, by unfold okPB; rw [h1'.out, h2'.out]; rfl, rfl⟩
    | true =>
      have h2' := Lib.hid h2
      clear h2
      cases h3 : ge0 x with
      | false =>
        have h3' := Lib.hid h3
        unfold ge0 at h3
        go_enter Try.func110, Try.ntmps110
        go_wp2_with fail
        go_quiet ((go_at_call 131; exact Calls.quiet_of ((specFinite_any _ _).mono fun _ _ ⟨m, he, hw⟩ => ⟨he.trans (by first | rw [h1'.out] | rw [h2'.out]), m, hw⟩)))
        go_wp2
        go_ret
        exact ⟨_, by unfold okPB; rw [h1'.out, h2'.out, h3'.out]; rfl, rfl⟩
      | true =>
        have h3' := Lib.hid h3
        unfold ge0 at h3
        go_enter Try.func110, Try.ntmps110
        go_wp2_with fail
        go_quiet ((go_at_call 131; exact Calls.quiet_of ((specFinite_any _ _).mono fun _ _ ⟨m, he, hw⟩ => ⟨he.trans (by first | rw [h1'.out] | rw [h2'.out]), m, hw⟩)))
        go_wp2
        go_ret
        exact ⟨_, by unfold okPB; rw [h1'.out, h2'.out, h3'.out]; rfl, rfl⟩
end Go.Proofs.Ytmbohiebjgafoaa
