import Derived.Test.YtnbilmlpngcobaaCVec
import Derived.Test.YtnbilmlpngcobaaPq
import Derived.Test.YtnbilmlpngcobaaRe
import Derived.Defers
import Derived.Deep.QuietTactic
import Derived.BigQuiet
set_option linter.unusedVariables false
set_option linter.unusedSimpArgs false
namespace Go.FX
open Go Go.RowKit

/-! Cameras: a block of four 32-bit numbers. -/
def P4 (w : World) (b f0 f1 f2 f3 : Nat) : Prop := b < w.heap.size ∧ w.cell? ⟨b, 0, none⟩ = some (.float .f32 f0) ∧ w.cell? ⟨b, 1, none⟩ = some (.float .f32 f1) ∧ w.cell? ⟨b, 2, none⟩ = some (.float .f32 f2) ∧ w.cell? ⟨b, 3, none⟩ = some (.float .f32 f3)
theorem P4.below {w w' : World} {b f0 f1 f2 f3 : Nat} (h : P4 w b f0 f1 f2 f3) (hb : Below w.heap.size w w') : P4 w' b f0 f1 f2 f3 := by
  obtain ⟨h0, h1, h2, h3, h4⟩ := h
  have hc := (bcell hb).1
  exact ⟨Nat.lt_of_lt_of_le h0 hb.size, by rw [hc _ _ h0]; exact h1, by rw [hc _ _ h0]; exact h2, by rw [hc _ _ h0]; exact h3, by rw [hc _ _ h0]; exact h4⟩
theorem P4.kept {w w' : World} {b f0 f1 f2 f3 : Nat} {row : Option Nat} (h : P4 w b f0 f1 f2 f3) (hg : w.grownBy w' row) (hne : row ≠ some b) : P4 w' b f0 f1 f2 f3 := by
  obtain ⟨h0, h1, h2, h3, h4⟩ := h
  have hc : ∀ o, w'.cell? ⟨b, o, none⟩ = w.cell? ⟨b, o, none⟩ := fun o => World.cell?_of_block (hg.block b h0 (fun e => hne e.symm))
  exact ⟨Nat.lt_of_lt_of_le h0 hg.size, by rw [hc]; exact h1, by rw [hc]; exact h2, by rw [hc]; exact h3, by rw [hc]; exact h4⟩
theorem P4.alloc {w : World} {b f0 f1 f2 f3 : Nat} (h : P4 w b f0 f1 f2 f3) (o : Obj) : P4 (w.alloc o) b f0 f1 f2 f3 := h.below (below1 w o)
theorem P4.drewN {w : World} {b f0 f1 f2 f3 : Nat} (h : P4 w b f0 f1 f2 f3) (n : Nat) : P4 (w.drewN n) b f0 f1 f2 f3 := h
theorem P4.new (w : World) (f0 f1 f2 f3 : Nat) (T : TypeId) : P4 (w.alloc (.cells #[.float .f32 f0, .float .f32 f1, .float .f32 f2, .float .f32 f3] T)) w.heap.size f0 f1 f2 f3 := by
  refine ⟨by simp, ?_, ?_, ?_, ?_⟩ <;> go_simp

theorem isF_cn (x : Nat) : isF .f32 (cn .f32 x) = isF .f32 x := by
  by_cases h : isN .f32 x = true
  · rw [cn_of_nan h]
    have h2 : isF .f32 x = false := by
      cases h3 : isF .f32 x with
      | false => rfl
      | true => rw [isF_not h3] at h; exact absurd h (by decide)
    rw [h2]; decide
  · rw [cn_of_not (by simpa using h)]
theorem Fl.isF {r c : Nat} (h : Fl .f32 r c) : FX.isF .f32 r = FX.isF .f32 c := by rw [← h.eq, isF_cn]
theorem fl00 : Fl .f32 0 0 := ⟨by decide, by decide⟩
/-- Is a number finite and greater than 0? -/
def abv (x : Nat) : Bool := isF .f32 x && (FloatKind.f32.format.order x 0 == some Ordering.gt)
theorem abv_fl {r c : Nat} (h : Fl .f32 r c) : abv r = abv c := by unfold abv; rw [h.isF, h.order fl00]
def okCam (f b mx my : Nat) : Bool := abv f && abv b && isF .f32 mx && isF .f32 my
/-- The depth of a disparity, if there is one. -/
def depth (f b x : Nat) : Nat := fop .quo .f32 (fop .mul .f32 f b) x
def depOk (f b x : Nat) : Bool := abv x && abv (depth f b x)
def depV (f b x : Nat) : Nat := if depOk f b x then depth f b x else 0
end Go.FX
namespace Go.Proofs.Ytnbilmlpngcobaa
open Go.FX Go.RowKit Go.WideShapes Go.ChangeShapes

/-- A struct of four 32-bit numbers by value, opened. -/
theorem cam_of {H : Type} {enc : TypeId × Value → H} {P : Program} {w : World} {base : Nat} {spare : Nat → Bool} {held : Bool} {r : Reach} {b0 : Nat} {t : TypeId} {f0 f1 f2 f3 : Field} {v : Value} {d : DataW H} {p : List MemPlace}
    (hs : P.underlying t = some (.struct #[f0, f1, f2, f3])) (hone : Deep.oneCellFields P #[f0, f1, f2, f3] = true) (hC : P.cellsOf t = 4) (e0 : P.underlying f0.type = some (.float .f32)) (e1 : P.underlying f1.type = some (.float .f32)) (e2 : P.underlying f2.type = some (.float .f32)) (e3 : P.underlying f3.type = some (.float .f32))
    (hv : Value.okWide P w r b0 t v) (h : DataW.Trod enc P w base spare held t v d p) :
    ∃ x y z u : Nat, v = .agg #[.float .f32 x, .float .f32 y, .float .f32 z, .float .f32 u] ∧ x < width .f32 ∧ y < width .f32 ∧ z < width .f32 ∧ u < width .f32 := by
  obtain ⟨v0, v1, v2, v3, y0, y1, y2, y3, m, rfl, _, _, t0, t1, t2, t3⟩ := Joins.open_agg4 hs hone hC hv h
  obtain ⟨x, ex, _, wx⟩ := trod_float e0 t0
  obtain ⟨y, ey, _, wy⟩ := trod_float e1 t1
  obtain ⟨z, ez, _, wz⟩ := trod_float e2 t2
  obtain ⟨u, eu, _, wu⟩ := trod_float e3 t3
  simp only [List.cons.injEq, and_true] at ex ey ez eu
  subst ex; subst ey; subst ez; subst eu
  exact ⟨x, y, z, u, rfl, lt32 wx, lt32 wy, lt32 wz, lt32 wu⟩

theorem toCamera_any (f b mx my : Nat) (w : World) : Calls Try.prog 16 #[.agg #[.float .f32 f, .float .f32 b, .float .f32 mx, .float .f32 my]] w fun e w' => e = .returned (.agg #[.float .f32 f, .float .f32 b, .float .f32 mx, .float .f32 my]) ∧ Below w.heap.size w w' := by
  go_enter Try.func16, Try.ntmps16
  go_wp2
  refine bodyPost_ret (v := ?v) ?hr rfl ?post
  case hr => (simp [results, Try.results16, go_sem]; rfl)
  case post => exact ⟨rfl, by ((repeat' (first | (refine bel_set ?_ ?_ _) | (refine bel_al ?_ ?_ _) | exact Below.refl _ _ | assumption | (refine below_drewN ?_ _) | (refine Below.drew ?_))) <;> (first | omega | (simp; done) | (simp; omega)))⟩

theorem caFin_any (x : Nat) (w : World) : Calls Try.prog 140 #[.float .f32 x] w (RB (isF .f32 x) w) := by
  go_enter Try.func140, Try.ntmps140
  go_wp2
  go_ret
  exact RB.of rfl

theorem caSFin_any (x : Nat) (w : World) : Calls Try.prog 138 #[.float .f32 x] w (RB (isF .f32 x) w) := by
  go_enter Try.func138, Try.ntmps138
  go_wp2
  go_ret
  exact RB.of rfl

theorem isAhead_any (x : Nat) (w : World) : Calls Try.prog 139 #[.float .f32 x] w (RB (abv x) w) := by
  cases h1 : isF .f32 x with
  | false =>
    have h1' := Lib.hid h1
    clear h1
    go_enter Try.func139, Try.ntmps139
    go_wp2_with fail
    refine (caFin_any _ _).mono ?_
    rintro e w1 ⟨k, rfl, rfl⟩
    rw [h1'.out]
    go_wp2_with fail
    go_ret
    exact ⟨_, by unfold abv; rw [h1'.out]; rfl, rfl⟩
  | true =>
    have h1' := Lib.hid h1
    clear h1
    go_enter Try.func139, Try.ntmps139
    go_wp2_with fail
    refine (caFin_any _ _).mono ?_
    rintro e w1 ⟨k, rfl, rfl⟩
    rw [h1'.out]
    go_wp2_with fail
    go_ret
    exact ⟨_, by unfold abv; rw [h1'.out]; rfl, rfl⟩

theorem specAbove_any (x : Nat) (w : World) : Calls Try.prog 74 #[.float .f32 x] w (RB (abv x) w) := by
  cases h1 : isF .f32 x with
  | false =>
    have h1' := Lib.hid h1
    clear h1
    go_enter Try.func74, Try.ntmps74
    go_wp2_with fail
    refine (caSFin_any _ _).mono ?_
    rintro e w1 ⟨k, rfl, rfl⟩
    rw [h1'.out]
    go_wp2_with fail
    go_ret
    exact ⟨_, by unfold abv; rw [h1'.out]; rfl, rfl⟩
  | true =>
    have h1' := Lib.hid h1
    clear h1
    go_enter Try.func74, Try.ntmps74
    go_wp2_with fail
    refine (caSFin_any _ _).mono ?_
    rintro e w1 ⟨k, rfl, rfl⟩
    rw [h1'.out]
    go_wp2_with fail
    go_ret
    exact ⟨_, by unfold abv; rw [h1'.out]; rfl, rfl⟩

theorem validCam_any (f b mx my : Nat) (w : World) : Calls Try.prog 70 #[.agg #[.float .f32 f, .float .f32 b, .float .f32 mx, .float .f32 my]] w (RBb (okCam f b mx my) w) := by
  cases h1 : abv f with
  | false =>
    have h1' := Lib.hid h1
    clear h1
    go_enter Try.func70, Try.ntmps70
    go_wp2_with fail
    refine (isAhead_any _ _).mono ?_
    rintro e w1 ⟨k1, rfl, rfl⟩
    rw [h1'.out]
    go_wp2_with fail
    go_ret
    exact ⟨by unfold okCam; rw [h1'.out]; rfl, by ((repeat' (first | (refine bel_set ?_ ?_ _) | (refine bel_al ?_ ?_ _) | exact Below.refl _ _ | assumption | (refine below_drewN ?_ _) | (refine Below.drew ?_))) <;> (first | omega | (simp; done) | (simp; omega)))⟩
  | true =>
    have h1' := Lib.hid h1
    clear h1
    cases h2 : abv b with
    | false =>
      have h2' := Lib.hid h2
      clear h2
      go_enter Try.func70, Try.ntmps70
      go_wp2_with fail
      refine (isAhead_any _ _).mono ?_
      rintro e w1 ⟨k1, rfl, rfl⟩
      rw [h1'.out]
      go_wp2_with fail
      refine (isAhead_any _ _).mono ?_
      rintro e w2 ⟨k2, rfl, rfl⟩
      rw [h2'.out]
      go_wp2_with fail
      go_ret
      exact ⟨by unfold okCam; rw [h1'.out, h2'.out]; rfl, by ((repeat' (first | (refine bel_set ?_ ?_ _) | (refine bel_al ?_ ?_ _) | exact Below.refl _ _ | assumption | (refine below_drewN ?_ _) | (refine Below.drew ?_))) <;> (first | omega | (simp; done) | (simp; omega)))⟩
    | true =>
      have h2' := Lib.hid h2
      clear h2
      cases h3 : isF .f32 mx with
      | false =>
        have h3' := Lib.hid h3
        clear h3
        go_enter Try.func70, Try.ntmps70
        go_wp2_with fail
        refine (isAhead_any _ _).mono ?_
        rintro e w1 ⟨k1, rfl, rfl⟩
        rw [h1'.out]
        go_wp2_with fail
        refine (isAhead_any _ _).mono ?_
        rintro e w2 ⟨k2, rfl, rfl⟩
        rw [h2'.out]
        go_wp2_with fail
        refine (caFin_any _ _).mono ?_
        rintro e w3 ⟨k3, rfl, rfl⟩
        rw [h3'.out]
        go_wp2_with fail
        go_ret
        exact ⟨by unfold okCam; rw [h1'.out, h2'.out, h3'.out]; rfl, by ((repeat' (first | (refine bel_set ?_ ?_ _) | (refine bel_al ?_ ?_ _) | exact Below.refl _ _ | assumption | (refine below_drewN ?_ _) | (refine Below.drew ?_))) <;> (first | omega | (simp; done) | (simp; omega)))⟩
      | true =>
        have h3' := Lib.hid h3
        clear h3
        cases h4 : isF .f32 my with
        | false =>
          have h4' := Lib.hid h4
          clear h4
          go_enter Try.func70, Try.ntmps70
          go_wp2_with fail
          refine (isAhead_any _ _).mono ?_
          rintro e w1 ⟨k1, rfl, rfl⟩
          rw [h1'.out]
          go_wp2_with fail
          refine (isAhead_any _ _).mono ?_
          rintro e w2 ⟨k2, rfl, rfl⟩
          rw [h2'.out]
          go_wp2_with fail
          refine (caFin_any _ _).mono ?_
          rintro e w3 ⟨k3, rfl, rfl⟩
          rw [h3'.out]
          go_wp2_with fail
          refine (caFin_any _ _).mono ?_
          rintro e w4 ⟨k4, rfl, rfl⟩
          rw [h4'.out]
          go_wp2_with fail
          go_ret
          exact ⟨by unfold okCam; rw [h1'.out, h2'.out, h3'.out, h4'.out]; rfl, by ((repeat' (first | (refine bel_set ?_ ?_ _) | (refine bel_al ?_ ?_ _) | exact Below.refl _ _ | assumption | (refine below_drewN ?_ _) | (refine Below.drew ?_))) <;> (first | omega | (simp; done) | (simp; omega)))⟩
        | true =>
          have h4' := Lib.hid h4
          clear h4
          go_enter Try.func70, Try.ntmps70
          go_wp2_with fail
          refine (isAhead_any _ _).mono ?_
          rintro e w1 ⟨k1, rfl, rfl⟩
          rw [h1'.out]
          go_wp2_with fail
          refine (isAhead_any _ _).mono ?_
          rintro e w2 ⟨k2, rfl, rfl⟩
          rw [h2'.out]
          go_wp2_with fail
          refine (caFin_any _ _).mono ?_
          rintro e w3 ⟨k3, rfl, rfl⟩
          rw [h3'.out]
          go_wp2_with fail
          refine (caFin_any _ _).mono ?_
          rintro e w4 ⟨k4, rfl, rfl⟩
          rw [h4'.out]
          go_wp2_with fail
          go_ret
          exact ⟨by unfold okCam; rw [h1'.out, h2'.out, h3'.out, h4'.out]; rfl, by ((repeat' (first | (refine bel_set ?_ ?_ _) | (refine bel_al ?_ ?_ _) | exact Below.refl _ _ | assumption | (refine below_drewN ?_ _) | (refine Below.drew ?_))) <;> (first | omega | (simp; done) | (simp; omega)))⟩

theorem specCam_any (f b mx my p : Nat) (w : World) (hp : P4 w p f b mx my) : Calls Try.prog 67 #[.pointer (some ⟨p, 0, none⟩)] w (RB (okCam f b mx my) w) := by
  obtain ⟨l0, p0, p1, p2, p3⟩ := hp
  cases h1 : abv f with
  | false =>
    have h1' := Lib.hid h1
    clear h1
    go_enter Try.func67, Try.ntmps67
    go_wp2_with fail
    refine (specAbove_any _ _).mono ?_
    rintro e w1 ⟨k1, rfl, rfl⟩
    rw [h1'.out]
    go_wp2_with fail
    go_ret
    exact ⟨_, by unfold okCam; rw [h1'.out]; rfl, by rfl⟩
  | true =>
    have h1' := Lib.hid h1
    clear h1
    cases h2 : abv b with
    | false =>
      have h2' := Lib.hid h2
      clear h2
      go_enter Try.func67, Try.ntmps67
      go_wp2_with fail
      refine (specAbove_any _ _).mono ?_
      rintro e w1 ⟨k1, rfl, rfl⟩
      rw [h1'.out]
      go_wp2_with fail
      refine (specAbove_any _ _).mono ?_
      rintro e w2 ⟨k2, rfl, rfl⟩
      rw [h2'.out]
      go_wp2_with fail
      go_ret
      exact ⟨_, by unfold okCam; rw [h1'.out, h2'.out]; rfl, by rfl⟩
    | true =>
      have h2' := Lib.hid h2
      clear h2
      cases h3 : isF .f32 mx with
      | false =>
        have h3' := Lib.hid h3
        clear h3
        go_enter Try.func67, Try.ntmps67
        go_wp2_with fail
        refine (specAbove_any _ _).mono ?_
        rintro e w1 ⟨k1, rfl, rfl⟩
        rw [h1'.out]
        go_wp2_with fail
        refine (specAbove_any _ _).mono ?_
        rintro e w2 ⟨k2, rfl, rfl⟩
        rw [h2'.out]
        go_wp2_with fail
        refine (caSFin_any _ _).mono ?_
        rintro e w3 ⟨k3, rfl, rfl⟩
        rw [h3'.out]
        go_wp2_with fail
        go_ret
        exact ⟨_, by unfold okCam; rw [h1'.out, h2'.out, h3'.out]; rfl, by rfl⟩
      | true =>
        have h3' := Lib.hid h3
        clear h3
        cases h4 : isF .f32 my with
        | false =>
          have h4' := Lib.hid h4
          clear h4
          go_enter Try.func67, Try.ntmps67
          go_wp2_with fail
          refine (specAbove_any _ _).mono ?_
          rintro e w1 ⟨k1, rfl, rfl⟩
          rw [h1'.out]
          go_wp2_with fail
          refine (specAbove_any _ _).mono ?_
          rintro e w2 ⟨k2, rfl, rfl⟩
          rw [h2'.out]
          go_wp2_with fail
          refine (caSFin_any _ _).mono ?_
          rintro e w3 ⟨k3, rfl, rfl⟩
          rw [h3'.out]
          go_wp2_with fail
          refine (caSFin_any _ _).mono ?_
          rintro e w4 ⟨k4, rfl, rfl⟩
          rw [h4'.out]
          go_wp2_with fail
          go_ret
          exact ⟨_, by unfold okCam; rw [h1'.out, h2'.out, h3'.out, h4'.out]; rfl, by rfl⟩
        | true =>
          have h4' := Lib.hid h4
          clear h4
          go_enter Try.func67, Try.ntmps67
          go_wp2_with fail
          refine (specAbove_any _ _).mono ?_
          rintro e w1 ⟨k1, rfl, rfl⟩
          rw [h1'.out]
          go_wp2_with fail
          refine (specAbove_any _ _).mono ?_
          rintro e w2 ⟨k2, rfl, rfl⟩
          rw [h2'.out]
          go_wp2_with fail
          refine (caSFin_any _ _).mono ?_
          rintro e w3 ⟨k3, rfl, rfl⟩
          rw [h3'.out]
          go_wp2_with fail
          refine (caSFin_any _ _).mono ?_
          rintro e w4 ⟨k4, rfl, rfl⟩
          rw [h4'.out]
          go_wp2_with fail
          go_ret
          exact ⟨_, by unfold okCam; rw [h1'.out, h2'.out, h3'.out, h4'.out]; rfl, by rfl⟩

theorem clearF_yes (p : Addr) (a : Option Addr) (n c : Nat) (u : FrameMode) (w : World) (hc : w.cell? p = some (.bool true)) :
    CallsD Try.prog 149 #[.pointer (some p), .slice a n c] u w fun e u' w' => u' = u ∧ (e = .returned (.tuple #[]) ∧ w' = w) := by
  go_enter_d Try.func149, Try.ntmps149
  go_wp2
  first | go_end0 | refine bodyPost_ret (results_none rfl _ _ _) rfl ?_
  exact ⟨rfl, rfl⟩
def Clr1 (q : Addr) (w : World) (s12 : Value) (wr : World) : Prop := (s12 = .int .i64 0 ∧ wr = w) ∨ (s12 = .int .i64 1 ∧ wr = w.setCell q (.float .f32 0))
theorem clearF_no1 (p q : Addr) (bs : Nat) (u : FrameMode) (w : World) (hc : w.cell? p = some (.bool false)) (hs : w.cell? ⟨bs, 0, none⟩ = some (.pointer (some q))) (hq : (w.cell? q).isSome = true) (hf : w.frozen? q = false) :
    CallsD Try.prog 149 #[.pointer (some p), .slice (some ⟨bs, 0, none⟩) 1 1] u w fun e u' w' => u' = u ∧ (e = .returned (.tuple #[]) ∧ w' = w.setCell q (.float .f32 0)) := by
  obtain ⟨v, hq⟩ := Option.isSome_iff_exists.1 hq
  go_enter_d Try.func149, Try.ntmps149
  go_wp2
  go_loopw [12] (fun s12 wr => Clr1 q w s12 wr) (fun s12 _ => 1 - (intOf s12).toNat)
  case atStart => exact Or.inl ⟨rfl, rfl⟩
  case round =>
    rcases hrel with ⟨rfl, rfl⟩ | ⟨rfl, rfl⟩
    · go_wp2
      go_roundw
      case rel => exact Or.inr ⟨rfl, rfl⟩
      case measure => simp [intOf]
    · go_wp2
      go_end0
      exact ⟨rfl, rfl⟩

theorem isAhead_fl {x c : Nat} (h : Fl .f32 x c) (w : World) : Calls Try.prog 139 #[.float .f32 x] w (RB (abv c) w) := by
  rw [← abv_fl h]; exact isAhead_any x w
theorem specAbove_fl {x c : Nat} (h : Fl .f32 x c) (w : World) : Calls Try.prog 74 #[.float .f32 x] w (RB (abv c) w) := by
  rw [← abv_fl h]; exact specAbove_any x w

theorem flR_raw (op : BinOp) (k : FloatKind) (x y : Nat) (w : World) : Fl k (flR op k x y w) (fop op k x y) := ⟨flR_lt w, cn_flR' op k x y w⟩
theorem flR_raw_l (op op' : BinOp) (k : FloatKind) (x y z : Nat) (w w' : World) : Fl k (flR op k (flR op' k x y w') z w) (fop op k (fop op' k x y) z) := ⟨flR_lt w, by rw [cn_flR', fop_flR_l]⟩
def turnOk (f b mx my x : Nat) : Bool := okCam f b mx my && depOk f b x
def turnV (f b mx my x : Nat) : Nat := if turnOk f b mx my x then depth f b x else 0
set_option maxHeartbeats 4000000 in
theorem turn_any (f b mx my x : Nat) (w : World) : Calls Try.prog 142 #[.agg #[.float .f32 f, .float .f32 b, .float .f32 mx, .float .f32 my], .float .f32 x] w (RFBb (turnV f b mx my x) (turnOk f b mx my x) w) := by
  cases h1 : okCam f b mx my with
  | false =>
    have h1' := Lib.hid h1
    clear h1
    have e2 : turnOk f b mx my x = false := by unfold turnOk depOk; rw [h1'.out]; rfl
    have e3 : turnV f b mx my x = 0 := by unfold turnV; rw [e2]; rfl
    rw [e3, e2]
    clear e2 e3
    go_enter_defers Try.func142, Try.ntmps142
    go_wp2_with fail
    refine (validCam_any _ _ _ _ _).mono ?_
    rintro e w1 ⟨rfl, hb1⟩
    rw [h1'.out]
    obtain ⟨hc, hf⟩ := bcell hb1
    have hz := hb1.size
    simp only [World.size_alloc] at hz
    have c4 : w1.cell? ⟨w.heap.size + 1, 0, none⟩ = some (.float .f32 0) := by go_simp
    have c5 : w1.cell? ⟨w.heap.size + 1 + 1, 0, none⟩ = some (.bool false) := by go_simp
    go_wp2_with fail
    refine leaves_cons (f := 149) (args := #[.pointer (some ⟨w.heap.size + 1 + 1, 0, none⟩), .slice (some ⟨w.heap.size + 1 + 1 + 1, 0, none⟩) 1 1]) (by simp) (by simp [go_sem]) ?_
    refine (clearF_no1 _ ⟨w.heap.size + 1, 0, none⟩ _ _ _ (by go_simp) (by go_simp) (by go_simp; try rfl) (by go_simp)).mono ?_
    rintro e u' w'' ⟨rfl, rfl, hw''⟩
    have g4 : w''.cell? ⟨w.heap.size + 1, 0, none⟩ = some (.float .f32 0) := by rw [hw'']; exact World.cell?_setCell_same' _ _ _ (by go_simp)
    have g5 : w''.cell? ⟨w.heap.size + 1 + 1, 0, none⟩ = some (.bool false) := by rw [hw'']; go_simp
    have HW := Lib.hid hw''
    clear hw''
    refine ⟨_, (by simp only [results, Try.results142]; go_simp; try rfl), _, rfl, ?_, fl00⟩
    (rw [HW.out]; ((repeat' (first | (refine bel_set ?_ ?_ _) | (refine bel_al ?_ ?_ _) | exact Below.refl _ _ | assumption | (refine below_drewN ?_ _) | (refine Below.drew ?_) | (refine Below.trans ?_ (Below.mono hb1 ?_)))) <;> (first | omega | (simp; done) | (simp; omega))))
  | true =>
    have h1' := Lib.hid h1
    clear h1
    cases h2 : abv x with
    | false =>
      have h2' := Lib.hid h2
      clear h2
      have e2 : turnOk f b mx my x = false := by unfold turnOk depOk; rw [h1'.out, h2'.out]; rfl
      have e3 : turnV f b mx my x = 0 := by unfold turnV; rw [e2]; rfl
      rw [e3, e2]
      clear e2 e3
      go_enter_defers Try.func142, Try.ntmps142
      go_wp2_with fail
      refine (validCam_any _ _ _ _ _).mono ?_
      rintro e w1 ⟨rfl, hb1⟩
      rw [h1'.out]
      obtain ⟨hc, hf⟩ := bcell hb1
      have hz := hb1.size
      simp only [World.size_alloc] at hz
      have c4 : w1.cell? ⟨w.heap.size + 1, 0, none⟩ = some (.float .f32 0) := by go_simp
      have c5 : w1.cell? ⟨w.heap.size + 1 + 1, 0, none⟩ = some (.bool false) := by go_simp
      go_wp2_with fail
      refine (isAhead_any _ _).mono ?_
      rintro e w2 ⟨k2, rfl, rfl⟩
      rw [h2'.out]
      go_wp2_with fail
      refine leaves_cons (f := 149) (args := #[.pointer (some ⟨w.heap.size + 1 + 1, 0, none⟩), .slice (some ⟨w.heap.size + 1 + 1 + 1, 0, none⟩) 1 1]) (by simp) (by simp [go_sem]) ?_
      refine (clearF_no1 _ ⟨w.heap.size + 1, 0, none⟩ _ _ _ (by go_simp) (by go_simp) (by go_simp; try rfl) (by go_simp)).mono ?_
      rintro e u' w'' ⟨rfl, rfl, hw''⟩
      have g4 : w''.cell? ⟨w.heap.size + 1, 0, none⟩ = some (.float .f32 0) := by rw [hw'']; exact World.cell?_setCell_same' _ _ _ (by go_simp)
      have g5 : w''.cell? ⟨w.heap.size + 1 + 1, 0, none⟩ = some (.bool false) := by rw [hw'']; go_simp
      have HW := Lib.hid hw''
      clear hw''
      refine ⟨_, (by simp only [results, Try.results142]; go_simp; try rfl), _, rfl, ?_, fl00⟩
      (rw [HW.out]; ((repeat' (first | (refine bel_set ?_ ?_ _) | (refine bel_al ?_ ?_ _) | exact Below.refl _ _ | assumption | (refine below_drewN ?_ _) | (refine Below.drew ?_) | (refine Below.trans ?_ (Below.mono hb1 ?_)))) <;> (first | omega | (simp; done) | (simp; omega))))
    | true =>
      have h2' := Lib.hid h2
      clear h2
      cases h3 : abv (depth f b x) with
      | false =>
        have h3' := Lib.hid h3
        clear h3
        have e2 : turnOk f b mx my x = false := by unfold turnOk depOk; rw [h1'.out, h2'.out, h3'.out]; rfl
        have e3 : turnV f b mx my x = 0 := by unfold turnV; rw [e2]; rfl
        rw [e3, e2]
        clear e2 e3
        go_enter_defers Try.func142, Try.ntmps142
        go_wp2_with fail
        refine (validCam_any _ _ _ _ _).mono ?_
        rintro e w1 ⟨rfl, hb1⟩
        rw [h1'.out]
        obtain ⟨hc, hf⟩ := bcell hb1
        have hz := hb1.size
        simp only [World.size_alloc] at hz
        have c4 : w1.cell? ⟨w.heap.size + 1, 0, none⟩ = some (.float .f32 0) := by go_simp
        have c5 : w1.cell? ⟨w.heap.size + 1 + 1, 0, none⟩ = some (.bool false) := by go_simp
        go_wp2_with fail
        refine (isAhead_any _ _).mono ?_
        rintro e w2 ⟨k2, rfl, rfl⟩
        rw [h2'.out]
        go_wp2_with fail
        go_region_with ((go_at_call 139; refine (isAhead_fl (flR_raw_l _ _ _ _ _ _ _ _) _).mono ?_; rintro e w3 ⟨k3, rfl, rfl⟩))
        all_goals (try go_wp2_with fail)
        all_goals
          rw [show abv (fop BinOp.quo FloatKind.f32 (fop BinOp.mul FloatKind.f32 f b) x) = false from h3'.out]
          refine leaves_cons (f := 149) (args := #[.pointer (some ⟨w.heap.size + 1 + 1, 0, none⟩), .slice (some ⟨w.heap.size + 1 + 1 + 1, 0, none⟩) 1 1]) (by simp) (by simp [go_sem]) ?_
          refine (clearF_no1 _ ⟨w.heap.size + 1, 0, none⟩ _ _ _ (by go_simp) (by go_simp) (by go_simp; try rfl) (by go_simp)).mono ?_
          rintro e u' w'' ⟨rfl, rfl, hw''⟩
          have g4 : w''.cell? ⟨w.heap.size + 1, 0, none⟩ = some (.float .f32 0) := by rw [hw'']; exact World.cell?_setCell_same' _ _ _ (by go_simp)
          have g5 : w''.cell? ⟨w.heap.size + 1 + 1, 0, none⟩ = some (.bool false) := by rw [hw'']; go_simp
          have HW := Lib.hid hw''
          clear hw''
          refine ⟨_, (by simp only [results, Try.results142]; go_simp; try rfl), _, rfl, ?_, fl00⟩
          (rw [HW.out]; ((repeat' (first | (refine bel_set ?_ ?_ _) | (refine bel_al ?_ ?_ _) | exact Below.refl _ _ | assumption | (refine below_drewN ?_ _) | (refine Below.drew ?_) | (refine Below.trans ?_ (Below.mono hb1 ?_)))) <;> (first | omega | (simp; done) | (simp; omega))))
      | true =>
        have h3' := Lib.hid h3
        clear h3
        have e2 : turnOk f b mx my x = true := by unfold turnOk depOk; rw [h1'.out, h2'.out, h3'.out]; rfl
        have e3 : turnV f b mx my x = depth f b x := by unfold turnV; rw [e2]; rfl
        rw [e3, e2]
        clear e2 e3
        go_enter_defers Try.func142, Try.ntmps142
        go_wp2_with fail
        refine (validCam_any _ _ _ _ _).mono ?_
        rintro e w1 ⟨rfl, hb1⟩
        rw [h1'.out]
        obtain ⟨hc, hf⟩ := bcell hb1
        have hz := hb1.size
        simp only [World.size_alloc] at hz
        have c4 : w1.cell? ⟨w.heap.size + 1, 0, none⟩ = some (.float .f32 0) := by go_simp
        have c5 : w1.cell? ⟨w.heap.size + 1 + 1, 0, none⟩ = some (.bool false) := by go_simp
        go_wp2_with fail
        refine (isAhead_any _ _).mono ?_
        rintro e w2 ⟨k2, rfl, rfl⟩
        rw [h2'.out]
        go_wp2_with fail
        go_region_with ((go_at_call 139; refine (isAhead_fl (flR_raw_l _ _ _ _ _ _ _ _) _).mono ?_; rintro e w3 ⟨k3, rfl, rfl⟩))
        all_goals (try go_wp2_with fail)
        all_goals
          rw [show abv (fop BinOp.quo FloatKind.f32 (fop BinOp.mul FloatKind.f32 f b) x) = true from h3'.out]
          refine leaves_cons (f := 149) (args := #[.pointer (some ⟨w.heap.size + 1 + 1, 0, none⟩), .slice (some ⟨w.heap.size + 1 + 1 + 1, 0, none⟩) 1 1]) (by simp) (by simp [go_sem]) ?_
          refine (clearF_yes _ _ _ _ _ _ (by go_simp)).mono ?_
          rintro e u' w'' ⟨rfl, rfl, hw''⟩
          subst hw''
          refine ⟨_, (by simp only [results, Try.results142]; go_simp; try rfl), _, rfl, ?_, flR_raw_l _ _ _ _ _ _ _ _⟩
          ((repeat' (first | (refine bel_set ?_ ?_ _) | (refine bel_al ?_ ?_ _) | exact Below.refl _ _ | assumption | (refine below_drewN ?_ _) | (refine Below.drew ?_) | (refine Below.trans ?_ (Below.mono hb1 ?_)))) <;> (first | omega | (simp; done) | (simp; omega)))
theorem fop_cnl (op : BinOp) (k : FloatKind) (x y : Nat) : fop op k (cn k x) y = fop op k x y := by rw [← fop_cn2 op k (cn k x) y, cn_cn, fop_cn2]
theorem fop_cnr (op : BinOp) (k : FloatKind) (x y : Nat) : fop op k x (cn k y) = fop op k x y := by rw [← fop_cn2 op k x (cn k y), cn_cn, fop_cn2]
def sel (ok : Bool) (c : Nat) : Nat := if ok then c else 0
theorem turnV_eq (f b mx my x : Nat) : turnV f b mx my x = sel (turnOk f b mx my x) (depth f b x) := rfl
theorem depV_eq (f b x : Nat) : depV f b x = sel (depOk f b x) (depth f b x) := rfl
/-- A vector and a bool, memory of the call's own. -/
def RVB (c0 c1 c2 : Nat) (ok : Bool) (w : World) (e : Ending) (w' : World) : Prop := ∃ r0 r1 r2, e = .returned (.tuple #[.agg #[.float .f32 r0, .float .f32 r1, .float .f32 r2], .bool ok]) ∧ Below w.heap.size w w' ∧ Fl .f32 r0 c0 ∧ Fl .f32 r1 c1 ∧ Fl .f32 r2 c2
def ptX (f b x mx d : Nat) : Nat := fop .mul .f32 (depth f b d) (fop .quo .f32 (fop .sub .f32 x mx) f)
def ptOk (f b x y d : Nat) : Bool := depOk f b d && isF .f32 x && isF .f32 y
def RVp (c0 c1 c2 : Nat) (ok : Bool) (w : World) (e : Ending) (w' : World) : Prop := RVB (sel ok c0) (sel ok c1) (sel ok c2) ok w e w'

set_option maxHeartbeats 1000000 in
theorem specDepth_any (f b mx my p x : Nat) (w : World) (hp : P4 w p f b mx my) (lf : f < width .f32) (lb : b < width .f32) (lx : x < width .f32) : Calls Try.prog 69 #[.pointer (some ⟨p, 0, none⟩), .float .f32 x] w (RFB .f32 (depV f b x) (depOk f b x) w) := by
  obtain ⟨l0, p0, p1, p2, p3⟩ := hp
  have hff := Fl.of lf
  have hfb := Fl.of lb
  have hfx := Fl.of lx
  have hE : Hid (fop .quo .f32 (fop .mul .f32 (cn .f32 f) (cn .f32 b)) (cn .f32 x) = depth f b x) := Lib.hid (by unfold depth; rw [fop_cnl, fop_cnr, fop_cnr])
  cases h2 : abv x with
  | false =>
    have h2' := Lib.hid h2
    clear h2
    have e2 : depOk f b x = false := by unfold depOk; rw [h2'.out]; rfl
    have e3 : depV f b x = 0 := by unfold depV; rw [e2]; rfl
    rw [e3, e2]
    clear e2 e3
    go_enter Try.func69, Try.ntmps69
    go_wp2_with fail
    refine (specAbove_any _ _).mono ?_
    rintro e w2 ⟨k2, rfl, hw2⟩
    rw [h2'.out]
    subst hw2
    go_wp2_with fail
    go_ret2
    exact ⟨_, _, rfl, rfl, fl00⟩
  | true =>
    have h2' := Lib.hid h2
    clear h2
    cases h3 : abv (depth f b x) with
    | false =>
      have h3' := Lib.hid h3
      clear h3
      have e2 : depOk f b x = false := by unfold depOk; rw [h2'.out, h3'.out]; rfl
      have e3 : depV f b x = 0 := by unfold depV; rw [e2]; rfl
      rw [e3, e2]
      clear e2 e3
      go_enter Try.func69, Try.ntmps69
      go_wp2_with fail
      refine (specAbove_any _ _).mono ?_
      rintro e w2 ⟨k2, rfl, hw2⟩
      rw [h2'.out]
      have p0' : w2.cell? ⟨p, 0, none⟩ = some (.float .f32 f) := by rw [hw2]; exact p0
      have p1' : w2.cell? ⟨p, 1, none⟩ = some (.float .f32 b) := by rw [hw2]; exact p1
      have hw2' := Lib.hid hw2
      clear hw2 p0 p1
      go_wp2_with fail
      refine wp_region_cls (by kernel_rfl) (by kernel_rfl) (by kernel_rfl) (by kernel_rfl) (fun w' => ∃ n, w' = w2.drewN n) ⟨1, rfl⟩ [Eq1 ?q8865u0, Eq1 ?q8865u1, Eq1 ?q8865u2, Eq1 ?q8865u3, Eq1 ?q8865u4, Eq1 ?q8865u5, Eq1 ?q8865u6, Eq1 ?q8865u7, FloatIs .f32 (fop .mul .f32 (cn .f32 f) (cn .f32 b)), Eq1 ?q8865u9, FloatIs .f32 (fop .quo .f32 (fop .mul .f32 (cn .f32 f) (cn .f32 b)) (cn .f32 x)), FloatIs .f32 (fop .quo .f32 (fop .mul .f32 (cn .f32 f) (cn .f32 b)) (cn .f32 x))] ?q8865main
      case q8865main =>
        (refine wpR_pure ?_ (fun w hw => ?_) ?_; rfl; (obtain ⟨nn, rfl⟩ := hw; go_simp; (try with_reducible rfl)); (try simp only [Act.put, List.setIfInBounds_toArray, List.set_cons_zero, List.set_cons_succ]))
        (refine wpR_pure ?_ (fun w hw => ?_) ?_; rfl; (obtain ⟨nn, rfl⟩ := hw; go_simp; (try with_reducible rfl)); (try simp only [Act.put, List.setIfInBounds_toArray, List.set_cons_zero, List.set_cons_succ]))
        (refine wpR_pure ?_ (fun w hw => ?_) ?_; rfl; (obtain ⟨nn, rfl⟩ := hw; go_simp; (try with_reducible rfl)); (try simp only [Act.put, List.setIfInBounds_toArray, List.set_cons_zero, List.set_cons_succ]))
        (refine wpR_pure ?_ (fun w hw => ?_) ?_; rfl; (obtain ⟨nn, rfl⟩ := hw; go_simp; (try with_reducible rfl)); (try simp only [Act.put, List.setIfInBounds_toArray, List.set_cons_zero, List.set_cons_succ]))
        (refine wpR_pure ?_ (fun w hw => ?_) ?_; rfl; (obtain ⟨nn, rfl⟩ := hw; go_simp; (try with_reducible rfl)); (try simp only [Act.put, List.setIfInBounds_toArray, List.set_cons_zero, List.set_cons_succ]))
        (refine wpR_pure ?_ (fun w hw => ?_) ?_; rfl; (obtain ⟨nn, rfl⟩ := hw; go_simp; (try with_reducible rfl)); (try simp only [Act.put, List.setIfInBounds_toArray, List.set_cons_zero, List.set_cons_succ]))
        (refine wpR_pure ?_ (fun w hw => ?_) ?_; rfl; (obtain ⟨nn, rfl⟩ := hw; go_simp; (try with_reducible rfl)); (try simp only [Act.put, List.setIfInBounds_toArray, List.set_cons_zero, List.set_cons_succ]))
        (refine wpR_pure ?_ (fun w hw => ?_) ?_; rfl; (obtain ⟨nn, rfl⟩ := hw; go_simp; (try with_reducible rfl)); (try simp only [Act.put, List.setIfInBounds_toArray, List.set_cons_zero, List.set_cons_succ]))
        (refine wpR_cls ?_ (fun w hw => ?_) ?_; rfl; (obtain ⟨nn, rfl⟩ := hw; go_simp; exact ⟨⟨_, rfl⟩, _, rfl, Fl.flR (by assumption) (by assumption) _⟩); (rintro _ ⟨_, rfl, _⟩; (try simp only [Act.put, List.setIfInBounds_toArray, List.set_cons_zero, List.set_cons_succ])))
        (refine wpR_pure ?_ (fun w hw => ?_) ?_; rfl; (obtain ⟨nn, rfl⟩ := hw; go_simp; (try with_reducible rfl)); (try simp only [Act.put, List.setIfInBounds_toArray, List.set_cons_zero, List.set_cons_succ]))
        (refine wpR_cls ?_ (fun w hw => ?_) ?_; rfl; (obtain ⟨nn, rfl⟩ := hw; go_simp; exact ⟨⟨_, rfl⟩, _, rfl, Fl.flR (by assumption) (by assumption) _⟩); (rintro _ ⟨_, rfl, _⟩; (try simp only [Act.put, List.setIfInBounds_toArray, List.set_cons_zero, List.set_cons_succ])))
        (refine wpR_cls ?_ (fun w hw => ?_) ?_; rfl; (obtain ⟨nn, rfl⟩ := hw; go_simp; first | exact ⟨_, rfl, by assumption⟩ | exact ⟨⟨_, rfl⟩, _, rfl, by assumption⟩); (rintro _ ⟨_, rfl, _⟩; (try simp only [Act.put, List.setIfInBounds_toArray, List.set_cons_zero, List.set_cons_succ])))
        refine wpR_nil ?_
        rintro w' ⟨nn, rfl⟩
        go_wp2_with fail
        refine (specAbove_fl (c := fop .quo .f32 (fop .mul .f32 (cn .f32 f) (cn .f32 b)) (cn .f32 x)) (by assumption) _).mono ?_
        rintro e w3 ⟨k3, rfl, rfl⟩
        rw [hE.out, h3'.out]
        go_wp2_with fail
        go_ret2
        exact ⟨_, k2 + (nn + k3), rfl, by rw [hw2'.out]; simp, fl00⟩
    | true =>
      have h3' := Lib.hid h3
      clear h3
      have e2 : depOk f b x = true := by unfold depOk; rw [h2'.out, h3'.out]; rfl
      have e3 : depV f b x = depth f b x := by unfold depV; rw [e2]; rfl
      rw [e3, e2]
      clear e2 e3
      go_enter Try.func69, Try.ntmps69
      go_wp2_with fail
      refine (specAbove_any _ _).mono ?_
      rintro e w2 ⟨k2, rfl, hw2⟩
      rw [h2'.out]
      have p0' : w2.cell? ⟨p, 0, none⟩ = some (.float .f32 f) := by rw [hw2]; exact p0
      have p1' : w2.cell? ⟨p, 1, none⟩ = some (.float .f32 b) := by rw [hw2]; exact p1
      have hw2' := Lib.hid hw2
      clear hw2 p0 p1
      go_wp2_with fail
      refine wp_region_cls (by kernel_rfl) (by kernel_rfl) (by kernel_rfl) (by kernel_rfl) (fun w' => ∃ n, w' = w2.drewN n) ⟨1, rfl⟩ [Eq1 ?q8865x2u0, Eq1 ?q8865x2u1, Eq1 ?q8865x2u2, Eq1 ?q8865x2u3, Eq1 ?q8865x2u4, Eq1 ?q8865x2u5, Eq1 ?q8865x2u6, Eq1 ?q8865x2u7, FloatIs .f32 (fop .mul .f32 (cn .f32 f) (cn .f32 b)), Eq1 ?q8865x2u9, FloatIs .f32 (fop .quo .f32 (fop .mul .f32 (cn .f32 f) (cn .f32 b)) (cn .f32 x)), FloatIs .f32 (fop .quo .f32 (fop .mul .f32 (cn .f32 f) (cn .f32 b)) (cn .f32 x))] ?q8865x2main
      case q8865x2main =>
        (refine wpR_pure ?_ (fun w hw => ?_) ?_; rfl; (obtain ⟨nn, rfl⟩ := hw; go_simp; (try with_reducible rfl)); (try simp only [Act.put, List.setIfInBounds_toArray, List.set_cons_zero, List.set_cons_succ]))
        (refine wpR_pure ?_ (fun w hw => ?_) ?_; rfl; (obtain ⟨nn, rfl⟩ := hw; go_simp; (try with_reducible rfl)); (try simp only [Act.put, List.setIfInBounds_toArray, List.set_cons_zero, List.set_cons_succ]))
        (refine wpR_pure ?_ (fun w hw => ?_) ?_; rfl; (obtain ⟨nn, rfl⟩ := hw; go_simp; (try with_reducible rfl)); (try simp only [Act.put, List.setIfInBounds_toArray, List.set_cons_zero, List.set_cons_succ]))
        (refine wpR_pure ?_ (fun w hw => ?_) ?_; rfl; (obtain ⟨nn, rfl⟩ := hw; go_simp; (try with_reducible rfl)); (try simp only [Act.put, List.setIfInBounds_toArray, List.set_cons_zero, List.set_cons_succ]))
        (refine wpR_pure ?_ (fun w hw => ?_) ?_; rfl; (obtain ⟨nn, rfl⟩ := hw; go_simp; (try with_reducible rfl)); (try simp only [Act.put, List.setIfInBounds_toArray, List.set_cons_zero, List.set_cons_succ]))
        (refine wpR_pure ?_ (fun w hw => ?_) ?_; rfl; (obtain ⟨nn, rfl⟩ := hw; go_simp; (try with_reducible rfl)); (try simp only [Act.put, List.setIfInBounds_toArray, List.set_cons_zero, List.set_cons_succ]))
        (refine wpR_pure ?_ (fun w hw => ?_) ?_; rfl; (obtain ⟨nn, rfl⟩ := hw; go_simp; (try with_reducible rfl)); (try simp only [Act.put, List.setIfInBounds_toArray, List.set_cons_zero, List.set_cons_succ]))
        (refine wpR_pure ?_ (fun w hw => ?_) ?_; rfl; (obtain ⟨nn, rfl⟩ := hw; go_simp; (try with_reducible rfl)); (try simp only [Act.put, List.setIfInBounds_toArray, List.set_cons_zero, List.set_cons_succ]))
        (refine wpR_cls ?_ (fun w hw => ?_) ?_; rfl; (obtain ⟨nn, rfl⟩ := hw; go_simp; exact ⟨⟨_, rfl⟩, _, rfl, Fl.flR (by assumption) (by assumption) _⟩); (rintro _ ⟨_, rfl, _⟩; (try simp only [Act.put, List.setIfInBounds_toArray, List.set_cons_zero, List.set_cons_succ])))
        (refine wpR_pure ?_ (fun w hw => ?_) ?_; rfl; (obtain ⟨nn, rfl⟩ := hw; go_simp; (try with_reducible rfl)); (try simp only [Act.put, List.setIfInBounds_toArray, List.set_cons_zero, List.set_cons_succ]))
        (refine wpR_cls ?_ (fun w hw => ?_) ?_; rfl; (obtain ⟨nn, rfl⟩ := hw; go_simp; exact ⟨⟨_, rfl⟩, _, rfl, Fl.flR (by assumption) (by assumption) _⟩); (rintro _ ⟨_, rfl, _⟩; (try simp only [Act.put, List.setIfInBounds_toArray, List.set_cons_zero, List.set_cons_succ])))
        (refine wpR_cls ?_ (fun w hw => ?_) ?_; rfl; (obtain ⟨nn, rfl⟩ := hw; go_simp; first | exact ⟨_, rfl, by assumption⟩ | exact ⟨⟨_, rfl⟩, _, rfl, by assumption⟩); (rintro _ ⟨_, rfl, _⟩; (try simp only [Act.put, List.setIfInBounds_toArray, List.set_cons_zero, List.set_cons_succ])))
        refine wpR_nil ?_
        rintro w' ⟨nn, rfl⟩
        go_wp2_with fail
        refine (specAbove_fl (c := fop .quo .f32 (fop .mul .f32 (cn .f32 f) (cn .f32 b)) (cn .f32 x)) (by assumption) _).mono ?_
        rintro e w3 ⟨k3, rfl, rfl⟩
        rw [hE.out, h3'.out]
        go_wp2_with fail
        go_ret2
        exact ⟨_, k2 + (nn + k3), rfl, by rw [hw2'.out]; simp, hE.out ▸ (by assumption)⟩
theorem implDepthOf_any (f b mx my x : Nat) (w : World) : Calls Try.prog 159 #[.agg #[.float .f32 f, .float .f32 b, .float .f32 mx, .float .f32 my], .float .f32 x] w (RFBb (turnV f b mx my x) (turnOk f b mx my x) w) := by
  go_enter Try.func159, Try.ntmps159
  go_wp2_with fail
  refine (turn_any _ _ _ _ _ _).mono ?_
  rintro e w1 ⟨r, rfl, hb1, hr⟩
  go_wp2_with fail
  go_ret2
  exact ⟨_, rfl, by ((repeat' (first | (refine bel_set ?_ ?_ _) | (refine bel_al ?_ ?_ _) | exact Below.refl _ _ | assumption | (refine below_drewN ?_ _) | (refine Below.drew ?_) | (refine Below.trans ?_ (Below.mono hb1 ?_)))) <;> (first | omega | (simp; done) | (simp; omega))), hr⟩

end Go.Proofs.Ytnbilmlpngcobaa
