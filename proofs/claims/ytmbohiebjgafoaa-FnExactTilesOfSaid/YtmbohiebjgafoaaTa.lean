import Derived.Test.YtmbohiebjgafoaaPq
import Derived.Test.YtmbohiebjgafoaaPx
import Derived.IntWalk
import Derived.Deep.DeepCutAuto
import Derived.Deep.QuietTactic
import Derived.BigQuiet
set_option linter.unusedVariables false
set_option linter.unusedSimpArgs false
namespace Go.FX
open Go Go.RowKit

/-! Tiles: a block of two whole numbers. -/
def Tv (w : World) (b : Nat) (x y : Int) : Prop := b < w.heap.size ∧ w.cell? ⟨b, 0, none⟩ = some (.int .i64 x) ∧ w.cell? ⟨b, 1, none⟩ = some (.int .i64 y)
theorem Tv.below {w w' : World} {b : Nat} {x y : Int} (h : Tv w b x y) (hb : Below w.heap.size w w') : Tv w' b x y := by
  obtain ⟨h0, h1, h2⟩ := h
  have hc := (bcell hb).1
  exact ⟨Nat.lt_of_lt_of_le h0 hb.size, by rw [hc _ _ h0]; exact h1, by rw [hc _ _ h0]; exact h2⟩
theorem Tv.kept {w w' : World} {b : Nat} {x y : Int} {row : Option Nat} (h : Tv w b x y) (hg : w.grownBy w' row) (hne : row ≠ some b) : Tv w' b x y := by
  obtain ⟨h0, h1, h2⟩ := h
  have hc : ∀ o, w'.cell? ⟨b, o, none⟩ = w.cell? ⟨b, o, none⟩ := fun o => World.cell?_of_block (hg.block b h0 (fun e => hne e.symm))
  exact ⟨Nat.lt_of_lt_of_le h0 hg.size, by rw [hc]; exact h1, by rw [hc]; exact h2⟩
theorem Tv.alloc {w : World} {b : Nat} {x y : Int} (h : Tv w b x y) (o : Obj) : Tv (w.alloc o) b x y := h.below (below1 w o)
theorem Tv.drewN {w : World} {b : Nat} {x y : Int} (h : Tv w b x y) (n : Nat) : Tv (w.drewN n) b x y := h
theorem Tv.new (w : World) (x y : Int) (T : TypeId) : Tv (w.alloc (.cells #[.int .i64 x, .int .i64 y] T)) w.heap.size x y := by
  refine ⟨by simp, ?_, ?_⟩ <;> go_simp

/-- Is a tile one of so many rows? -/
def tileB (H f k : Int) : Bool := decide (0 ≤ f ∧ 1 ≤ k ∧ k ≤ H - f)
def reachB (n : Int) : Bool := decide (0 ≤ n ∧ n ≤ 3)
/-- A tile and whether it is there. -/
def RTile (x y : Int) (ok : Bool) (w : World) (e : Ending) (w' : World) : Prop := e = .returned (.tuple #[.agg #[.int .i64 x, .int .i64 y], .bool ok]) ∧ Below w.heap.size w w'
def RTile1 (x y : Int) (w : World) (e : Ending) (w' : World) : Prop := e = .returned (.agg #[.int .i64 x, .int .i64 y]) ∧ Below w.heap.size w w'
def haloF (f r : Int) : Int := if 0 ≤ f - r then f - r else 0
def haloT (H f k r : Int) : Int := if f + k + r ≤ H then f + k + r else H
theorem wf64 {x : Int} (h : (Lit.int .i64 x).wf = true) : -9223372036854775808 ≤ x ∧ x ≤ 9223372036854775807 := by
  simp [Lit.wf, IntKind.min, IntKind.max, IntKind.signed, IntKind.bits] at h; omega
end Go.FX
namespace Go.Proofs.Ytmbohiebjgafoaa
open Go.FX Go.RowKit Go.WideShapes Go.ChangeShapes

/-- A struct of two integers by value, opened. -/
theorem tile_of {H : Type} {enc : TypeId × Value → H} {P : Program} {w : World} {base : Nat} {spare : Nat → Bool} {held : Bool} {r : Reach} {b0 : Nat} {t : TypeId} {f0 f1 : Field} {v : Value} {d : DataW H} {p : List MemPlace}
    (hs : P.underlying t = some (.struct #[f0, f1])) (hone : Deep.oneCellFields P #[f0, f1] = true) (hC : P.cellsOf t = 2) (e0 : P.underlying f0.type = some (.int .i64)) (e1 : P.underlying f1.type = some (.int .i64))
    (hv : Value.okWide P w r b0 t v) (h : DataW.Trod enc P w base spare held t v d p) :
    ∃ x y : Int, v = .agg #[.int .i64 x, .int .i64 y] ∧ (Lit.int .i64 x).wf = true ∧ (Lit.int .i64 y).wf = true := by
  obtain ⟨v0, v1, y0, y1, m, rfl, _, _, t0, t1⟩ := Joins.open_agg2 hs hone hC hv h
  obtain ⟨x, ex, _, wx⟩ := DataW.trod_int e0 t0
  obtain ⟨y, ey, _, wy⟩ := DataW.trod_int e1 t1
  simp only [List.cons.injEq, and_true] at ex ey
  subst ex; subst ey
  exact ⟨x, y, rfl, wx, wy⟩

theorem toTile_any (x y : Int) (w : World) : Calls Try.prog 26 #[.agg #[.int .i64 x, .int .i64 y]] w fun e w' => e = .returned (.agg #[.int .i64 x, .int .i64 y]) ∧ Below w.heap.size w w' := by
  go_enter Try.func26, Try.ntmps26
  go_wp2
  refine bodyPost_ret (v := ?v) ?hr rfl ?post
  case hr => (simp [results, Try.results26, go_sem]; rfl)
  case post => exact ⟨rfl, by ((repeat' (first | (refine bel_set ?_ ?_ _) | (refine bel_al ?_ ?_ _) | exact Below.refl _ _ | assumption | (refine below_drewN ?_ _) | (refine Below.drew ?_))) <;> (first | omega | (simp; done) | (simp; omega)))⟩

theorem eqTile_any (x y : Int) (w : World) : Calls Try.prog 31 #[.agg #[.int .i64 x, .int .i64 y], .agg #[.int .i64 x, .int .i64 y]] w (RBb true w) := by
  go_enter Try.func31, Try.ntmps31
  go_wp2
  go_ret
  exact ⟨rfl, by ((repeat' (first | (refine bel_set ?_ ?_ _) | (refine bel_al ?_ ?_ _) | exact Below.refl _ _ | assumption | (refine below_drewN ?_ _) | (refine Below.drew ?_))) <;> (first | omega | (simp; done) | (simp; omega)))⟩

theorem taIn_any (n lo hi : Int) (w : World) : Calls Try.prog 63 #[.int .i64 n, .int .i64 lo, .int .i64 hi] w fun e w' => e = .returned (.bool (decide (lo ≤ n ∧ n ≤ hi))) ∧ w = w' := by
  by_cases h1 : lo ≤ n
  · by_cases h2 : n ≤ hi
    all_goals
      go_enter Try.func63, Try.ntmps63
      go_wp2
      go_ret
      exact ⟨by simp [h1, h2], rfl⟩
  · go_enter Try.func63, Try.ntmps63
    go_wp2
    go_ret
    exact ⟨by simp; intros; omega, rfl⟩
theorem isReach_any (n : Int) (w : World) : Calls Try.prog 60 #[.int .i64 n] w fun e w' => e = .returned (.bool (reachB n)) ∧ w = w' := by
  by_cases h1 : 0 ≤ n
  · by_cases h2 : n ≤ 3
    all_goals
      go_enter Try.func60, Try.ntmps60
      go_wp2
      go_ret
      exact ⟨by simp [reachB, h1, h2], rfl⟩
  · go_enter Try.func60, Try.ntmps60
    go_wp2
    go_ret
    exact ⟨by simp [reachB]; intros; omega, rfl⟩

set_option maxHeartbeats 1000000 in
theorem specTile_any (H f k : Int) (b : Nat) (w : World) (hp : Tv w b f k) (hH1 : 1 ≤ H) (hH2 : H ≤ 24) (hf : -9223372036854775808 ≤ f ∧ f ≤ 9223372036854775807) :
    Calls Try.prog 69 #[.int .i64 H, .pointer (some ⟨b, 0, none⟩)] w (RB (tileB H f k) w) := by
  obtain ⟨hb, q0, q1⟩ := hp
  have m1 : IntKind.i64.wrap (H - 1) = H - 1 := IntWalk.i64_in _ (by omega)
  cases h1 : decide (0 ≤ f ∧ f ≤ H - 1) with
  | true =>
    have h1' := of_decide_eq_true h1
    have m2 : IntKind.i64.wrap (H - f) = H - f := IntWalk.i64_in _ (by omega)
    have e : tileB H f k = decide (1 ≤ k ∧ k ≤ H - f) := by unfold tileB; congr 1; simp; omega
    rw [e]
    have hA : ∀ w1, Calls Try.prog 63 #[.int .i64 f, .int .i64 0, .int .i64 (H - 1)] w1 fun e w' => e = .returned (.bool true) ∧ w' = w1 := fun w1 => (taIn_any f 0 (H - 1) w1).mono fun _ _ ⟨he, hw⟩ => ⟨he.trans (by rw [h1]), hw.symm⟩
    obtain ⟨v, hv⟩ : ∃ v, v = decide (1 ≤ k ∧ k ≤ H - f) := ⟨_, rfl⟩
    have hB : ∀ w1, Calls Try.prog 63 #[.int .i64 k, .int .i64 1, .int .i64 (H - f)] w1 fun e w' => e = .returned (.bool v) ∧ w' = w1 := fun w1 => (taIn_any k 1 (H - f) w1).mono fun _ _ ⟨he, hw⟩ => ⟨he.trans (by rw [hv]), hw.symm⟩
    rw [← hv]
    clear e h1 hv h1'
    go_enter Try.func69, Try.ntmps69
    go_wp2_with fail
    go_quiet (first
      | (go_at_call 63; with_reducible exact Calls.quiet_of_same (hA _))
      | (go_at_call 63; with_reducible exact Calls.quiet_of_same (hB _)))
    go_wp2
    go_ret
    exact ⟨_, rfl, rfl⟩
  | false =>
    have h1' := of_decide_eq_false h1
    have e : tileB H f k = false := by unfold tileB; apply decide_eq_false; omega
    rw [e]
    have h1h := Lib.hid h1
    clear e h1 h1'
    go_enter Try.func69, Try.ntmps69
    go_wp2_with fail
    go_quiet ((go_at_call 63; exact Calls.quiet_of_same ((taIn_any f 0 (H - 1) _).mono fun _ _ ⟨he, hw⟩ => ⟨he.trans (by rw [h1h.out]), hw.symm⟩)))
    go_wp2
    go_ret
    exact ⟨_, rfl, rfl⟩

set_option maxHeartbeats 1000000 in
theorem implIsTile_any (W H : Int) (a : Option Addr) (n c : Nat) (f k : Int) (w : World) (hnc : n ≤ c) (hcm : c ≤ maxLen) (hf : f ≤ 9223372036854775807) :
    Calls Try.prog 27 #[.agg #[.int .i64 W, .int .i64 H, .slice a n c], .agg #[.int .i64 f, .int .i64 k]] w (RBb (validB W H n && tileB H f k) w) := by
  have hv := fun w1 => validPic_any W H (.slice a n c) n w1 ⟨_, _, rfl, hnc, hcm⟩
  cases hval : validB W H n with
  | false =>
    rw [hval] at hv
    go_enter Try.func27, Try.ntmps27
    go_wp2_with fail
    refine (hv _).mono ?_
    rintro e w1 ⟨rfl, hb1⟩
    go_wp2_with fail
    go_ret
    exact ⟨rfl, by ((repeat' (first | (refine bel_set ?_ ?_ _) | (refine bel_al ?_ ?_ _) | exact Below.refl _ _ | assumption | (refine below_drewN ?_ _) | (refine Below.drew ?_) | (refine Below.trans ?_ (Below.mono hb1 ?_)))) <;> (first | omega | (simp; done) | (simp; omega)))⟩
  | true =>
    rw [hval] at hv
    obtain ⟨wn, hn, rfl, rfl, b1, b2, b3, b4, b5, hl⟩ := validB_parts hval
    clear hval hl
    have fin : ∀ b : Bool, b = tileB hn f k → (true && tileB hn f k) = b := fun b h => by rw [h]; rfl
    have ft : ∀ w1, Below (w.heap.size + 1 + 1) ((w.alloc (.cells #[.int .i64 wn, .int .i64 hn, .slice a n c] 46)).alloc (.cells #[.int .i64 f, .int .i64 k] 48)) w1 →
        Pv w1 w.heap.size wn hn (.slice a n c) ∧ Tv w1 (w.heap.size + 1) f k := fun w1 hb => by
      have hb' : Below ((w.alloc (.cells #[.int .i64 wn, .int .i64 hn, .slice a n c] 46)).alloc (.cells #[.int .i64 f, .int .i64 k] 48)).heap.size ((w.alloc (.cells #[.int .i64 wn, .int .i64 hn, .slice a n c] 46)).alloc (.cells #[.int .i64 f, .int .i64 k] 48)) w1 := by simpa using hb
      have ht := Tv.new (w.alloc (.cells #[.int .i64 wn, .int .i64 hn, .slice a n c] 46)) f k 48
      simp only [World.size_alloc] at ht
      exact ⟨((Pv.new _ _ _ _ _).alloc _).below hb', ht.below hb'⟩
    by_cases h1 : 0 ≤ f
    · have m1 : IntKind.i64.wrap ((hn : Int) - f) = hn - f := IntWalk.i64_in _ (by omega)
      by_cases h2 : 1 ≤ k
      · rw [fin (decide (k ≤ hn - f)) (by unfold tileB; simp only [h1, h2, true_and])]
        clear fin
        go_enter Try.func27, Try.ntmps27
        go_wp2_with fail
        refine (hv _).mono ?_
        rintro e w1 ⟨rfl, hb1⟩
        obtain ⟨⟨_, p0, p1, p2⟩, ⟨_, t0, t1⟩⟩ := ft w1 (by simpa using hb1)
        clear ft
        go_wp2_with fail
        go_ret
        exact ⟨rfl, by ((repeat' (first | (refine bel_set ?_ ?_ _) | (refine bel_al ?_ ?_ _) | exact Below.refl _ _ | assumption | (refine below_drewN ?_ _) | (refine Below.drew ?_) | (refine Below.trans ?_ (Below.mono hb1 ?_)))) <;> (first | omega | (simp; done) | (simp; omega)))⟩
      · rw [fin false (by unfold tileB; symm; apply decide_eq_false; omega)]
        clear fin
        go_enter Try.func27, Try.ntmps27
        go_wp2_with fail
        refine (hv _).mono ?_
        rintro e w1 ⟨rfl, hb1⟩
        obtain ⟨⟨_, p0, p1, p2⟩, ⟨_, t0, t1⟩⟩ := ft w1 (by simpa using hb1)
        clear ft
        go_wp2_with fail
        go_ret
        exact ⟨rfl, by ((repeat' (first | (refine bel_set ?_ ?_ _) | (refine bel_al ?_ ?_ _) | exact Below.refl _ _ | assumption | (refine below_drewN ?_ _) | (refine Below.drew ?_) | (refine Below.trans ?_ (Below.mono hb1 ?_)))) <;> (first | omega | (simp; done) | (simp; omega)))⟩
    · rw [fin false (by unfold tileB; symm; apply decide_eq_false; omega)]
      clear fin
      go_enter Try.func27, Try.ntmps27
      go_wp2_with fail
      refine (hv _).mono ?_
      rintro e w1 ⟨rfl, hb1⟩
      obtain ⟨⟨_, p0, p1, p2⟩, ⟨_, t0, t1⟩⟩ := ft w1 (by simpa using hb1)
      clear ft
      go_wp2_with fail
      go_ret
      exact ⟨rfl, by ((repeat' (first | (refine bel_set ?_ ?_ _) | (refine bel_al ?_ ?_ _) | exact Below.refl _ _ | assumption | (refine below_drewN ?_ _) | (refine Below.drew ?_) | (refine Below.trans ?_ (Below.mono hb1 ?_)))) <;> (first | omega | (simp; done) | (simp; omega)))⟩

set_option maxHeartbeats 1000000 in
theorem specIsTile_any (W H : Int) (a : Option Addr) (n c : Nat) (f k : Int) (w : World) (hnc : n ≤ c) (hcm : c ≤ maxLen) (hf : -9223372036854775808 ≤ f ∧ f ≤ 9223372036854775807) :
    Calls Try.prog 24 #[.agg #[.int .i64 W, .int .i64 H, .slice a n c], .agg #[.int .i64 f, .int .i64 k]] w (RBb (validB W H n && tileB H f k) w) := by
  have h1 := fun w1 hp => specIs_any W H a n c w.heap.size w1 hp (by unfold maxLen at hcm; omega)
  cases hval : validB W H n with
  | false =>
    rw [hval] at h1
    go_enter Try.func24, Try.ntmps24
    go_wp2_with fail
    refine (h1 _ ((Pv.new _ _ _ _ _).alloc _)).mono ?_
    rintro e w1 ⟨k1, rfl, rfl⟩
    go_wp2_with fail
    go_ret
    exact ⟨rfl, by ((repeat' (first | (refine bel_set ?_ ?_ _) | (refine bel_al ?_ ?_ _) | exact Below.refl _ _ | assumption | (refine below_drewN ?_ _) | (refine Below.drew ?_))) <;> (first | omega | (simp; done) | (simp; omega)))⟩
  | true =>
    rw [hval] at h1
    obtain ⟨wn, hn, rfl, rfl, b1, b2, b3, b4, b5, hl⟩ := validB_parts hval
    clear hval hl
    have h2 := fun w1 hp => specTile_any hn f k (w.heap.size + 1) w1 hp (by omega) (by omega) hf
    go_enter Try.func24, Try.ntmps24
    go_wp2_with fail
    refine (h1 _ ((Pv.new _ _ _ _ _).alloc _)).mono ?_
    rintro e w1 ⟨k1, rfl, rfl⟩
    go_wp2_with fail
    refine (h2 _ (by have ht := (Tv.new (w.alloc (.cells #[.int .i64 wn, .int .i64 hn, .slice a n c] 46)) f k 48).drewN k1; simp only [World.size_alloc] at ht; exact ht)).mono ?_
    rintro e w1 ⟨k2, rfl, rfl⟩
    go_wp2_with fail
    go_ret
    exact ⟨rfl, by ((repeat' (first | (refine bel_set ?_ ?_ _) | (refine bel_al ?_ ?_ _) | exact Below.refl _ _ | assumption | (refine below_drewN ?_ _) | (refine Below.drew ?_))) <;> (first | omega | (simp; done) | (simp; omega)))⟩
end Go.Proofs.Ytmbohiebjgafoaa
