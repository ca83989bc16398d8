import Derived.Test.YtmbohiebjgafoaaPm
set_option linter.unusedVariables false
set_option linter.unusedSimpArgs false
namespace Go.FX
open Go Go.RowKit
theorem own_sep {v v' : Value} (h : ∀ k, v.ownBlock = some k → ∀ k', v'.ownBlock = some k' → k ≠ k') : v.ownBlock = none ∨ v.ownBlock ≠ v'.ownBlock := by
  cases e : v.ownBlock with
  | none => exact .inl rfl
  | some k => exact .inr fun e' => h k e k e'.symm rfl
end Go.FX
namespace Go.Proofs.Ytmbohiebjgafoaa
open Go.FX Go.RowKit Go.WideShapes Go.ChangeShapes

theorem slice_field {H : Type} {enc : TypeId × Value → H} {P : Program} {w : World} {base : Nat} {spare : Nat → Bool} {held : Bool} {n : Nat} {t e : TypeId} {v : Value} {y : DataW H × List MemPlace}
    (ht : P.underlying t = some (.slice e)) (h : DataW.trod enc P w base spare held n t [v] = some y) : ∃ a len cap, v = .slice a len cap := by
  rcases DataW.trod_slice ht h with ⟨h0, _⟩ | ⟨x, len', cap', elems, rest, n, _, hcs, _⟩
  · simp at h0; exact ⟨_, _, _, h0⟩
  · simp at hcs; exact ⟨_, _, _, hcs⟩
/-- A struct of two integers and a slice of 32-bit numbers by value, opened. -/
theorem pic_of {H : Type} {enc : TypeId × Value → H} {P : Program} {w : World} {base : Nat} {spare : Nat → Bool} {held : Bool} {r : Reach} {b0 : Nat} {t e : TypeId} {f0 f1 f2 : Field} {v : Value} {d : DataW H} {p : List MemPlace}
    (hs : P.underlying t = some (.struct #[f0, f1, f2])) (hone : Deep.oneCellFields P #[f0, f1, f2] = true) (hC : P.cellsOf t = 3) (e0 : P.underlying f0.type = some (.int .i64)) (e1 : P.underlying f1.type = some (.int .i64)) (e2 : P.underlying f2.type = some (.slice e))
    (he : P.underlying e = some (.float .f32)) (hc : P.cellsOf e = 1) (hv : Value.okWide P w r b0 t v) (h : DataW.Trod enc P w base spare held t v d p) :
    ∃ (x y : Int) (a : Option Addr) (n c : Nat) (zs : List Nat), v = .agg #[.int .i64 x, .int .i64 y, .slice a n c] ∧ (Lit.int .i64 x).wf = true ∧ (Lit.int .i64 y).wf = true ∧ FS w (.slice a n c) zs := by
  obtain ⟨v0, v1, v2, y0, y1, y2, m, rfl, _, _, t0, t1, t2⟩ := Joins.open_agg3 hs hone hC hv h
  obtain ⟨x, ex, _, wx⟩ := DataW.trod_int e0 t0
  obtain ⟨y, ey, _, wy⟩ := DataW.trod_int e1 t1
  simp only [List.cons.injEq, and_true] at ex ey
  subst ex; subst ey
  obtain ⟨a, n, c, rfl⟩ := slice_field e2 t2
  obtain ⟨zs, hz⟩ := fs_of (d := y2.1) (ps := y2.2) e2 he hc ⟨m, t2⟩
  exact ⟨x, y, a, n, c, zs, rfl, wx, wy, hz⟩
end Go.Proofs.Ytmbohiebjgafoaa
