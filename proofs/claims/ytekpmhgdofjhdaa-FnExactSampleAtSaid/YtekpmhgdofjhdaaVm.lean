import Derived.Test.YtekpmhgdofjhdaaPm
import Derived.Test.YtekpmhgdofjhdaaVg
import Derived.Test.YtekpmhgdofjhdaaPo
import Derived.Deep.DeepCutAuto
set_option linter.unusedVariables false
set_option linter.unusedSimpArgs false
namespace Go.FX
open Go Go.RowKit
theorem OC.at3 {w : World} {b K bo : Nat} {E : TypeId} {v x0 x1 x2 : Value} {cs : List Nat} (h : OC w b E v cs) (hb : bo < b) (hK : K ≤ b) : OC (((w.setCell ⟨bo, 0, none⟩ x0).setCell ⟨bo, 1, none⟩ x1).setCell ⟨bo, 2, none⟩ x2) K E v cs :=
  (((h.set _ hb).set _ hb).set _ hb).mono hK
theorem OC.at4 {w : World} {b K bo : Nat} {E : TypeId} {v x0 x1 x2 x3 : Value} {cs : List Nat} (h : OC w b E v cs) (hb : bo < b) (hK : K ≤ b) : OC ((((w.setCell ⟨bo, 0, none⟩ x0).setCell ⟨bo, 1, none⟩ x1).setCell ⟨bo, 2, none⟩ x2).setCell ⟨bo, 3, none⟩ x3) K E v cs :=
  ((((h.set _ hb).set _ hb).set _ hb).set _ hb).mono hK
theorem OC.atNew {w : World} {b K : Nat} {E : TypeId} {v : Value} {cs : List Nat} {o : Obj} (h : OC w b E v cs) (hK : K ≤ b) : OC (w.alloc o) K E v cs := (h.alloc o).mono hK
/-- What is left of a call that gives a picture or a map (a volume), its result in a variable of its own. -/
def PicAt (E : TypeId) (K : World) (W H : Int) (cs : List Nat) (ok : Bool) (sA sB : Value) (wx : World) : Prop := ∃ bo a n c, sA = .pointer (some ⟨bo, 0, none⟩) ∧ sB = .bool ok ∧ Pv wx bo W H (.slice a n c) ∧ OC wx K.heap.size E (.slice a n c) cs ∧ (Value.slice a n c).ownBlock ≠ some bo ∧ K.heap.size ≤ bo
def VolAt (E : TypeId) (K : World) (W H D : Int) (cs : List Nat) (ok : Bool) (sA sB : Value) (wx : World) : Prop := ∃ bo a n c, sA = .pointer (some ⟨bo, 0, none⟩) ∧ sB = .bool ok ∧ Pw wx bo W H D (.slice a n c) ∧ OC wx K.heap.size E (.slice a n c) cs ∧ (Value.slice a n c).ownBlock ≠ some bo ∧ K.heap.size ≤ bo
end Go.FX
namespace Go.Proofs.Ytekpmhgdofjhdaa
open Go.FX Go.RowKit Go.WideShapes Go.ChangeShapes

/-- A struct of three integers and a slice of 32-bit numbers by value, opened. -/
theorem vol_of {H : Type} {enc : TypeId × Value → H} {P : Program} {w : World} {base : Nat} {spare : Nat → Bool} {held : Bool} {r : Reach} {b0 : Nat} {t e : TypeId} {f0 f1 f2 f3 : Field} {v : Value} {d : DataW H} {p : List MemPlace}
    (hs : P.underlying t = some (.struct #[f0, f1, f2, f3])) (hone : Deep.oneCellFields P #[f0, f1, f2, f3] = true) (hC : P.cellsOf t = 4) (e0 : P.underlying f0.type = some (.int .i64)) (e1 : P.underlying f1.type = some (.int .i64)) (e2 : P.underlying f2.type = some (.int .i64)) (e3 : P.underlying f3.type = some (.slice e))
    (he : P.underlying e = some (.float .f32)) (hc : P.cellsOf e = 1) (hv : Value.okWide P w r b0 t v) (h : DataW.Trod enc P w base spare held t v d p) :
    ∃ (x y z : Int) (a : Option Addr) (n c : Nat) (zs : List Nat), v = .agg #[.int .i64 x, .int .i64 y, .int .i64 z, .slice a n c] ∧ (Lit.int .i64 x).wf = true ∧ (Lit.int .i64 y).wf = true ∧ (Lit.int .i64 z).wf = true ∧ FS w (.slice a n c) zs := by
  obtain ⟨v0, v1, v2, v3, y0, y1, y2, y3, m, rfl, _, _, t0, t1, t2, t3⟩ := Joins.open_agg4 hs hone hC hv h
  obtain ⟨x, ex, _, wx⟩ := DataW.trod_int e0 t0
  obtain ⟨y, ey, _, wy⟩ := DataW.trod_int e1 t1
  obtain ⟨z, ez, _, wz⟩ := DataW.trod_int e2 t2
  simp only [List.cons.injEq, and_true] at ex ey ez
  subst ex; subst ey; subst ez
  obtain ⟨a, n, c, rfl⟩ := slice_field e3 t3
  obtain ⟨zs, hz⟩ := fs_of (d := y3.1) (ps := y3.2) e3 he hc ⟨m, t3⟩
  exact ⟨x, y, z, a, n, c, zs, rfl, wx, wy, wz, hz⟩

end Go.Proofs.Ytekpmhgdofjhdaa
