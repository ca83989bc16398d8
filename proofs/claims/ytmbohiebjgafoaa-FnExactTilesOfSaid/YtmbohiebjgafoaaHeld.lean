import Derived.Test.YtmbohiebjgafoaaFx
import Derived.WalkKit
import Derived.Below
import Derived.Deep.RegionHeld3
import Derived.Deep.DeepCutAuto
set_option linter.unusedVariables false
namespace Go.FX
open Go Go.RowKit

/-! A region that draws its order, held by 'what was there stays': the steps. -/
theorem below3 (w : World) (a b c : Obj) : Below w.heap.size w (((w.alloc a).alloc b).alloc c) :=
  (((Below.refl _ _).alloc (Nat.le_refl _) _).alloc (by simp) _).alloc (by simp; omega) _
theorem below2 (w : World) (a b : Obj) : Below w.heap.size w ((w.alloc a).alloc b) :=
  ((Below.refl _ _).alloc (Nat.le_refl _) _).alloc (by simp) _
theorem below1 (w : World) (a : Obj) : Below w.heap.size w (w.alloc a) := (Below.refl _ _).alloc (Nat.le_refl _) _
theorem bcell {W w1 : World} (hb : Below W.heap.size W w1) : (∀ b o, b < W.heap.size → w1.cell? ⟨b, o, none⟩ = W.cell? ⟨b, o, none⟩) ∧ (∀ b o, b < W.heap.size → w1.frozen? ⟨b, o, none⟩ = W.frozen? ⟨b, o, none⟩) :=
  ⟨fun b o h => hb.cell (p := ⟨b, o, none⟩) h, fun b o h => hb.frozen (p := ⟨b, o, none⟩) h⟩
theorem bcell2 {n : Nat} {W w1 : World} (hb : Below n W w1) : (∀ b o, b < n → w1.cell? ⟨b, o, none⟩ = W.cell? ⟨b, o, none⟩) ∧ (∀ b o, b < n → w1.frozen? ⟨b, o, none⟩ = W.frozen? ⟨b, o, none⟩) :=
  ⟨fun b o h => hb.cell (p := ⟨b, o, none⟩) h, fun b o h => hb.frozen (p := ⟨b, o, none⟩) h⟩
theorem keepCall {n : Nat} {W1 W w1 : World} (hS : Below n W1 W ∧ n ≤ W.heap.size ∧ (∀ b o, b < n → W.cell? ⟨b, o, none⟩ = W1.cell? ⟨b, o, none⟩)) (hb : Below W.heap.size W w1) :
    Below n W1 w1 ∧ n ≤ w1.heap.size ∧ (∀ b o, b < n → w1.cell? ⟨b, o, none⟩ = W1.cell? ⟨b, o, none⟩) :=
  have h := hS.1.trans (hb.mono hS.2.1)
  ⟨h, Nat.le_trans hS.2.1 hb.size, (bcell2 h).1⟩
theorem keepAlloc {n : Nat} {W1 W : World} {o : Obj} (hS : Below n W1 W ∧ n ≤ W.heap.size ∧ (∀ b o, b < n → W.cell? ⟨b, o, none⟩ = W1.cell? ⟨b, o, none⟩)) :
    Below n W1 (W.alloc o) ∧ n ≤ (W.alloc o).heap.size ∧ (∀ b o', b < n → (W.alloc o).cell? ⟨b, o', none⟩ = W1.cell? ⟨b, o', none⟩) :=
  have h := hS.1.alloc hS.2.1 o
  ⟨h, by simp; omega, (bcell2 h).1⟩
theorem keepSet {n : Nat} {W1 W : World} {a : Addr} {v : Value} (ha : n ≤ a.block) (hS : Below n W1 W ∧ n ≤ W.heap.size ∧ (∀ b o, b < n → W.cell? ⟨b, o, none⟩ = W1.cell? ⟨b, o, none⟩)) :
    Below n W1 (W.setCell a v) ∧ n ≤ (W.setCell a v).heap.size ∧ (∀ b o', b < n → (W.setCell a v).cell? ⟨b, o', none⟩ = W1.cell? ⟨b, o', none⟩) :=
  have h := hS.1.setCell ha v
  ⟨h, by simpa using hS.2.1, (bcell2 h).1⟩
theorem keepStart (W : World) : Below W.heap.size W W.drew ∧ W.heap.size ≤ W.drew.heap.size ∧ (∀ b o, b < W.heap.size → W.drew.cell? ⟨b, o, none⟩ = W.cell? ⟨b, o, none⟩) := ⟨below_drewN (Below.refl _ _) 1, Nat.le_refl _, fun _ _ _ => rfl⟩

theorem keepStartN {n : Nat} {W : World} (h : n ≤ W.heap.size) : Below n W W.drew ∧ n ≤ W.drew.heap.size ∧ (∀ b o, b < n → W.drew.cell? ⟨b, o, none⟩ = W.cell? ⟨b, o, none⟩) := ⟨below_drewN (Below.refl _ _) 1, h, fun _ _ _ => rfl⟩

/-! Vectors: what a contract says. -/
def RV (c0 c1 c2 : Nat) (w : World) (e : Ending) (w' : World) : Prop := ∃ r0 r1 r2, e = .returned (.agg #[.float .f32 r0, .float .f32 r1, .float .f32 r2]) ∧ Below w.heap.size w w' ∧ Fl .f32 r0 c0 ∧ Fl .f32 r1 c1 ∧ Fl .f32 r2 c2
/-- A float, and memory of the call's own. -/
def RFb (k : FloatKind) (c : Nat) (w : World) (e : Ending) (w' : World) : Prop := ∃ r, e = .returned (.float k r) ∧ Below w.heap.size w w' ∧ Fl k r c
def RBb (b : Bool) (w : World) (e : Ending) (w' : World) : Prop := e = .returned (.bool b) ∧ Below w.heap.size w w'
/-- A block of the call's own with a vector. -/
def VecAt (n : Nat) (c0 c1 c2 : Nat) (s : Value) (wr : World) : Prop := ∃ b r0 r1 r2, s = .pointer (some ⟨b, 0, none⟩) ∧ n ≤ b ∧ b < wr.heap.size ∧ wr.cell? ⟨b, 0, none⟩ = some (.float .f32 r0) ∧ wr.cell? ⟨b, 1, none⟩ = some (.float .f32 r1) ∧ wr.cell? ⟨b, 2, none⟩ = some (.float .f32 r2) ∧ Fl .f32 r0 c0 ∧ Fl .f32 r1 c1 ∧ Fl .f32 r2 c2
def FloatIs (k : FloatKind) (c : Nat) (s : Value) : Prop := ∃ r, s = .float k r ∧ Fl k r c
end Go.FX
