import Derived.Test.YtbiobmdibiplfaaPs
import Derived.Test.YtbiobmdibiplfaaPo
set_option linter.unusedVariables false
set_option linter.unusedSimpArgs false
namespace Go.FX
open Go Go.RowKit
def RFBb (c : Nat) (ok : Bool) (w : World) (e : Ending) (w' : World) : Prop := ∃ r, e = .returned (.tuple #[.float .f32 r, .bool ok]) ∧ Below w.heap.size w w' ∧ Fl .f32 r c
theorem undrewN {n k : Nat} {w w1 : World} (h : Below n (w.drewN k) w1) : Below n w w1 := ⟨h.os, h.tape, h.output, h.size, h.block⟩
def cellB (W H x y : Int) : Bool := decide (0 ≤ x ∧ x < W ∧ 0 ≤ y ∧ y < H)
end Go.FX
namespace Go.Proofs.Ytbiobmdibiplfaa
open Go.FX Go.RowKit Go.WideShapes Go.ChangeShapes

theorem sameFloatB {a b c : Nat} (ha : Fl .f64 a c) (hb : Fl .f64 b c) (w : World) : Calls Try.prog 38 #[.float .f64 a, .float .f64 b] w (RBb true w) :=
  (sameFloat_any ha hb w).mono fun e w' ⟨n, he, hw⟩ => ⟨he, hw ▸ below_drewN (Below.refl _ _) n⟩

theorem zeroFl : Fl .f32 0 0 := ⟨by decide, by decide⟩
end Go.Proofs.Ytbiobmdibiplfaa
