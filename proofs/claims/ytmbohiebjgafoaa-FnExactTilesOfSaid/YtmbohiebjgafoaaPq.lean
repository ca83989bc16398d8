import Derived.Test.YtmbohiebjgafoaaPs
import Derived.Test.YtmbohiebjgafoaaPo
set_option linter.unusedVariables false
set_option linter.unusedSimpArgs false
namespace Go.FX
open Go Go.RowKit
def RFBb (c : Nat) (ok : Bool) (w : World) (e : Ending) (w' : World) : Prop := ∃ r, e = .returned (.tuple #[.float .f32 r, .bool ok]) ∧ Below w.heap.size w w' ∧ Fl .f32 r c
theorem undrewN {n k : Nat} {w w1 : World} (h : Below n (w.drewN k) w1) : Below n w w1 := ⟨h.os, h.tape, h.output, h.size, h.block⟩
def cellB (W H x y : Int) : Bool := decide (0 ≤ x ∧ x < W ∧ 0 ≤ y ∧ y < H)
end Go.FX
namespace Go.Proofs.Ytmbohiebjgafoaa
open Go.FX Go.RowKit Go.WideShapes Go.ChangeShapes

theorem sameFloatB {a b c : Nat} (ha : Fl .f64 a c) (hb : Fl .f64 b c) (w : World) : Calls Try.prog 112 #[.float .f64 a, .float .f64 b] w (RBb true w) :=
  (sameFloat_any ha hb w).mono fun e w' ⟨n, he, hw⟩ => ⟨he, hw ▸ below_drewN (Below.refl _ _) n⟩

theorem hasCell_any (W H : Int) (a : Option Addr) (n c : Nat) (x y : Int) (w : World) :
    Calls Try.prog 115 #[.agg #[.int .i64 W, .int .i64 H, .slice a n c], .int .i64 x, .int .i64 y] w (RBb (cellB W H x y) w) := by
  by_cases h1 : 0 ≤ x
  · by_cases h2 : x < W
    · by_cases h3 : 0 ≤ y
      · by_cases h4 : y < H
        all_goals
          go_enter Try.func115, Try.ntmps115
          go_wp2
          go_ret
          exact ⟨by simp [cellB, h1, h2, h3, h4], below1 _ _⟩
      · go_enter Try.func115, Try.ntmps115
        go_wp2
        go_ret
        exact ⟨by simp [cellB]; intros; omega, below1 _ _⟩
    · go_enter Try.func115, Try.ntmps115
      go_wp2
      go_ret
      exact ⟨by simp [cellB]; intros; omega, below1 _ _⟩
  · go_enter Try.func115, Try.ntmps115
    go_wp2
    go_ret
    exact ⟨by simp [cellB]; intros; omega, below1 _ _⟩
theorem zeroFl : Fl .f32 0 0 := ⟨by decide, by decide⟩
end Go.Proofs.Ytmbohiebjgafoaa
