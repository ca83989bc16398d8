import Derived.Test.YtekpmhgdofjhdaaPm
import Derived.OwnWalk
import Derived.Shelf.Abstract
set_option linter.unusedVariables false
set_option linter.unusedSimpArgs false
namespace Go.FX
open Go Go.RowKit
/-- What is asked of a function value that tells greys. -/
def GreyFn (P : Program) (g : Nat) (first cap : Array Value) (W H : Nat) (G : Int → Int → Nat) (w : World) : Prop :=
  ∀ (w1 : World) (x y : Nat), Below w.heap.size w w1 → x < W → y < H → Calls P g (first ++ (#[.int .i64 x, .int .i64 y] ++ cap)) w1 (RFb .f32 (G x y) w1)
theorem GreyFn.later {P : Program} {g : Nat} {first cap : Array Value} {W H : Nat} {G : Int → Int → Nat} {w w' : World} (h : GreyFn P g first cap W H G w) (hb : Below w.heap.size w w') : GreyFn P g first cap W H G w' :=
  fun w1 x y h1 hx hy => h w1 x y (hb.trans (h1.mono hb.size)) hx hy
end Go.FX
namespace Go.Proofs.Ytekpmhgdofjhdaa
open Go.FX Go.RowKit Go.WideShapes Go.ChangeShapes

theorem isSize_any (W H : Int) (w : World) : Calls Try.prog 97 #[.int .i64 W, .int .i64 H] w fun e w' => e = .returned (.bool (sizeB W H)) ∧ w = w' := by
  by_cases h1 : 1 ≤ W
  · by_cases h2 : W ≤ 24
    · by_cases h3 : 1 ≤ H
      · by_cases h4 : H ≤ 24
        · have a1 := area_lo h1 h3
          have a2 := area_hi h1 h2 h3 h4
          by_cases h5 : W * H ≤ 256
          all_goals
            go_enter Try.func97, Try.ntmps97
            go_wp2
            go_ret
            exact ⟨by simp [sizeB, h1, h2, h3, h4, h5], rfl⟩
        · go_enter Try.func97, Try.ntmps97
          go_wp2
          go_ret
          exact ⟨by simp [sizeB]; intros; omega, rfl⟩
      · go_enter Try.func97, Try.ntmps97
        go_wp2
        go_ret
        exact ⟨by simp [sizeB]; intros; omega, rfl⟩
    · go_enter Try.func97, Try.ntmps97
      go_wp2
      go_ret
      exact ⟨by simp [sizeB]; intros; omega, rfl⟩
  · go_enter Try.func97, Try.ntmps97
    go_wp2
    go_ret
    exact ⟨by simp [sizeB]; intros; omega, rfl⟩

theorem validPic_any (W H : Int) (v : Value) (n : Nat) (w : World) (hs : ∃ a cap, v = .slice a n cap ∧ n ≤ cap ∧ cap ≤ maxLen) :
    Calls Try.prog 84 #[.agg #[.int .i64 W, .int .i64 H, v]] w (RBb (validB W H n) w) := by
  obtain ⟨a, cap, rfl, h1, h2⟩ := hs
  unfold maxLen at h2
  cases hb : sizeB W H with
  | true =>
    obtain ⟨g1, g2, g3, g4, g5⟩ := sizeB_iff.1 hb
    have a1 := area_lo g1 g3
    by_cases h5 : (n : Int) = W * H
    all_goals
      go_enter Try.func84, Try.ntmps84
      go_wp2_with (go_at_call 97; refine (isSize_any _ _ _).mono ?_; rintro e w' ⟨rfl, rfl⟩; rw [hb])
      go_ret
      exact ⟨by simp [validB, hb, h5], below1 _ _⟩
  | false =>
    go_enter Try.func84, Try.ntmps84
    go_wp2_with (go_at_call 97; refine (isSize_any _ _ _).mono ?_; rintro e w' ⟨rfl, rfl⟩; rw [hb])
    go_ret
    exact ⟨by simp [validB, hb], below1 _ _⟩

end Go.Proofs.Ytekpmhgdofjhdaa
