import Derived.Test.YtblaojflcemfdaaPa
import Derived.Deep.DeepCutAuto
set_option linter.unusedVariables false
set_option linter.unusedSimpArgs false
namespace Go.FX
open Go Go.RowKit
theorem keepDrewN {n : Nat} {W1 W : World} (hS : Below n W1 W ∧ n ≤ W.heap.size ∧ (∀ b o, b < n → W.cell? ⟨b, o, none⟩ = W1.cell? ⟨b, o, none⟩)) (k : Nat) :
    Below n W1 (W.drewN k) ∧ n ≤ (W.drewN k).heap.size ∧ (∀ b o, b < n → (W.drewN k).cell? ⟨b, o, none⟩ = W1.cell? ⟨b, o, none⟩) := ⟨below_drewN hS.1 k, hS.2.1, hS.2.2⟩
end Go.FX
namespace Go.Proofs.Ytblaojflcemfdaa
open Go.FX Go.RowKit Go.WideShapes Go.ChangeShapes

theorem doubled_fn (W H : Nat) (a : Option Addr) (n c : Nat) (cs : List Nat) (w : World) (hv : FC w (.slice a n c) cs) (b1 : 1 ≤ W) (b2 : W ≤ 24) (b3 : 1 ≤ H) (b4 : H ≤ 24) (hl : cs.length = H * W) (W' H' : Nat) (d2 : W' ≤ 24) (d4 : H' ≤ 24) :
    GreyFn Try.prog 73 #[.agg #[.int .i64 W, .int .i64 H, .slice a n c]] #[] W' H' (fun x y => atC W H cs (x / 2) (y / 2)) w := fun w1 x y hb hx hy => by
  have hab := fun w2 (h : Below w1.heap.size w1 w2) => about_any W H (.slice a n c) cs ((x : Int) / 2) ((y : Int) / 2) w2 ((hv.below hb).below h) b1 b2 b3 b4 hl (by omega) (by omega) (by omega) (by omega)
  show Calls Try.prog 73 #[.agg #[.int .i64 W, .int .i64 H, .slice a n c], .int .i64 x, .int .i64 y] w1 _
  go_enter Try.func73, Try.ntmps73
  go_wp2_with fail
  refine (hab _ (below1 _ _)).mono ?_
  rintro e w2 ⟨r, rfl, hb2, hr⟩
  go_wp2_with fail
  go_ret
  exact ⟨_, rfl, by ((repeat' (first | (refine bel_set ?_ ?_ _) | (refine bel_al ?_ ?_ _) | exact Below.refl _ _ | assumption | (refine below_drewN ?_ _) | (refine Below.drew ?_) | (refine Below.trans ?_ (Below.mono hb2 ?_)))) <;> (first | omega | (simp; done) | (simp; omega))), hr⟩

end Go.Proofs.Ytblaojflcemfdaa
