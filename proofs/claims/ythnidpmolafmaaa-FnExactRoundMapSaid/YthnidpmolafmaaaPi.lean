import Derived.Test.YthnidpmolafmaaaPa
import Derived.Deep.DeepCutAuto
set_option linter.unusedVariables false
set_option linter.unusedSimpArgs false
namespace Go.FX
open Go Go.RowKit
theorem keepDrewN {n : Nat} {W1 W : World} (hS : Below n W1 W ∧ n ≤ W.heap.size ∧ (∀ b o, b < n → W.cell? ⟨b, o, none⟩ = W1.cell? ⟨b, o, none⟩)) (k : Nat) :
    Below n W1 (W.drewN k) ∧ n ≤ (W.drewN k).heap.size ∧ (∀ b o, b < n → (W.drewN k).cell? ⟨b, o, none⟩ = W1.cell? ⟨b, o, none⟩) := ⟨below_drewN hS.1 k, hS.2.1, hS.2.2⟩
end Go.FX
namespace Go.Proofs.Ythnidpmolafmaaa
open Go.FX Go.RowKit Go.WideShapes Go.ChangeShapes

theorem mirrored_fn (W H : Nat) (a : Option Addr) (n c : Nat) (cs : List Nat) (w : World) (hv : FC w (.slice a n c) cs) (b1 : 1 ≤ W) (b2 : W ≤ 24) (b3 : 1 ≤ H) (b4 : H ≤ 24) (hl : cs.length = H * W) :
    GreyFn Try.prog 87 #[.agg #[.int .i64 W, .int .i64 H, .slice a n c]] #[] W H (fun x y => atC W H cs ((W : Int) - 1 - x) y) w := fun w1 x y hb hx hy => by
  have hab := fun w2 (h : Below w1.heap.size w1 w2) => about_any W H (.slice a n c) cs (((W : Int) - 1 - x)) (y) w2 ((hv.below hb).below h) b1 b2 b3 b4 hl (by omega) (by omega) (by omega) (by omega)
  show Calls Try.prog 87 #[.agg #[.int .i64 W, .int .i64 H, .slice a n c], .int .i64 x, .int .i64 y] w1 _
  go_enter Try.func87, Try.ntmps87
  go_wp2_with (go_at_call 108; refine (hab _ (below1 _ _)).mono ?_; rintro e w2 ⟨r, rfl, hb2, hr⟩)
  go_ret
  exact ⟨_, rfl, by ((repeat' (first | (refine bel_set ?_ ?_ _) | (refine bel_al ?_ ?_ _) | exact Below.refl _ _ | assumption | (refine below_drewN ?_ _) | (refine Below.drew ?_) | (refine Below.trans ?_ (Below.mono hb2 ?_)))) <;> (first | omega | (simp; done) | (simp; omega))), hr⟩
set_option maxHeartbeats 1000000 in
theorem implMirrorPicture_any (W H : Nat) (a : Option Addr) (n c : Nat) (cs : List Nat) (w : World) (hv : FC w (.slice a n c) cs) (b1 : 1 ≤ W) (b2 : W ≤ 24) (b3 : 1 ≤ H) (b4 : H ≤ 24) (b5 : H * W ≤ 256) (hl : cs.length = H * W) :
    Calls Try.prog 52 #[.agg #[.int .i64 W, .int .i64 H, .slice a n c]] w (RPic 35 W H (gridL W (fun x y => atC W H cs ((W : Int) - 1 - x) y) (H * W)) true w) := by
  obtain ⟨rfl, hnc, hcm⟩ := hv.sized
  have hval := validB_mk b1 b2 b3 b4 b5 hl
  have hG := mirrored_fn W H a _ c cs w hv b1 b2 b3 b4 hl
  have hd := fun w1 (hb : Below w.heap.size w w1) => drawFrom_any W H a cs.length c hval hnc hcm W H b1 b2 b3 b4 b5 _ _ _ _ w1 (enters_of Try.func87 (by kernel_rfl) rfl) (hG.later hb)
  clear hl hval
  go_enter Try.func52, Try.ntmps52
  go_wp2_with (go_at_call 86; refine (hd _ (below2 _ _ _)).mono ?_; rintro e w1 ⟨a1, n1, c1, rfl, hb1, ho1⟩; obtain ⟨l1, q0, q1, q2, qf⟩ := (Nv.new _ _ _ _ _).below hb1; simp only [World.size_alloc] at l1 q0 q1 q2 qf)
  refine bodyPost_ret (v := ?v) ?hr rfl ?post
  case hr => (simp [results, Try.results52, go_sem, q0, q1, q2, qf]; try rfl)
  case post =>
    refine ⟨_, _, _, rfl, ?_, ?_⟩
    · ((repeat' (first | (refine bel_set ?_ ?_ _) | (refine bel_al ?_ ?_ _) | exact Below.refl _ _ | assumption | (refine below_drewN ?_ _) | (refine Below.drew ?_) | (refine Below.trans ?_ (Below.mono hb1 ?_)))) <;> (first | omega | (simp; done) | (simp; omega)))
    · (refine OC.mono (base := ?bb) ?hh ?hl; (case hh => ((repeat' (first | (refine OC.set ?_ _ ?_) | (refine OC.alloc ?_ _) | exact ho1 | (refine OC.drewN ?_ _))) <;> (first | omega | (simp; done) | (simp; omega)))); (case hl => (first | omega | (simp; done) | (simp; omega))))
theorem implMirrorPicture_no (W H : Int) (a : Option Addr) (n c : Nat) (w : World) (hnc : n ≤ c) (hcm : c ≤ maxLen) (hval : validB W H n = false) :
    Calls Try.prog 52 #[.agg #[.int .i64 W, .int .i64 H, .slice a n c]] w (RPic 35 0 0 [] false w) := by
  have hd := fun w1 first cap => drawFrom_no W H a n c hnc hcm W H (.inl hval) (.func 87) first cap w1
  go_enter Try.func52, Try.ntmps52
  go_wp2_with (go_at_call 86; refine (hd _ _ _).mono ?_; rintro e w1 ⟨a1, n1, c1, rfl, hb1, ho1⟩; obtain ⟨l1, q0, q1, q2, qf⟩ := (Nv.new _ _ _ _ _).below hb1; simp only [World.size_alloc] at l1 q0 q1 q2 qf)
  refine bodyPost_ret (v := ?v) ?hr rfl ?post
  case hr => (simp [results, Try.results52, go_sem, q0, q1, q2, qf]; try rfl)
  case post =>
    refine ⟨_, _, _, rfl, ?_, ?_⟩
    · ((repeat' (first | (refine bel_set ?_ ?_ _) | (refine bel_al ?_ ?_ _) | exact Below.refl _ _ | assumption | (refine below_drewN ?_ _) | (refine Below.drew ?_) | (refine Below.trans ?_ (Below.mono hb1 ?_)))) <;> (first | omega | (simp; done) | (simp; omega)))
    · (refine OC.mono (base := ?bb) ?hh ?hl; (case hh => ((repeat' (first | (refine OC.set ?_ _ ?_) | (refine OC.alloc ?_ _) | exact ho1 | (refine OC.drewN ?_ _))) <;> (first | omega | (simp; done) | (simp; omega)))); (case hl => (first | omega | (simp; done) | (simp; omega))))
theorem doubled_fn (W H : Nat) (a : Option Addr) (n c : Nat) (cs : List Nat) (w : World) (hv : FC w (.slice a n c) cs) (b1 : 1 ≤ W) (b2 : W ≤ 24) (b3 : 1 ≤ H) (b4 : H ≤ 24) (hl : cs.length = H * W) (W' H' : Nat) (d2 : W' ≤ 24) (d4 : H' ≤ 24) :
    GreyFn Try.prog 92 #[.agg #[.int .i64 W, .int .i64 H, .slice a n c]] #[] W' H' (fun x y => atC W H cs (x / 2) (y / 2)) w := fun w1 x y hb hx hy => by
  have hab := fun w2 (h : Below w1.heap.size w1 w2) => about_any W H (.slice a n c) cs ((x : Int) / 2) ((y : Int) / 2) w2 ((hv.below hb).below h) b1 b2 b3 b4 hl (by omega) (by omega) (by omega) (by omega)
  show Calls Try.prog 92 #[.agg #[.int .i64 W, .int .i64 H, .slice a n c], .int .i64 x, .int .i64 y] w1 _
  go_enter Try.func92, Try.ntmps92
  go_wp2_with fail
  refine (hab _ (below1 _ _)).mono ?_
  rintro e w2 ⟨r, rfl, hb2, hr⟩
  go_wp2_with fail
  go_ret
  exact ⟨_, rfl, by ((repeat' (first | (refine bel_set ?_ ?_ _) | (refine bel_al ?_ ?_ _) | exact Below.refl _ _ | assumption | (refine below_drewN ?_ _) | (refine Below.drew ?_) | (refine Below.trans ?_ (Below.mono hb2 ?_)))) <;> (first | omega | (simp; done) | (simp; omega))), hr⟩

end Go.Proofs.Ythnidpmolafmaaa
