import Derived.Test.YthchdjfieofeaaaPa
import Derived.Deep.DeepCutAuto
set_option linter.unusedVariables false
set_option linter.unusedSimpArgs false
namespace Go.FX
open Go Go.RowKit
theorem keepDrewN {n : Nat} {W1 W : World} (hS : Below n W1 W ∧ n ≤ W.heap.size ∧ (∀ b o, b < n → W.cell? ⟨b, o, none⟩ = W1.cell? ⟨b, o, none⟩)) (k : Nat) :
    Below n W1 (W.drewN k) ∧ n ≤ (W.drewN k).heap.size ∧ (∀ b o, b < n → (W.drewN k).cell? ⟨b, o, none⟩ = W1.cell? ⟨b, o, none⟩) := ⟨below_drewN hS.1 k, hS.2.1, hS.2.2⟩
end Go.FX
namespace Go.Proofs.Ythchdjfieofeaaa
open Go.FX Go.RowKit Go.WideShapes Go.ChangeShapes

theorem half_any {x c : Nat} (w : World) (hx : Fl .f32 x c) : Calls Try.prog 103 #[.float .f32 x] w (RFb .f32 (fop .mul .f32 c 1056964608) w) := by
  have h5 : Fl .f32 1056964608 1056964608 := ⟨by decide, by decide⟩
  go_enter Try.func103, Try.ntmps103
  go_wp2
  go_ret
  exact ⟨_, rfl, below_drewN (Below.refl _ _) _, hx.flR h5 _⟩
theorem flat_fn (W H : Nat) (g cg : Nat) (bb : Nat) (w : World) (hlt : bb < w.heap.size) (hcb : w.cell? ⟨bb, 0, none⟩ = some (.float .f32 g)) (hg : Fl .f32 g cg) :
    GreyFn Try.prog 87 #[] #[.pointer (some ⟨bb, 0, none⟩)] W H (fun x y => cg) w := fun w1 x y hb hx hy => by
  have q := (bcell hb).1 bb 0 hlt
  rw [hcb] at q
  clear hcb hb
  show Calls Try.prog 87 #[.int .i64 x, .int .i64 y, .pointer (some ⟨bb, 0, none⟩)] w1 _
  go_enter Try.func87, Try.ntmps87
  go_wp2_with fail
  go_ret
  exact ⟨_, rfl, Below.refl _ _, hg⟩
set_option maxHeartbeats 1000000 in
theorem implFlatPicture_any (W H : Nat) (g cg : Nat) (hg : Fl .f32 g cg) (w : World) (b1 : 1 ≤ W) (b2 : W ≤ 24) (b3 : 1 ≤ H) (b4 : H ≤ 24) (b5 : H * W ≤ 256) :
    Calls Try.prog 51 #[.int .i64 W, .int .i64 H, .float .f32 g] w (RPic 26 W H (gridL W (fun x y => cg) (H * W)) true w) := by
  have hs := Lib.hid (sizeB_mk b1 b2 b3 b4 b5)
  have hd := fun w1 hlt hcb => draw_any W H b1 b2 b3 b4 b5 _ _ _ _ w1 (enters_of Try.func87 (by kernel_rfl) rfl) (flat_fn W H g cg w.heap.size w1 hlt hcb hg)
  go_enter Try.func51, Try.ntmps51
  go_wp2_with fail
  refine (isSize_any _ _ _).mono ?_
  rintro e w1 ⟨rfl, rfl⟩
  rw [hs.out]
  go_wp2_with fail
  refine (hd _ (by simp; try omega) (by go_simp)).mono ?_
  rintro e w1 ⟨a1, n1, c1, rfl, hb1, ho1⟩
  obtain ⟨l1, q0, q1, q2, qf⟩ := (Nv.new _ _ _ _ _).below hb1
  simp only [World.size_alloc] at l1 q0 q1 q2 qf
  go_wp2_with fail
  refine bodyPost_ret (v := ?v) ?hr rfl ?post
  case hr => (simp [results, Try.results51, go_sem, q0, q1, q2, qf]; try rfl)
  case post =>
    refine ⟨_, _, _, rfl, ?_, ?_⟩
    · ((repeat' (first | (refine bel_set ?_ ?_ _) | (refine bel_al ?_ ?_ _) | exact Below.refl _ _ | assumption | (refine below_drewN ?_ _) | (refine Below.drew ?_) | (refine Below.trans ?_ (Below.mono hb1 ?_)))) <;> (first | omega | (simp; done) | (simp; omega)))
    · (refine OC.mono (base := ?bb) ?hh ?hl; (case hh => ((repeat' (first | (refine OC.set ?_ _ ?_) | (refine OC.alloc ?_ _) | exact ho1 | (refine OC.drewN ?_ _))) <;> (first | omega | (simp; done) | (simp; omega)))); (case hl => (first | omega | (simp; done) | (simp; omega))))
theorem implFlatPicture_no (W H : Int) (g : Nat) (w : World) (hval : sizeB W H = false) :
    Calls Try.prog 51 #[.int .i64 W, .int .i64 H, .float .f32 g] w (RPic 26 0 0 [] false w) := by
  have hval := Lib.hid hval
  go_enter Try.func51, Try.ntmps51
  go_wp2_with fail
  refine (isSize_any _ _ _).mono ?_
  rintro e w1 ⟨rfl, rfl⟩
  rw [hval.out]
  go_wp2_with fail
  refine bodyPost_ret (v := ?v) ?hr rfl ?post
  case hr => (simp [results, Try.results51, go_sem]; try rfl)
  case post => exact ⟨_, _, _, rfl, by ((repeat' (first | (refine bel_set ?_ ?_ _) | (refine bel_al ?_ ?_ _) | exact Below.refl _ _ | assumption | (refine below_drewN ?_ _) | (refine Below.drew ?_))) <;> (first | omega | (simp; done) | (simp; omega))), OC.nil _ _ _⟩

end Go.Proofs.Ythchdjfieofeaaa
