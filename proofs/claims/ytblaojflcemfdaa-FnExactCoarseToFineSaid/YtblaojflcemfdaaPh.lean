import Derived.Test.YtblaojflcemfdaaPl
import Derived.Test.YtblaojflcemfdaaPi
import Derived.Test.YtblaojflcemfdaaPq
import Derived.Test.YtblaojflcemfdaaRc
import Derived.IntWalk
set_option linter.unusedVariables false
set_option linter.unusedSimpArgs false
namespace Go.Proofs.Ytblaojflcemfdaa
open Go.FX Go.RowKit Go.WideShapes Go.ChangeShapes

def sum4 (W H : Nat) (cs : List Nat) (x y : Nat) : Nat := fop .add .f32 (fop .add .f32 (fop .add .f32 (atC W H cs (2 * (x : Int)) (2 * (y : Int))) (atC W H cs (2 * (x : Int) + 1) (2 * (y : Int)))) (atC W H cs (2 * (x : Int)) (2 * (y : Int) + 1))) (atC W H cs (2 * (x : Int) + 1) (2 * (y : Int) + 1))
def quarterF (W H : Nat) (cs : List Nat) (x y : Int) : Nat := fop .mul .f32 (sum4 W H cs x.toNat y.toNat) 1048576000
theorem quartFl : Fl .f32 1048576000 1048576000 := ⟨by decide, by decide⟩
set_option maxRecDepth 100000 in
set_option maxHeartbeats 4000000 in
theorem quartered_fn (W H : Nat) (a : Option Addr) (n c : Nat) (cs : List Nat) (W' H' : Nat) (w : World) (hv : FC w (.slice a n c) cs) (b1 : 1 ≤ W) (b2 : W ≤ 24) (b3 : 1 ≤ H) (b4 : H ≤ 24) (hl : cs.length = H * W) (hW' : W' ≤ 24) (hH' : H' ≤ 24) :
    GreyFn Try.prog 37 #[.agg #[.int .i64 W, .int .i64 H, .slice a n c]] #[] W' H' (quarterF W H cs) w := fun w1 x y hb hx hy => by
  show Calls Try.prog 37 #[.agg #[.int .i64 W, .int .i64 H, .slice a n c], .int .i64 x, .int .i64 y] w1 _
  go_enter Try.func37, Try.ntmps37
  go_upto_region 2 with fail
  obtain ⟨W1, hW1⟩ : ∃ W1, W1 = w1.alloc (.cells #[.int .i64 W, .int .i64 H, .slice a n c] 30) := ⟨_, rfl⟩
  rw [← hW1]
  have bW : Below w1.heap.size w1 W1 := by rw [hW1]; exact below1 _ _
  have hP : Pv W1 w1.heap.size W H (.slice a n c) := by rw [hW1]; exact Pv.new _ _ _ _ _
  clear hW1
  obtain ⟨l1, p0, p1, p2⟩ := id hP
  have hvW := (hv.below hb).below bW
  have h00 := fun w2 (h : Below W1.heap.size W1 w2) => about_any W H (.slice a n c) cs (2 * (x : Int)) (2 * (y : Int)) w2 (hvW.below h) b1 b2 b3 b4 hl (by omega) (by omega) (by omega) (by omega)
  have h10 := fun w2 (h : Below W1.heap.size W1 w2) => about_any W H (.slice a n c) cs (2 * (x : Int) + 1) (2 * (y : Int)) w2 (hvW.below h) b1 b2 b3 b4 hl (by omega) (by omega) (by omega) (by omega)
  have h01 := fun w2 (h : Below W1.heap.size W1 w2) => about_any W H (.slice a n c) cs (2 * (x : Int)) (2 * (y : Int) + 1) w2 (hvW.below h) b1 b2 b3 b4 hl (by omega) (by omega) (by omega) (by omega)
  have h11 := fun w2 (h : Below W1.heap.size W1 w2) => about_any W H (.slice a n c) cs (2 * (x : Int) + 1) (2 * (y : Int) + 1) w2 (hvW.below h) b1 b2 b3 b4 hl (by omega) (by omega) (by omega) (by omega)
  have s1 : IntKind.i64.wrap (2 * (x : Int) + 1) = 2 * (x : Int) + 1 := IntWalk.i64_in _ (by omega)
  have s2 : IntKind.i64.wrap (2 * (y : Int) + 1) = 2 * (y : Int) + 1 := IntWalk.i64_in _ (by omega)
  obtain ⟨g00, e00⟩ : ∃ g, g = atC W H cs (2 * (x : Int)) (2 * (y : Int)) := ⟨_, rfl⟩
  obtain ⟨g10, e10⟩ : ∃ g, g = atC W H cs (2 * (x : Int) + 1) (2 * (y : Int)) := ⟨_, rfl⟩
  obtain ⟨g01, e01⟩ : ∃ g, g = atC W H cs (2 * (x : Int)) (2 * (y : Int) + 1) := ⟨_, rfl⟩
  obtain ⟨g11, e11⟩ : ∃ g, g = atC W H cs (2 * (x : Int) + 1) (2 * (y : Int) + 1) := ⟨_, rfl⟩
  rw [← e00] at h00
  rw [← e10] at h10
  rw [← e01] at h01
  rw [← e11] at h11
  have hE : Hid (quarterF W H cs x y = fop .mul .f32 (fop .add .f32 (fop .add .f32 (fop .add .f32 g00 g10) g01) g11) 1048576000) := by rw [e00, e10, e01, e11]; rfl
  have hq := quartFl
  clear hl hv hvW hb e00 e10 e01 e11
  refine wp_region_cls (by kernel_rfl) (by kernel_rfl) (by kernel_rfl) (by kernel_rfl) (fun w' => Below W1.heap.size W1 w') (below_drewN (Below.refl _ _) 1) [Eq1 ?q1445u0, Eq1 ?q1445u1, Eq1 ?q1445u2, FloatIs .f32 (g00), Eq1 ?q1445u4, Eq1 ?q1445u5, Eq1 ?q1445u6, Eq1 ?q1445u7, FloatIs .f32 (g10), FloatIs .f32 (fop .add .f32 g00 g10), Eq1 ?q1445u10, Eq1 ?q1445u11, Eq1 ?q1445u12, Eq1 ?q1445u13, FloatIs .f32 (g01), FloatIs .f32 (fop .add .f32 (fop .add .f32 g00 g10) g01), Eq1 ?q1445u16, Eq1 ?q1445u17, Eq1 ?q1445u18, Eq1 ?q1445u19, Eq1 ?q1445u20, FloatIs .f32 (g11), FloatIs .f32 (fop .add .f32 (fop .add .f32 (fop .add .f32 g00 g10) g01) g11), FloatIs .f32 (fop .add .f32 (fop .add .f32 (fop .add .f32 g00 g10) g01) g11)] ?q1445main
  case q1445main =>
    (refine wpR_pure ?_ (fun w hw => ?_) ?_; rfl; (obtain ⟨hwc, hwf⟩ := bcell2 hw; go_simp; (try with_reducible rfl)); (try simp only [Act.put, List.setIfInBounds_toArray, List.set_cons_zero, List.set_cons_succ]))
    (refine wpR_pure ?_ (fun w hw => ?_) ?_; rfl; (obtain ⟨hwc, hwf⟩ := bcell2 hw; go_simp; (try with_reducible rfl)); (try simp only [Act.put, List.setIfInBounds_toArray, List.set_cons_zero, List.set_cons_succ]))
    (refine wpR_pure ?_ (fun w hw => ?_) ?_; rfl; (obtain ⟨hwc, hwf⟩ := bcell2 hw; go_simp; (try with_reducible rfl)); (try simp only [Act.put, List.setIfInBounds_toArray, List.set_cons_zero, List.set_cons_succ]))
    (refine wpR_cls ?_ (fun w hw => ?_) ?_; rfl; (go_simp; refine (h00 _ hw).mono ?_; rintro _ _ ⟨_, rfl, hcb, hcr⟩; exact ⟨_, rfl, ⟨_, rfl, hcr⟩, Below.trans hw (hcb.mono hw.size)⟩); (rintro _ ⟨_, rfl, _⟩; (try simp only [Act.put, List.setIfInBounds_toArray, List.set_cons_zero, List.set_cons_succ])))
    (refine wpR_pure ?_ (fun w hw => ?_) ?_; rfl; (obtain ⟨hwc, hwf⟩ := bcell2 hw; go_simp; (try with_reducible rfl)); (try simp only [Act.put, List.setIfInBounds_toArray, List.set_cons_zero, List.set_cons_succ]))
    (refine wpR_pure ?_ (fun w hw => ?_) ?_; rfl; (obtain ⟨hwc, hwf⟩ := bcell2 hw; go_simp; (try with_reducible rfl)); (try simp only [Act.put, List.setIfInBounds_toArray, List.set_cons_zero, List.set_cons_succ]))
    (refine wpR_pure ?_ (fun w hw => ?_) ?_; rfl; (obtain ⟨hwc, hwf⟩ := bcell2 hw; go_simp; (try with_reducible rfl)); (try simp only [Act.put, List.setIfInBounds_toArray, List.set_cons_zero, List.set_cons_succ]))
    (refine wpR_pure ?_ (fun w hw => ?_) ?_; rfl; (obtain ⟨hwc, hwf⟩ := bcell2 hw; go_simp; (try with_reducible rfl)); (try simp only [Act.put, List.setIfInBounds_toArray, List.set_cons_zero, List.set_cons_succ]))
    (refine wpR_cls ?_ (fun w hw => ?_) ?_; rfl; (go_simp; refine (h10 _ hw).mono ?_; rintro _ _ ⟨_, rfl, hcb, hcr⟩; exact ⟨_, rfl, ⟨_, rfl, hcr⟩, Below.trans hw (hcb.mono hw.size)⟩); (rintro _ ⟨_, rfl, _⟩; (try simp only [Act.put, List.setIfInBounds_toArray, List.set_cons_zero, List.set_cons_succ])))
    (refine wpR_cls ?_ (fun w hw => ?_) ?_; rfl; (go_simp; exact ⟨below_drewN hw _, _, rfl, Fl.flR (by assumption) (by assumption) _⟩); (rintro _ ⟨_, rfl, _⟩; (try simp only [Act.put, List.setIfInBounds_toArray, List.set_cons_zero, List.set_cons_succ])))
    (refine wpR_pure ?_ (fun w hw => ?_) ?_; rfl; (obtain ⟨hwc, hwf⟩ := bcell2 hw; go_simp; (try with_reducible rfl)); (try simp only [Act.put, List.setIfInBounds_toArray, List.set_cons_zero, List.set_cons_succ]))
    (refine wpR_pure ?_ (fun w hw => ?_) ?_; rfl; (obtain ⟨hwc, hwf⟩ := bcell2 hw; go_simp; (try with_reducible rfl)); (try simp only [Act.put, List.setIfInBounds_toArray, List.set_cons_zero, List.set_cons_succ]))
    (refine wpR_pure ?_ (fun w hw => ?_) ?_; rfl; (obtain ⟨hwc, hwf⟩ := bcell2 hw; go_simp; (try with_reducible rfl)); (try simp only [Act.put, List.setIfInBounds_toArray, List.set_cons_zero, List.set_cons_succ]))
    (refine wpR_pure ?_ (fun w hw => ?_) ?_; rfl; (obtain ⟨hwc, hwf⟩ := bcell2 hw; go_simp; (try with_reducible rfl)); (try simp only [Act.put, List.setIfInBounds_toArray, List.set_cons_zero, List.set_cons_succ]))
    (refine wpR_cls ?_ (fun w hw => ?_) ?_; rfl; (go_simp; refine (h01 _ hw).mono ?_; rintro _ _ ⟨_, rfl, hcb, hcr⟩; exact ⟨_, rfl, ⟨_, rfl, hcr⟩, Below.trans hw (hcb.mono hw.size)⟩); (rintro _ ⟨_, rfl, _⟩; (try simp only [Act.put, List.setIfInBounds_toArray, List.set_cons_zero, List.set_cons_succ])))
    (refine wpR_cls ?_ (fun w hw => ?_) ?_; rfl; (go_simp; exact ⟨below_drewN hw _, _, rfl, Fl.flR (by assumption) (by assumption) _⟩); (rintro _ ⟨_, rfl, _⟩; (try simp only [Act.put, List.setIfInBounds_toArray, List.set_cons_zero, List.set_cons_succ])))
    (refine wpR_pure ?_ (fun w hw => ?_) ?_; rfl; (obtain ⟨hwc, hwf⟩ := bcell2 hw; go_simp; (try with_reducible rfl)); (try simp only [Act.put, List.setIfInBounds_toArray, List.set_cons_zero, List.set_cons_succ]))
    (refine wpR_pure ?_ (fun w hw => ?_) ?_; rfl; (obtain ⟨hwc, hwf⟩ := bcell2 hw; go_simp; (try with_reducible rfl)); (try simp only [Act.put, List.setIfInBounds_toArray, List.set_cons_zero, List.set_cons_succ]))
    (refine wpR_pure ?_ (fun w hw => ?_) ?_; rfl; (obtain ⟨hwc, hwf⟩ := bcell2 hw; go_simp; (try with_reducible rfl)); (try simp only [Act.put, List.setIfInBounds_toArray, List.set_cons_zero, List.set_cons_succ]))
    (refine wpR_pure ?_ (fun w hw => ?_) ?_; rfl; (obtain ⟨hwc, hwf⟩ := bcell2 hw; go_simp; (try with_reducible rfl)); (try simp only [Act.put, List.setIfInBounds_toArray, List.set_cons_zero, List.set_cons_succ]))
    (refine wpR_pure ?_ (fun w hw => ?_) ?_; rfl; (obtain ⟨hwc, hwf⟩ := bcell2 hw; go_simp; (try with_reducible rfl)); (try simp only [Act.put, List.setIfInBounds_toArray, List.set_cons_zero, List.set_cons_succ]))
    (refine wpR_cls ?_ (fun w hw => ?_) ?_; rfl; (go_simp; refine (h11 _ hw).mono ?_; rintro _ _ ⟨_, rfl, hcb, hcr⟩; exact ⟨_, rfl, ⟨_, rfl, hcr⟩, Below.trans hw (hcb.mono hw.size)⟩); (rintro _ ⟨_, rfl, _⟩; (try simp only [Act.put, List.setIfInBounds_toArray, List.set_cons_zero, List.set_cons_succ])))
    (refine wpR_cls ?_ (fun w hw => ?_) ?_; rfl; (go_simp; exact ⟨below_drewN hw _, _, rfl, Fl.flR (by assumption) (by assumption) _⟩); (rintro _ ⟨_, rfl, _⟩; (try simp only [Act.put, List.setIfInBounds_toArray, List.set_cons_zero, List.set_cons_succ])))
    (refine wpR_cls ?_ (fun w hw => ?_) ?_; rfl; (go_simp; first | exact ⟨_, rfl, by assumption⟩ | exact ⟨hw, _, rfl, by assumption⟩); (rintro _ ⟨_, rfl, _⟩; (try simp only [Act.put, List.setIfInBounds_toArray, List.set_cons_zero, List.set_cons_succ])))
    refine wpR_nil ?_
    intro w' hw'
    clear s1 s2
    go_wp2_with fail
    go_ret
    exact ⟨_, rfl, by first | exact bW.trans (hw'.mono bW.size) | exact bW.trans ((below_drewN hw' _).mono bW.size), by rw [hE.out]; exact Fl.flR (by assumption) hq _⟩
set_option maxHeartbeats 1000000 in
theorem implHalvePicture_any (W H : Nat) (a : Option Addr) (n c : Nat) (cs : List Nat) (W' H' : Nat) (hW : W' = (W + 1) / 2) (hH : H' = (H + 1) / 2) (w : World) (hv : FC w (.slice a n c) cs) (b1 : 1 ≤ W) (b2 : W ≤ 24) (b3 : 1 ≤ H) (b4 : H ≤ 24) (b5 : H * W ≤ 256) (hl : cs.length = H * W) :
    Calls Try.prog 20 #[.agg #[.int .i64 W, .int .i64 H, .slice a n c]] w (RPic 61 W' H' (gridL W' (quarterF W H cs) (H' * W')) true w) := by
  obtain ⟨rfl, hnc, hcm⟩ := hv.sized
  have hval := validB_mk b1 b2 b3 b4 b5 hl
  have hG := quartered_fn W H a _ c cs W' H' w hv b1 b2 b3 b4 hl (by omega) (by omega)
  have hsz : H' * W' ≤ 256 := Nat.le_trans (Nat.mul_le_mul (by omega : H' ≤ H) (by omega : W' ≤ W)) b5
  have hd := fun w1 (hb : Below w.heap.size w w1) wi hi (ewi : wi = (W' : Int)) (ehi : hi = (H' : Int)) => (by subst ewi; subst ehi; exact drawFrom_any W H a cs.length c hval hnc hcm W' H' (by omega) (by omega) (by omega) (by omega) hsz _ _ _ _ w1 (enters_of Try.func37 (by kernel_rfl) rfl) (hG.later hb) : Calls Try.prog 36 #[.agg #[.int .i64 W, .int .i64 H, .slice a cs.length c], .int .i64 wi, .int .i64 hi, .func (.func 37) #[.agg #[.int .i64 W, .int .i64 H, .slice a cs.length c]] #[]] w1 (RPic 61 W' H' (gridL W' (quarterF W H cs) (H' * W')) true w1))
  have hWH := Lib.hid (And.intro hW hH)
  clear hl hval hW hH
  go_enter Try.func20, Try.ntmps20
  go_wp2_with fail
  refine (hd _ (below2 _ _ _) _ _ (by have := hWH.out; omega) (by have := hWH.out; omega)).mono ?_
  rintro e w1 ⟨a1, n1, c1, rfl, hb1, ho1⟩
  obtain ⟨l1, q0, q1, q2, qf⟩ := (Nv.new _ _ _ _ _).below hb1
  have s1 := hb1.size
  simp only [World.size_alloc] at l1 q0 q1 q2 qf s1
  go_wp2_with fail
  refine bodyPost_ret (v := ?v) ?hr rfl ?post
  case hr => (simp [results, Try.results20, go_sem, q0, q1, q2, qf]; try rfl)
  case post =>
    refine ⟨_, _, _, rfl, ?_, ?_⟩
    · ((repeat' (first | (refine bel_set ?_ ?_ _) | (refine bel_al ?_ ?_ _) | exact Below.refl _ _ | assumption | (refine below_drewN ?_ _) | (refine Below.drew ?_) | (refine Below.trans ?_ (Below.mono hb1 ?_)))) <;> (first | omega | (simp; done) | (simp; omega)))
    · (refine OC.mono (base := ?bb) ?hh ?hl; (case hh => ((repeat' (first | (refine OC.set ?_ _ ?_) | (refine OC.alloc ?_ _) | exact ho1 | (refine OC.drewN ?_ _))) <;> (first | omega | (simp; done) | (simp; omega)))); (case hl => (first | omega | (simp; done) | (simp; omega))))
end Go.Proofs.Ytblaojflcemfdaa
