import Derived.Test.YtbiobmdibiplfaaPh
import Derived.Test.YtbiobmdibiplfaaPp
set_option linter.unusedVariables false
set_option linter.unusedSimpArgs false
namespace Go.Proofs.Ytbiobmdibiplfaa
open Go.FX Go.RowKit Go.WideShapes Go.ChangeShapes
/-- A grey between two others on either side. -/
def blurB (b g h : Nat) : Nat := fop .mul .f32 (fop .add .f32 (fop .mul .f32 (fop .add .f32 b h) 1056964608) g) 1056964608
def blurF (W H : Nat) (cs : List Nat) (dx dy : Int) (x y : Int) : Nat := blurB (atC W H cs (x - dx) (y - dy)) (atC W H cs x y) (atC W H cs (x + dx) (y + dy))
theorem halfFl : Fl .f32 1056964608 1056964608 := ⟨by decide, by decide⟩
theorem RF.rfb {P : Program} {g : Nat} {args : Array Value} {c : Nat} {w : World} (h : Calls P g args w (RF .f32 c w)) : Calls P g args w (RFb .f32 c w) :=
  h.mono fun e w' ⟨r, n, h1, h2, h3⟩ => ⟨r, h1, by rw [h2]; exact below_drewN (Below.refl _ _) _, h3⟩
theorem halfB_any {x c : Nat} (w : World) (hx : Fl .f32 x c) : Calls Try.prog 159 #[.float .f32 x] w (RF .f32 (fop .mul .f32 c 1056964608) w) := by
  go_enter Try.func159, Try.ntmps159
  go_wp2
  go_ret
  exact ⟨_, _, rfl, rfl, hx.flR halfFl _⟩
theorem blurred_any {x y z b g h : Nat} (w : World) (hx : Fl .f32 x b) (hy : Fl .f32 y g) (hz : Fl .f32 z h) : Calls Try.prog 146 #[.float .f32 x, .float .f32 y, .float .f32 z] w (RF .f32 (blurB b g h) w) := by
  go_enter Try.func146, Try.ntmps146
  go_wp2_with fail
  refine (halfB_any _ (hx.flR hz _)).mono ?_
  rintro e w1 ⟨r1, m1, rfl, rfl, h1⟩
  go_wp2_with fail
  refine (halfB_any _ (h1.flR hy _)).mono ?_
  rintro e w2 ⟨r2, m2, rfl, rfl, h2⟩
  go_wp2_with fail
  go_ret
  exact ⟨_, _, rfl, by first | rfl | (simp only [World.drewN_drewN]; rfl), h2⟩
set_option maxRecDepth 100000 in
set_option maxHeartbeats 4000000 in
theorem blurredAlong_fn (W H : Nat) (a : Option Addr) (n c : Nat) (cs : List Nat) (w : World) (hv : FC w (.slice a n c) cs) (b1 : 1 ≤ W) (b2 : W ≤ 24) (b3 : 1 ≤ H) (b4 : H ≤ 24) (hl : cs.length = H * W) :
    GreyFn Try.prog 108 #[.agg #[.int .i64 W, .int .i64 H, .slice a n c]] #[] W H (blurF W H cs 1 0) w := fun w1 x y hb hx hy => by
  show Calls Try.prog 108 #[.agg #[.int .i64 W, .int .i64 H, .slice a n c], .int .i64 x, .int .i64 y] w1 _
  go_enter Try.func108, Try.ntmps108
  go_upto_region 1 with fail
  obtain ⟨W1, hW1⟩ : ∃ W1, W1 = w1.alloc (.cells #[.int .i64 W, .int .i64 H, .slice a n c] 27) := ⟨_, rfl⟩
  rw [← hW1]
  have bW : Below w1.heap.size w1 W1 := by rw [hW1]; exact below1 _ _
  have hP : Pv W1 w1.heap.size W H (.slice a n c) := by rw [hW1]; exact Pv.new _ _ _ _ _
  clear hW1
  obtain ⟨l1, p0, p1, p2⟩ := id hP
  have hvW := (hv.below hb).below bW
  have h0 := fun w2 (h : Below W1.heap.size W1 w2) => about_any W H (.slice a n c) cs ((x : Int) - 1) ((y : Int)) w2 (hvW.below h) b1 b2 b3 b4 hl (by omega) (by omega) (by omega) (by omega)
  have h1 := fun w2 (h : Below W1.heap.size W1 w2) => about_any W H (.slice a n c) cs (x : Int) (y : Int) w2 (hvW.below h) b1 b2 b3 b4 hl (by omega) (by omega) (by omega) (by omega)
  have h2 := fun w2 (h : Below W1.heap.size W1 w2) => about_any W H (.slice a n c) cs ((x : Int) + 1) ((y : Int)) w2 (hvW.below h) b1 b2 b3 b4 hl (by omega) (by omega) (by omega) (by omega)
  have s1 : IntKind.i64.wrap ((x : Int) + 1) = (x : Int) + 1 := IntWalk.i64_in _ (by omega)
  have s2 : IntKind.i64.wrap ((x : Int) - 1) = (x : Int) - 1 := IntWalk.i64_in _ (by omega)
  obtain ⟨g0, e0⟩ : ∃ g, g = atC W H cs ((x : Int) - 1) ((y : Int)) := ⟨_, rfl⟩
  obtain ⟨g1, e1⟩ : ∃ g, g = atC W H cs (x : Int) (y : Int) := ⟨_, rfl⟩
  obtain ⟨g2, e2⟩ : ∃ g, g = atC W H cs ((x : Int) + 1) ((y : Int)) := ⟨_, rfl⟩
  rw [← e0] at h0
  rw [← e1] at h1
  rw [← e2] at h2
  have hE : Hid (blurF W H cs 1 0 x y = blurB g0 g1 g2) := Lib.hid (by unfold blurF; rw [e0, e1, e2]; simp)
  clear hl hv hvW hb e0 e1 e2
  refine wp_region_cls (by kernel_rfl) (by kernel_rfl) (by kernel_rfl) (by kernel_rfl) (fun w' => Below W1.heap.size W1 w') (below_drewN (Below.refl _ _) 1) [Eq1 ?q6952u0, Eq1 ?q6952u1, Eq1 ?q6952u2, Eq1 ?q6952u3, FloatIs .f32 (g0), Eq1 ?q6952u5, Eq1 ?q6952u6, Eq1 ?q6952u7, FloatIs .f32 (g1), Eq1 ?q6952u9, Eq1 ?q6952u10, Eq1 ?q6952u11, Eq1 ?q6952u12, FloatIs .f32 (g2), FloatIs .f32 (blurB g0 g1 g2), FloatIs .f32 (blurB g0 g1 g2)] ?q6952main
  case q6952main =>
    (refine wpR_pure ?_ (fun w hw => ?_) ?_; rfl; (obtain ⟨hwc, hwf⟩ := bcell2 hw; go_simp; (try with_reducible rfl)); (try simp only [Act.put, List.setIfInBounds_toArray, List.set_cons_zero, List.set_cons_succ]))
    (refine wpR_pure ?_ (fun w hw => ?_) ?_; rfl; (obtain ⟨hwc, hwf⟩ := bcell2 hw; go_simp; (try with_reducible rfl)); (try simp only [Act.put, List.setIfInBounds_toArray, List.set_cons_zero, List.set_cons_succ]))
    (refine wpR_pure ?_ (fun w hw => ?_) ?_; rfl; (obtain ⟨hwc, hwf⟩ := bcell2 hw; go_simp; (try with_reducible rfl)); (try simp only [Act.put, List.setIfInBounds_toArray, List.set_cons_zero, List.set_cons_succ]))
    (refine wpR_pure ?_ (fun w hw => ?_) ?_; rfl; (obtain ⟨hwc, hwf⟩ := bcell2 hw; go_simp; (try with_reducible rfl)); (try simp only [Act.put, List.setIfInBounds_toArray, List.set_cons_zero, List.set_cons_succ]))
    (refine wpR_cls ?_ (fun w hw => ?_) ?_; rfl; (go_simp; refine (h0 _ hw).mono ?_; rintro _ _ ⟨_, rfl, hcb, hcr⟩; exact ⟨_, rfl, ⟨_, rfl, hcr⟩, Below.trans hw (hcb.mono hw.size)⟩); (rintro _ ⟨_, rfl, _⟩; (try simp only [Act.put, List.setIfInBounds_toArray, List.set_cons_zero, List.set_cons_succ])))
    (refine wpR_pure ?_ (fun w hw => ?_) ?_; rfl; (obtain ⟨hwc, hwf⟩ := bcell2 hw; go_simp; (try with_reducible rfl)); (try simp only [Act.put, List.setIfInBounds_toArray, List.set_cons_zero, List.set_cons_succ]))
    (refine wpR_pure ?_ (fun w hw => ?_) ?_; rfl; (obtain ⟨hwc, hwf⟩ := bcell2 hw; go_simp; (try with_reducible rfl)); (try simp only [Act.put, List.setIfInBounds_toArray, List.set_cons_zero, List.set_cons_succ]))
    (refine wpR_pure ?_ (fun w hw => ?_) ?_; rfl; (obtain ⟨hwc, hwf⟩ := bcell2 hw; go_simp; (try with_reducible rfl)); (try simp only [Act.put, List.setIfInBounds_toArray, List.set_cons_zero, List.set_cons_succ]))
    (refine wpR_cls ?_ (fun w hw => ?_) ?_; rfl; (go_simp; refine (h1 _ hw).mono ?_; rintro _ _ ⟨_, rfl, hcb, hcr⟩; exact ⟨_, rfl, ⟨_, rfl, hcr⟩, Below.trans hw (hcb.mono hw.size)⟩); (rintro _ ⟨_, rfl, _⟩; (try simp only [Act.put, List.setIfInBounds_toArray, List.set_cons_zero, List.set_cons_succ])))
    (refine wpR_pure ?_ (fun w hw => ?_) ?_; rfl; (obtain ⟨hwc, hwf⟩ := bcell2 hw; go_simp; (try with_reducible rfl)); (try simp only [Act.put, List.setIfInBounds_toArray, List.set_cons_zero, List.set_cons_succ]))
    (refine wpR_pure ?_ (fun w hw => ?_) ?_; rfl; (obtain ⟨hwc, hwf⟩ := bcell2 hw; go_simp; (try with_reducible rfl)); (try simp only [Act.put, List.setIfInBounds_toArray, List.set_cons_zero, List.set_cons_succ]))
    (refine wpR_pure ?_ (fun w hw => ?_) ?_; rfl; (obtain ⟨hwc, hwf⟩ := bcell2 hw; go_simp; (try with_reducible rfl)); (try simp only [Act.put, List.setIfInBounds_toArray, List.set_cons_zero, List.set_cons_succ]))
    (refine wpR_pure ?_ (fun w hw => ?_) ?_; rfl; (obtain ⟨hwc, hwf⟩ := bcell2 hw; go_simp; (try with_reducible rfl)); (try simp only [Act.put, List.setIfInBounds_toArray, List.set_cons_zero, List.set_cons_succ]))
    (refine wpR_cls ?_ (fun w hw => ?_) ?_; rfl; (go_simp; refine (h2 _ hw).mono ?_; rintro _ _ ⟨_, rfl, hcb, hcr⟩; exact ⟨_, rfl, ⟨_, rfl, hcr⟩, Below.trans hw (hcb.mono hw.size)⟩); (rintro _ ⟨_, rfl, _⟩; (try simp only [Act.put, List.setIfInBounds_toArray, List.set_cons_zero, List.set_cons_succ])))
    (refine wpR_cls ?_ (fun w hw => ?_) ?_; rfl; (go_simp; refine (RF.rfb (blurred_any _ (by assumption) (by assumption) (by assumption))).mono ?_; rintro _ _ ⟨_, rfl, hcb, hcr⟩; exact ⟨_, rfl, ⟨_, rfl, hcr⟩, Below.trans hw (hcb.mono hw.size)⟩); (rintro _ ⟨_, rfl, _⟩; (try simp only [Act.put, List.setIfInBounds_toArray, List.set_cons_zero, List.set_cons_succ])))
    (refine wpR_cls ?_ (fun w hw => ?_) ?_; rfl; (go_simp; first | exact ⟨_, rfl, by assumption⟩ | exact ⟨hw, _, rfl, by assumption⟩); (rintro _ ⟨_, rfl, _⟩; (try simp only [Act.put, List.setIfInBounds_toArray, List.set_cons_zero, List.set_cons_succ])))
    refine wpR_nil ?_
    intro w' hw'
    clear s1 s2
    go_wp2_with fail
    go_ret
    exact ⟨_, rfl, by first | exact bW.trans (hw'.mono bW.size) | exact bW.trans ((below_drewN hw' _).mono bW.size), by rw [hE.out]; assumption⟩
set_option maxRecDepth 100000 in
set_option maxHeartbeats 4000000 in
theorem blurredDown_fn (W H : Nat) (a : Option Addr) (n c : Nat) (cs : List Nat) (w : World) (hv : FC w (.slice a n c) cs) (b1 : 1 ≤ W) (b2 : W ≤ 24) (b3 : 1 ≤ H) (b4 : H ≤ 24) (hl : cs.length = H * W) :
    GreyFn Try.prog 109 #[.agg #[.int .i64 W, .int .i64 H, .slice a n c]] #[] W H (blurF W H cs 0 1) w := fun w1 x y hb hx hy => by
  show Calls Try.prog 109 #[.agg #[.int .i64 W, .int .i64 H, .slice a n c], .int .i64 x, .int .i64 y] w1 _
  go_enter Try.func109, Try.ntmps109
  go_upto_region 1 with fail
  obtain ⟨W1, hW1⟩ : ∃ W1, W1 = w1.alloc (.cells #[.int .i64 W, .int .i64 H, .slice a n c] 27) := ⟨_, rfl⟩
  rw [← hW1]
  have bW : Below w1.heap.size w1 W1 := by rw [hW1]; exact below1 _ _
  have hP : Pv W1 w1.heap.size W H (.slice a n c) := by rw [hW1]; exact Pv.new _ _ _ _ _
  clear hW1
  obtain ⟨l1, p0, p1, p2⟩ := id hP
  have hvW := (hv.below hb).below bW
  have h0 := fun w2 (h : Below W1.heap.size W1 w2) => about_any W H (.slice a n c) cs ((x : Int)) ((y : Int) - 1) w2 (hvW.below h) b1 b2 b3 b4 hl (by omega) (by omega) (by omega) (by omega)
  have h1 := fun w2 (h : Below W1.heap.size W1 w2) => about_any W H (.slice a n c) cs (x : Int) (y : Int) w2 (hvW.below h) b1 b2 b3 b4 hl (by omega) (by omega) (by omega) (by omega)
  have h2 := fun w2 (h : Below W1.heap.size W1 w2) => about_any W H (.slice a n c) cs ((x : Int)) ((y : Int) + 1) w2 (hvW.below h) b1 b2 b3 b4 hl (by omega) (by omega) (by omega) (by omega)
  have s1 : IntKind.i64.wrap ((y : Int) + 1) = (y : Int) + 1 := IntWalk.i64_in _ (by omega)
  have s2 : IntKind.i64.wrap ((y : Int) - 1) = (y : Int) - 1 := IntWalk.i64_in _ (by omega)
  obtain ⟨g0, e0⟩ : ∃ g, g = atC W H cs ((x : Int)) ((y : Int) - 1) := ⟨_, rfl⟩
  obtain ⟨g1, e1⟩ : ∃ g, g = atC W H cs (x : Int) (y : Int) := ⟨_, rfl⟩
  obtain ⟨g2, e2⟩ : ∃ g, g = atC W H cs ((x : Int)) ((y : Int) + 1) := ⟨_, rfl⟩
  rw [← e0] at h0
  rw [← e1] at h1
  rw [← e2] at h2
  have hE : Hid (blurF W H cs 0 1 x y = blurB g0 g1 g2) := Lib.hid (by unfold blurF; rw [e0, e1, e2]; simp)
  clear hl hv hvW hb e0 e1 e2
  refine wp_region_cls (by kernel_rfl) (by kernel_rfl) (by kernel_rfl) (by kernel_rfl) (fun w' => Below W1.heap.size W1 w') (below_drewN (Below.refl _ _) 1) [Eq1 ?q6952x2u0, Eq1 ?q6952x2u1, Eq1 ?q6952x2u2, Eq1 ?q6952x2u3, FloatIs .f32 (g0), Eq1 ?q6952x2u5, Eq1 ?q6952x2u6, Eq1 ?q6952x2u7, FloatIs .f32 (g1), Eq1 ?q6952x2u9, Eq1 ?q6952x2u10, Eq1 ?q6952x2u11, Eq1 ?q6952x2u12, FloatIs .f32 (g2), FloatIs .f32 (blurB g0 g1 g2), FloatIs .f32 (blurB g0 g1 g2)] ?q6952x2main
  case q6952x2main =>
    (refine wpR_pure ?_ (fun w hw => ?_) ?_; rfl; (obtain ⟨hwc, hwf⟩ := bcell2 hw; go_simp; (try with_reducible rfl)); (try simp only [Act.put, List.setIfInBounds_toArray, List.set_cons_zero, List.set_cons_succ]))
    (refine wpR_pure ?_ (fun w hw => ?_) ?_; rfl; (obtain ⟨hwc, hwf⟩ := bcell2 hw; go_simp; (try with_reducible rfl)); (try simp only [Act.put, List.setIfInBounds_toArray, List.set_cons_zero, List.set_cons_succ]))
    (refine wpR_pure ?_ (fun w hw => ?_) ?_; rfl; (obtain ⟨hwc, hwf⟩ := bcell2 hw; go_simp; (try with_reducible rfl)); (try simp only [Act.put, List.setIfInBounds_toArray, List.set_cons_zero, List.set_cons_succ]))
    (refine wpR_pure ?_ (fun w hw => ?_) ?_; rfl; (obtain ⟨hwc, hwf⟩ := bcell2 hw; go_simp; (try with_reducible rfl)); (try simp only [Act.put, List.setIfInBounds_toArray, List.set_cons_zero, List.set_cons_succ]))
    (refine wpR_cls ?_ (fun w hw => ?_) ?_; rfl; (go_simp; refine (h0 _ hw).mono ?_; rintro _ _ ⟨_, rfl, hcb, hcr⟩; exact ⟨_, rfl, ⟨_, rfl, hcr⟩, Below.trans hw (hcb.mono hw.size)⟩); (rintro _ ⟨_, rfl, _⟩; (try simp only [Act.put, List.setIfInBounds_toArray, List.set_cons_zero, List.set_cons_succ])))
    (refine wpR_pure ?_ (fun w hw => ?_) ?_; rfl; (obtain ⟨hwc, hwf⟩ := bcell2 hw; go_simp; (try with_reducible rfl)); (try simp only [Act.put, List.setIfInBounds_toArray, List.set_cons_zero, List.set_cons_succ]))
    (refine wpR_pure ?_ (fun w hw => ?_) ?_; rfl; (obtain ⟨hwc, hwf⟩ := bcell2 hw; go_simp; (try with_reducible rfl)); (try simp only [Act.put, List.setIfInBounds_toArray, List.set_cons_zero, List.set_cons_succ]))
    (refine wpR_pure ?_ (fun w hw => ?_) ?_; rfl; (obtain ⟨hwc, hwf⟩ := bcell2 hw; go_simp; (try with_reducible rfl)); (try simp only [Act.put, List.setIfInBounds_toArray, List.set_cons_zero, List.set_cons_succ]))
    (refine wpR_cls ?_ (fun w hw => ?_) ?_; rfl; (go_simp; refine (h1 _ hw).mono ?_; rintro _ _ ⟨_, rfl, hcb, hcr⟩; exact ⟨_, rfl, ⟨_, rfl, hcr⟩, Below.trans hw (hcb.mono hw.size)⟩); (rintro _ ⟨_, rfl, _⟩; (try simp only [Act.put, List.setIfInBounds_toArray, List.set_cons_zero, List.set_cons_succ])))
    (refine wpR_pure ?_ (fun w hw => ?_) ?_; rfl; (obtain ⟨hwc, hwf⟩ := bcell2 hw; go_simp; (try with_reducible rfl)); (try simp only [Act.put, List.setIfInBounds_toArray, List.set_cons_zero, List.set_cons_succ]))
    (refine wpR_pure ?_ (fun w hw => ?_) ?_; rfl; (obtain ⟨hwc, hwf⟩ := bcell2 hw; go_simp; (try with_reducible rfl)); (try simp only [Act.put, List.setIfInBounds_toArray, List.set_cons_zero, List.set_cons_succ]))
    (refine wpR_pure ?_ (fun w hw => ?_) ?_; rfl; (obtain ⟨hwc, hwf⟩ := bcell2 hw; go_simp; (try with_reducible rfl)); (try simp only [Act.put, List.setIfInBounds_toArray, List.set_cons_zero, List.set_cons_succ]))
    (refine wpR_pure ?_ (fun w hw => ?_) ?_; rfl; (obtain ⟨hwc, hwf⟩ := bcell2 hw; go_simp; (try with_reducible rfl)); (try simp only [Act.put, List.setIfInBounds_toArray, List.set_cons_zero, List.set_cons_succ]))
    (refine wpR_cls ?_ (fun w hw => ?_) ?_; rfl; (go_simp; refine (h2 _ hw).mono ?_; rintro _ _ ⟨_, rfl, hcb, hcr⟩; exact ⟨_, rfl, ⟨_, rfl, hcr⟩, Below.trans hw (hcb.mono hw.size)⟩); (rintro _ ⟨_, rfl, _⟩; (try simp only [Act.put, List.setIfInBounds_toArray, List.set_cons_zero, List.set_cons_succ])))
    (refine wpR_cls ?_ (fun w hw => ?_) ?_; rfl; (go_simp; refine (RF.rfb (blurred_any _ (by assumption) (by assumption) (by assumption))).mono ?_; rintro _ _ ⟨_, rfl, hcb, hcr⟩; exact ⟨_, rfl, ⟨_, rfl, hcr⟩, Below.trans hw (hcb.mono hw.size)⟩); (rintro _ ⟨_, rfl, _⟩; (try simp only [Act.put, List.setIfInBounds_toArray, List.set_cons_zero, List.set_cons_succ])))
    (refine wpR_cls ?_ (fun w hw => ?_) ?_; rfl; (go_simp; first | exact ⟨_, rfl, by assumption⟩ | exact ⟨hw, _, rfl, by assumption⟩); (rintro _ ⟨_, rfl, _⟩; (try simp only [Act.put, List.setIfInBounds_toArray, List.set_cons_zero, List.set_cons_succ])))
    refine wpR_nil ?_
    intro w' hw'
    clear s1 s2
    go_wp2_with fail
    go_ret
    exact ⟨_, rfl, by first | exact bW.trans (hw'.mono bW.size) | exact bW.trans ((below_drewN hw' _).mono bW.size), by rw [hE.out]; assumption⟩
end Go.Proofs.Ytbiobmdibiplfaa
