import Derived.Test.YtbiobmdibiplfaaRo
import Derived.Test.YtbiobmdibiplfaaLy
import Derived.Test.YtbiobmdibiplfaaPi
import Derived.Test.YtbiobmdibiplfaaWn
import Derived.Deep.DeepCutAuto
import Derived.Deep.DrawnRows
set_option linter.unusedVariables false
set_option linter.unusedSimpArgs false
namespace Go.FX
open Go Go.RowKit Ieee
/-- The difference of a cell from the one some rows on. -/
def diffI (W H : Nat) (cs cs' : List Nat) (k : Int) (i : Nat) : Nat := fop .sub .f32 (atC W H cs ((i % W : Nat) : Int) ((i / W : Nat) : Int)) (atC W H cs' ((i % W : Nat) : Int) (((i / W : Nat) : Int) + k))
def offI (W H : Nat) (cs cs' : List Nat) (k : Int) (i : Nat) : Nat := cn .f32 (diffI W H cs cs' k i % 2147483648)
def offSum (W H : Nat) (cs cs' : List Nat) (k : Int) : Nat := accS (offI W H cs cs' k) (H * W)
theorem sumF_acc {zs : List Nat} {f : Nat → Nat} (h : ∀ i, i < zs.length → cn .f32 (zs.getD i 0) = f i) : ∀ n, n ≤ zs.length → sumF (zs.take n) = accS f n
  | 0, _ => by rw [List.take_zero]; rfl
  | n + 1, hn => by
    rw [sumF_step zs n (by omega), sumF_acc h n (by omega), h n (by omega)]; rfl
theorem sumF_all {zs : List Nat} {f : Nat → Nat} {n : Nat} (h : zs.map (cn .f32) = seqL f n) : sumF zs = accS f n := by
  have hl : zs.length = n := by have e := congrArg List.length h; simpa [seqL_len] using e
  have h2 := sumF_acc (zs := zs) (f := f) (fun i hi => by
    have e := congrArg (fun l => l.getD i 0) h
    simp only [seqL_get f n i (by omega)] at e
    rw [← e]
    simp [List.getD, hi]) n (by omega)
  rwa [List.take_of_length_le (by omega)] at h2
end Go.FX
namespace Go.Proofs.Ytbiobmdibiplfaa
open Go.FX Go.RowKit Go.WideShapes Go.ChangeShapes
theorem absol_any {r c : Nat} (h : Fl .f32 r c) (w : World) : Calls Try.prog 121 #[.float .f32 r] w (RFb .f32 (cn .f32 (c % 2147483648)) w) := by
  have h' := Lib.hid h
  clear h
  go_enter Try.func121, Try.ntmps121
  go_wp2
  go_ret
  exact ⟨_, rfl, by first | exact Below.refl _ _ | exact below_drewN (Below.refl _ _) _ | exact below_drewN (below_drewN (Below.refl _ _) _) _, by rw [andNot_abs _ (cvR_lt' r w)]; exact abs_narrow h'.out _ _⟩
set_option maxHeartbeats 2000000 in
theorem off_fn (W H : Nat) (a : Option Addr) (n c : Nat) (cs : List Nat) (a' : Option Addr) (n' c' : Nat) (cs' : List Nat) (k : Int) (bp bq bk : Nat) (w : World) (hv : FC w (.slice a n c) cs) (hp : Pv w bp W H (.slice a n c)) (hv' : FC w (.slice a' n' c') cs') (hp' : Pv w bq W H (.slice a' n' c')) (hkl : bk < w.heap.size) (hk : w.cell? ⟨bk, 0, none⟩ = some (.int .i64 k)) (k0 : -8 ≤ k) (k8 : k ≤ 8) (b1 : 1 ≤ W) (b2 : W ≤ 24) (b3 : 1 ≤ H) (b4 : H ≤ 24) (hl : cs.length = H * W) (hl' : cs'.length = H * W) :
    GreyFn Try.prog 129 #[] #[.pointer (some ⟨bp, 0, none⟩), .pointer (some ⟨bq, 0, none⟩), .pointer (some ⟨bk, 0, none⟩)] W H (fun x y => cn .f32 (fop .sub .f32 (atC W H cs x y) (atC W H cs' x (y + k)) % 2147483648)) w := fun w1 x y hb hx hy => by
  have hat := fun w2 (h : Below w1.heap.size w1 w2) => about_any W H (.slice a n c) cs x y w2 ((hv.below hb).below h) b1 b2 b3 b4 hl (by omega) (by omega) (by omega) (by omega)
  have hat' := fun w2 (h : Below w1.heap.size w1 w2) => about_any W H (.slice a' n' c') cs' x ((y : Int) + k) w2 ((hv'.below hb).below h) b1 b2 b3 b4 hl' (by omega) (by omega) (by omega) (by omega)
  obtain ⟨g1, e1⟩ : ∃ g, g = atC W H cs x y := ⟨_, rfl⟩
  obtain ⟨g2, e2⟩ : ∃ g, g = atC W H cs' x ((y : Int) + k) := ⟨_, rfl⟩
  rw [← e1] at hat
  rw [← e2] at hat'
  show Calls Try.prog 129 #[.int .i64 x, .int .i64 y, .pointer (some ⟨bp, 0, none⟩), .pointer (some ⟨bq, 0, none⟩), .pointer (some ⟨bk, 0, none⟩)] w1 (RFb .f32 (cn .f32 (fop .sub .f32 (atC W H cs x y) (atC W H cs' x ((y : Int) + k)) % 2147483648)) w1)
  rw [← e1, ← e2]
  obtain ⟨_, p0, p1, p2⟩ := hp.below hb
  obtain ⟨_, q0, q1, q2⟩ := hp'.below hb
  have hM := ((bcell hb).1 bk 0 hkl).trans hk
  have lm : bk < w1.heap.size := Nat.lt_of_lt_of_le hkl hb.size
  have m1 : IntKind.i64.wrap ((y : Int) + k) = (y : Int) + k := IntWalk.i64_in _ (by omega)
  clear hv hp hv' hp' hl hl' hb hk hkl e1 e2
  go_enter Try.func129, Try.ntmps129
  go_upto_region 1 with fail
  refine wp_region_cls (by kernel_rfl) (by kernel_rfl) (by kernel_rfl) (by kernel_rfl) (fun w' => Below w1.heap.size w1 w') (below_drewN (Below.refl _ _) 1) [Eq1 ?q1749u0, Eq1 ?q1749u1, Eq1 ?q1749u2, FloatIs .f32 (g1), Eq1 ?q1749u4, Eq1 ?q1749u5, Eq1 ?q1749u6, Eq1 ?q1749u7, Eq1 ?q1749u8, FloatIs .f32 (g2), FloatIs .f32 (fop .sub .f32 g1 g2), FloatIs .f32 (cn .f32 (fop .sub .f32 g1 g2 % 2147483648)), FloatIs .f32 (cn .f32 (fop .sub .f32 g1 g2 % 2147483648))] ?q1749main
  case q1749main =>
    (refine wpR_pure ?_ (fun w hw => ?_) ?_; rfl; (obtain ⟨hwc, hwf⟩ := bcell2 hw; go_simp; (try with_reducible rfl)); (try simp only [Act.put, List.setIfInBounds_toArray, List.set_cons_zero, List.set_cons_succ]))
    (refine wpR_pure ?_ (fun w hw => ?_) ?_; rfl; (obtain ⟨hwc, hwf⟩ := bcell2 hw; go_simp; (try with_reducible rfl)); (try simp only [Act.put, List.setIfInBounds_toArray, List.set_cons_zero, List.set_cons_succ]))
    (refine wpR_pure ?_ (fun w hw => ?_) ?_; rfl; (obtain ⟨hwc, hwf⟩ := bcell2 hw; go_simp; (try with_reducible rfl)); (try simp only [Act.put, List.setIfInBounds_toArray, List.set_cons_zero, List.set_cons_succ]))
    (refine wpR_cls ?_ (fun w hw => ?_) ?_; rfl; (go_simp; refine (hat _ hw).mono ?_; rintro _ _ ⟨_, rfl, hcb, hcr⟩; exact ⟨_, rfl, ⟨_, rfl, hcr⟩, Below.trans hw (hcb.mono hw.size)⟩); (rintro _ ⟨_, rfl, _⟩; (try simp only [Act.put, List.setIfInBounds_toArray, List.set_cons_zero, List.set_cons_succ])))
    (refine wpR_pure ?_ (fun w hw => ?_) ?_; rfl; (obtain ⟨hwc, hwf⟩ := bcell2 hw; go_simp; (try with_reducible rfl)); (try simp only [Act.put, List.setIfInBounds_toArray, List.set_cons_zero, List.set_cons_succ]))
    (refine wpR_pure ?_ (fun w hw => ?_) ?_; rfl; (obtain ⟨hwc, hwf⟩ := bcell2 hw; go_simp; (try with_reducible rfl)); (try simp only [Act.put, List.setIfInBounds_toArray, List.set_cons_zero, List.set_cons_succ]))
    (refine wpR_pure ?_ (fun w hw => ?_) ?_; rfl; (obtain ⟨hwc, hwf⟩ := bcell2 hw; go_simp; (try with_reducible rfl)); (try simp only [Act.put, List.setIfInBounds_toArray, List.set_cons_zero, List.set_cons_succ]))
    (refine wpR_pure ?_ (fun w hw => ?_) ?_; rfl; (obtain ⟨hwc, hwf⟩ := bcell2 hw; go_simp; (try with_reducible rfl)); (try simp only [Act.put, List.setIfInBounds_toArray, List.set_cons_zero, List.set_cons_succ]))
    (refine wpR_pure ?_ (fun w hw => ?_) ?_; rfl; (obtain ⟨hwc, hwf⟩ := bcell2 hw; go_simp; (try with_reducible rfl)); (try simp only [Act.put, List.setIfInBounds_toArray, List.set_cons_zero, List.set_cons_succ]))
    (refine wpR_cls ?_ (fun w hw => ?_) ?_; rfl; (go_simp; refine (hat' _ hw).mono ?_; rintro _ _ ⟨_, rfl, hcb, hcr⟩; exact ⟨_, rfl, ⟨_, rfl, hcr⟩, Below.trans hw (hcb.mono hw.size)⟩); (rintro _ ⟨_, rfl, _⟩; (try simp only [Act.put, List.setIfInBounds_toArray, List.set_cons_zero, List.set_cons_succ])))
    (refine wpR_cls ?_ (fun w hw => ?_) ?_; rfl; (go_simp; exact ⟨below_drewN hw _, _, rfl, Fl.flR (by assumption) (by assumption) _⟩); (rintro _ ⟨_, rfl, _⟩; (try simp only [Act.put, List.setIfInBounds_toArray, List.set_cons_zero, List.set_cons_succ])))
    (refine wpR_cls ?_ (fun w hw => ?_) ?_; rfl; (go_simp; refine (absol_any (by assumption) _).mono ?_; rintro _ _ ⟨_, rfl, hcb, hcr⟩; exact ⟨_, rfl, ⟨_, rfl, hcr⟩, Below.trans hw (hcb.mono hw.size)⟩); (rintro _ ⟨_, rfl, _⟩; (try simp only [Act.put, List.setIfInBounds_toArray, List.set_cons_zero, List.set_cons_succ])))
    (refine wpR_cls ?_ (fun w hw => ?_) ?_; rfl; (go_simp; first | exact ⟨_, rfl, by assumption⟩ | exact ⟨hw, _, rfl, by assumption⟩); (rintro _ ⟨_, rfl, _⟩; (try simp only [Act.put, List.setIfInBounds_toArray, List.set_cons_zero, List.set_cons_succ])))
    refine wpR_nil ?_
    intro w' hw'
    go_wp2_with fail
    go_ret
    exact ⟨_, rfl, hw', by assumption⟩
set_option maxHeartbeats 4000000 in
theorem sumOffBy_any (W H : Nat) (a : Option Addr) (n c : Nat) (cs : List Nat) (a' : Option Addr) (n' c' : Nat) (cs' : List Nat) (k : Int) (w : World) (hv : FC w (.slice a n c) cs) (hv' : FC w (.slice a' n' c') cs') (k0 : -8 ≤ k) (k8 : k ≤ 8) (b1 : 1 ≤ W) (b2 : W ≤ 24) (b3 : 1 ≤ H) (b4 : H ≤ 24) (b5 : H * W ≤ 256) (hl : cs.length = H * W) (hl' : cs'.length = H * W) :
    Calls Try.prog 78 #[.agg #[.int .i64 W, .int .i64 H, .slice a n c], .agg #[.int .i64 W, .int .i64 H, .slice a' n' c'], .int .i64 k] w (RFb .f32 (offSum W H cs cs' k) w) := by
  obtain ⟨w0, hw0⟩ : ∃ u, u = ((w.alloc (.cells #[.int .i64 W, .int .i64 H, .slice a n c] 27)).alloc (.cells #[.int .i64 W, .int .i64 H, .slice a' n' c'] 27)).alloc (.cells #[.int .i64 k] 2) := ⟨_, rfl⟩
  have hP : Pv w0 w.heap.size W H (.slice a n c) := by rw [hw0]; exact ((Pv.new _ _ _ _ _).alloc _).alloc _
  have hQ : Pv w0 (w.heap.size + 1) W H (.slice a' n' c') := by
    have h := (Pv.new (w.alloc (.cells #[.int .i64 W, .int .i64 H, .slice a n c] 27)) W H (.slice a' n' c') 27).alloc (.cells #[.int .i64 k] 2)
    rw [hw0]; simpa only [World.size_alloc] using h
  have hb0 : Below w.heap.size w w0 := by rw [hw0]; exact below3 _ _ _ _
  have hK : w0.cell? ⟨w.heap.size + 1 + 1, 0, none⟩ = some (.int .i64 k) := by rw [hw0]; go_simp
  have hKl : w.heap.size + 1 + 1 < w0.heap.size := by rw [hw0]; simp
  have hG := off_fn W H a n c cs a' n' c' cs' k w.heap.size (w.heap.size + 1) (w.heap.size + 1 + 1) w0 (hv.below hb0) hP (hv'.below hb0) hQ hKl hK k0 k8 b1 b2 b3 b4 hl hl'
  have hd := draw_any W H b1 b2 b3 b4 b5 _ _ _ _ w0 (enters_of Try.func129 (by kernel_rfl) rfl) hG
  obtain ⟨G, hGe⟩ : ∃ G, G = gridL W (fun x y => cn .f32 (fop .sub .f32 (atC W H cs x y) (atC W H cs' x (y + k)) % 2147483648)) (H * W) := ⟨_, rfl⟩
  rw [← hGe] at hd
  have hGs : G = seqL (offI W H cs cs' k) (H * W) := by rw [hGe, gridL_seq]; rfl
  obtain ⟨_, p0, p1, p2⟩ := id hP
  have hGs' := Lib.hid hGs
  clear hG hv hv' hGe hGs hl hl' hP hQ
  go_enter Try.func78, Try.ntmps78
  go_upto_region 1 with fail
  rw [← hw0]
  clear hw0
  go_wp2_with fail
  refine hd.mono ?_
  rintro e w1 ⟨a1, n1, c1, rfl, hb1, ho1⟩
  obtain ⟨X, hX⟩ : ∃ X, X = w1.alloc (.cells #[.int .i64 W, .int .i64 H, .slice a1 n1 c1] 27) := ⟨_, rfl⟩
  have hP1 : Pv X w1.heap.size W H (.slice a1 n1 c1) := by rw [hX]; exact Pv.new _ _ _ _ _
  obtain ⟨zs, hfs, hzs⟩ : FC X (.slice a1 n1 c1) G := by rw [hX]; exact (ho1.alloc _).fc
  have hbX : Below w0.heap.size w0 X := by rw [hX]; exact hb1.alloc hb1.size _
  rw [hGs'.out] at hzs
  have hzl : zs.length = H * W := by have e := congrArg List.length hzs; simpa [seqL_len] using e
  have hS := implSum_any _ zs X hfs (by omega)
  rw [sumF_all hzs] at hS
  obtain ⟨_, q0, q1, q2⟩ := id hP1
  clear hfs hzs hzl ho1 hb1 p0 p1 p2
  go_upto_region 2 with fail
  rw [← hX]
  clear hX
  go_wp2_with fail
  refine hS.mono ?_
  rintro e w2 ⟨r, m, rfl, rfl, hr⟩
  go_wp2_with fail
  go_ret
  exact ⟨_, rfl, by first | exact below_drewN (hb0.trans (hbX.mono hb0.size)) _ | exact hb0.trans (hbX.mono hb0.size), hr⟩
end Go.Proofs.Ytbiobmdibiplfaa
