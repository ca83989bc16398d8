import Derived.Test.YtdgpjpabhbifbaaPa
import Derived.Deep.DeepCutAuto
set_option linter.unusedVariables false
set_option linter.unusedSimpArgs false
namespace Go.FX
open Go Go.RowKit
theorem keepDrewN {n : Nat} {W1 W : World} (hS : Below n W1 W ∧ n ≤ W.heap.size ∧ (∀ b o, b < n → W.cell? ⟨b, o, none⟩ = W1.cell? ⟨b, o, none⟩)) (k : Nat) :
    Below n W1 (W.drewN k) ∧ n ≤ (W.drewN k).heap.size ∧ (∀ b o, b < n → (W.drewN k).cell? ⟨b, o, none⟩ = W1.cell? ⟨b, o, none⟩) := ⟨below_drewN hS.1 k, hS.2.1, hS.2.2⟩
end Go.FX
namespace Go.Proofs.Ytdgpjpabhbifbaa
open Go.FX Go.RowKit Go.WideShapes Go.ChangeShapes

theorem mirrored_fn (W H : Nat) (a : Option Addr) (n c : Nat) (cs : List Nat) (w : World) (hv : FC w (.slice a n c) cs) (b1 : 1 ≤ W) (b2 : W ≤ 24) (b3 : 1 ≤ H) (b4 : H ≤ 24) (hl : cs.length = H * W) :
    GreyFn Try.prog 66 #[.agg #[.int .i64 W, .int .i64 H, .slice a n c]] #[] W H (fun x y => atC W H cs ((W : Int) - 1 - x) y) w := fun w1 x y hb hx hy => by
  have hab := fun w2 (h : Below w1.heap.size w1 w2) => about_any W H (.slice a n c) cs (((W : Int) - 1 - x)) (y) w2 ((hv.below hb).below h) b1 b2 b3 b4 hl (by omega) (by omega) (by omega) (by omega)
  show Calls Try.prog 66 #[.agg #[.int .i64 W, .int .i64 H, .slice a n c], .int .i64 x, .int .i64 y] w1 _
  go_enter Try.func66, Try.ntmps66
  go_wp2_with (go_at_call 61; refine (hab _ (below1 _ _)).mono ?_; rintro e w2 ⟨r, rfl, hb2, hr⟩)
  go_ret
  exact ⟨_, rfl, by ((repeat' (first | exact Below.refl _ _ | assumption | (refine bel_set ?_ ?_ _) | (refine bel_al ?_ ?_ _) | (refine below_drewN ?_ _) | (refine Below.drew ?_) | (refine Below.trans ?_ (Below.mono hb2 ?_)))) <;> (first | omega | (simp; done) | (simp; omega))), hr⟩
theorem flipped_fn (W H : Nat) (a : Option Addr) (n c : Nat) (cs : List Nat) (w : World) (hv : FC w (.slice a n c) cs) (b1 : 1 ≤ W) (b2 : W ≤ 24) (b3 : 1 ≤ H) (b4 : H ≤ 24) (hl : cs.length = H * W) :
    GreyFn Try.prog 67 #[.agg #[.int .i64 W, .int .i64 H, .slice a n c]] #[] W H (fun x y => atC W H cs x ((H : Int) - 1 - y)) w := fun w1 x y hb hx hy => by
  have hab := fun w2 (h : Below w1.heap.size w1 w2) => about_any W H (.slice a n c) cs (x) (((H : Int) - 1 - y)) w2 ((hv.below hb).below h) b1 b2 b3 b4 hl (by omega) (by omega) (by omega) (by omega)
  show Calls Try.prog 67 #[.agg #[.int .i64 W, .int .i64 H, .slice a n c], .int .i64 x, .int .i64 y] w1 _
  go_enter Try.func67, Try.ntmps67
  go_wp2_with (go_at_call 61; refine (hab _ (below1 _ _)).mono ?_; rintro e w2 ⟨r, rfl, hb2, hr⟩)
  go_ret
  exact ⟨_, rfl, by ((repeat' (first | exact Below.refl _ _ | assumption | (refine bel_set ?_ ?_ _) | (refine bel_al ?_ ?_ _) | (refine below_drewN ?_ _) | (refine Below.drew ?_) | (refine Below.trans ?_ (Below.mono hb2 ?_)))) <;> (first | omega | (simp; done) | (simp; omega))), hr⟩
theorem swapped_fn (W H : Nat) (a : Option Addr) (n c : Nat) (cs : List Nat) (w : World) (hv : FC w (.slice a n c) cs) (b1 : 1 ≤ W) (b2 : W ≤ 24) (b3 : 1 ≤ H) (b4 : H ≤ 24) (hl : cs.length = H * W) :
    GreyFn Try.prog 68 #[.agg #[.int .i64 W, .int .i64 H, .slice a n c]] #[] H W (fun x y => atC W H cs y x) w := fun w1 x y hb hx hy => by
  have hab := fun w2 (h : Below w1.heap.size w1 w2) => about_any W H (.slice a n c) cs (y) (x) w2 ((hv.below hb).below h) b1 b2 b3 b4 hl (by omega) (by omega) (by omega) (by omega)
  show Calls Try.prog 68 #[.agg #[.int .i64 W, .int .i64 H, .slice a n c], .int .i64 x, .int .i64 y] w1 _
  go_enter Try.func68, Try.ntmps68
  go_wp2_with (go_at_call 61; refine (hab _ (below1 _ _)).mono ?_; rintro e w2 ⟨r, rfl, hb2, hr⟩)
  go_ret
  exact ⟨_, rfl, by ((repeat' (first | exact Below.refl _ _ | assumption | (refine bel_set ?_ ?_ _) | (refine bel_al ?_ ?_ _) | (refine below_drewN ?_ _) | (refine Below.drew ?_) | (refine Below.trans ?_ (Below.mono hb2 ?_)))) <;> (first | omega | (simp; done) | (simp; omega))), hr⟩
set_option maxHeartbeats 1000000 in
theorem implMirrorPicture_any (W H : Nat) (a : Option Addr) (n c : Nat) (cs : List Nat) (w : World) (hv : FC w (.slice a n c) cs) (b1 : 1 ≤ W) (b2 : W ≤ 24) (b3 : 1 ≤ H) (b4 : H ≤ 24) (b5 : H * W ≤ 256) (hl : cs.length = H * W) :
    Calls Try.prog 32 #[.agg #[.int .i64 W, .int .i64 H, .slice a n c]] w (RPic 32 W H (gridL W (fun x y => atC W H cs ((W : Int) - 1 - x) y) (H * W)) true w) := by
  obtain ⟨rfl, hnc, hcm⟩ := hv.sized
  have hval := validB_mk b1 b2 b3 b4 b5 hl
  have hG := mirrored_fn W H a _ c cs w hv b1 b2 b3 b4 hl
  have hd := fun w1 (hb : Below w.heap.size w w1) => drawFrom_any W H a cs.length c hval hnc hcm W H b1 b2 b3 b4 b5 _ _ _ _ w1 (enters_of Try.func66 (by kernel_rfl) rfl) (hG.later hb)
  clear hl hval
  go_enter Try.func32, Try.ntmps32
  go_wp2_with (go_at_call 65; refine (hd _ (below2 _ _ _)).mono ?_; rintro e w1 ⟨a1, n1, c1, rfl, hb1, ho1⟩; obtain ⟨l1, q0, q1, q2, qf⟩ := (Nv.new _ _ _ _ _).below hb1; simp only [World.size_alloc] at l1 q0 q1 q2 qf)
  refine bodyPost_ret (v := ?v) ?hr rfl ?post
  case hr => (simp [results, Try.results32, go_sem, q0, q1, q2, qf]; try rfl)
  case post =>
    refine ⟨_, _, _, rfl, ?_, ?_⟩
    · ((repeat' (first | exact Below.refl _ _ | assumption | (refine bel_set ?_ ?_ _) | (refine bel_al ?_ ?_ _) | (refine below_drewN ?_ _) | (refine Below.drew ?_) | (refine Below.trans ?_ (Below.mono hb1 ?_)))) <;> (first | omega | (simp; done) | (simp; omega)))
    · (refine OC.mono (base := ?bb) ?hh ?hl; (case hh => ((repeat' (first | exact ho1 | (refine OC.set ?_ _ ?_) | (refine OC.alloc ?_ _) | (refine OC.drewN ?_ _))) <;> (first | omega | (simp; done) | (simp; omega)))); (case hl => (first | omega | (simp; done) | (simp; omega))))
theorem implMirrorPicture_no (W H : Int) (a : Option Addr) (n c : Nat) (w : World) (hnc : n ≤ c) (hcm : c ≤ maxLen) (hval : validB W H n = false) :
    Calls Try.prog 32 #[.agg #[.int .i64 W, .int .i64 H, .slice a n c]] w (RPic 32 0 0 [] false w) := by
  have hd := fun w1 first cap => drawFrom_no W H a n c hnc hcm W H (.inl hval) (.func 66) first cap w1
  go_enter Try.func32, Try.ntmps32
  go_wp2_with (go_at_call 65; refine (hd _ _ _).mono ?_; rintro e w1 ⟨a1, n1, c1, rfl, hb1, ho1⟩; obtain ⟨l1, q0, q1, q2, qf⟩ := (Nv.new _ _ _ _ _).below hb1; simp only [World.size_alloc] at l1 q0 q1 q2 qf)
  refine bodyPost_ret (v := ?v) ?hr rfl ?post
  case hr => (simp [results, Try.results32, go_sem, q0, q1, q2, qf]; try rfl)
  case post =>
    refine ⟨_, _, _, rfl, ?_, ?_⟩
    · ((repeat' (first | exact Below.refl _ _ | assumption | (refine bel_set ?_ ?_ _) | (refine bel_al ?_ ?_ _) | (refine below_drewN ?_ _) | (refine Below.drew ?_) | (refine Below.trans ?_ (Below.mono hb1 ?_)))) <;> (first | omega | (simp; done) | (simp; omega)))
    · (refine OC.mono (base := ?bb) ?hh ?hl; (case hh => ((repeat' (first | exact ho1 | (refine OC.set ?_ _ ?_) | (refine OC.alloc ?_ _) | (refine OC.drewN ?_ _))) <;> (first | omega | (simp; done) | (simp; omega)))); (case hl => (first | omega | (simp; done) | (simp; omega))))
set_option maxHeartbeats 1000000 in
theorem implFlipPicture_any (W H : Nat) (a : Option Addr) (n c : Nat) (cs : List Nat) (w : World) (hv : FC w (.slice a n c) cs) (b1 : 1 ≤ W) (b2 : W ≤ 24) (b3 : 1 ≤ H) (b4 : H ≤ 24) (b5 : H * W ≤ 256) (hl : cs.length = H * W) :
    Calls Try.prog 34 #[.agg #[.int .i64 W, .int .i64 H, .slice a n c]] w (RPic 32 W H (gridL W (fun x y => atC W H cs x ((H : Int) - 1 - y)) (H * W)) true w) := by
  obtain ⟨rfl, hnc, hcm⟩ := hv.sized
  have hval := validB_mk b1 b2 b3 b4 b5 hl
  have hG := flipped_fn W H a _ c cs w hv b1 b2 b3 b4 hl
  have hd := fun w1 (hb : Below w.heap.size w w1) => drawFrom_any W H a cs.length c hval hnc hcm W H b1 b2 b3 b4 b5 _ _ _ _ w1 (enters_of Try.func67 (by kernel_rfl) rfl) (hG.later hb)
  clear hl hval
  go_enter Try.func34, Try.ntmps34
  go_wp2_with (go_at_call 65; refine (hd _ (below2 _ _ _)).mono ?_; rintro e w1 ⟨a1, n1, c1, rfl, hb1, ho1⟩; obtain ⟨l1, q0, q1, q2, qf⟩ := (Nv.new _ _ _ _ _).below hb1; simp only [World.size_alloc] at l1 q0 q1 q2 qf)
  refine bodyPost_ret (v := ?v) ?hr rfl ?post
  case hr => (simp [results, Try.results34, go_sem, q0, q1, q2, qf]; try rfl)
  case post =>
    refine ⟨_, _, _, rfl, ?_, ?_⟩
    · ((repeat' (first | exact Below.refl _ _ | assumption | (refine bel_set ?_ ?_ _) | (refine bel_al ?_ ?_ _) | (refine below_drewN ?_ _) | (refine Below.drew ?_) | (refine Below.trans ?_ (Below.mono hb1 ?_)))) <;> (first | omega | (simp; done) | (simp; omega)))
    · (refine OC.mono (base := ?bb) ?hh ?hl; (case hh => ((repeat' (first | exact ho1 | (refine OC.set ?_ _ ?_) | (refine OC.alloc ?_ _) | (refine OC.drewN ?_ _))) <;> (first | omega | (simp; done) | (simp; omega)))); (case hl => (first | omega | (simp; done) | (simp; omega))))
theorem implFlipPicture_no (W H : Int) (a : Option Addr) (n c : Nat) (w : World) (hnc : n ≤ c) (hcm : c ≤ maxLen) (hval : validB W H n = false) :
    Calls Try.prog 34 #[.agg #[.int .i64 W, .int .i64 H, .slice a n c]] w (RPic 32 0 0 [] false w) := by
  have hd := fun w1 first cap => drawFrom_no W H a n c hnc hcm W H (.inl hval) (.func 67) first cap w1
  go_enter Try.func34, Try.ntmps34
  go_wp2_with (go_at_call 65; refine (hd _ _ _).mono ?_; rintro e w1 ⟨a1, n1, c1, rfl, hb1, ho1⟩; obtain ⟨l1, q0, q1, q2, qf⟩ := (Nv.new _ _ _ _ _).below hb1; simp only [World.size_alloc] at l1 q0 q1 q2 qf)
  refine bodyPost_ret (v := ?v) ?hr rfl ?post
  case hr => (simp [results, Try.results34, go_sem, q0, q1, q2, qf]; try rfl)
  case post =>
    refine ⟨_, _, _, rfl, ?_, ?_⟩
    · ((repeat' (first | exact Below.refl _ _ | assumption | (refine bel_set ?_ ?_ _) | (refine bel_al ?_ ?_ _) | (refine below_drewN ?_ _) | (refine Below.drew ?_) | (refine Below.trans ?_ (Below.mono hb1 ?_)))) <;> (first | omega | (simp; done) | (simp; omega)))
    · (refine OC.mono (base := ?bb) ?hh ?hl; (case hh => ((repeat' (first | exact ho1 | (refine OC.set ?_ _ ?_) | (refine OC.alloc ?_ _) | (refine OC.drewN ?_ _))) <;> (first | omega | (simp; done) | (simp; omega)))); (case hl => (first | omega | (simp; done) | (simp; omega))))
set_option maxHeartbeats 1000000 in
theorem implSwapPicture_any (W H : Nat) (a : Option Addr) (n c : Nat) (cs : List Nat) (w : World) (hv : FC w (.slice a n c) cs) (b1 : 1 ≤ W) (b2 : W ≤ 24) (b3 : 1 ≤ H) (b4 : H ≤ 24) (b5 : H * W ≤ 256) (hl : cs.length = H * W) :
    Calls Try.prog 36 #[.agg #[.int .i64 W, .int .i64 H, .slice a n c]] w (RPic 32 H W (gridL H (fun x y => atC W H cs y x) (W * H)) true w) := by
  obtain ⟨rfl, hnc, hcm⟩ := hv.sized
  have hval := validB_mk b1 b2 b3 b4 b5 hl
  have hG := swapped_fn W H a _ c cs w hv b1 b2 b3 b4 hl
  have hd := fun w1 (hb : Below w.heap.size w w1) => drawFrom_any W H a cs.length c hval hnc hcm H W b3 b4 b1 b2 (by rw [Nat.mul_comm]; exact b5) _ _ _ _ w1 (enters_of Try.func68 (by kernel_rfl) rfl) (hG.later hb)
  clear hl hval
  go_enter Try.func36, Try.ntmps36
  go_wp2_with (go_at_call 65; refine (hd _ (below2 _ _ _)).mono ?_; rintro e w1 ⟨a1, n1, c1, rfl, hb1, ho1⟩; obtain ⟨l1, q0, q1, q2, qf⟩ := (Nv.new _ _ _ _ _).below hb1; simp only [World.size_alloc] at l1 q0 q1 q2 qf)
  refine bodyPost_ret (v := ?v) ?hr rfl ?post
  case hr => (simp [results, Try.results36, go_sem, q0, q1, q2, qf]; try rfl)
  case post =>
    refine ⟨_, _, _, rfl, ?_, ?_⟩
    · ((repeat' (first | exact Below.refl _ _ | assumption | (refine bel_set ?_ ?_ _) | (refine bel_al ?_ ?_ _) | (refine below_drewN ?_ _) | (refine Below.drew ?_) | (refine Below.trans ?_ (Below.mono hb1 ?_)))) <;> (first | omega | (simp; done) | (simp; omega)))
    · (refine OC.mono (base := ?bb) ?hh ?hl; (case hh => ((repeat' (first | exact ho1 | (refine OC.set ?_ _ ?_) | (refine OC.alloc ?_ _) | (refine OC.drewN ?_ _))) <;> (first | omega | (simp; done) | (simp; omega)))); (case hl => (first | omega | (simp; done) | (simp; omega))))
theorem implSwapPicture_no (W H : Int) (a : Option Addr) (n c : Nat) (w : World) (hnc : n ≤ c) (hcm : c ≤ maxLen) (hval : validB W H n = false) :
    Calls Try.prog 36 #[.agg #[.int .i64 W, .int .i64 H, .slice a n c]] w (RPic 32 0 0 [] false w) := by
  have hd := fun w1 first cap => drawFrom_no W H a n c hnc hcm H W (.inl hval) (.func 68) first cap w1
  go_enter Try.func36, Try.ntmps36
  go_wp2_with (go_at_call 65; refine (hd _ _ _).mono ?_; rintro e w1 ⟨a1, n1, c1, rfl, hb1, ho1⟩; obtain ⟨l1, q0, q1, q2, qf⟩ := (Nv.new _ _ _ _ _).below hb1; simp only [World.size_alloc] at l1 q0 q1 q2 qf)
  refine bodyPost_ret (v := ?v) ?hr rfl ?post
  case hr => (simp [results, Try.results36, go_sem, q0, q1, q2, qf]; try rfl)
  case post =>
    refine ⟨_, _, _, rfl, ?_, ?_⟩
    · ((repeat' (first | exact Below.refl _ _ | assumption | (refine bel_set ?_ ?_ _) | (refine bel_al ?_ ?_ _) | (refine below_drewN ?_ _) | (refine Below.drew ?_) | (refine Below.trans ?_ (Below.mono hb1 ?_)))) <;> (first | omega | (simp; done) | (simp; omega)))
    · (refine OC.mono (base := ?bb) ?hh ?hl; (case hh => ((repeat' (first | exact ho1 | (refine OC.set ?_ _ ?_) | (refine OC.alloc ?_ _) | (refine OC.drewN ?_ _))) <;> (first | omega | (simp; done) | (simp; omega)))); (case hl => (first | omega | (simp; done) | (simp; omega))))
theorem shift_fn (W H : Nat) (a : Option Addr) (n c : Nat) (cs : List Nat) (by_ : Int) (bp bb : Nat) (w : World) (hv : FC w (.slice a n c) cs) (hp : Pv w bp W H (.slice a n c)) (hlt : bb < w.heap.size) (hcb : w.cell? ⟨bb, 0, none⟩ = some (.int .i64 by_)) (e1 : -24 ≤ by_) (e2 : by_ ≤ 24) (b1 : 1 ≤ W) (b2 : W ≤ 24) (b3 : 1 ≤ H) (b4 : H ≤ 24) (hl : cs.length = H * W) :
    GreyFn Try.prog 71 #[] #[.pointer (some ⟨bp, 0, none⟩), .pointer (some ⟨bb, 0, none⟩)] W H (fun x y => atC W H cs (x + by_) y) w := fun w1 x y hb hx hy => by
  have hab := fun w2 (h : Below w1.heap.size w1 w2) => about_any W H (.slice a n c) cs ((x : Int) + by_) y w2 ((hv.below hb).below h) b1 b2 b3 b4 hl (by omega) (by omega) (by omega) (by omega)
  obtain ⟨l0, p0, p1, p2⟩ := hp.below hb
  have q := (bcell hb).1 bb 0 hlt
  rw [hcb] at q
  clear hcb hv hp hl hb
  show Calls Try.prog 71 #[.int .i64 x, .int .i64 y, .pointer (some ⟨bp, 0, none⟩), .pointer (some ⟨bb, 0, none⟩)] w1 _
  go_enter Try.func71, Try.ntmps71
  go_wp2_with fail
  refine (hab _ (Below.refl _ _)).mono ?_
  rintro e w2 ⟨r, rfl, hb2, hr⟩
  go_wp2_with fail
  go_ret
  exact ⟨_, rfl, hb2, hr⟩
set_option maxHeartbeats 1000000 in
theorem implShiftPicture_any (W H : Nat) (a : Option Addr) (n c : Nat) (cs : List Nat) (w : World) (hv : FC w (.slice a n c) cs) (b1 : 1 ≤ W) (b2 : W ≤ 24) (b3 : 1 ≤ H) (b4 : H ≤ 24) (b5 : H * W ≤ 256) (hl : cs.length = H * W) (by_ : Int) (e1 : -24 ≤ by_) (e2 : by_ ≤ 24) :
    Calls Try.prog 38 #[.agg #[.int .i64 W, .int .i64 H, .slice a n c], .int .i64 by_] w (RPic 32 W H (gridL W (fun x y => atC W H cs (x + by_) y) (H * W)) true w) := by
  obtain ⟨rfl, hnc, hcm⟩ := hv.sized
  have hval := validB_mk b1 b2 b3 b4 b5 hl
  have hd := fun w1 (hb : Below w.heap.size w w1) hp hlt hcb => drawFrom_any W H a cs.length c hval hnc hcm W H b1 b2 b3 b4 b5 _ _ _ _ w1 (enters_of Try.func71 (by kernel_rfl) rfl) (shift_fn W H a _ c cs by_ w.heap.size (w.heap.size + 1) w1 (hv.below hb) hp hlt hcb e1 e2 b1 b2 b3 b4 hl)
  clear hl hval
  go_enter Try.func38, Try.ntmps38
  go_wp2_with fail
  refine (hd _ (below3 _ _ _ _) (((Pv.new _ _ _ _ _).alloc _).alloc _) (by simp; try omega) (by go_simp)).mono ?_
  rintro e w1 ⟨a1, n1, c1, rfl, hb1, ho1⟩
  obtain ⟨l1, q0, q1, q2, qf⟩ := (Nv.new _ _ _ _ _).below hb1
  simp only [World.size_alloc] at l1 q0 q1 q2 qf
  go_wp2_with fail
  refine bodyPost_ret (v := ?v) ?hr rfl ?post
  case hr => (simp [results, Try.results38, go_sem, q0, q1, q2, qf]; try rfl)
  case post =>
    refine ⟨_, _, _, rfl, ?_, ?_⟩
    · ((repeat' (first | exact Below.refl _ _ | assumption | (refine bel_set ?_ ?_ _) | (refine bel_al ?_ ?_ _) | (refine below_drewN ?_ _) | (refine Below.drew ?_) | (refine Below.trans ?_ (Below.mono hb1 ?_)))) <;> (first | omega | (simp; done) | (simp; omega)))
    · (refine OC.mono (base := ?bb) ?hh ?hl; (case hh => ((repeat' (first | exact ho1 | (refine OC.set ?_ _ ?_) | (refine OC.alloc ?_ _) | (refine OC.drewN ?_ _))) <;> (first | omega | (simp; done) | (simp; omega)))); (case hl => (first | omega | (simp; done) | (simp; omega))))
theorem implShiftPicture_no (W H : Int) (a : Option Addr) (n c : Nat) (w : World) (hnc : n ≤ c) (hcm : c ≤ maxLen) (by_ : Int) (hval : validB W H n = false ∨ ¬ (-24 ≤ by_ ∧ by_ ≤ 24)) :
    Calls Try.prog 38 #[.agg #[.int .i64 W, .int .i64 H, .slice a n c], .int .i64 by_] w (RPic 32 0 0 [] false w) := by
  by_cases e1 : -24 ≤ by_
  · by_cases e2 : by_ ≤ 24
    · have hv : validB W H n = false := by rcases hval with h | h; · exact h
                                           · exact absurd ⟨e1, e2⟩ h
      have hd := fun w1 first cap => drawFrom_no W H a n c hnc hcm W H (.inl hv) (.func 71) first cap w1
      go_enter Try.func38, Try.ntmps38
      go_wp2_with fail
      refine (hd _ _ _).mono ?_
      rintro e w1 ⟨a1, n1, c1, rfl, hb1, ho1⟩
      obtain ⟨l1, q0, q1, q2, qf⟩ := (Nv.new _ _ _ _ _).below hb1
      simp only [World.size_alloc] at l1 q0 q1 q2 qf
      go_wp2_with fail
      refine bodyPost_ret (v := ?v) ?hr rfl ?post
      case hr => (simp [results, Try.results38, go_sem, q0, q1, q2, qf]; try rfl)
      case post =>
        refine ⟨_, _, _, rfl, ?_, ?_⟩
        · ((repeat' (first | exact Below.refl _ _ | assumption | (refine bel_set ?_ ?_ _) | (refine bel_al ?_ ?_ _) | (refine below_drewN ?_ _) | (refine Below.drew ?_) | (refine Below.trans ?_ (Below.mono hb1 ?_)))) <;> (first | omega | (simp; done) | (simp; omega)))
        · (refine OC.mono (base := ?bb) ?hh ?hl; (case hh => ((repeat' (first | exact ho1 | (refine OC.set ?_ _ ?_) | (refine OC.alloc ?_ _) | (refine OC.drewN ?_ _))) <;> (first | omega | (simp; done) | (simp; omega)))); (case hl => (first | omega | (simp; done) | (simp; omega))))
    · clear hval
      go_enter Try.func38, Try.ntmps38
      go_wp2_with fail
      refine bodyPost_ret (v := ?v2) ?hr2 rfl ?post2
      case hr2 => (simp [results, Try.results38, go_sem]; try rfl)
      case post2 => exact ⟨_, _, _, rfl, by ((repeat' (first | exact Below.refl _ _ | assumption | (refine bel_set ?_ ?_ _) | (refine bel_al ?_ ?_ _) | (refine below_drewN ?_ _) | (refine Below.drew ?_))) <;> (first | omega | (simp; done) | (simp; omega))), OC.nil _ _ _⟩
  · clear hval
    go_enter Try.func38, Try.ntmps38
    go_wp2_with fail
    refine bodyPost_ret (v := ?v3) ?hr3 rfl ?post3
    case hr3 => (simp [results, Try.results38, go_sem]; try rfl)
    case post3 => exact ⟨_, _, _, rfl, by ((repeat' (first | exact Below.refl _ _ | assumption | (refine bel_set ?_ ?_ _) | (refine bel_al ?_ ?_ _) | (refine below_drewN ?_ _) | (refine Below.drew ?_))) <;> (first | omega | (simp; done) | (simp; omega))), OC.nil _ _ _⟩
theorem flat_fn (W H : Nat) (g cg : Nat) (bb : Nat) (w : World) (hlt : bb < w.heap.size) (hcb : w.cell? ⟨bb, 0, none⟩ = some (.float .f32 g)) (hg : Fl .f32 g cg) :
    GreyFn Try.prog 55 #[] #[.pointer (some ⟨bb, 0, none⟩)] W H (fun x y => cg) w := fun w1 x y hb hx hy => by
  have q := (bcell hb).1 bb 0 hlt
  rw [hcb] at q
  clear hcb hb
  show Calls Try.prog 55 #[.int .i64 x, .int .i64 y, .pointer (some ⟨bb, 0, none⟩)] w1 _
  go_enter Try.func55, Try.ntmps55
  go_wp2_with fail
  go_ret
  exact ⟨_, rfl, Below.refl _ _, hg⟩
set_option maxHeartbeats 1000000 in
theorem implFlatPicture_any (W H : Nat) (g cg : Nat) (hg : Fl .f32 g cg) (w : World) (b1 : 1 ≤ W) (b2 : W ≤ 24) (b3 : 1 ≤ H) (b4 : H ≤ 24) (b5 : H * W ≤ 256) :
    Calls Try.prog 23 #[.int .i64 W, .int .i64 H, .float .f32 g] w (RPic 32 W H (gridL W (fun x y => cg) (H * W)) true w) := by
  have hs := Lib.hid (sizeB_mk b1 b2 b3 b4 b5)
  have hd := fun w1 hlt hcb => draw_any W H b1 b2 b3 b4 b5 _ _ _ _ w1 (enters_of Try.func55 (by kernel_rfl) rfl) (flat_fn W H g cg w.heap.size w1 hlt hcb hg)
  go_enter Try.func23, Try.ntmps23
  go_wp2_with fail
  refine (isSize_any _ _ _).mono ?_
  rintro e w1 ⟨rfl, rfl⟩
  rw [hs.out]
  go_wp2_with fail
  refine (hd _ (by simp; try omega) (by go_simp)).mono ?_
  rintro e w1 ⟨a1, n1, c1, rfl, hb1, ho1⟩
  obtain ⟨l1, q0, q1, q2, qf⟩ := (Nv.new _ _ _ _ _).below hb1
  simp only [World.size_alloc] at l1 q0 q1 q2 qf
  go_wp2_with fail
  refine bodyPost_ret (v := ?v) ?hr rfl ?post
  case hr => (simp [results, Try.results23, go_sem, q0, q1, q2, qf]; try rfl)
  case post =>
    refine ⟨_, _, _, rfl, ?_, ?_⟩
    · ((repeat' (first | exact Below.refl _ _ | assumption | (refine bel_set ?_ ?_ _) | (refine bel_al ?_ ?_ _) | (refine below_drewN ?_ _) | (refine Below.drew ?_) | (refine Below.trans ?_ (Below.mono hb1 ?_)))) <;> (first | omega | (simp; done) | (simp; omega)))
    · (refine OC.mono (base := ?bb) ?hh ?hl; (case hh => ((repeat' (first | exact ho1 | (refine OC.set ?_ _ ?_) | (refine OC.alloc ?_ _) | (refine OC.drewN ?_ _))) <;> (first | omega | (simp; done) | (simp; omega)))); (case hl => (first | omega | (simp; done) | (simp; omega))))
theorem implFlatPicture_no (W H : Int) (g : Nat) (w : World) (hval : sizeB W H = false) :
    Calls Try.prog 23 #[.int .i64 W, .int .i64 H, .float .f32 g] w (RPic 32 0 0 [] false w) := by
  have hval := Lib.hid hval
  go_enter Try.func23, Try.ntmps23
  go_wp2_with fail
  refine (isSize_any _ _ _).mono ?_
  rintro e w1 ⟨rfl, rfl⟩
  rw [hval.out]
  go_wp2_with fail
  refine bodyPost_ret (v := ?v) ?hr rfl ?post
  case hr => (simp [results, Try.results23, go_sem]; try rfl)
  case post => exact ⟨_, _, _, rfl, by ((repeat' (first | exact Below.refl _ _ | assumption | (refine bel_set ?_ ?_ _) | (refine bel_al ?_ ?_ _) | (refine below_drewN ?_ _) | (refine Below.drew ?_))) <;> (first | omega | (simp; done) | (simp; omega))), OC.nil _ _ _⟩

end Go.Proofs.Ytdgpjpabhbifbaa
