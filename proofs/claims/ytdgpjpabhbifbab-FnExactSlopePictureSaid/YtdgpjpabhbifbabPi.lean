import Derived.Test.YtdgpjpabhbifbabPa
import Derived.Deep.DeepCutAuto
set_option linter.unusedVariables false
set_option linter.unusedSimpArgs false
namespace Go.FX
open Go Go.RowKit
theorem keepDrewN {n : Nat} {W1 W : World} (hS : Below n W1 W ∧ n ≤ W.heap.size ∧ (∀ b o, b < n → W.cell? ⟨b, o, none⟩ = W1.cell? ⟨b, o, none⟩)) (k : Nat) :
    Below n W1 (W.drewN k) ∧ n ≤ (W.drewN k).heap.size ∧ (∀ b o, b < n → (W.drewN k).cell? ⟨b, o, none⟩ = W1.cell? ⟨b, o, none⟩) := ⟨below_drewN hS.1 k, hS.2.1, hS.2.2⟩
end Go.FX
namespace Go.Proofs.Ytdgpjpabhbifbab
open Go.FX Go.RowKit Go.WideShapes Go.ChangeShapes

theorem doubled_fn (W H : Nat) (a : Option Addr) (n c : Nat) (cs : List Nat) (w : World) (hv : FC w (.slice a n c) cs) (b1 : 1 ≤ W) (b2 : W ≤ 24) (b3 : 1 ≤ H) (b4 : H ≤ 24) (hl : cs.length = H * W) (W' H' : Nat) (d2 : W' ≤ 24) (d4 : H' ≤ 24) :
    GreyFn Try.prog 74 #[.agg #[.int .i64 W, .int .i64 H, .slice a n c]] #[] W' H' (fun x y => atC W H cs (x / 2) (y / 2)) w := fun w1 x y hb hx hy => by
  have hab := fun w2 (h : Below w1.heap.size w1 w2) => about_any W H (.slice a n c) cs ((x : Int) / 2) ((y : Int) / 2) w2 ((hv.below hb).below h) b1 b2 b3 b4 hl (by omega) (by omega) (by omega) (by omega)
  show Calls Try.prog 74 #[.agg #[.int .i64 W, .int .i64 H, .slice a n c], .int .i64 x, .int .i64 y] w1 _
  go_enter Try.func74, Try.ntmps74
  go_wp2_with fail
  refine (hab _ (below1 _ _)).mono ?_
  rintro e w2 ⟨r, rfl, hb2, hr⟩
  go_wp2_with fail
  go_ret
  exact ⟨_, rfl, by ((repeat' (first | exact Below.refl _ _ | assumption | (refine bel_set ?_ ?_ _) | (refine bel_al ?_ ?_ _) | (refine below_drewN ?_ _) | (refine Below.drew ?_) | (refine Below.trans ?_ (Below.mono hb2 ?_)))) <;> (first | omega | (simp; done) | (simp; omega))), hr⟩
set_option maxHeartbeats 1000000 in
theorem implDoublePicture_any (W H : Nat) (a : Option Addr) (n c : Nat) (cs : List Nat) (w : World) (hv : FC w (.slice a n c) cs) (b1 : 1 ≤ W) (b2 : W ≤ 24) (b3 : 1 ≤ H) (b4 : H ≤ 24) (b5 : H * W ≤ 256) (hl : cs.length = H * W)
    (W' H' : Nat) (d1 : 1 ≤ W') (d2 : W' ≤ 24) (d3 : 1 ≤ H') (d4 : H' ≤ 24) (d5 : H' * W' ≤ 256) :
    Calls Try.prog 27 #[.agg #[.int .i64 W, .int .i64 H, .slice a n c], .int .i64 W', .int .i64 H'] w (RPic 52 W' H' (gridL W' (fun x y => atC W H cs (x / 2) (y / 2)) (H' * W')) true w) := by
  obtain ⟨rfl, hnc, hcm⟩ := hv.sized
  have hval := validB_mk b1 b2 b3 b4 b5 hl
  have hG := doubled_fn W H a _ c cs w hv b1 b2 b3 b4 hl W' H' d2 d4
  have hd := fun w1 (hb : Below w.heap.size w w1) => drawFrom_any W H a cs.length c hval hnc hcm W' H' d1 d2 d3 d4 d5 _ _ _ _ w1 (enters_of Try.func74 (by kernel_rfl) rfl) (hG.later hb)
  clear hl hval
  go_enter Try.func27, Try.ntmps27
  go_wp2_with fail
  refine (hd _ (below2 _ _ _)).mono ?_
  rintro e w1 ⟨a1, n1, c1, rfl, hb1, ho1⟩
  obtain ⟨l1, q0, q1, q2, qf⟩ := (Nv.new _ _ _ _ _).below hb1
  simp only [World.size_alloc] at l1 q0 q1 q2 qf
  go_wp2_with fail
  refine bodyPost_ret (v := ?v) ?hr rfl ?post
  case hr => (simp [results, Try.results27, go_sem, q0, q1, q2, qf]; try rfl)
  case post =>
    refine ⟨_, _, _, rfl, ?_, ?_⟩
    · ((repeat' (first | exact Below.refl _ _ | assumption | (refine bel_set ?_ ?_ _) | (refine bel_al ?_ ?_ _) | (refine below_drewN ?_ _) | (refine Below.drew ?_) | (refine Below.trans ?_ (Below.mono hb1 ?_)))) <;> (first | omega | (simp; done) | (simp; omega)))
    · (refine OC.mono (base := ?bb) ?hh ?hl; (case hh => ((repeat' (first | exact ho1 | (refine OC.set ?_ _ ?_) | (refine OC.alloc ?_ _) | (refine OC.drewN ?_ _))) <;> (first | omega | (simp; done) | (simp; omega)))); (case hl => (first | omega | (simp; done) | (simp; omega))))
theorem implDoublePicture_no (W H : Int) (a : Option Addr) (n c : Nat) (w : World) (hnc : n ≤ c) (hcm : c ≤ maxLen) (W' H' : Int) (hval : validB W H n = false ∨ sizeB W' H' = false) :
    Calls Try.prog 27 #[.agg #[.int .i64 W, .int .i64 H, .slice a n c], .int .i64 W', .int .i64 H'] w (RPic 52 0 0 [] false w) := by
  have hd := fun w1 first cap => drawFrom_no W H a n c hnc hcm W' H' hval (.func 74) first cap w1
  go_enter Try.func27, Try.ntmps27
  go_wp2_with fail
  refine (hd _ _ _).mono ?_
  rintro e w1 ⟨a1, n1, c1, rfl, hb1, ho1⟩
  obtain ⟨l1, q0, q1, q2, qf⟩ := (Nv.new _ _ _ _ _).below hb1
  simp only [World.size_alloc] at l1 q0 q1 q2 qf
  go_wp2_with fail
  refine bodyPost_ret (v := ?v) ?hr rfl ?post
  case hr => (simp [results, Try.results27, go_sem, q0, q1, q2, qf]; try rfl)
  case post =>
    refine ⟨_, _, _, rfl, ?_, ?_⟩
    · ((repeat' (first | exact Below.refl _ _ | assumption | (refine bel_set ?_ ?_ _) | (refine bel_al ?_ ?_ _) | (refine below_drewN ?_ _) | (refine Below.drew ?_) | (refine Below.trans ?_ (Below.mono hb1 ?_)))) <;> (first | omega | (simp; done) | (simp; omega)))
    · (refine OC.mono (base := ?bb) ?hh ?hl; (case hh => ((repeat' (first | exact ho1 | (refine OC.set ?_ _ ?_) | (refine OC.alloc ?_ _) | (refine OC.drewN ?_ _))) <;> (first | omega | (simp; done) | (simp; omega)))); (case hl => (first | omega | (simp; done) | (simp; omega))))
theorem half_any {x c : Nat} (w : World) (hx : Fl .f32 x c) : Calls Try.prog 95 #[.float .f32 x] w (RFb .f32 (fop .mul .f32 c 1056964608) w) := by
  have h5 : Fl .f32 1056964608 1056964608 := ⟨by decide, by decide⟩
  go_enter Try.func95, Try.ntmps95
  go_wp2
  go_ret
  exact ⟨_, rfl, below_drewN (Below.refl _ _) _, hx.flR h5 _⟩
set_option maxHeartbeats 1000000 in
theorem slope_fn (W H : Nat) (a : Option Addr) (n c : Nat) (cs : List Nat) (w : World) (hv : FC w (.slice a n c) cs) (b1 : 1 ≤ W) (b2 : W ≤ 24) (b3 : 1 ≤ H) (b4 : H ≤ 24) (hl : cs.length = H * W) :
    GreyFn Try.prog 75 #[.agg #[.int .i64 W, .int .i64 H, .slice a n c]] #[] W H (fun x y => fop .mul .f32 (fop .sub .f32 (atC W H cs (x + 1) y) (atC W H cs (x - 1) y)) 1056964608) w := fun w1 x y hb hx hy => by
  show Calls Try.prog 75 #[.agg #[.int .i64 W, .int .i64 H, .slice a n c], .int .i64 x, .int .i64 y] w1 _
  go_enter Try.func75, Try.ntmps75
  go_upto_region 1 with fail
  obtain ⟨W1, hW1⟩ : ∃ W1, W1 = w1.alloc (.cells #[.int .i64 W, .int .i64 H, .slice a n c] 26) := ⟨_, rfl⟩
  rw [← hW1]
  have bW : Below w1.heap.size w1 W1 := by rw [hW1]; exact below1 _ _
  have hP : Pv W1 w1.heap.size W H (.slice a n c) := by rw [hW1]; exact Pv.new _ _ _ _ _
  clear hW1
  obtain ⟨l1, p0, p1, p2⟩ := id hP
  have hvW := (hv.below hb).below bW
  have sW := bW.size
  have habP := fun w2 (h : Below W1.heap.size W1 w2) => about_any W H (.slice a n c) cs ((x : Int) + 1) y w2 (hvW.below h) b1 b2 b3 b4 hl (by omega) (by omega) (by omega) (by omega)
  have habM := fun w2 (h : Below W1.heap.size W1 w2) => about_any W H (.slice a n c) cs ((x : Int) - 1) y w2 (hvW.below h) b1 b2 b3 b4 hl (by omega) (by omega) (by omega) (by omega)
  have s1 : IntKind.i64.wrap ((x : Int) + 1) = (x : Int) + 1 := IntWalk.i64_in _ (by omega)
  have s2 : IntKind.i64.wrap ((x : Int) - 1) = (x : Int) - 1 := IntWalk.i64_in _ (by omega)
  clear hl hv hvW hb
  go_region_with
    (first
      | (go_at_call 66; (with_reducible refine (habP _ (by ((repeat' (first | exact Below.refl _ _ | assumption | (refine bel_set ?_ ?_ _) | (refine bel_al ?_ ?_ _) | (refine below_drewN ?_ _) | (refine Below.drew ?_) | (refine Below.trans ?_ (Below.mono hbm ?_)))) <;> (first | omega | (simp; done) | (simp; omega))))).mono ?_); rintro e w2 ⟨rp, rfl, hbp, hrp⟩; have hJ : Below W1.heap.size W1 w2 := (by ((repeat' (first | exact Below.refl _ _ | assumption | (refine bel_set ?_ ?_ _) | (refine bel_al ?_ ?_ _) | (refine below_drewN ?_ _) | (refine Below.drew ?_) | (refine Below.trans ?_ (Below.mono hbp ?_)) | (refine Below.trans ?_ (Below.mono hbm ?_)))) <;> (first | omega | (simp; done) | (simp; omega)))); obtain ⟨_, pa, pb, pc⟩ := hP.below hJ; have zp := hJ.size)
      | (go_at_call 66; (with_reducible refine (habM _ (by ((repeat' (first | exact Below.refl _ _ | assumption | (refine bel_set ?_ ?_ _) | (refine bel_al ?_ ?_ _) | (refine below_drewN ?_ _) | (refine Below.drew ?_) | (refine Below.trans ?_ (Below.mono hbp ?_)))) <;> (first | omega | (simp; done) | (simp; omega))))).mono ?_); rintro e w3 ⟨rm, rfl, hbm, hrm⟩; have hK : Below W1.heap.size W1 w3 := (by ((repeat' (first | exact Below.refl _ _ | assumption | (refine bel_set ?_ ?_ _) | (refine bel_al ?_ ?_ _) | (refine below_drewN ?_ _) | (refine Below.drew ?_) | (refine Below.trans ?_ (Below.mono hbm ?_)) | (refine Below.trans ?_ (Below.mono hbp ?_)))) <;> (first | omega | (simp; done) | (simp; omega)))); obtain ⟨_, pd, pe, pf⟩ := hP.below hK; have zm := hK.size)
      | (go_at_call 95; refine (half_any _ (hrp.flR hrm _)).mono ?_; rintro e w4 ⟨rh, rfl, hbh, hrh⟩; have hL : Below W1.heap.size W1 w4 := (by ((repeat' (first | exact Below.refl _ _ | assumption | (refine bel_set ?_ ?_ _) | (refine bel_al ?_ ?_ _) | (refine below_drewN ?_ _) | (refine Below.drew ?_) | (refine Below.trans ?_ (Below.mono hbh ?_)) | (refine Below.trans ?_ (Below.mono hJ ?_)) | (refine Below.trans ?_ (Below.mono hK ?_)))) <;> (first | omega | (simp; done) | (simp; omega))))))
  all_goals
    clear s1 s2
    go_wp2_with fail
    go_ret
    exact ⟨_, rfl, bW.trans (hL.mono bW.size), hrh⟩
set_option maxHeartbeats 1000000 in
theorem implSlopePicture_any (W H : Nat) (a : Option Addr) (n c : Nat) (cs : List Nat) (w : World) (hv : FC w (.slice a n c) cs) (b1 : 1 ≤ W) (b2 : W ≤ 24) (b3 : 1 ≤ H) (b4 : H ≤ 24) (b5 : H * W ≤ 256) (hl : cs.length = H * W) :
    Calls Try.prog 34 #[.agg #[.int .i64 W, .int .i64 H, .slice a n c]] w (RPic 52 W H (gridL W (fun x y => fop .mul .f32 (fop .sub .f32 (atC W H cs (x + 1) y) (atC W H cs (x - 1) y)) 1056964608) (H * W)) true w) := by
  obtain ⟨rfl, hnc, hcm⟩ := hv.sized
  have hval := validB_mk b1 b2 b3 b4 b5 hl
  have hG := slope_fn W H a _ c cs w hv b1 b2 b3 b4 hl
  have hd := fun w1 (hb : Below w.heap.size w w1) => drawFrom_any W H a cs.length c hval hnc hcm W H b1 b2 b3 b4 b5 _ _ _ _ w1 (enters_of Try.func75 (by kernel_rfl) rfl) (hG.later hb)
  clear hl hval
  go_enter Try.func34, Try.ntmps34
  go_wp2_with (go_at_call 56; refine (hd _ (below2 _ _ _)).mono ?_; rintro e w1 ⟨a1, n1, c1, rfl, hb1, ho1⟩; obtain ⟨l1, q0, q1, q2, qf⟩ := (Nv.new _ _ _ _ _).below hb1; simp only [World.size_alloc] at l1 q0 q1 q2 qf)
  refine bodyPost_ret (v := ?v) ?hr rfl ?post
  case hr => (simp [results, Try.results34, go_sem, q0, q1, q2, qf]; try rfl)
  case post =>
    refine ⟨_, _, _, rfl, ?_, ?_⟩
    · ((repeat' (first | exact Below.refl _ _ | assumption | (refine bel_set ?_ ?_ _) | (refine bel_al ?_ ?_ _) | (refine below_drewN ?_ _) | (refine Below.drew ?_) | (refine Below.trans ?_ (Below.mono hb1 ?_)))) <;> (first | omega | (simp; done) | (simp; omega)))
    · (refine OC.mono (base := ?bb) ?hh ?hl; (case hh => ((repeat' (first | exact ho1 | (refine OC.set ?_ _ ?_) | (refine OC.alloc ?_ _) | (refine OC.drewN ?_ _))) <;> (first | omega | (simp; done) | (simp; omega)))); (case hl => (first | omega | (simp; done) | (simp; omega))))
theorem implSlopePicture_no (W H : Int) (a : Option Addr) (n c : Nat) (w : World) (hnc : n ≤ c) (hcm : c ≤ maxLen) (hval : validB W H n = false) :
    Calls Try.prog 34 #[.agg #[.int .i64 W, .int .i64 H, .slice a n c]] w (RPic 52 0 0 [] false w) := by
  have hd := fun w1 first cap => drawFrom_no W H a n c hnc hcm W H (.inl hval) (.func 75) first cap w1
  go_enter Try.func34, Try.ntmps34
  go_wp2_with (go_at_call 56; refine (hd _ _ _).mono ?_; rintro e w1 ⟨a1, n1, c1, rfl, hb1, ho1⟩; obtain ⟨l1, q0, q1, q2, qf⟩ := (Nv.new _ _ _ _ _).below hb1; simp only [World.size_alloc] at l1 q0 q1 q2 qf)
  refine bodyPost_ret (v := ?v) ?hr rfl ?post
  case hr => (simp [results, Try.results34, go_sem, q0, q1, q2, qf]; try rfl)
  case post =>
    refine ⟨_, _, _, rfl, ?_, ?_⟩
    · ((repeat' (first | exact Below.refl _ _ | assumption | (refine bel_set ?_ ?_ _) | (refine bel_al ?_ ?_ _) | (refine below_drewN ?_ _) | (refine Below.drew ?_) | (refine Below.trans ?_ (Below.mono hb1 ?_)))) <;> (first | omega | (simp; done) | (simp; omega)))
    · (refine OC.mono (base := ?bb) ?hh ?hl; (case hh => ((repeat' (first | exact ho1 | (refine OC.set ?_ _ ?_) | (refine OC.alloc ?_ _) | (refine OC.drewN ?_ _))) <;> (first | omega | (simp; done) | (simp; omega)))); (case hl => (first | omega | (simp; done) | (simp; omega))))

end Go.Proofs.Ytdgpjpabhbifbab
