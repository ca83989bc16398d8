import Derived.Test.YtmbohiebjgafoaaPl
import Derived.Test.YtmbohiebjgafoaaPi
import Derived.Test.YtmbohiebjgafoaaPq
import Derived.Test.YtmbohiebjgafoaaPk
set_option linter.unusedVariables false
set_option linter.unusedSimpArgs false
namespace Go.Proofs.Ytmbohiebjgafoaa
open Go.FX Go.RowKit Go.WideShapes Go.ChangeShapes

theorem crop_fn (W H : Nat) (a : Option Addr) (n c : Nat) (cs : List Nat) (x0 y0 : Int) (bp bx by_ : Nat) (w : World) (hv : FC w (.slice a n c) cs) (hp : Pv w bp W H (.slice a n c)) (hlx : bx < w.heap.size) (hcx : w.cell? ⟨bx, 0, none⟩ = some (.int .i64 x0)) (hly : by_ < w.heap.size) (hcy : w.cell? ⟨by_, 0, none⟩ = some (.int .i64 y0)) (W' H' : Nat) (e1 : 0 ≤ x0) (e2 : x0 + W' ≤ W) (e3 : 0 ≤ y0) (e4 : y0 + H' ≤ H) (b1 : 1 ≤ W) (b2 : W ≤ 24) (b3 : 1 ≤ H) (b4 : H ≤ 24) (hl : cs.length = H * W) :
    GreyFn Try.prog 117 #[] #[.pointer (some ⟨bp, 0, none⟩), .pointer (some ⟨bx, 0, none⟩), .pointer (some ⟨by_, 0, none⟩)] W' H' (fun x y => atC W H cs (x0 + x) (y0 + y)) w := fun w1 x y hb hx hy => by
  have hab := fun w2 (h : Below w1.heap.size w1 w2) => about_any W H (.slice a n c) cs (x0 + (x : Int)) (y0 + (y : Int)) w2 ((hv.below hb).below h) b1 b2 b3 b4 hl (by omega) (by omega) (by omega) (by omega)
  obtain ⟨l0, p0, p1, p2⟩ := hp.below hb
  have q := (bcell hb).1 bx 0 hlx
  rw [hcx] at q
  have q2 := (bcell hb).1 by_ 0 hly
  rw [hcy] at q2
  clear hcx hcy hv hp hl hb
  show Calls Try.prog 117 #[.int .i64 x, .int .i64 y, .pointer (some ⟨bp, 0, none⟩), .pointer (some ⟨bx, 0, none⟩), .pointer (some ⟨by_, 0, none⟩)] w1 _
  go_enter Try.func117, Try.ntmps117
  go_wp2_with fail
  refine (hab _ (Below.refl _ _)).mono ?_
  rintro e w2 ⟨r, rfl, hb2, hr⟩
  go_wp2_with fail
  go_ret
  exact ⟨_, rfl, hb2, hr⟩
set_option maxHeartbeats 1000000 in
theorem implCropPicture_any (W H : Nat) (a : Option Addr) (n c : Nat) (cs : List Nat) (w : World) (hv : FC w (.slice a n c) cs) (b1 : 1 ≤ W) (b2 : W ≤ 24) (b3 : 1 ≤ H) (b4 : H ≤ 24) (b5 : H * W ≤ 256) (hl : cs.length = H * W) (x0 y0 : Int) (W' H' : Nat) (hx0 : 0 ≤ x0) (hy0 : 0 ≤ y0) (g1 : 1 ≤ W') (g2 : x0 + W' ≤ W) (g3 : 1 ≤ H') (g4 : y0 + H' ≤ H) (g5 : H' * W' ≤ 256) :
    Calls Try.prog 75 #[.agg #[.int .i64 W, .int .i64 H, .slice a n c], .int .i64 x0, .int .i64 y0, .int .i64 W', .int .i64 H'] w (RPic 22 W' H' (gridL W' (fun x y => atC W H cs (x0 + x) (y0 + y)) (H' * W')) true w) := by
  obtain ⟨rfl, hnc, hcm⟩ := hv.sized
  have hval := validB_mk b1 b2 b3 b4 b5 hl
  have hcell := Lib.hid (show cellB W H x0 y0 = true by simp [cellB]; omega)
  have hd := fun w1 (hb : Below w.heap.size w w1) hp hlx hcx hly hcy => drawFrom_any W H a cs.length c hval hnc hcm W' H' g1 (by omega) g3 (by omega) g5 _ _ _ _ w1 (enters_of Try.func117 (by kernel_rfl) rfl) (crop_fn W H a _ c cs x0 y0 w.heap.size (w.heap.size + 1) (w.heap.size + 1 + 1) w1 (hv.below hb) hp hlx hcx hly hcy W' H' hx0 g2 hy0 g4 b1 b2 b3 b4 hl)
  clear hl hval
  go_enter Try.func75, Try.ntmps75
  go_wp2_with fail
  refine (hasCell_any _ _ _ _ _ _ _ _).mono ?_
  rintro e w1 ⟨rfl, hb1⟩
  rw [hcell.out]
  have s1 := hb1.size
  simp only [World.size_alloc] at s1
  have hP := ((((Pv.new w (W : Int) (H : Int) (.slice a cs.length c) 46).alloc (.cells #[.int .i64 x0] 2)).alloc (.cells #[.int .i64 y0] 2)).alloc (.cells #[.int .i64 0, .int .i64 0, .slice none 0 0] 46)).below hb1
  obtain ⟨l1, p0, p1, p2⟩ := id hP
  have hx1 : w1.cell? ⟨w.heap.size + 1, 0, none⟩ = some (.int .i64 x0) := by rw [(bcell hb1).1 _ _ (by simp; try omega)]; go_simp
  have hy1 : w1.cell? ⟨w.heap.size + 1 + 1, 0, none⟩ = some (.int .i64 y0) := by rw [(bcell hb1).1 _ _ (by simp; try omega)]; go_simp
  have hN := (Nv.new _ _ _ _ _).below hb1
  simp only [World.size_alloc] at hN
  go_wp2_with fail
  refine (hd _ (by ((repeat' (first | (refine bel_set ?_ ?_ _) | (refine bel_al ?_ ?_ _) | exact Below.refl _ _ | assumption | (refine below_drewN ?_ _) | (refine Below.drew ?_) | (refine Below.trans ?_ (Below.mono hb1 ?_)))) <;> (first | omega | (simp; done) | (simp; omega)))) hP (by omega) hx1 (by omega) hy1).mono ?_
  rintro e w2 ⟨a1, n1, c1, rfl, hb2, ho2⟩
  obtain ⟨l2, q0, q1, q2, qf⟩ := hN.below hb2
  go_wp2_with fail
  refine bodyPost_ret (v := ?v) ?hr rfl ?post
  case hr => (simp [results, Try.results75, go_sem, q0, q1, q2, qf]; try rfl)
  case post =>
    refine ⟨_, _, _, rfl, ?_, ?_⟩
    · ((repeat' (first | (refine bel_set ?_ ?_ _) | (refine bel_al ?_ ?_ _) | exact Below.refl _ _ | assumption | (refine below_drewN ?_ _) | (refine Below.drew ?_) | (refine Below.trans ?_ (Below.mono hb2 ?_)) | (refine Below.trans ?_ (Below.mono hb1 ?_)))) <;> (first | omega | (simp; done) | (simp; omega)))
    · (refine OC.mono (base := ?bb) ?hh ?hl; (case hh => ((repeat' (first | (refine OC.set ?_ _ ?_) | (refine OC.alloc ?_ _) | exact ho2 | (refine OC.drewN ?_ _))) <;> (first | omega | (simp; done) | (simp; omega)))); (case hl => (first | omega | (simp; done) | (simp; omega))))

theorem implCropPicture_no (W H : Int) (a : Option Addr) (n c : Nat) (w : World) (hnc : n ≤ c) (hcm : c ≤ maxLen) (hW : W ≤ 9223372036854775807) (hH : H ≤ 9223372036854775807) (x0 y0 wd hg : Int)
    (hC : ¬ (validB W H n = true ∧ cellB W H x0 y0 = true ∧ 1 ≤ wd ∧ wd ≤ W - x0 ∧ 1 ≤ hg ∧ hg ≤ H - y0)) :
    Calls Try.prog 75 #[.agg #[.int .i64 W, .int .i64 H, .slice a n c], .int .i64 x0, .int .i64 y0, .int .i64 wd, .int .i64 hg] w (RPic 22 0 0 [] false w) := by
  cases hcell : cellB W H x0 y0 with
  | false =>
    have hcell := Lib.hid hcell
    clear hC
    go_enter Try.func75, Try.ntmps75
    go_wp2_with fail
    refine (hasCell_any _ _ _ _ _ _ _ _).mono ?_
    rintro e w1 ⟨rfl, hb1⟩
    rw [hcell.out]
    obtain ⟨l2, q0, q1, q2, qf⟩ := (Nv.new _ _ _ _ _).below hb1
    simp only [World.size_alloc] at l2 q0 q1 q2 qf
    go_wp2_with fail
    refine bodyPost_ret (v := ?v) ?hr rfl ?post
    case hr => (simp [results, Try.results75, go_sem, q0, q1, q2, qf]; try rfl)
    case post => exact ⟨_, _, _, rfl, by ((repeat' (first | (refine bel_set ?_ ?_ _) | (refine bel_al ?_ ?_ _) | exact Below.refl _ _ | assumption | (refine below_drewN ?_ _) | (refine Below.drew ?_) | (refine Below.trans ?_ (Below.mono hb1 ?_)))) <;> (first | omega | (simp; done) | (simp; omega))), OC.nil _ _ _⟩
  | true =>
    have hc4 : 0 ≤ x0 ∧ x0 < W ∧ 0 ≤ y0 ∧ y0 < H := by simpa [cellB] using hcell
    obtain ⟨c1, c2, c3, c4⟩ := hc4
    by_cases t1 : W - x0 < wd
    · have hcell := Lib.hid hcell
      clear hC
      go_enter Try.func75, Try.ntmps75
      go_wp2_with fail
      refine (hasCell_any _ _ _ _ _ _ _ _).mono ?_
      rintro e w1 ⟨rfl, hb1⟩
      rw [hcell.out]
      obtain ⟨l1, p0, p1, p2⟩ := ((((Pv.new w W H (.slice a n c) 46).alloc (.cells #[.int .i64 x0] 2)).alloc (.cells #[.int .i64 y0] 2)).alloc (.cells #[.int .i64 0, .int .i64 0, .slice none 0 0] 46)).below hb1
      have hx1 : w1.cell? ⟨w.heap.size + 1, 0, none⟩ = some (.int .i64 x0) := by rw [(bcell hb1).1 _ _ (by simp; try omega)]; go_simp
      obtain ⟨l2, q0, q1, q2, qf⟩ := (Nv.new _ _ _ _ _).below hb1
      simp only [World.size_alloc] at l2 q0 q1 q2 qf
      go_wp2_with fail
      refine bodyPost_ret (v := ?v2) ?hr2 rfl ?post2
      case hr2 => (simp [results, Try.results75, go_sem, q0, q1, q2, qf]; try rfl)
      case post2 => exact ⟨_, _, _, rfl, by ((repeat' (first | (refine bel_set ?_ ?_ _) | (refine bel_al ?_ ?_ _) | exact Below.refl _ _ | assumption | (refine below_drewN ?_ _) | (refine Below.drew ?_) | (refine Below.trans ?_ (Below.mono hb1 ?_)))) <;> (first | omega | (simp; done) | (simp; omega))), OC.nil _ _ _⟩
    · by_cases t2 : H - y0 < hg
      · have hcell := Lib.hid hcell
        clear hC
        go_enter Try.func75, Try.ntmps75
        go_wp2_with fail
        refine (hasCell_any _ _ _ _ _ _ _ _).mono ?_
        rintro e w1 ⟨rfl, hb1⟩
        rw [hcell.out]
        obtain ⟨l1, p0, p1, p2⟩ := ((((Pv.new w W H (.slice a n c) 46).alloc (.cells #[.int .i64 x0] 2)).alloc (.cells #[.int .i64 y0] 2)).alloc (.cells #[.int .i64 0, .int .i64 0, .slice none 0 0] 46)).below hb1
        have hx1 : w1.cell? ⟨w.heap.size + 1, 0, none⟩ = some (.int .i64 x0) := by rw [(bcell hb1).1 _ _ (by simp; try omega)]; go_simp
        have hy1 : w1.cell? ⟨w.heap.size + 1 + 1, 0, none⟩ = some (.int .i64 y0) := by rw [(bcell hb1).1 _ _ (by simp; try omega)]; go_simp
        obtain ⟨l2, q0, q1, q2, qf⟩ := (Nv.new _ _ _ _ _).below hb1
        simp only [World.size_alloc] at l2 q0 q1 q2 qf
        go_wp2_with fail
        refine bodyPost_ret (v := ?v3) ?hr3 rfl ?post3
        case hr3 => (simp [results, Try.results75, go_sem, q0, q1, q2, qf]; try rfl)
        case post3 => exact ⟨_, _, _, rfl, by ((repeat' (first | (refine bel_set ?_ ?_ _) | (refine bel_al ?_ ?_ _) | exact Below.refl _ _ | assumption | (refine below_drewN ?_ _) | (refine Below.drew ?_) | (refine Below.trans ?_ (Below.mono hb1 ?_)))) <;> (first | omega | (simp; done) | (simp; omega))), OC.nil _ _ _⟩
      · have hno : validB W H n = false ∨ sizeB wd hg = false := by
          cases h1 : validB W H n
          · exact .inl rfl
          · cases h2 : sizeB wd hg
            · exact .inr rfl
            · exfalso
              have := sizeB_iff.1 h2
              exact hC ⟨h1, hcell, by omega, by omega, by omega, by omega⟩
        have hd := fun w1 first cap => drawFrom_no W H a n c hnc hcm wd hg hno (.func 117) first cap w1
        have hcell := Lib.hid hcell
        clear hC hno
        go_enter Try.func75, Try.ntmps75
        go_wp2_with fail
        refine (hasCell_any _ _ _ _ _ _ _ _).mono ?_
        rintro e w1 ⟨rfl, hb1⟩
        rw [hcell.out]
        have s1 := hb1.size
        simp only [World.size_alloc] at s1
        obtain ⟨l1, p0, p1, p2⟩ := ((((Pv.new w W H (.slice a n c) 46).alloc (.cells #[.int .i64 x0] 2)).alloc (.cells #[.int .i64 y0] 2)).alloc (.cells #[.int .i64 0, .int .i64 0, .slice none 0 0] 46)).below hb1
        have hx1 : w1.cell? ⟨w.heap.size + 1, 0, none⟩ = some (.int .i64 x0) := by rw [(bcell hb1).1 _ _ (by simp; try omega)]; go_simp
        have hy1 : w1.cell? ⟨w.heap.size + 1 + 1, 0, none⟩ = some (.int .i64 y0) := by rw [(bcell hb1).1 _ _ (by simp; try omega)]; go_simp
        have hN := (Nv.new _ _ _ _ _).below hb1
        simp only [World.size_alloc] at hN
        go_wp2_with fail
        refine (hd _ _ _).mono ?_
        rintro e w2 ⟨a1, n1, c1, rfl, hb2, ho2⟩
        obtain ⟨l2, q0, q1, q2, qf⟩ := hN.below hb2
        go_wp2_with fail
        refine bodyPost_ret (v := ?v4) ?hr4 rfl ?post4
        case hr4 => (simp [results, Try.results75, go_sem, q0, q1, q2, qf]; try rfl)
        case post4 =>
          refine ⟨_, _, _, rfl, ?_, ?_⟩
          · ((repeat' (first | (refine bel_set ?_ ?_ _) | (refine bel_al ?_ ?_ _) | exact Below.refl _ _ | assumption | (refine below_drewN ?_ _) | (refine Below.drew ?_) | (refine Below.trans ?_ (Below.mono hb2 ?_)) | (refine Below.trans ?_ (Below.mono hb1 ?_)))) <;> (first | omega | (simp; done) | (simp; omega)))
          · (refine OC.mono (base := ?bb) ?hh ?hl; (case hh => ((repeat' (first | (refine OC.set ?_ _ ?_) | (refine OC.alloc ?_ _) | exact ho2 | (refine OC.drewN ?_ _))) <;> (first | omega | (simp; done) | (simp; omega)))); (case hl => (first | omega | (simp; done) | (simp; omega))))
end Go.Proofs.Ytmbohiebjgafoaa
