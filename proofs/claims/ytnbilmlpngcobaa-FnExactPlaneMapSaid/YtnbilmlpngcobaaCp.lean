import Derived.Test.YtnbilmlpngcobaaCd
import Derived.Test.YtnbilmlpngcobaaCb
import Derived.Test.YtnbilmlpngcobaaVb
set_option linter.unusedVariables false
set_option linter.unusedSimpArgs false
namespace Go.Proofs.Ytnbilmlpngcobaa
open Go.FX Go.RowKit Go.WideShapes Go.ChangeShapes
attribute [local go_sem ↓] Go.wp_at_zero Go.wp_at_succ
theorem fiFl (k : Int) : Fl .f32 (fi k) (fi k) := ⟨fi_lt k, cn_of_not (fi_not k)⟩
/-- The disparity of a plane over a cell. -/
def wallD (f b mx my p q r : Nat) (x y : Int) : Nat := fop .quo .f32 (fop .mul .f32 (fop .sub .f32 (fop .sub .f32 (cn .f32 f) (fop .mul .f32 (cn .f32 p) (fop .sub .f32 (fi x) (cn .f32 mx)))) (fop .mul .f32 (cn .f32 q) (fop .sub .f32 (fi y) (cn .f32 my)))) (cn .f32 b)) (cn .f32 r)
def wallF (f b mx my p q r : Nat) (x y : Int) : Nat := depN (abv (wallD f b mx my p q r x y)) (wallD f b mx my p q r x y)
structure P34 (w : World) (k p q r : Nat) : Prop where
  lt : k < w.heap.size
  c0 : w.cell? ⟨k, 0, none⟩ = some (.float .f32 p)
  c1 : w.cell? ⟨k, 1, none⟩ = some (.float .f32 q)
  c2 : w.cell? ⟨k, 2, none⟩ = some (.float .f32 r)
theorem P34.below {w w' : World} {k p q r : Nat} (h : P34 w k p q r) (hb : Below w.heap.size w w') : P34 w' k p q r := by
  have hc := (bcell hb).1
  exact ⟨Nat.lt_of_lt_of_le h.lt hb.size, by rw [hc _ _ h.lt]; exact h.c0, by rw [hc _ _ h.lt]; exact h.c1, by rw [hc _ _ h.lt]; exact h.c2⟩
set_option maxHeartbeats 4000000 in
theorem wall_fn (f b mx my p q r : Nat) (lf : f < width .f32) (lb : b < width .f32) (lmx : mx < width .f32) (lmy : my < width .f32) (lp : p < width .f32) (lq : q < width .f32) (lr : r < width .f32) (W H : Nat) (w : World) :
    GreyFn Try.prog 78 #[.agg #[.float .f32 f, .float .f32 b, .float .f32 mx, .float .f32 my, .float .f32 p, .float .f32 q, .float .f32 r]] #[] W H (wallF f b mx my p q r) w := fun w1 x y hb0 hx hy => by
  have hf := Fl.of lf
  have hb := Fl.of lb
  have hmx := Fl.of lmx
  have hmy := Fl.of lmy
  have hp := Fl.of lp
  have hq := Fl.of lq
  have hr := Fl.of lr
  have hX := fiFl x
  have hY := fiFl y
  have hE : Hid (wallF f b mx my p q r x y = depN (abv (wallD f b mx my p q r x y)) (wallD f b mx my p q r x y)) := Lib.hid rfl
  have hD : ∀ {z : Nat}, Fl .f32 z (fop .quo .f32 (fop .mul .f32 (fop .sub .f32 (fop .sub .f32 (cn .f32 f) (fop .mul .f32 (cn .f32 p) (fop .sub .f32 (fi x) (cn .f32 mx)))) (fop .mul .f32 (cn .f32 q) (fop .sub .f32 (fi y) (cn .f32 my)))) (cn .f32 b)) (cn .f32 r)) → Fl .f32 z (wallD f b mx my p q r x y) := fun h => h
  clear hb0 hx hy
  generalize wallD f b mx my p q r x y = D at hE hD
  show Calls Try.prog 78 #[.agg #[.float .f32 f, .float .f32 b, .float .f32 mx, .float .f32 my, .float .f32 p, .float .f32 q, .float .f32 r], .int .i64 x, .int .i64 y] w1 _
  cases hK : abv D
  all_goals
    have hK' := Lib.hid hK
    clear hK
    go_enter Try.func78, Try.ntmps78
    go_wp2_with fail
    refine (isAhead_fl (hD ((((hf.flR (hp.flR (hX.flR hmx _) _) _).flR (hq.flR (hY.flR hmy _) _) _).flR hb _).flR hr _)) _).mono ?_
    rintro e w2 ⟨k2, rfl, rfl⟩
    rw [hK'.out]
    go_wp2_with fail
    go_ret
    refine ⟨_, rfl, by ((repeat' (first | (refine bel_set ?_ ?_ _) | (refine bel_al ?_ ?_ _) | exact Below.refl _ _ | assumption | (refine below_drewN ?_ _) | (refine Below.drew ?_))) <;> (first | omega | (simp; done) | (simp; omega))), ?_⟩
    rw [hE.out, hK'.out]
    first | exact flM1 | (show Fl .f32 _ D; exact hD ((((hf.flR (hp.flR (hX.flR hmx _) _) _).flR (hq.flR (hY.flR hmy _) _) _).flR hb _).flR hr _))
set_option maxHeartbeats 2000000 in
theorem implPlaneMap_no1 (f b mx my p q r : Nat) (W H : Int) (w : World) (hok : okCam f b mx my = false) :
    Calls Try.prog 24 #[.agg #[.float .f32 f, .float .f32 b, .float .f32 mx, .float .f32 my], .agg #[.float .f32 p, .float .f32 q, .float .f32 r], .int .i64 W, .int .i64 H] w (RPic 22 0 0 [] false w) := by
  have hok' := Lib.hid hok
  clear hok
  go_enter Try.func24, Try.ntmps24
  go_wp2_with fail
  refine (validCam_any _ _ _ _ _).mono ?_
  rintro e w1 ⟨rfl, hb1⟩
  rw [hok'.out]
  obtain ⟨hc, hf⟩ := bcell hb1
  have hs1 := hb1.size
  simp only [World.size_alloc] at hs1
  go_wp2_with fail
  refine bodyPost_ret (v := ?v) ?hr rfl ?post
  case hr => (simp only [results, Try.results24]; go_simp; try rfl)
  case post => exact ⟨_, _, _, rfl, by ((repeat' (first | (refine bel_set ?_ ?_ _) | (refine bel_al ?_ ?_ _) | exact Below.refl _ _ | assumption | (refine below_drewN ?_ _) | (refine Below.drew ?_) | (refine Below.trans ?_ (Below.mono hb1 ?_)))) <;> (first | omega | (simp; done) | (simp; omega))), OC.nil _ _ _⟩
set_option maxHeartbeats 2000000 in
theorem specPlaneMap_no1 (f b mx my p q r : Nat) (W H : Int) (w : World) (hok : okCam f b mx my = false) :
    Calls Try.prog 22 #[.agg #[.float .f32 f, .float .f32 b, .float .f32 mx, .float .f32 my], .agg #[.float .f32 p, .float .f32 q, .float .f32 r], .int .i64 W, .int .i64 H] w (RPic 22 0 0 [] false w) := by
  have hok' := Lib.hid hok
  clear hok
  obtain ⟨W0, hW0⟩ : ∃ U, U = ((w.alloc (.cells #[.float .f32 f, .float .f32 b, .float .f32 mx, .float .f32 my] 32)).alloc (.cells #[.float .f32 p, .float .f32 q, .float .f32 r] 41)).alloc (.cells #[.int .i64 0, .int .i64 0, .slice none 0 0] 29) := ⟨_, rfl⟩
  have PC : P4 W0 w.heap.size f b mx my := by rw [hW0]; exact ((P4.new _ _ _ _ _ _).alloc _).alloc _
  have PN := Nv.new ((w.alloc (.cells #[.float .f32 f, .float .f32 b, .float .f32 mx, .float .f32 my] 32)).alloc (.cells #[.float .f32 p, .float .f32 q, .float .f32 r] 41)) (.int .i64 0) (.int .i64 0) (.slice none 0 0) 29
  simp only [World.size_alloc] at PN
  rw [← hW0] at PN
  have bw : Below w.heap.size w W0 := by rw [hW0]; ((repeat' (first | (refine bel_set ?_ ?_ _) | (refine bel_al ?_ ?_ _) | exact Below.refl _ _ | assumption | (refine below_drewN ?_ _) | (refine Below.drew ?_))) <;> (first | omega | (simp; done) | (simp; omega)))
  go_enter Try.func22, Try.ntmps22
  go_wp2_with fail
  rw [← hW0]
  clear hW0
  refine (specCam_any f b mx my w.heap.size _ PC).mono ?_
  rintro e w2 ⟨k2, rfl, rfl⟩
  rw [hok'.out]
  obtain ⟨l1, g0, g1, g2, gf⟩ := PN
  go_wp2_with fail
  refine bodyPost_ret (v := ?v) ?hr rfl ?post
  case hr => (simp only [results, Try.results22]; go_simp; try rfl)
  case post => exact ⟨_, _, _, rfl, by ((repeat' (first | (refine bel_set ?_ ?_ _) | (refine bel_al ?_ ?_ _) | exact Below.refl _ _ | assumption | (refine below_drewN ?_ _) | (refine Below.drew ?_))) <;> (first | omega | (simp; done) | (simp; omega))), OC.nil _ _ _⟩
set_option maxHeartbeats 2000000 in
theorem implPlaneMap_no2 (f b mx my p q r : Nat) (W H : Int) (w : World) (hok : okCam f b mx my = true) (hs : sizeB W H = false) :
    Calls Try.prog 24 #[.agg #[.float .f32 f, .float .f32 b, .float .f32 mx, .float .f32 my], .agg #[.float .f32 p, .float .f32 q, .float .f32 r], .int .i64 W, .int .i64 H] w (RPic 22 0 0 [] false w) := by
  have hok' := Lib.hid hok
  clear hok
  have hs' := Lib.hid hs
  clear hs
  go_enter Try.func24, Try.ntmps24
  go_wp2_with fail
  refine (validCam_any _ _ _ _ _).mono ?_
  rintro e w1 ⟨rfl, hb1⟩
  rw [hok'.out]
  obtain ⟨hc, hf⟩ := bcell hb1
  have hs1 := hb1.size
  simp only [World.size_alloc] at hs1
  go_wp2_with fail
  refine (isSize_any _ _ _).mono ?_
  rintro e w2 ⟨rfl, rfl⟩
  rw [hs'.out]
  go_wp2_with fail
  refine bodyPost_ret (v := ?v) ?hr rfl ?post
  case hr => (simp only [results, Try.results24]; go_simp; try rfl)
  case post => exact ⟨_, _, _, rfl, by ((repeat' (first | (refine bel_set ?_ ?_ _) | (refine bel_al ?_ ?_ _) | exact Below.refl _ _ | assumption | (refine below_drewN ?_ _) | (refine Below.drew ?_) | (refine Below.trans ?_ (Below.mono hb1 ?_)))) <;> (first | omega | (simp; done) | (simp; omega))), OC.nil _ _ _⟩
set_option maxHeartbeats 2000000 in
theorem specPlaneMap_no2 (f b mx my p q r : Nat) (W H : Int) (w : World) (hok : okCam f b mx my = true) (hs : sizeB W H = false) :
    Calls Try.prog 22 #[.agg #[.float .f32 f, .float .f32 b, .float .f32 mx, .float .f32 my], .agg #[.float .f32 p, .float .f32 q, .float .f32 r], .int .i64 W, .int .i64 H] w (RPic 22 0 0 [] false w) := by
  have hok' := Lib.hid hok
  clear hok
  have hs' := Lib.hid hs
  clear hs
  obtain ⟨W0, hW0⟩ : ∃ U, U = ((w.alloc (.cells #[.float .f32 f, .float .f32 b, .float .f32 mx, .float .f32 my] 32)).alloc (.cells #[.float .f32 p, .float .f32 q, .float .f32 r] 41)).alloc (.cells #[.int .i64 0, .int .i64 0, .slice none 0 0] 29) := ⟨_, rfl⟩
  have PC : P4 W0 w.heap.size f b mx my := by rw [hW0]; exact ((P4.new _ _ _ _ _ _).alloc _).alloc _
  have PN := Nv.new ((w.alloc (.cells #[.float .f32 f, .float .f32 b, .float .f32 mx, .float .f32 my] 32)).alloc (.cells #[.float .f32 p, .float .f32 q, .float .f32 r] 41)) (.int .i64 0) (.int .i64 0) (.slice none 0 0) 29
  simp only [World.size_alloc] at PN
  rw [← hW0] at PN
  have bw : Below w.heap.size w W0 := by rw [hW0]; ((repeat' (first | (refine bel_set ?_ ?_ _) | (refine bel_al ?_ ?_ _) | exact Below.refl _ _ | assumption | (refine below_drewN ?_ _) | (refine Below.drew ?_))) <;> (first | omega | (simp; done) | (simp; omega)))
  go_enter Try.func22, Try.ntmps22
  go_wp2_with fail
  rw [← hW0]
  clear hW0
  refine (specCam_any f b mx my w.heap.size _ PC).mono ?_
  rintro e w2 ⟨k2, rfl, rfl⟩
  rw [hok'.out]
  obtain ⟨l1, g0, g1, g2, gf⟩ := PN
  go_wp2_with fail
  refine (specSize_any _ _ _).mono ?_
  rintro e w3 ⟨rfl, rfl⟩
  rw [hs'.out]
  go_wp2_with fail
  refine bodyPost_ret (v := ?v) ?hr rfl ?post
  case hr => (simp only [results, Try.results22]; go_simp; try rfl)
  case post => exact ⟨_, _, _, rfl, by ((repeat' (first | (refine bel_set ?_ ?_ _) | (refine bel_al ?_ ?_ _) | exact Below.refl _ _ | assumption | (refine below_drewN ?_ _) | (refine Below.drew ?_))) <;> (first | omega | (simp; done) | (simp; omega))), OC.nil _ _ _⟩
set_option maxHeartbeats 2000000 in
theorem implPlaneMap_any (f b mx my p q r : Nat) (lf : f < width .f32) (lb : b < width .f32) (lmx : mx < width .f32) (lmy : my < width .f32) (lp : p < width .f32) (lq : q < width .f32) (lr : r < width .f32) (hok : okCam f b mx my = true) (W H : Nat) (w : World) (b1 : 1 ≤ W) (b2 : W ≤ 24) (b3 : 1 ≤ H) (b4 : H ≤ 24) (b5 : H * W ≤ 256) :
    Calls Try.prog 24 #[.agg #[.float .f32 f, .float .f32 b, .float .f32 mx, .float .f32 my], .agg #[.float .f32 p, .float .f32 q, .float .f32 r], .int .i64 W, .int .i64 H] w (RPic 22 W H (gridL W (wallF f b mx my p q r) (H * W)) true w) := by
  have hok' := Lib.hid hok
  clear hok
  have hs' : Hid (sizeB (W : Int) (H : Int) = true) := Lib.hid (sizeB_iff.2 ⟨by omega, by omega, by omega, by omega, by have h : ((W * H : Nat) : Int) ≤ ((256 : Nat) : Int) := Int.ofNat_le.2 (by rw [Nat.mul_comm]; exact b5); rw [Int.natCast_mul] at h; exact h⟩)
  have hdr := fun w2 => draw_any W H b1 b2 b3 b4 b5 78 #[.agg #[.float .f32 f, .float .f32 b, .float .f32 mx, .float .f32 my, .float .f32 p, .float .f32 q, .float .f32 r]] #[] _ w2 (enters_of Try.func78 (by kernel_rfl) rfl) (wall_fn f b mx my p q r lf lb lmx lmy lp lq lr W H w2)
  go_enter Try.func24, Try.ntmps24
  go_wp2_with fail
  refine (validCam_any _ _ _ _ _).mono ?_
  rintro e w1 ⟨rfl, hb1⟩
  rw [hok'.out]
  obtain ⟨hc, hf⟩ := bcell hb1
  have hs1 := hb1.size
  simp only [World.size_alloc] at hs1
  go_wp2_with fail
  refine (isSize_any _ _ _).mono ?_
  rintro e w2 ⟨rfl, rfl⟩
  rw [hs'.out]
  go_wp2_with fail
  refine (hdr _).mono ?_
  rintro e w3 ⟨a3, n3, c3, rfl, hb3, ho3⟩
  go_wp2_with fail
  refine (mapOf_any _ _ _ _ _ _).mono ?_
  rintro e w4 ⟨rfl, hb4⟩
  have hN := ((((Nv.new ((w.alloc (.cells #[.float .f32 f, .float .f32 b, .float .f32 mx, .float .f32 my] 32)).alloc (.cells #[.float .f32 p, .float .f32 q, .float .f32 r] 41)) (.int .i64 0) (.int .i64 0) (.slice none 0 0) 29).below hb1).below hb3).below hb4)
  simp only [World.size_alloc] at hN
  obtain ⟨l1, g0, g1, g2, gf⟩ := hN
  clear hc hf
  go_wp2_with fail
  refine bodyPost_ret (v := ?v) ?hr rfl ?post
  case hr => (simp only [results, Try.results24]; go_simp; try rfl)
  case post =>
    have hs3 := hb3.size
    refine ⟨_, _, _, rfl, ?_, ?_⟩
    · ((repeat' (first | (refine bel_set ?_ ?_ _) | (refine bel_al ?_ ?_ _) | exact Below.refl _ _ | assumption | (refine below_drewN ?_ _) | (refine Below.drew ?_) | (refine Below.trans ?_ (Below.mono hb4 ?_)) | (refine Below.trans ?_ (Below.mono hb3 ?_)) | (refine Below.trans ?_ (Below.mono hb1 ?_)))) <;> (first | omega | (simp; done) | (simp; omega)))
    · (refine OC.mono (base := ?bb) ?hh ?hl; (case hh => ((repeat' (first | (refine OC.set ?_ _ ?_) | (refine OC.alloc ?_ _) | exact ho3 | (refine OC.drewN ?_ _) | (refine OC.below ?_ hb4))) <;> (first | omega | (simp; done) | (simp; omega)))); (case hl => (first | omega | (simp; done) | (simp; omega))))
set_option maxRecDepth 100000 in
set_option maxHeartbeats 8000000 in
theorem specPlaneMap_any (f b mx my p q r : Nat) (lf : f < width .f32) (lb : b < width .f32) (lmx : mx < width .f32) (lmy : my < width .f32) (lp : p < width .f32) (lq : q < width .f32) (lr : r < width .f32) (hok : okCam f b mx my = true) (W H : Nat) (w : World) (b1 : 1 ≤ W) (b2 : W ≤ 24) (b3 : 1 ≤ H) (b4 : H ≤ 24) (b5 : H * W ≤ 256) :
    Calls Try.prog 22 #[.agg #[.float .f32 f, .float .f32 b, .float .f32 mx, .float .f32 my], .agg #[.float .f32 p, .float .f32 q, .float .f32 r], .int .i64 W, .int .i64 H] w (RPic 22 W H (gridL W (wallF f b mx my p q r) (H * W)) true w) := by
  obtain ⟨i0, hi, hz0, hz1, hz2⟩ := info_parts info_f32
  have hf := Fl.of lf
  have hb := Fl.of lb
  have hmx := Fl.of lmx
  have hmy := Fl.of lmy
  have hp := Fl.of lp
  have hq := Fl.of lq
  have hr := Fl.of lr
  have hok' := Lib.hid hok
  clear hok
  have hs' : Hid (sizeB (W : Int) (H : Int) = true) := Lib.hid (sizeB_iff.2 ⟨by omega, by omega, by omega, by omega, by have h : ((W * H : Nat) : Int) ≤ ((256 : Nat) : Int) := Int.ofNat_le.2 (by rw [Nat.mul_comm]; exact b5); rw [Int.natCast_mul] at h; exact h⟩)
  obtain ⟨W0, hW0⟩ : ∃ U, U = ((w.alloc (.cells #[.float .f32 f, .float .f32 b, .float .f32 mx, .float .f32 my] 32)).alloc (.cells #[.float .f32 p, .float .f32 q, .float .f32 r] 41)).alloc (.cells #[.int .i64 0, .int .i64 0, .slice none 0 0] 29) := ⟨_, rfl⟩
  have PC : P4 W0 w.heap.size f b mx my := by rw [hW0]; exact ((P4.new _ _ _ _ _ _).alloc _).alloc _
  have PP : P34 W0 (w.heap.size + 1) p q r := by rw [hW0]; refine ⟨by simp, ?_, ?_, ?_⟩ <;> go_simp
  have PN := Nv.new ((w.alloc (.cells #[.float .f32 f, .float .f32 b, .float .f32 mx, .float .f32 my] 32)).alloc (.cells #[.float .f32 p, .float .f32 q, .float .f32 r] 41)) (.int .i64 0) (.int .i64 0) (.slice none 0 0) 29
  simp only [World.size_alloc] at PN
  rw [← hW0] at PN
  have bw : Below w.heap.size w W0 := by rw [hW0]; ((repeat' (first | (refine bel_set ?_ ?_ _) | (refine bel_al ?_ ?_ _) | exact Below.refl _ _ | assumption | (refine below_drewN ?_ _) | (refine Below.drew ?_))) <;> (first | omega | (simp; done) | (simp; omega)))
  go_enter Try.func22, Try.ntmps22
  go_wp2_with fail
  rw [← hW0]
  clear hW0
  refine (specCam_any f b mx my w.heap.size _ PC).mono ?_
  rintro e w2 ⟨k2, rfl, hw2⟩
  rw [hok'.out]
  replace PC : P4 w2 w.heap.size f b mx my := by rw [hw2]; exact PC.drewN _
  replace PP : P34 w2 (w.heap.size + 1) p q r := by rw [hw2]; exact PP.below (below_drewN (Below.refl _ _) _)
  replace PN : Nv w2 (w.heap.size + 1 + 1) (.int .i64 0) (.int .i64 0) (.slice none 0 0) := by rw [hw2]; exact PN.drewN _
  replace bw : Below w.heap.size w w2 := by rw [hw2]; exact below_drewN bw _
  clear hw2
  go_wp2_with fail
  refine (specSize_any _ _ _).mono ?_
  rintro e w0 ⟨rfl, hw0⟩
  obtain rfl : w0 = w2 := by first | exact hw0 | exact hw0.symm
  rw [hs'.out]
  have hlt0 : w.heap.size + 1 + 1 < w0.heap.size := PN.1
  obtain ⟨bo, hbo0⟩ : ∃ b, b = w0.heap.size + 1 := ⟨_, rfl⟩
  have hmk := Lib.hid (Mk.start1 (W := (W : Int)) (H := (H : Int)) (T := 29) (below1 w0 (.cells #[] 22)) (OC.litE w0 22))
  simp only [World.size_alloc] at hmk
  go_wp2_with fail
  rw [← hbo0] at hmk ⊢
  have hpv := Lib.hid (And.intro PC (And.intro PP (And.intro PN bw)))
  clear hbo0 PC PP PN bw
  go_loopw [11] (fun i wr => ∃ y : Nat, y ≤ H ∧ i = .int .i64 y ∧ Hid (Mk 22 w0 bo W H (gridL W (wallF f b mx my p q r) (y * W + 0)) wr)) (fun i _ => H - (intOf i).toNat)
  case atStart => exact ⟨0, Nat.zero_le _, rfl, by simpa [gridL] using hmk⟩
  case round =>
    clear hmk
    obtain ⟨y, hy, rfl, hmk⟩ := hrel
    obtain ⟨wo, rfl⟩ : ∃ wo : World, wo = wr := ⟨_, rfl⟩
    by_cases hly : y < H
    · go_wp2_with fail
      go_loopw [12] (fun i wr => ∃ x : Nat, x ≤ W ∧ i = .int .i64 x ∧ Hid (Mk 22 w0 bo W H (gridL W (wallF f b mx my p q r) (y * W + x)) wr)) (fun i _ => W - (intOf i).toNat)
      case atStart => exact ⟨0, Nat.zero_le _, rfl, hmk⟩
      case round =>
        clear hmk
        obtain ⟨x, hx, rfl, hmk⟩ := hrel
        by_cases hlx : x < W
        · have hle : y * W + x + 1 ≤ 256 := by
            have h1 : y * W + W ≤ H * W := by rw [← Nat.succ_mul]; exact Nat.mul_le_mul_right _ hly
            omega
          have hblr : Below w0.heap.size w0 wr := by obtain ⟨_, _, _, _, _, _, _, h⟩ := hmk.out; exact h
          obtain ⟨_, c0, c1, c2, c3⟩ := hpv.out.1.below hblr
          obtain ⟨_, d0, d1, d2⟩ := hpv.out.2.1.below hblr
          have xx2 : (x : Int) ≤ 24 := by omega
          have yy2 : (y : Int) ≤ 24 := by omega
          have hX := fiFl x
          have hY := fiFl y
          have hF : Hid (wallF f b mx my p q r x y = depN (abv (wallD f b mx my p q r x y)) (wallD f b mx my p q r x y)) := Lib.hid rfl
          have hD : ∀ {z : Nat}, Fl .f32 z (fop .quo .f32 (fop .mul .f32 (fop .sub .f32 (fop .sub .f32 (cn .f32 f) (fop .mul .f32 (cn .f32 p) (fop .sub .f32 (fi x) (cn .f32 mx)))) (fop .mul .f32 (cn .f32 q) (fop .sub .f32 (fi y) (cn .f32 my)))) (cn .f32 b)) (cn .f32 r)) → Fl .f32 z (wallD f b mx my p q r x y) := fun h => h
          generalize wallD f b mx my p q r x y = D at hF hD
          cases hK : abv D
          all_goals
            have hK' := Lib.hid hK
            clear hK
            go_wp2_with fail
            refine (specAbove_fl (hD ((((hf.flR (hp.flR (hX.flR hmx _) _) _).flR (hq.flR (hY.flR hmy _) _) _).flR hb _).flR hr _)) _).mono ?_
            rintro e w2 ⟨kk, rfl, hw2⟩
            rw [hK'.out]
            have hmk2 : Hid (Mk 22 w0 bo W H (gridL W (wallF f b mx my p q r) (y * W + x)) w2) := Lib.hid (by rw [hw2]; first | exact hmk.out.drewN _ | exact (hmk.out.drewN _).drewN _)
            clear hw2
            obtain ⟨a, n, c, hN, ⟨zs, hz, hzm, hrow⟩, hne, hbo, hbl⟩ := hmk2.out
            have hlen : zs.length = y * W + x := by rw [← gridL_len W (wallF f b mx my p q r) (y * W + x), ← hzm, List.length_map]
            have hlen2 : zs.length + 1 ≤ 256 := by omega
            have hh := Lib.hid (And.intro hz (And.intro hzm (And.intro hlen2 (And.intro hbl hN))))
            have hrowA : ∀ (o : Obj) (m : Nat), ((w2.alloc o).drewN m).ownsRow w0.heap.size 22 1 (.slice a n c) zs.length (zs.map (.float .f32)) := fun o m => hrow.alloc o
            have hsz : w0.heap.size ≤ w2.heap.size := hbl.size
            have k2 : w2.cell? ⟨bo, 2, none⟩ = some (.slice a n c) := hN.2.2.2.1
            have hbo2 : bo < w2.heap.size := hN.1
            clear hlen hlen2 hzm hz hbl hmk2 hN c0 c1 c2 c3 d0 d1 d2 hblr hmk
          · go_wp2_with (at_builtin; go_loud (refine wpList_append_lies _ (by rfl) _ _ _ (by rfl) w0.heap.size 22 i0 _ 1 4 Try.underlying25 hi hz0 hz1 hz2 rfl (by omega) (.slice a n c) zs.length (zs.map (.float .f32)) (by rfl) (hrow.alloc _) ⟨w2.heap.size, 0, none⟩ 1 1 [.float .f32 3212836864] (by rfl) (by rfl) (World.news_of_block (cs := #[.float .f32 3212836864]) (t := 22) (fr := (0, 0)) (heap_alloc_new w2 _)) (by simp [Value.oneCell']) (by omega) (by have := hh.out.2.2.1; unfold maxLen; omega) (by have := hh.out.2.2.1; omega) (by simp; omega) (w2.heap.size + 1) (by simp) ?_; intro gg cap w3 hown3 hgrow0 hat3 hlt3; have hgrow := (show ((w2.alloc (.cells #[.float .f32 3212836864] 22)).drewN 0).grownBy w3 _ from hgrow0); clear hgrow0; have hN3 := Mk.nv3 hh.out.2.2.2.2 hne hgrow; have j2 := hN3.2.2.2.1; have jf := hN3.2.2.2.2 2))
            all_goals
              have hM : Mk 22 w0 bo W H (gridL W (wallF f b mx my p q r) (y * W + (x + 1))) (w3.setCell ⟨bo, 2, none⟩ (.slice (some ⟨gg, 0, none⟩) (zs.length + 1) cap)) := by
                rw [gridL_step W _ y hlx, hF.out, hK'.out]
                exact Mk.step hh.out.2.2.2.2 hrow hh.out.1 hh.out.2.1 hne hbo hh.out.2.2.2.1 flM1 hown3 hgrow hat3
              have hM := Lib.hid hM
              clear hgrow hown3 hat3 hrow hrowA
              go_wp2_with fail
              go_roundw
              case rel => exact ⟨x + 1, by omega, by go_num, by first | exact hM | exact Lib.hid (hM.out.drewN _)⟩
              case measure => simp [intOf]; omega
          · go_wp2_with (at_builtin; go_loud (refine wpList_append_lies _ (by rfl) _ _ _ (by rfl) w0.heap.size 22 i0 _ 1 4 Try.underlying25 hi hz0 hz1 hz2 rfl (by omega) (.slice a n c) zs.length (zs.map (.float .f32)) (by rfl) (hrow.alloc _) ⟨w2.heap.size, 0, none⟩ 1 1 [.float .f32 _] (by rfl) (by rfl) (World.news_of_block (cs := #[.float .f32 _]) (t := 22) (fr := (0, 0)) (heap_alloc_new w2 _)) (by simp [Value.oneCell']) (by omega) (by have := hh.out.2.2.1; unfold maxLen; omega) (by have := hh.out.2.2.1; omega) (by simp; omega) (w2.heap.size + 1) (by simp) ?_; intro gg cap w3 hown3 hgrow0 hat3 hlt3; have hgrow := (show ((w2.alloc _).drewN 0).grownBy w3 _ from hgrow0); clear hgrow0; have hN3 := Mk.nv3 hh.out.2.2.2.2 hne hgrow; have j2 := hN3.2.2.2.1; have jf := hN3.2.2.2.2 2))
            all_goals
              have hM : Mk 22 w0 bo W H (gridL W (wallF f b mx my p q r) (y * W + (x + 1))) (w3.setCell ⟨bo, 2, none⟩ (.slice (some ⟨gg, 0, none⟩) (zs.length + 1) cap)) := by
                rw [gridL_step W _ y hlx, hF.out, hK'.out]
                exact Mk.step hh.out.2.2.2.2 hrow hh.out.1 hh.out.2.1 hne hbo hh.out.2.2.2.1 (hD ((((hf.flR (hp.flR (hX.flR hmx _) _) _).flR (hq.flR (hY.flR hmy _) _) _).flR hb _).flR hr _)) hown3 hgrow hat3
              have hM := Lib.hid hM
              clear hgrow hown3 hat3 hrow hrowA
              go_wp2_with fail
              go_roundw
              case rel => exact ⟨x + 1, by omega, by go_num, by first | exact hM | exact Lib.hid (hM.out.drewN _)⟩
              case measure => simp [intOf]; omega
        · obtain rfl : x = W := by omega
          rw [gridL_row] at hmk
          go_wp2_with fail
          go_roundw
          case rel => exact ⟨y + 1, by omega, by go_num, hmk⟩
          case measure => simp [intOf]; omega
    · obtain rfl : y = H := by omega
      obtain ⟨a, n, c, hN, hoc, hne, hbo, hbl2⟩ := hmk.out
      obtain ⟨_, f0, f1, f2, f3⟩ := hN
      obtain ⟨_, r0, r1, r2, rf⟩ := hpv.out.2.2.1.below hbl2
      have hoc := Lib.hid hoc
      go_wp2_with fail
      refine bodyPost_ret (v := ?v) ?hr rfl ?post
      case hr => (simp [results, Try.results22, go_sem, f0, f1, f2, r0, r1, r2, rf]; try rfl)
      case post =>
        have h0 := hpv.out.2.2.2
        have ho := hoc.out
        rw [Nat.add_zero] at ho
        refine ⟨_, _, _, rfl, ?_, ?_⟩
        · ((repeat' (first | (refine bel_set ?_ ?_ _) | (refine bel_al ?_ ?_ _) | exact Below.refl _ _ | assumption | (refine below_drewN ?_ _) | (refine Below.drew ?_) | (refine Below.trans ?_ (Below.mono hbl2 ?_)))) <;> (first | omega | (simp; done) | (simp; omega)))
        · (refine OC.mono (base := ?bb) ?hh ?hl; (case hh => ((repeat' (first | (refine OC.set ?_ _ ?_) | (refine OC.alloc ?_ _) | exact ho | (refine OC.drewN ?_ _))) <;> (first | omega | (simp; done) | (simp; omega)))); (case hl => (first | omega | (simp; done) | (simp; omega))))
theorem pairPlaneMap (f b mx my p q r : Nat) (lf : f < width .f32) (lb : b < width .f32) (lmx : mx < width .f32) (lmy : my < width .f32) (lp : p < width .f32) (lq : q < width .f32) (lr : r < width .f32) (W H : Int) :
    ∃ (W' H' : Int) (cs' : List Nat) (ok : Bool),
      (∀ w, Calls Try.prog 22 #[.agg #[.float .f32 f, .float .f32 b, .float .f32 mx, .float .f32 my], .agg #[.float .f32 p, .float .f32 q, .float .f32 r], .int .i64 W, .int .i64 H] w (RPic 22 W' H' cs' ok w)) ∧
      (∀ w, Calls Try.prog 24 #[.agg #[.float .f32 f, .float .f32 b, .float .f32 mx, .float .f32 my], .agg #[.float .f32 p, .float .f32 q, .float .f32 r], .int .i64 W, .int .i64 H] w (RPic 22 W' H' cs' ok w)) ∧ cs'.length ≤ 256 := by
  cases hok : okCam f b mx my with
  | false => exact ⟨0, 0, [], false, fun w => specPlaneMap_no1 f b mx my p q r W H w hok, fun w => implPlaneMap_no1 f b mx my p q r W H w hok, by simp⟩
  | true =>
    cases hs : sizeB W H with
    | false => exact ⟨0, 0, [], false, fun w => specPlaneMap_no2 f b mx my p q r W H w hok hs, fun w => implPlaneMap_no2 f b mx my p q r W H w hok hs, by simp⟩
    | true =>
      obtain ⟨h1, h2, h3, h4, h5⟩ := sizeB_iff.1 hs
      obtain ⟨wn, rfl⟩ : ∃ k : Nat, W = k := ⟨W.toNat, by omega⟩
      obtain ⟨hn, rfl⟩ : ∃ k : Nat, H = k := ⟨H.toNat, by omega⟩
      have b5 : hn * wn ≤ 256 := by
        have h : ((wn * hn : Nat) : Int) ≤ ((256 : Nat) : Int) := by rw [Int.natCast_mul]; exact h5
        rw [Nat.mul_comm]; exact Int.ofNat_le.1 h
      exact ⟨_, _, _, _, fun w => specPlaneMap_any f b mx my p q r lf lb lmx lmy lp lq lr hok wn hn w (by omega) (by omega) (by omega) (by omega) b5, fun w => implPlaneMap_any f b mx my p q r lf lb lmx lmy lp lq lr hok wn hn w (by omega) (by omega) (by omega) (by omega) b5, by rw [gridL_len]; exact b5⟩
end Go.Proofs.Ytnbilmlpngcobaa
