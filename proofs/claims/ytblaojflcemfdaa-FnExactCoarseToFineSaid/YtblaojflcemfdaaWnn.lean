import Derived.Test.YtblaojflcemfdaaWj
import Derived.Test.YtblaojflcemfdaaWa
import Derived.Test.YtblaojflcemfdaaWv
import Derived.Test.YtblaojflcemfdaaWp
import Derived.Test.YtblaojflcemfdaaRs
set_option linter.unusedVariables false
set_option linter.unusedSimpArgs false
namespace Go.FX
open Go Go.RowKit
/-- Is a disparity near a place? -/
def nearP (pl re : Int) (d : Nat) : Bool := decide (pl - re ≤ (d : Int)) && decide ((d : Int) ≤ pl + re)
end Go.FX
namespace Go.Proofs.Ytblaojflcemfdaa
open Go.FX Go.RowKit Go.WideShapes Go.ChangeShapes
attribute [local go_sem ↓] Go.wp_at_zero Go.wp_at_succ
/-- What a cell has for the winner near a value. -/
def nearV (row : List Nat) (pl re : Int) : Nat := if pl < 0 then 3212836864 else fi (winI row (nearP pl re))
def nearI (D : Nat) (cs ms : List Nat) (re : Int) (i : Nat) : Nat := nearV (rowC D cs i) (placeI (ms.getD i 0)) re
theorem flM1n : Fl .f32 3212836864 3212836864 := ⟨by decide, by decide⟩
theorem placeI_top (x : Nat) : placeI x ≤ 25 := by
  by_cases h : -1056964608 ≤ key .f32 x
  · exact placeI_hi x h
  · unfold placeI
    split
    · rw [if_pos (by omega)]; omega
    · omega

set_option maxRecDepth 100000 in
set_option maxHeartbeats 4000000 in
theorem near_fn (W H D : Nat) (a : Option Addr) (n c : Nat) (cs : List Nat) (a' : Option Addr) (n' c' : Nat) (ms : List Nat) (re : Int) (bm bv br : Nat) (w : World) (hP : Pw w bv W H D (.slice a n c)) (hQ : Pv w bm W H (.slice a' n' c')) (hr : w.cell? ⟨br, 0, none⟩ = some (.int .i64 re)) (hrl : br < w.heap.size)
    (hv : FC w (.slice a n c) cs) (hv' : FC w (.slice a' n' c') ms) (b1 : 1 ≤ W) (b2 : W ≤ 24) (b3 : 1 ≤ H) (b4 : H ≤ 24) (b5 : H * W ≤ 256) (d1 : 1 ≤ D) (d2 : D ≤ 8) (hl : cs.length = H * W * D) (hl' : ms.length = H * W) (r0 : 0 ≤ re) (r8 : re ≤ 8) :
    GreyFn Try.prog 43 #[] #[.pointer (some ⟨bm, 0, none⟩), .pointer (some ⟨bv, 0, none⟩), .pointer (some ⟨br, 0, none⟩)] W H (fun x y => nearI D cs ms re (y.toNat * W + x.toNat)) w := by
  intro w1 x y hb hx hy
  have hcell : y * W + x < H * W := by
    have h1 : y * W + W ≤ H * W := by rw [← Nat.succ_mul]; exact Nat.mul_le_mul_right _ hy
    omega
  obtain ⟨v1, hf1, hcc⟩ := costRowE_any W H D a n c cs (y * W + x) w hv hcell b5 d1 d2 hl
  have hat := fun w2 (h : Below w1.heap.size w1 w2) => mapAt_any W H (.slice a' n' c') ms x y w2 ((hv'.below hb).below h) b1 b2 b4 hl' hx hy
  have hatc : atC W H ms x y = ms.getD (y * W + x) 0 := by
    have := atC_lin ms b1 hcell
    rwa [place_mod y hx, place_div y hx] at this
  rw [hatc] at hat
  show Calls Try.prog 43 #[.int .i64 x, .int .i64 y, .pointer (some ⟨bm, 0, none⟩), .pointer (some ⟨bv, 0, none⟩), .pointer (some ⟨br, 0, none⟩)] w1 (RFb .f32 (nearI D cs ms re ((y : Int).toNat * W + (x : Int).toNat)) w1)
  simp only [Int.toNat_natCast]
  obtain ⟨row, hrow⟩ : ∃ r, r = rowC D cs (y * W + x) := ⟨_, rfl⟩
  have hrl2 : row.length = D := by rw [hrow]; exact rowC_len _ _ _
  have hE : nearI D cs ms re (y * W + x) = nearV row (placeI (ms.getD (y * W + x) 0)) re := by rw [hrow]; rfl
  rw [hE]
  rw [← hrow] at hf1
  generalize ms.getD (y * W + x) 0 = mv at hat ⊢
  have hpl1 := placeI_lo mv
  have hpl2 := placeI_top mv
  obtain ⟨C, hC⟩ : ∃ C, C = y * W + x := ⟨_, rfl⟩
  rw [← hC] at hcc hcell
  have hWy : (W : Int) * (y : Int) = ((y * W : Nat) : Int) := by push_cast; rw [Int.mul_comm]
  have hC0 : (x : Int) + ((y * W : Nat) : Int) = (C : Int) := by omega
  have hC3 : y * W ≤ 576 := by have := Nat.mul_le_mul (Nat.le_of_lt (Nat.lt_of_lt_of_le hy b4)) b2; omega
  generalize y * W = yw at hWy hC0 hC hC3
  clear hC
  have hP1 := hP.below hb
  obtain ⟨lv, p0, p1, p2, p3⟩ := id hP1
  have hQ1 := hQ.below hb
  obtain ⟨lm, q0, q1, q2⟩ := id hQ1
  have e1 := ((bcell hb).1 br 0 hrl).trans hr
  have e4 : br < w1.heap.size := Nat.lt_of_lt_of_le hrl hb.size
  have hfb := hf1.below hb
  have hpv := Lib.hid (And.intro hP1 hQ1)
  clear hP hQ hr hrl hv hv' hl hl' hrow hE hatc hb hf1 hP1 hQ1
  by_cases hneg : placeI mv < 0
  · have hV : Hid (nearV row (placeI mv) re = 3212836864) := Lib.hid (if_pos hneg)
    generalize hPl : placeI mv = PL at hneg hV
    have hPl' := Lib.hid hPl
    clear hPl hC0 hWy
    go_enter Try.func43, Try.ntmps43
    go_wp2_with fail
    refine (hat _ (Below.refl _ _)).mono ?_
    rintro e w2 ⟨r, rfl, hb2, hr⟩
    have hpf := (placeI_fl hr).trans hPl'.out
    go_wp2_with fail
    refine (placeOf_any _ _).mono ?_
    rintro e w3 ⟨k3, rfl, rfl⟩
    rw [hpf]
    clear hpf
    go_wp2_with fail
    go_ret
    exact ⟨_, rfl, by first | exact (below_drewN hb2 _).alloc (by simpa using hb2.size) _ | ((repeat' (first | (refine bel_set ?_ ?_ _) | (refine bel_al ?_ ?_ _) | exact Below.refl _ _ | assumption | (refine below_drewN ?_ _) | (refine Below.drew ?_) | (refine Below.trans ?_ (Below.mono hb2 ?_)))) <;> (first | omega | (simp; done) | (simp; omega))), by rw [hV.out]; exact flM1n⟩
  · have hV : Hid (nearV row (placeI mv) re = fi (winI row (nearP (placeI mv) re))) := Lib.hid (if_neg hneg)
    generalize hPl : placeI mv = PL at hneg hV hpl1 hpl2
    have hPl' := Lib.hid hPl
    clear hPl
    have s1 : IntKind.i64.wrap (PL - re) = PL - re := IntWalk.i64_in _ (by omega)
    have s2 : IntKind.i64.wrap (PL + re) = PL + re := IntWalk.i64_in _ (by omega)
    go_enter Try.func43, Try.ntmps43
    go_wp2_with fail
    refine (hat _ (Below.refl _ _)).mono ?_
    rintro e w2 ⟨r, rfl, hb2, hr⟩
    have hpf := (placeI_fl hr).trans hPl'.out
    go_wp2_with fail
    refine (placeOf_any _ _).mono ?_
    rintro e w3 ⟨k3, rfl, rfl⟩
    rw [hpf]
    clear hpf
    obtain ⟨X, hX⟩ : ∃ X, X = (w2.alloc (.cells #[.int .i64 PL] 2)).drewN k3 := ⟨_, rfl⟩
    have hbX : Below w1.heap.size w1 X := by rw [hX]; exact below_drewN (hb2.alloc hb2.size _) _
    have cX : X.cell? ⟨w2.heap.size, 0, none⟩ = some (.int .i64 PL) := by rw [hX]; go_simp
    have lX : w2.heap.size < X.heap.size := by rw [hX]; simp
    have eX := ((bcell hbX).1 br 0 e4).trans e1
    have eX4 : br < X.heap.size := Nat.lt_of_lt_of_le e4 hbX.size
    obtain ⟨_, p0', p1', p2', p3'⟩ := hpv.out.1.below hbX
    go_upto_region 2 with fail
    rw [← hX]
    clear hX
    go_wp2_with fail
    refine (hcc _ _ rfl).mono ?_
    rintro e w4 ⟨rfl, hb4⟩
    have hpred : PredFn Try.prog 48 #[] #[.pointer (some ⟨w2.heap.size, 0, none⟩), .pointer (some ⟨br, 0, none⟩)] row.length (nearP PL re) w4 := by
      intro w5 d hb5 hd
      have hc5 := ((bcell (hb4.trans (hb5.mono hb4.size))).1 w2.heap.size 0 lX).trans cX
      have hc6 := ((bcell (hb4.trans (hb5.mono hb4.size))).1 br 0 eX4).trans eX
      show Calls Try.prog 48 #[.int .i64 d, .pointer (some ⟨w2.heap.size, 0, none⟩), .pointer (some ⟨br, 0, none⟩)] w5 _
      by_cases h1 : PL - re ≤ (d : Int)
      · by_cases h2 : (d : Int) ≤ PL + re
        · have hN := Lib.hid (show nearP PL re d = true by unfold nearP; rw [decide_eq_true h1, decide_eq_true h2]; rfl)
          go_enter Try.func48, Try.ntmps48
          go_wp2
          go_ret
          exact ⟨0, (congrArg (fun b => Ending.returned (.bool b)) hN.out).symm, rfl⟩
        · have hN := Lib.hid (show nearP PL re d = false by unfold nearP; rw [decide_eq_false h2]; simp)
          go_enter Try.func48, Try.ntmps48
          go_wp2
          go_ret
          exact ⟨0, (congrArg (fun b => Ending.returned (.bool b)) hN.out).symm, rfl⟩
      · have hN := Lib.hid (show nearP PL re d = false by unfold nearP; rw [decide_eq_false h1]; simp)
        go_enter Try.func48, Try.ntmps48
        go_wp2
        go_ret
        exact ⟨0, (congrArg (fun b => Ending.returned (.bool b)) hN.out).symm, rfl⟩
    have hlo := leastOf_any v1 row 48 #[] #[.pointer (some ⟨w2.heap.size, 0, none⟩), .pointer (some ⟨br, 0, none⟩)] (nearP PL re) w4 (hfb.below (hbX.trans (hb4.mono hbX.size))) (by omega) (enters_of Try.func48 (by kernel_rfl) rfl) hpred
    generalize winI row (nearP PL re) = WI at hlo hV
    clear hpred
    go_wp2_with fail
    refine hlo.mono ?_
    rintro e w6 ⟨k6, rfl, rfl⟩
    go_wp2_with fail
    go_ret
    exact ⟨_, rfl, below_drewN (hbX.trans (hb4.mono hbX.size)) _, by rw [hV.out]; exact fiFl2 WI⟩
theorem near_cells (W H D : Nat) (cs ms : List Nat) (re : Int) (b1 : 1 ≤ W) : gridL W (fun x y => nearI D cs ms re (y.toNat * W + x.toNat)) (H * W) = seqL (nearI D cs ms re) (H * W) := by
  rw [gridL_seq]
  refine seqL_congr fun i hi => ?_
  simp only [Int.toNat_natCast]
  rw [Nat.mul_comm, Nat.div_add_mod]
set_option maxRecDepth 100000 in
set_option maxHeartbeats 8000000 in
theorem implNear_any (Wn Hn Dn : Nat) (W H D W' H' : Int) (eW : W = Wn) (eH : H = Hn) (eD : D = Dn) (eW' : W' = Wn) (eH' : H' = Hn) (a : Option Addr) (n c : Nat) (cs : List Nat) (a' : Option Addr) (n' c' : Nat) (ms : List Nat) (re : Int) (w : World) (hv : FC w (.slice a n c) cs) (hv' : FC w (.slice a' n' c') ms) (b1 : 1 ≤ Wn) (b2 : Wn ≤ 24) (b3 : 1 ≤ Hn) (b4 : Hn ≤ 24) (b5 : Hn * Wn ≤ 256) (d1 : 1 ≤ Dn) (d2 : Dn ≤ 8) (hl : cs.length = Hn * Wn * Dn) (hl' : ms.length = Hn * Wn) (r0 : 0 ≤ re) (r8 : re ≤ 8) :
    Calls Try.prog 22 #[.agg #[.int .i64 W, .int .i64 H, .int .i64 D, .slice a n c], .agg #[.int .i64 W', .int .i64 H', .slice a' n' c'], .int .i64 re] w (RPic 61 W H (seqL (nearI Dn cs ms re) (Hn * Wn)) true w) := by
  obtain ⟨en, hnc, hcm⟩ := hv.sized
  obtain ⟨en', hnc', hcm'⟩ := hv'.sized
  have hsame : Hid (sameCB W H D n W' H' n' = true) := Lib.hid (by
    subst eW eH eD eW' eH'
    unfold sameCB
    rw [en, en', volB_mk b1 b2 b3 b4 b5 d1 d2 hl, validB_mk b1 b2 b3 b4 b5 hl']
    simp)
  have h1 := fun w1 => haveSame_any W H D a n c W' H' a' n' c' w1 hnc hcm hnc' hcm'
  have hvm : validB W' H' n' = true := by subst eW' eH'; rw [en']; exact validB_mk b1 b2 b3 b4 b5 hl'
  obtain ⟨w0, hw0⟩ : ∃ u, u = ((((w.alloc (.cells #[.int .i64 W, .int .i64 H, .int .i64 D, .slice a n c] 44)).alloc (.cells #[.int .i64 W', .int .i64 H', .slice a' n' c'] 27)).alloc (.cells #[.int .i64 re] 2)).alloc (.cells #[.int .i64 0, .int .i64 0, .slice none 0 0] 27)) := ⟨_, rfl⟩
  have PV : Pw w0 w.heap.size W H D (.slice a n c) := by rw [hw0]; exact (((Pw.new _ _ _ _ _ _).alloc _).alloc _).alloc _
  have PM : Pv w0 (w.heap.size + 1) W' H' (.slice a' n' c') := by
    have h := ((Pv.new (w.alloc (.cells #[.int .i64 W, .int .i64 H, .int .i64 D, .slice a n c] 44)) W' H' (.slice a' n' c') 27).alloc (.cells #[.int .i64 re] 2)).alloc (.cells #[.int .i64 0, .int .i64 0, .slice none 0 0] 27)
    rw [hw0]; simpa only [World.size_alloc] using h
  have PR : w0.cell? ⟨w.heap.size + 1 + 1, 0, none⟩ = some (.int .i64 re) := by rw [hw0]; go_simp
  have PN : Nv w0 (w.heap.size + 1 + 1 + 1) (.int .i64 0) (.int .i64 0) (.slice none 0 0) := by
    have h := Nv.new (((w.alloc (.cells #[.int .i64 W, .int .i64 H, .int .i64 D, .slice a n c] 44)).alloc (.cells #[.int .i64 W', .int .i64 H', .slice a' n' c'] 27)).alloc (.cells #[.int .i64 re] 2)) (.int .i64 0) (.int .i64 0) (.slice none 0 0) 27
    rw [hw0]; simpa only [World.size_alloc] using h
  have hb0 : Below w.heap.size w w0 := by rw [hw0]; exact (below3 _ _ _ _).alloc (by simp; omega) _
  have l3 : w.heap.size + 1 + 1 + 1 < w0.heap.size := PN.1
  have l2 : w.heap.size + 1 + 1 < w0.heap.size := by omega
  have hv0 := hv.below hb0
  have hv0' := hv'.below hb0
  have hgf : GreyFn Try.prog 43 #[] #[.pointer (some ⟨w.heap.size + 1, 0, none⟩), .pointer (some ⟨w.heap.size, 0, none⟩), .pointer (some ⟨w.heap.size + 1 + 1, 0, none⟩)] Wn Hn (fun x y => nearI Dn cs ms re (y.toNat * Wn + x.toNat)) w0 := by
    subst eW eH eD eW' eH'
    exact near_fn Wn Hn Dn a n c cs a' n' c' ms re (w.heap.size + 1) w.heap.size (w.heap.size + 1 + 1) w0 PV PM PR (by omega) hv0 hv0' b1 b2 b3 b4 b5 d1 d2 hl hl' r0 r8
  have hrd := fun w1 (hb1 : Below w0.heap.size w0 w1) => redraw_of W' H' a' n' c' _ _ _ _ _ _ _ w1 fun w3 hb3 => redrawAs_of _ _ _ _ _ _ _ _ _ _ _ _ _ _ w3 fun w4 hb4 => (by subst eW' eH'; exact drawFrom_any Wn Hn a' n' c' hvm hnc' hcm' Wn Hn b1 b2 b3 b4 b5 _ _ _ _ w4 (enters_of Try.func43 (by kernel_rfl) rfl) (hgf.later (hb1.trans ((hb3.trans (hb4.mono hb3.size)).mono hb1.size))))
  rw [near_cells Wn Hn Dn cs ms re b1] at hrd
  have g1 : ¬ re < 0 := by omega
  have g2 : ¬ re > 8 := by omega
  have g3 : decide (re < 0) = false := decide_eq_false g1
  have g4 : decide (8 < re) = false := decide_eq_false g2
  have g5 : decide (re > 8) = false := decide_eq_false g2
  have hW := Lib.hid (And.intro eW eH)
  clear hl hl' en en' hgf hvm hv0 hv0' hv hv' eW eH eD eW' eH'
  go_enter Try.func22, Try.ntmps22
  go_upto_region 1 with fail
  rw [← hw0]
  clear hw0
  obtain ⟨lp, p0, p1, p2, p3⟩ := id PV
  obtain ⟨lq, q0, q1, q3⟩ := id PM
  have hp := Lib.hid (And.intro PV (And.intro PM (And.intro PN (And.intro hb0 PR))))
  clear PV PM PN hb0
  go_region_held3 (fun w' => Below w0.heap.size w0 w' ∧ w0.heap.size ≤ w'.heap.size ∧ (∀ b o, b < w0.heap.size → w'.cell? ⟨b, o, none⟩ = w0.cell? ⟨b, o, none⟩)) (first | exact keepStart _ | assumption | exact ⟨by assumption, by assumption, by assumption⟩ | exact keepCall (by assumption) (by assumption) | exact keepAlloc (by assumption) | (refine keepSet ?_ (keepSet ?_ (keepSet ?_ (keepSet ?_ ?_))) <;> first | assumption | omega | (simp; done) | (simp; omega)) | (refine keepSet ?_ (keepSet ?_ (keepSet ?_ ?_)) <;> first | assumption | omega | (simp; done) | (simp; omega)) | (refine keepSet ?_ (keepSet ?_ ?_) <;> first | assumption | omega | (simp; done) | (simp; omega)) | (refine keepSet ?_ ?_ <;> first | assumption | omega | (simp; done) | (simp; omega)))
    (first
      | (go_at_call 41; (with_reducible refine (mapPic_any _ _ _ _ _ _).mono ?_); rintro e w1 ⟨rfl, hb1⟩; have hI := keepCall (n := w0.heap.size) (W1 := w0) (by assumption) hb1; obtain ⟨hc, hf⟩ := bcell hb1; have hz := hb1.size; (try simp at hz); (try simp only [World.size_drew, World.cell?_drew] at hc); (try simp only [World.size_drew, World.frozen?_drew] at hf); first | (have hs := Nat.lt_of_succ_le hz) | (have hs := Nat.lt_of_lt_of_le hs hz) | skip)
      | (go_at_call 40; (with_reducible refine (h1 _).mono ?_); rintro e w2 ⟨rfl, hb2⟩; rw [hsame.out]; have hI := keepCall (n := w0.heap.size) (W1 := w0) (by assumption) hb2; obtain ⟨hc, hf⟩ := bcell hb2; have hz := hb2.size; (try simp at hz); (try simp only [World.size_drew, World.cell?_drew] at hc); (try simp only [World.size_drew, World.frozen?_drew] at hf); first | (have hs := Nat.lt_of_succ_le hz) | (have hs := Nat.lt_of_lt_of_le hs hz) | skip))
  have hbR : Below w0.heap.size w0 w2 := And.left (by assumption)
  obtain ⟨m2, y0, y1, y2⟩ := hp.out.2.1.below hbR
  have hrr := hrd w2 hbR
  have s2 := hbR.size
  go_wp2_with fail
  refine hrr.mono ?_
  rintro e w3 ⟨a3, n3, c3, rfl, hb3, ho3⟩
  have hbT := hbR.trans (hb3.mono hbR.size)
  obtain ⟨l4, r0, r1, r2, rf⟩ := hp.out.2.2.1.below hbT
  have s3 := hbT.size
  go_wp2_with fail
  refine bodyPost_ret (v := ?v) ?hr rfl ?post
  case hr => (simp [results, Try.results22, go_sem, r0, r1, r2, rf]; try rfl)
  case post =>
    refine ⟨_, _, _, by rw [hW.out.1, hW.out.2], ?_, ?_⟩
    · have hbb := hp.out.2.2.2.1.trans (hbT.mono hp.out.2.2.2.1.size); ((repeat' (first | (refine bel_set ?_ ?_ _) | (refine bel_al ?_ ?_ _) | exact Below.refl _ _ | assumption | (refine below_drewN ?_ _) | (refine Below.drew ?_) | (refine Below.trans ?_ (Below.mono hbb ?_)))) <;> (first | omega | (simp; done) | (simp; omega)))
    · (refine OC.mono (base := ?bb) ?hh ?hl; (case hh => ((repeat' (first | (refine OC.set ?_ _ ?_) | (refine OC.alloc ?_ _) | exact ho3 | (refine OC.drewN ?_ _))) <;> (first | omega | (simp; done) | (simp; omega)))); (case hl => (first | omega | (simp; done) | (simp; omega))))
set_option maxRecDepth 100000 in
set_option maxHeartbeats 8000000 in
theorem implNear_no (W H D W' H' : Int) (a : Option Addr) (n c : Nat) (a' : Option Addr) (n' c' : Nat) (re : Int) (w : World) (hnc : n ≤ c) (hcm : c ≤ maxLen) (hnc' : n' ≤ c') (hcm' : c' ≤ maxLen) (hbad : sameCB W H D n W' H' n' = false ∨ re < 0 ∨ re > 8) :
    Calls Try.prog 22 #[.agg #[.int .i64 W, .int .i64 H, .int .i64 D, .slice a n c], .agg #[.int .i64 W', .int .i64 H', .slice a' n' c'], .int .i64 re] w (RPic 61 0 0 [] false w) := by
  have h1 := fun w1 => haveSame_any W H D a n c W' H' a' n' c' w1 hnc hcm hnc' hcm'
  obtain ⟨w0, hw0⟩ : ∃ u, u = ((((w.alloc (.cells #[.int .i64 W, .int .i64 H, .int .i64 D, .slice a n c] 44)).alloc (.cells #[.int .i64 W', .int .i64 H', .slice a' n' c'] 27)).alloc (.cells #[.int .i64 re] 2)).alloc (.cells #[.int .i64 0, .int .i64 0, .slice none 0 0] 27)) := ⟨_, rfl⟩
  have PV : Pw w0 w.heap.size W H D (.slice a n c) := by rw [hw0]; exact (((Pw.new _ _ _ _ _ _).alloc _).alloc _).alloc _
  have PM : Pv w0 (w.heap.size + 1) W' H' (.slice a' n' c') := by
    have h := ((Pv.new (w.alloc (.cells #[.int .i64 W, .int .i64 H, .int .i64 D, .slice a n c] 44)) W' H' (.slice a' n' c') 27).alloc (.cells #[.int .i64 re] 2)).alloc (.cells #[.int .i64 0, .int .i64 0, .slice none 0 0] 27)
    rw [hw0]; simpa only [World.size_alloc] using h
  have PR : w0.cell? ⟨w.heap.size + 1 + 1, 0, none⟩ = some (.int .i64 re) := by rw [hw0]; go_simp
  have PN : Nv w0 (w.heap.size + 1 + 1 + 1) (.int .i64 0) (.int .i64 0) (.slice none 0 0) := by
    have h := Nv.new (((w.alloc (.cells #[.int .i64 W, .int .i64 H, .int .i64 D, .slice a n c] 44)).alloc (.cells #[.int .i64 W', .int .i64 H', .slice a' n' c'] 27)).alloc (.cells #[.int .i64 re] 2)) (.int .i64 0) (.int .i64 0) (.slice none 0 0) 27
    rw [hw0]; simpa only [World.size_alloc] using h
  have hb0 : Below w.heap.size w w0 := by rw [hw0]; exact (below3 _ _ _ _).alloc (by simp; omega) _
  have l3 : w.heap.size + 1 + 1 + 1 < w0.heap.size := PN.1
  have l2 : w.heap.size + 1 + 1 < w0.heap.size := by omega
  cases hsm : sameCB W H D n W' H' n' with
  | false =>
    have hsame := Lib.hid hsm
    clear hsm hbad
    go_enter Try.func22, Try.ntmps22
    go_upto_region 1 with fail
    rw [← hw0]
    clear hw0
    obtain ⟨lp, p0, p1, p2, p3⟩ := id PV
    obtain ⟨lq, q0, q1, q3⟩ := id PM
    have hp := Lib.hid (And.intro PV (And.intro PM (And.intro PN (And.intro hb0 PR))))
    clear PV PM PN hb0
    have hb1c := fun w1 => (by have h := h1 w1; rw [hsame.out] at h; exact h : Calls Try.prog 40 #[.agg #[.int .i64 W, .int .i64 H, .int .i64 D, .slice a n c], .agg #[.int .i64 W', .int .i64 H', .slice a' n' c']] w1 (fun e w' => e = .returned (.bool false) ∧ Below w1.heap.size w1 w'))
    refine wp_region_skip (by kernel_rfl) (by kernel_rfl) (by kernel_rfl) (by kernel_rfl) (fun w' => Below w0.heap.size w0 w') (below_drewN (Below.refl _ _) 1) [some (Eq1 ?q5708u0), some (Eq1 ?q5708u1), some (Eq1 (.agg #[.int .i64 W', .int .i64 H', .slice a' n' c'])), some (Eq1 (.bool false)), some (Eq1 ?q5708u4), some (Eq1 ?q5708u5), none, none, some (Eq1 ?q5708u8), some (Eq1 ?q5708u9), none, none, some (Eq1 ?q5708u12)] ?q5708main
    case q5708main =>
      (refine wpS_pure ?_ (fun w hw => ?_) ?_; rfl; (obtain ⟨hwc, hwf⟩ := bcell2 hw; go_simp; (try with_reducible rfl)); (try simp only [Act.put, List.setIfInBounds_toArray, List.set_cons_zero, List.set_cons_succ]))
      (refine wpS_pure ?_ (fun w hw => ?_) ?_; rfl; (obtain ⟨hwc, hwf⟩ := bcell2 hw; go_simp; (try with_reducible rfl)); (try simp only [Act.put, List.setIfInBounds_toArray, List.set_cons_zero, List.set_cons_succ]))
      (refine wpS_cls ?_ (fun w hw => ?_) ?_; rfl; (go_simp; refine (mapPic_any _ _ _ _ _ _).mono ?_; rintro _ _ ⟨rfl, hcb⟩; exact ⟨_, rfl, rfl, Below.trans hw (hcb.mono hw.size)⟩); (rintro _ rfl; (try simp only [Act.put, List.setIfInBounds_toArray, List.set_cons_zero, List.set_cons_succ])))
      (refine wpS_cls ?_ (fun w hw => ?_) ?_; rfl; (go_simp; refine (hb1c _).mono ?_; rintro _ _ ⟨rfl, hcb⟩; exact ⟨_, rfl, rfl, Below.trans hw (hcb.mono hw.size)⟩); (rintro _ rfl; (try simp only [Act.put, List.setIfInBounds_toArray, List.set_cons_zero, List.set_cons_succ])))
      (refine wpS_pure ?_ (fun w hw => ?_) ?_; rfl; (obtain ⟨hwc, hwf⟩ := bcell2 hw; go_simp; (try with_reducible rfl)); (try simp only [Act.put, List.setIfInBounds_toArray, List.set_cons_zero, List.set_cons_succ]))
      (refine wpS_pure ?_ (fun w hw => ?_) ?_; rfl; (obtain ⟨hwc, hwf⟩ := bcell2 hw; go_simp; (try with_reducible rfl)); (try simp only [Act.put, List.setIfInBounds_toArray, List.set_cons_zero, List.set_cons_succ]))
      (refine wpS_skip ?_ ?_; rfl; (try simp only [Act.put, List.setIfInBounds_toArray, List.set_cons_zero, List.set_cons_succ]))
      (refine wpS_skip ?_ ?_; rfl; (try simp only [Act.put, List.setIfInBounds_toArray, List.set_cons_zero, List.set_cons_succ]))
      (refine wpS_pure ?_ (fun w hw => ?_) ?_; rfl; (obtain ⟨hwc, hwf⟩ := bcell2 hw; go_simp; (try with_reducible rfl)); (try simp only [Act.put, List.setIfInBounds_toArray, List.set_cons_zero, List.set_cons_succ]))
      (refine wpS_pure ?_ (fun w hw => ?_) ?_; rfl; (obtain ⟨hwc, hwf⟩ := bcell2 hw; go_simp; (try with_reducible rfl)); (try simp only [Act.put, List.setIfInBounds_toArray, List.set_cons_zero, List.set_cons_succ]))
      (refine wpS_skip ?_ ?_; rfl; (try simp only [Act.put, List.setIfInBounds_toArray, List.set_cons_zero, List.set_cons_succ]))
      (refine wpS_skip ?_ ?_; rfl; (try simp only [Act.put, List.setIfInBounds_toArray, List.set_cons_zero, List.set_cons_succ]))
      (refine wpS_pure ?_ (fun w hw => ?_) ?_; rfl; (obtain ⟨hwc, hwf⟩ := bcell2 hw; go_simp; (try with_reducible rfl)); (try simp only [Act.put, List.setIfInBounds_toArray, List.set_cons_zero, List.set_cons_succ]))
      refine wpS_nil ?_
      intro w' hw'
      have hbR : Below w0.heap.size w0 w' := hw'
      obtain ⟨l4, r0, r1, r2, rf⟩ := hp.out.2.2.1.below hbR
      have s2 := hbR.size
      go_wp2_with fail
      refine bodyPost_ret (v := ?v) ?hr rfl ?post
      case hr => (simp [results, Try.results22, go_sem, r0, r1, r2, rf]; try rfl)
      case post =>
        have hbb := hp.out.2.2.2.1.trans (hbR.mono hp.out.2.2.2.1.size)
        exact ⟨_, _, _, rfl, by ((repeat' (first | (refine bel_set ?_ ?_ _) | (refine bel_al ?_ ?_ _) | exact Below.refl _ _ | assumption | (refine below_drewN ?_ _) | (refine Below.drew ?_) | (refine Below.trans ?_ (Below.mono hbb ?_)))) <;> (first | omega | (simp; done) | (simp; omega))), OC.nil _ _ _⟩
  | true =>
    have hR : re < 0 ∨ re > 8 := by rcases hbad with h | h; · rw [h] at hsm; cases hsm
                                    · exact h
    have hsame := Lib.hid hsm
    clear hsm hbad
    by_cases g1 : re < 0
    · have g3 : decide (re < 0) = true := decide_eq_true g1
      clear hR
      go_enter Try.func22, Try.ntmps22
      go_upto_region 1 with fail
      rw [← hw0]
      clear hw0
      obtain ⟨lp, p0, p1, p2, p3⟩ := id PV
      obtain ⟨lq, q0, q1, q3⟩ := id PM
      have hp := Lib.hid (And.intro PV (And.intro PM (And.intro PN (And.intro hb0 PR))))
      clear PV PM PN hb0
      have hb1c := fun w1 => (by have h := h1 w1; rw [hsame.out] at h; exact h : Calls Try.prog 40 #[.agg #[.int .i64 W, .int .i64 H, .int .i64 D, .slice a n c], .agg #[.int .i64 W', .int .i64 H', .slice a' n' c']] w1 (fun e w' => e = .returned (.bool true) ∧ Below w1.heap.size w1 w'))
      refine wp_region_skip (by kernel_rfl) (by kernel_rfl) (by kernel_rfl) (by kernel_rfl) (fun w' => Below w0.heap.size w0 w') (below_drewN (Below.refl _ _) 1) [some (Eq1 ?q7347u0), some (Eq1 ?q7347u1), some (Eq1 (.agg #[.int .i64 W', .int .i64 H', .slice a' n' c'])), some (Eq1 (.bool true)), some (Eq1 ?q7347u4), some (Eq1 ?q7347u5), some (Eq1 ?q7347u6), some (Eq1 ?q7347u7), some (Eq1 ?q7347u8), some (Eq1 ?q7347u9), none, none, some (Eq1 ?q7347u12)] ?q7347main
      case q7347main =>
        (refine wpS_pure ?_ (fun w hw => ?_) ?_; rfl; (obtain ⟨hwc, hwf⟩ := bcell2 hw; go_simp; (try with_reducible rfl)); (try simp only [Act.put, List.setIfInBounds_toArray, List.set_cons_zero, List.set_cons_succ]))
        (refine wpS_pure ?_ (fun w hw => ?_) ?_; rfl; (obtain ⟨hwc, hwf⟩ := bcell2 hw; go_simp; (try with_reducible rfl)); (try simp only [Act.put, List.setIfInBounds_toArray, List.set_cons_zero, List.set_cons_succ]))
        (refine wpS_cls ?_ (fun w hw => ?_) ?_; rfl; (go_simp; refine (mapPic_any _ _ _ _ _ _).mono ?_; rintro _ _ ⟨rfl, hcb⟩; exact ⟨_, rfl, rfl, Below.trans hw (hcb.mono hw.size)⟩); (rintro _ rfl; (try simp only [Act.put, List.setIfInBounds_toArray, List.set_cons_zero, List.set_cons_succ])))
        (refine wpS_cls ?_ (fun w hw => ?_) ?_; rfl; (go_simp; refine (hb1c _).mono ?_; rintro _ _ ⟨rfl, hcb⟩; exact ⟨_, rfl, rfl, Below.trans hw (hcb.mono hw.size)⟩); (rintro _ rfl; (try simp only [Act.put, List.setIfInBounds_toArray, List.set_cons_zero, List.set_cons_succ])))
        (refine wpS_pure ?_ (fun w hw => ?_) ?_; rfl; (obtain ⟨hwc, hwf⟩ := bcell2 hw; go_simp; (try with_reducible rfl)); (try simp only [Act.put, List.setIfInBounds_toArray, List.set_cons_zero, List.set_cons_succ]))
        (refine wpS_pure ?_ (fun w hw => ?_) ?_; rfl; (obtain ⟨hwc, hwf⟩ := bcell2 hw; go_simp; (try with_reducible rfl)); (try simp only [Act.put, List.setIfInBounds_toArray, List.set_cons_zero, List.set_cons_succ]))
        (refine wpS_pure ?_ (fun w hw => ?_) ?_; rfl; (obtain ⟨hwc, hwf⟩ := bcell2 hw; go_simp; (try with_reducible rfl)); (try simp only [Act.put, List.setIfInBounds_toArray, List.set_cons_zero, List.set_cons_succ]))
        (refine wpS_pure ?_ (fun w hw => ?_) ?_; rfl; (obtain ⟨hwc, hwf⟩ := bcell2 hw; go_simp; (try with_reducible rfl)); (try simp only [Act.put, List.setIfInBounds_toArray, List.set_cons_zero, List.set_cons_succ]))
        (refine wpS_pure ?_ (fun w hw => ?_) ?_; rfl; (obtain ⟨hwc, hwf⟩ := bcell2 hw; go_simp; (try with_reducible rfl)); (try simp only [Act.put, List.setIfInBounds_toArray, List.set_cons_zero, List.set_cons_succ]))
        (refine wpS_pure ?_ (fun w hw => ?_) ?_; rfl; (obtain ⟨hwc, hwf⟩ := bcell2 hw; go_simp; (try with_reducible rfl)); (try simp only [Act.put, List.setIfInBounds_toArray, List.set_cons_zero, List.set_cons_succ]))
        (refine wpS_skip ?_ ?_; rfl; (try simp only [Act.put, List.setIfInBounds_toArray, List.set_cons_zero, List.set_cons_succ]))
        (refine wpS_skip ?_ ?_; rfl; (try simp only [Act.put, List.setIfInBounds_toArray, List.set_cons_zero, List.set_cons_succ]))
        (refine wpS_pure ?_ (fun w hw => ?_) ?_; rfl; (obtain ⟨hwc, hwf⟩ := bcell2 hw; go_simp; (try with_reducible rfl)); (try simp only [Act.put, List.setIfInBounds_toArray, List.set_cons_zero, List.set_cons_succ]))
        refine wpS_nil ?_
        intro w' hw'
        have hbR : Below w0.heap.size w0 w' := hw'
        obtain ⟨l4, r0, r1, r2, rf⟩ := hp.out.2.2.1.below hbR
        have s2 := hbR.size
        go_wp2_with fail
        refine bodyPost_ret (v := ?v) ?hr rfl ?post
        case hr => (simp [results, Try.results22, go_sem, r0, r1, r2, rf]; try rfl)
        case post =>
          have hbb := hp.out.2.2.2.1.trans (hbR.mono hp.out.2.2.2.1.size)
          exact ⟨_, _, _, rfl, by ((repeat' (first | (refine bel_set ?_ ?_ _) | (refine bel_al ?_ ?_ _) | exact Below.refl _ _ | assumption | (refine below_drewN ?_ _) | (refine Below.drew ?_) | (refine Below.trans ?_ (Below.mono hbb ?_)))) <;> (first | omega | (simp; done) | (simp; omega))), OC.nil _ _ _⟩
    · have g2 : re > 8 := by omega
      have g3 : decide (re < 0) = false := decide_eq_false g1
      have g4 : decide (8 < re) = true := decide_eq_true g2
      have g5 : decide (re > 8) = true := decide_eq_true g2
      clear hR
      go_enter Try.func22, Try.ntmps22
      go_upto_region 1 with fail
      rw [← hw0]
      clear hw0
      obtain ⟨lp, p0, p1, p2, p3⟩ := id PV
      obtain ⟨lq, q0, q1, q3⟩ := id PM
      have hp := Lib.hid (And.intro PV (And.intro PM (And.intro PN (And.intro hb0 PR))))
      clear PV PM PN hb0
      have hb1c := fun w1 => (by have h := h1 w1; rw [hsame.out] at h; exact h : Calls Try.prog 40 #[.agg #[.int .i64 W, .int .i64 H, .int .i64 D, .slice a n c], .agg #[.int .i64 W', .int .i64 H', .slice a' n' c']] w1 (fun e w' => e = .returned (.bool true) ∧ Below w1.heap.size w1 w'))
      refine wp_region_skip (by kernel_rfl) (by kernel_rfl) (by kernel_rfl) (by kernel_rfl) (fun w' => Below w0.heap.size w0 w') (below_drewN (Below.refl _ _) 1) [some (Eq1 ?q7347x2u0), some (Eq1 ?q7347x2u1), some (Eq1 (.agg #[.int .i64 W', .int .i64 H', .slice a' n' c'])), some (Eq1 (.bool true)), some (Eq1 ?q7347x2u4), some (Eq1 ?q7347x2u5), some (Eq1 ?q7347x2u6), some (Eq1 ?q7347x2u7), some (Eq1 ?q7347x2u8), some (Eq1 ?q7347x2u9), some (Eq1 ?q7347x2u10), some (Eq1 ?q7347x2u11), some (Eq1 ?q7347x2u12)] ?q7347x2main
      case q7347x2main =>
        (refine wpS_pure ?_ (fun w hw => ?_) ?_; rfl; (obtain ⟨hwc, hwf⟩ := bcell2 hw; go_simp; (try with_reducible rfl)); (try simp only [Act.put, List.setIfInBounds_toArray, List.set_cons_zero, List.set_cons_succ]))
        (refine wpS_pure ?_ (fun w hw => ?_) ?_; rfl; (obtain ⟨hwc, hwf⟩ := bcell2 hw; go_simp; (try with_reducible rfl)); (try simp only [Act.put, List.setIfInBounds_toArray, List.set_cons_zero, List.set_cons_succ]))
        (refine wpS_cls ?_ (fun w hw => ?_) ?_; rfl; (go_simp; refine (mapPic_any _ _ _ _ _ _).mono ?_; rintro _ _ ⟨rfl, hcb⟩; exact ⟨_, rfl, rfl, Below.trans hw (hcb.mono hw.size)⟩); (rintro _ rfl; (try simp only [Act.put, List.setIfInBounds_toArray, List.set_cons_zero, List.set_cons_succ])))
        (refine wpS_cls ?_ (fun w hw => ?_) ?_; rfl; (go_simp; refine (hb1c _).mono ?_; rintro _ _ ⟨rfl, hcb⟩; exact ⟨_, rfl, rfl, Below.trans hw (hcb.mono hw.size)⟩); (rintro _ rfl; (try simp only [Act.put, List.setIfInBounds_toArray, List.set_cons_zero, List.set_cons_succ])))
        (refine wpS_pure ?_ (fun w hw => ?_) ?_; rfl; (obtain ⟨hwc, hwf⟩ := bcell2 hw; go_simp; (try with_reducible rfl)); (try simp only [Act.put, List.setIfInBounds_toArray, List.set_cons_zero, List.set_cons_succ]))
        (refine wpS_pure ?_ (fun w hw => ?_) ?_; rfl; (obtain ⟨hwc, hwf⟩ := bcell2 hw; go_simp; (try with_reducible rfl)); (try simp only [Act.put, List.setIfInBounds_toArray, List.set_cons_zero, List.set_cons_succ]))
        (refine wpS_pure ?_ (fun w hw => ?_) ?_; rfl; (obtain ⟨hwc, hwf⟩ := bcell2 hw; go_simp; (try with_reducible rfl)); (try simp only [Act.put, List.setIfInBounds_toArray, List.set_cons_zero, List.set_cons_succ]))
        (refine wpS_pure ?_ (fun w hw => ?_) ?_; rfl; (obtain ⟨hwc, hwf⟩ := bcell2 hw; go_simp; (try with_reducible rfl)); (try simp only [Act.put, List.setIfInBounds_toArray, List.set_cons_zero, List.set_cons_succ]))
        (refine wpS_pure ?_ (fun w hw => ?_) ?_; rfl; (obtain ⟨hwc, hwf⟩ := bcell2 hw; go_simp; (try with_reducible rfl)); (try simp only [Act.put, List.setIfInBounds_toArray, List.set_cons_zero, List.set_cons_succ]))
        (refine wpS_pure ?_ (fun w hw => ?_) ?_; rfl; (obtain ⟨hwc, hwf⟩ := bcell2 hw; go_simp; (try with_reducible rfl)); (try simp only [Act.put, List.setIfInBounds_toArray, List.set_cons_zero, List.set_cons_succ]))
        (refine wpS_pure ?_ (fun w hw => ?_) ?_; rfl; (obtain ⟨hwc, hwf⟩ := bcell2 hw; go_simp; (try with_reducible rfl)); (try simp only [Act.put, List.setIfInBounds_toArray, List.set_cons_zero, List.set_cons_succ]))
        (refine wpS_pure ?_ (fun w hw => ?_) ?_; rfl; (obtain ⟨hwc, hwf⟩ := bcell2 hw; go_simp; (try with_reducible rfl)); (try simp only [Act.put, List.setIfInBounds_toArray, List.set_cons_zero, List.set_cons_succ]))
        (refine wpS_pure ?_ (fun w hw => ?_) ?_; rfl; (obtain ⟨hwc, hwf⟩ := bcell2 hw; go_simp; (try with_reducible rfl)); (try simp only [Act.put, List.setIfInBounds_toArray, List.set_cons_zero, List.set_cons_succ]))
        refine wpS_nil ?_
        intro w' hw'
        have hbR : Below w0.heap.size w0 w' := hw'
        obtain ⟨l4, r0, r1, r2, rf⟩ := hp.out.2.2.1.below hbR
        have s2 := hbR.size
        go_wp2_with fail
        refine bodyPost_ret (v := ?v) ?hr rfl ?post
        case hr => (simp [results, Try.results22, go_sem, r0, r1, r2, rf]; try rfl)
        case post =>
          have hbb := hp.out.2.2.2.1.trans (hbR.mono hp.out.2.2.2.1.size)
          exact ⟨_, _, _, rfl, by ((repeat' (first | (refine bel_set ?_ ?_ _) | (refine bel_al ?_ ?_ _) | exact Below.refl _ _ | assumption | (refine below_drewN ?_ _) | (refine Below.drew ?_) | (refine Below.trans ?_ (Below.mono hbb ?_)))) <;> (first | omega | (simp; done) | (simp; omega))), OC.nil _ _ _⟩
end Go.Proofs.Ytblaojflcemfdaa
