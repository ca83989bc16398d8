import Derived.Test.YthnidpmolafmaaaWl
import Derived.Deep.DrawnRows
set_option linter.unusedVariables false
set_option linter.unusedSimpArgs false
namespace Go.FX
open Go Go.RowKit
def geB (s m : Nat) : Bool := FloatKind.f32.format.order s m == some Ordering.gt || FloatKind.f32.format.order s m == some Ordering.eq
theorem geB_fl {r m s c : Nat} (hr : Fl .f32 r s) (hm : Fl .f32 m c) : geB r m = geB s c := by unfold geB; rw [hr.order hm]
def keepF (p s m : Nat) : Nat := if holeB p || geB s m then p else 3212836864
theorem keepF_l {p s m : Nat} (h : holeB p = true) : keepF p s m = p := by unfold keepF; rw [h]; rfl
theorem keepF_r {p s m : Nat} (h : geB s m = true) : keepF p s m = p := by unfold keepF; rw [h, Bool.or_true]; rfl
theorem keepF_no {p s m : Nat} (h : holeB p = false) (h' : geB s m = false) : keepF p s m = 3212836864 := by unfold keepF; rw [h, h']; rfl
end Go.FX
namespace Go.Proofs.Ythnidpmolafmaaa
open Go.FX Go.RowKit Go.WideShapes Go.ChangeShapes
attribute [local go_sem ↓] Go.wp_at_zero Go.wp_at_succ

theorem keepM_cells (W H : Nat) (cs cs' : List Nat) (m : Nat) (b1 : 1 ≤ W) (hl : cs.length = H * W) : gridL W (fun x y => keepF (atC W H cs x y) (atC W H cs' x y) m) (H * W) = seqL (fun i => keepF (cs.getD i 0) (cs'.getD i 0) m) cs.length := by
  rw [gridL_seq, hl]
  exact seqL_congr fun i hi => by rw [atC_lin cs b1 hi, atC_lin cs' b1 hi]
set_option maxRecDepth 100000 in
set_option maxHeartbeats 4000000 in
theorem keepM_fn (W H : Nat) (a : Option Addr) (n c : Nat) (cs : List Nat) (a' : Option Addr) (n' c' : Nat) (cs' : List Nat) (m cm : Nat) (hm : Fl .f32 m cm) (bp bq bm : Nat) (w : World) (hv : FC w (.slice a n c) cs) (hp : Pv w bp W H (.slice a n c)) (hv' : FC w (.slice a' n' c') cs') (hp' : Pv w bq W H (.slice a' n' c')) (hlm : bm < w.heap.size) (hcm : w.cell? ⟨bm, 0, none⟩ = some (.float .f32 m)) (b1 : 1 ≤ W) (b2 : W ≤ 24) (b3 : 1 ≤ H) (b4 : H ≤ 24) (hl : cs.length = H * W) (hl' : cs'.length = H * W) :
    GreyFn Try.prog 65 #[] #[.pointer (some ⟨bp, 0, none⟩), .pointer (some ⟨bq, 0, none⟩), .pointer (some ⟨bm, 0, none⟩)] W H (fun x y => keepF (atC W H cs x y) (atC W H cs' x y) cm) w := fun w1 x y hb hx hy => by
  have hat := fun w2 (h : Below w1.heap.size w1 w2) => mapAt_any W H (.slice a n c) cs x y w2 ((hv.below hb).below h) b1 b2 b4 hl hx hy
  have hat' := fun w2 (h : Below w1.heap.size w1 w2) => mapAt_any W H (.slice a' n' c') cs' x y w2 ((hv'.below hb).below h) b1 b2 b4 hl' hx hy
  have hP := hp.below hb
  have hQ := hp'.below hb
  have hM := (bcell hb).1 bm 0 hlm
  rw [hcm] at hM
  have lm : bm < w1.heap.size := Nat.lt_of_lt_of_le hlm hb.size
  obtain ⟨g1, e1⟩ : ∃ g, g = atC W H cs x y := ⟨_, rfl⟩
  obtain ⟨g2, e2⟩ : ∃ g, g = atC W H cs' x y := ⟨_, rfl⟩
  rw [← e1] at hat
  rw [← e2] at hat'
  have hE : Hid (keepF (atC W H cs x y) (atC W H cs' x y) cm = keepF g1 g2 cm) := Lib.hid (by rw [e1, e2])
  clear hv hp hv' hp' hl hl' hb e1 e2 hcm hlm
  obtain ⟨l0, p0, p1, p2⟩ := id hP
  show Calls Try.prog 65 #[.int .i64 x, .int .i64 y, .pointer (some ⟨bp, 0, none⟩), .pointer (some ⟨bq, 0, none⟩), .pointer (some ⟨bm, 0, none⟩)] w1 _
  cases hA : holeB g1 with
  | true =>
    have hA' := Lib.hid hA
    clear hA
    go_enter Try.func65, Try.ntmps65
    go_wp2_with fail
    refine (hat _ (by ((repeat' (first | (refine bel_set ?_ ?_ _) | (refine bel_al ?_ ?_ _) | exact Below.refl _ _ | assumption | (refine below_drewN ?_ _) | (refine Below.drew ?_))) <;> (first | omega | (simp; done) | (simp; omega))))).mono ?_
    rintro e w2 ⟨r1, rfl, hb2, hr1⟩
    have hh := Lib.hid ((holeB_fl hr1).trans hA'.out)
    go_wp2_with fail
    go_quiet ((go_at_call 63; exact Calls.quiet_of_same ((isHole_any _ _).mono fun _ _ ⟨he, hw⟩ => ⟨he.trans (by rw [hh.out]), hw.symm⟩)))
    go_wp2
    go_ret
    exact ⟨_, rfl, by ((repeat' (first | (refine bel_set ?_ ?_ _) | (refine bel_al ?_ ?_ _) | exact Below.refl _ _ | assumption | (refine below_drewN ?_ _) | (refine Below.drew ?_) | (refine Below.trans ?_ (Below.mono hb2 ?_)))) <;> (first | omega | (simp; done) | (simp; omega))), by rw [hE.out, keepF_l hA'.out]; exact hr1⟩
  | false =>
    have hA' := Lib.hid hA
    clear hA
    go_enter Try.func65, Try.ntmps65
    go_wp2_with fail
    refine (hat _ (by ((repeat' (first | (refine bel_set ?_ ?_ _) | (refine bel_al ?_ ?_ _) | exact Below.refl _ _ | assumption | (refine below_drewN ?_ _) | (refine Below.drew ?_))) <;> (first | omega | (simp; done) | (simp; omega))))).mono ?_
    rintro e w2 ⟨r1, rfl, hb2, hr1⟩
    have hh := Lib.hid ((holeB_fl hr1).trans hA'.out)
    have hM2 := ((bcell hb2).1 bm 0 lm).trans hM
    have lm2 : bm < w2.heap.size := Nat.lt_of_lt_of_le lm hb2.size
    obtain ⟨k1, q0, q1, q2⟩ := hQ.below hb2
    clear p0 p1 p2 hM
    go_wp2_with fail
    go_region_with
      (first
        | (go_at_call 63; (with_reducible refine (isHole_any _ _).mono ?_); rintro e w' ⟨rfl, rfl⟩; rw [hh.out])
        | (go_at_call 64; (with_reducible refine (hat' _ (by ((repeat' (first | (refine bel_set ?_ ?_ _) | (refine bel_al ?_ ?_ _) | exact Below.refl _ _ | assumption | (refine below_drewN ?_ _) | (refine Below.drew ?_) | (refine Below.trans ?_ (Below.mono hb2 ?_)))) <;> (first | omega | (simp; done) | (simp; omega))))).mono ?_); rintro e w3 ⟨r2, rfl, hb3, hr2⟩; have hbR : Below w2.heap.size w2 w3 := (by ((repeat' (first | (refine bel_set ?_ ?_ _) | (refine bel_al ?_ ?_ _) | exact Below.refl _ _ | assumption | (refine below_drewN ?_ _) | (refine Below.drew ?_) | (refine Below.trans ?_ (Below.mono hb3 ?_)))) <;> (first | omega | (simp; done) | (simp; omega)))); have hM3 := ((bcell hbR).1 bm 0 lm2).trans hM2))
    all_goals
      have hge := Lib.hid (geB_fl hr2 hm)
      cases t1 : (FloatKind.f32.format.order r2 m == some Ordering.gt) <;> cases t2 : (FloatKind.f32.format.order r2 m == some Ordering.eq)
      all_goals
        go_wp2_with fail
        go_ret
        first
          | exact ⟨_, rfl, hb2.trans (hbR.mono hb2.size), by rw [hE.out, keepF_r (hge.out.symm.trans (by unfold geB; rw [t1, t2]; rfl))]; exact hr1⟩
          | exact ⟨_, rfl, hb2.trans (hbR.mono hb2.size), by rw [hE.out, keepF_no hA'.out (hge.out.symm.trans (by unfold geB; rw [t1, t2]; rfl))]; exact flM1⟩
theorem below1' {n : Nat} (w : World) (o : Obj) (hn : n ≤ w.heap.size) : Below n w (w.alloc o) := (Below.refl _ _).alloc hn o
set_option maxHeartbeats 2000000 in
theorem implKeepMap_of (W H : Int) (a : Option Addr) (n c : Nat) (X Y : Int) (a' : Option Addr) (n' c' : Nat) (m : Nat) (W' H' : Int) (cs' : List Nat) (ok : Bool) (w : World)
    (hd : ∀ w0, Pv w0 w.heap.size W H (.slice a n c) → Pv w0 (w.heap.size + 1) X Y (.slice a' n' c') → w.heap.size + 1 + 1 < w0.heap.size → w0.cell? ⟨w.heap.size + 1 + 1, 0, none⟩ = some (.float .f32 m) → Below w.heap.size w w0 → ∀ w1, Below w0.heap.size w0 w1 → Calls Try.prog 61 #[.agg #[.int .i64 W, .int .i64 H, .slice a n c], .agg #[.int .i64 X, .int .i64 Y, .slice a' n' c'], .func (.func 65) #[] #[.pointer (some ⟨w.heap.size, 0, none⟩), .pointer (some ⟨w.heap.size + 1, 0, none⟩), .pointer (some ⟨w.heap.size + 1 + 1, 0, none⟩)]] w1 (RPic 35 W' H' cs' ok w0)) :
    Calls Try.prog 25 #[.agg #[.int .i64 W, .int .i64 H, .slice a n c], .agg #[.int .i64 X, .int .i64 Y, .slice a' n' c'], .float .f32 m] w (RPic 35 W' H' cs' ok w) := by
  have hP := (((Pv.new w W H (.slice a n c) 26).alloc (.cells #[.int .i64 X, .int .i64 Y, .slice a' n' c'] 26)).alloc (.cells #[.float .f32 m] 35)).alloc (.cells #[.int .i64 0, .int .i64 0, .slice none 0 0] 26)
  have hQ := ((Pv.new (w.alloc (.cells #[.int .i64 W, .int .i64 H, .slice a n c] 26)) X Y (.slice a' n' c') 26).alloc (.cells #[.float .f32 m] 35)).alloc (.cells #[.int .i64 0, .int .i64 0, .slice none 0 0] 26)
  have hN := Nv.new (((w.alloc (.cells #[.int .i64 W, .int .i64 H, .slice a n c] 26)).alloc (.cells #[.int .i64 X, .int .i64 Y, .slice a' n' c'] 26)).alloc (.cells #[.float .f32 m] 35)) (.int .i64 0) (.int .i64 0) (.slice none 0 0) 26
  simp only [World.size_alloc] at hQ hN
  go_enter Try.func25, Try.ntmps25
  go_upto_region 1 with fail
  obtain ⟨w0, hw0⟩ : ∃ w0, w0 = ((((w.alloc (.cells #[.int .i64 W, .int .i64 H, .slice a n c] 26)).alloc (.cells #[.int .i64 X, .int .i64 Y, .slice a' n' c'] 26)).alloc (.cells #[.float .f32 m] 35)).alloc (.cells #[.int .i64 0, .int .i64 0, .slice none 0 0] 26)) := ⟨_, rfl⟩
  have hb0 : Below w.heap.size w w0 := by rw [hw0]; exact (below3 _ _ _ _).trans (below1' _ _ (by simp; try omega))
  have hmc : w0.cell? ⟨w.heap.size + 1 + 1, 0, none⟩ = some (.float .f32 m) := by rw [hw0]; go_simp
  rw [← hw0] at hP hQ hN ⊢
  clear hw0
  have hlm : w.heap.size + 1 + 1 < w0.heap.size := by have := hN.1; omega
  have hd := hd w0 hP hQ hlm hmc hb0
  obtain ⟨l1, p0, p1, p2⟩ := id hP
  obtain ⟨l2, q0, q1, q2⟩ := id hQ
  have l3 := hN.1
  go_cut [6, 7] (fun s4 s5 wx => ∃ a3 n3 c3, s4 = .pointer (some ⟨w.heap.size + 1 + 1 + 1, 0, none⟩) ∧ s5 = .bool ok ∧ Nv wx (w.heap.size + 1 + 1 + 1) (.int .i64 W') (.int .i64 H') (.slice a3 n3 c3) ∧ Below w.heap.size w wx ∧ OC wx w.heap.size 35 (.slice a3 n3 c3) cs')
  case first =>
    go_region_with
      (first
        | (go_at_call 53; (with_reducible refine (mapPic_any _ _ _ _ _ _).mono ?_); rintro e w1 ⟨rfl, hb1⟩; have hJ : Below w0.heap.size w0 w1 := (by ((repeat' (first | (refine bel_set ?_ ?_ _) | (refine bel_al ?_ ?_ _) | exact Below.refl _ _ | assumption | (refine below_drewN ?_ _) | (refine Below.drew ?_) | (refine Below.trans ?_ (Below.mono hb1 ?_)))) <;> (first | omega | (simp; done) | (simp; omega)))); obtain ⟨_, pa, pb, pc⟩ := hP.below hJ)
        | (go_at_call 61; (with_reducible refine (hd _ (by ((repeat' (first | (refine bel_set ?_ ?_ _) | (refine bel_al ?_ ?_ _) | exact Below.refl _ _ | assumption | (refine below_drewN ?_ _) | (refine Below.drew ?_) | (refine Below.trans ?_ (Below.mono hb1 ?_)))) <;> (first | omega | (simp; done) | (simp; omega))))).mono ?_); rintro e w2 ⟨a2, n2, c2, rfl, hb2, ho2⟩; have hN2 := hN.below hb2; obtain ⟨_, r0, r1, r2, rf⟩ := id hN2))
    all_goals go_wp2_with fail
    all_goals go_meet
    all_goals exact ⟨_, _, _, rfl, rfl, hN2.set0.set1.set2, bel_set (bel_set (bel_set (hb0.trans (hb2.mono hb0.size)) (by simp; omega) _) (by simp; omega) _) (by simp; omega) _, OC.mono (OC.set (OC.set (OC.set ho2 _ (by exact l3)) _ (by exact l3)) _ (by exact l3)) hb0.size⟩
  case rest =>
    obtain ⟨a3, n3, c3, rfl, rfl, hN3, hb3, ho3⟩ := hcut
    obtain ⟨_, r0, r1, r2, rf⟩ := hN3
    go_wp2_with fail
    refine bodyPost_ret (v := ?v) ?hr rfl ?post
    case hr => (simp [results, Try.results25, go_sem, r0, r1, r2, rf]; try rfl)
    case post => exact ⟨_, _, _, rfl, hb3, ho3⟩
theorem implKeepMap_any (W H : Nat) (a : Option Addr) (n c : Nat) (cs : List Nat) (a' : Option Addr) (n' c' : Nat) (cs' : List Nat) (w : World) (hv : FC w (.slice a n c) cs) (hv' : FC w (.slice a' n' c') cs') (b1 : 1 ≤ W) (b2 : W ≤ 24) (b3 : 1 ≤ H) (b4 : H ≤ 24) (b5 : H * W ≤ 256) (hl : cs.length = H * W) (hl' : cs'.length = H * W) (m cm : Nat) (hm : Fl .f32 m cm) :
    Calls Try.prog 25 #[.agg #[.int .i64 W, .int .i64 H, .slice a n c], .agg #[.int .i64 W, .int .i64 H, .slice a' n' c'], .float .f32 m] w (RPic 35 W H (seqL (fun i => keepF (cs.getD i 0) (cs'.getD i 0) cm) cs.length) true w) := by
  obtain ⟨rfl, hnc, hcm⟩ := hv.sized
  obtain ⟨rfl, hnc', hcm'⟩ := hv'.sized
  rw [← keepM_cells W H cs cs' cm b1 hl]
  refine implKeepMap_of _ _ _ _ _ _ _ _ _ _ _ _ _ _ _ w fun w0 hP hQ hlm hmc hb0 w1 hb1 => ?_
  have hG := keepM_fn W H a _ c cs a' _ c' cs' m cm hm _ _ _ w0 (hv.below hb0) hP (hv'.below hb0) hQ hlm hmc b1 b2 b3 b4 hl hl'
  refine (redrawWith_of _ _ _ _ _ _ _ _ _ _ hnc hcm hnc' hcm' _ _ _ _ _ _ _ w1 (pairM_self (validB_mk b1 b2 b3 b4 b5 hl) (validB_mk b1 b2 b3 b4 b5 hl')) fun w2 hb2 => redraw_of _ _ _ _ _ _ _ _ _ _ _ _ w2 fun w3 hb3 => redrawAs_of _ _ _ _ _ _ _ _ _ _ _ _ _ _ w3 fun w4 hb4 => ?_).mono fun e w' h => RPic.back hb1 h
  exact drawFrom_any W H a cs.length c (validB_mk b1 b2 b3 b4 b5 hl) hnc hcm W H b1 b2 b3 b4 b5 _ _ _ _ w4 (enters_of Try.func65 (by kernel_rfl) rfl) (hG.later (hb1.trans ((hb2.trans ((hb3.trans (hb4.mono hb3.size)).mono hb2.size)).mono hb1.size)))
theorem implKeepMap_no (W H : Int) (a : Option Addr) (n c : Nat) (X Y : Int) (a' : Option Addr) (n' c' : Nat) (m : Nat) (w : World) (hnc : n ≤ c) (hcm : c ≤ maxLen) (hnc' : n' ≤ c') (hcm' : c' ≤ maxLen) (hval : pairB W H n X Y n' = false) :
    Calls Try.prog 25 #[.agg #[.int .i64 W, .int .i64 H, .slice a n c], .agg #[.int .i64 X, .int .i64 Y, .slice a' n' c'], .float .f32 m] w (RPic 35 0 0 [] false w) :=
  implKeepMap_of _ _ _ _ _ _ _ _ _ _ _ _ _ _ _ w fun w0 hP hQ hlm hmc hb0 w1 hb1 => (redrawWith_no _ _ _ _ _ _ _ _ _ _ hnc hcm hnc' hcm' _ _ _ w1 hval).mono fun e w' h => RPic.back hb1 h
set_option maxRecDepth 100000 in
set_option maxHeartbeats 8000000 in
theorem specKeepMap_any (W H : Nat) (a : Option Addr) (n c : Nat) (cs : List Nat) (a' : Option Addr) (n' c' : Nat) (cs' : List Nat) (w : World) (hv : FC w (.slice a n c) cs) (hv' : FC w (.slice a' n' c') cs') (b1 : 1 ≤ W) (b2 : W ≤ 24) (b3 : 1 ≤ H) (b4 : H ≤ 24) (b5 : H * W ≤ 256) (hl : cs.length = H * W) (hl' : cs'.length = H * W) (m cm : Nat) (hm : Fl .f32 m cm) :
    Calls Try.prog 24 #[.agg #[.int .i64 W, .int .i64 H, .slice a n c], .agg #[.int .i64 W, .int .i64 H, .slice a' n' c'], .float .f32 m] w (RPic 35 W H (seqL (fun i => keepF (cs.getD i 0) (cs'.getD i 0) cm) cs.length) true w) := by
  obtain ⟨rfl, hnc, hcm⟩ := hv.sized
  obtain ⟨rfl, hnc', hcm'⟩ := hv'.sized
  have hval := Lib.hid (pairM_self (validB_mk b1 b2 b3 b4 b5 hl) (validB_mk b1 b2 b3 b4 b5 hl'))
  have h1 := fun w1 hp hp' => specAlikeM_any W H a cs.length c w.heap.size W H a' cs'.length c' (w.heap.size + 1) w1 hp hp' (by omega) (by unfold maxLen at hcm; omega) (by unfold maxLen at hcm'; omega)
  have h256 : cs.length ≤ 256 := by omega
  have h0 : 0 < cs.length := by rw [hl]; exact Nat.mul_pos b3 b1
  have h3 := fun w1 (hb : Below w.heap.size w w1) hp => specMOwn_any W H a cs.length c w.heap.size cs w1 hp (hv.below hb) h0 (by omega)
  have hll := Lib.hid (hl'.trans hl.symm)
  clear hl hl'
  go_enter Try.func24, Try.ntmps24
  go_wp2_with fail
  have hP1 := ((Pv.new w W H (.slice a cs.length c) 26).alloc (.cells #[.int .i64 W, .int .i64 H, .slice a' cs'.length c'] 26)).alloc (.cells #[.int .i64 0, .int .i64 0, .slice none 0 0] 26)
  have hP2 := (Pv.new (w.alloc (.cells #[.int .i64 W, .int .i64 H, .slice a cs.length c] 26)) W H (.slice a' cs'.length c') 26).alloc (.cells #[.int .i64 0, .int .i64 0, .slice none 0 0] 26)
  have hN := Nv.new ((w.alloc (.cells #[.int .i64 W, .int .i64 H, .slice a cs.length c] 26)).alloc (.cells #[.int .i64 W, .int .i64 H, .slice a' cs'.length c'] 26)) (.int .i64 0) (.int .i64 0) (.slice none 0 0) 26
  simp only [World.size_alloc] at hP2 hN
  refine (h1 _ hP1 hP2).mono ?_
  rintro e w1 ⟨k0, rfl, rfl⟩
  rw [hval.out]
  obtain ⟨w0, hw0⟩ : ∃ w0, w0 = (((w.alloc (.cells #[.int .i64 W, .int .i64 H, .slice a cs.length c] 26)).alloc (.cells #[.int .i64 W, .int .i64 H, .slice a' cs'.length c'] 26)).alloc (.cells #[.int .i64 0, .int .i64 0, .slice none 0 0] 26)).drewN k0 := ⟨_, rfl⟩
  rw [← hw0]
  have hp0 : Pv w0 w.heap.size W H (.slice a cs.length c) := by rw [hw0]; exact hP1.drewN k0
  have hq0 : Pv w0 (w.heap.size + 1) W H (.slice a' cs'.length c') := by rw [hw0]; exact hP2.drewN k0
  have hn0 : Nv w0 (w.heap.size + 1 + 1) (.int .i64 0) (.int .i64 0) (.slice none 0 0) := by rw [hw0]; exact hN.drewN k0
  have hb0 : Below w.heap.size w w0 := by rw [hw0]; exact below_drewN (below3 _ _ _ _) _
  have hlt0 : w.heap.size + 1 + 1 < w0.heap.size := hn0.1
  clear hw0 hP1 hP2 hN
  obtain ⟨hp1, p0, p1, p2⟩ := id hp0
  have h3 := h3 w0 hb0 hp0
  have hpv := Lib.hid (And.intro hp0 (And.intro (hv.below hb0) (And.intro hn0 (And.intro hq0 (And.intro (hv'.below hb0) hb0)))))
  clear hp0 hn0 hb0 hq0 hv hv' h1
  go_wp2_with fail
  refine h3.mono ?_
  rintro e w1 ⟨a1, n1, c1, rfl, hb1, ho1⟩
  obtain ⟨bo, hbo0⟩ : ∃ b, b = w1.heap.size := ⟨_, rfl⟩
  have hmk := Lib.hid (Mk.start1 (W := (W : Int)) (H := (H : Int)) (T := 26) hb1 ho1)
  rw [← hbo0] at hmk
  have hln := ho1.fc.sized.1
  clear hb1 ho1 h3
  subst hln
  go_wp2_with fail
  rw [← hbo0]
  clear hbo0 p0 p1 p2
  go_loopw [17] (fun i wr => ∃ k : Nat, k ≤ cs.length ∧ i = .int .i64 k ∧ Hid (Mk 35 w0 bo W H (part2 (fun i => keepF (cs.getD i 0) (cs'.getD i 0) cm) cs k) wr)) (fun i _ => cs.length - (intOf i).toNat)
  case atStart => exact ⟨0, Nat.zero_le _, rfl, by rw [part2_zero]; exact hmk⟩
  case round =>
    clear hmk
    obtain ⟨k, hk, rfl, hmk⟩ := hrel
    obtain ⟨a2, n2, c2, hN, ho, hne, hbo, hbl⟩ := hmk.out
    by_cases hlk : k < cs.length
    · obtain ⟨_, e0, e1, e2⟩ := hpv.out.1.below hbl
      obtain ⟨_, g0, g1, g2⟩ := hpv.out.2.2.2.1.below hbl
      have hlen := part2_len (fun i => keepF (cs.getD i 0) (cs'.getD i 0) cm) cs k (by omega)
      obtain ⟨g, cap, eg, hn2, rr⟩ := OC.own_form ho (by rw [hlen]; omega)
      obtain ⟨rfl, _, rfl⟩ := Value.slice.inj eg
      clear eg
      rw [hlen] at hn2
      subst hn2
      obtain ⟨zold, holdF, hold⟩ := ho.row_at (k := k) (by rw [hlen]; omega)
      obtain ⟨_, j0, j1, j2, jf⟩ := id hN
      obtain ⟨b1', off1, cc1, z1, ev1, _, _, _, hz1f, hz1c⟩ := (hpv.out.2.1.below hbl).cell hlk
      obtain ⟨b2', off2, cc2, z2, ev2, _, _, _, hz2f, hz2c⟩ := (hpv.out.2.2.2.2.1.below hbl).cell (k := k) (by rw [hll.out]; exact hlk)
      simp only [Value.slice.injEq, true_and] at ev1 ev2
      obtain ⟨rfl, rfl⟩ := ev1
      obtain ⟨rfl, rfl⟩ := ev2
      obtain ⟨x1, hx1⟩ : ∃ x, x = cs.getD k 0 := ⟨_, rfl⟩
      obtain ⟨x2, hx2⟩ : ∃ x, x = cs'.getD k 0 := ⟨_, rfl⟩
      rw [← hx1] at hz1f
      rw [← hx2] at hz2f
      have hset := Lib.hid (part2_set (fun i => keepF (cs.getD i 0) (cs'.getD i 0) cm) cs k (by omega))
      have hkeep := Lib.hid (part2_keep (fun i => keepF (cs.getD i 0) (cs'.getD i 0) cm) cs k (by omega))
      have hput := Lib.hid (Mk.put hN ho hne hbo hbl (k := k) (by rw [hlen]; omega) flM1)
      have hfz : wr.frozen? ⟨g, k, none⟩ = false := rr _
      have i1 : (0 : Int) ≤ (k : Int) := Int.natCast_nonneg _
      have i2 : (k : Int) < (cs.length : Int) := by omega
      have i3 : (k : Int) < (cs'.length : Int) := by have := hll.out; omega
      have hx1' := Lib.hid hx1
      have hx2' := Lib.hid hx2
      have hh1 := Lib.hid (holeB_fl hz1f)
      have hh2 := Lib.hid (geB_fl hz2f hm)
      clear hN ho hne hbl holdF hlen rr hx1 hx2
      cases hA : holeB x1 with
      | true =>
        have hA' := Lib.hid hA
        clear hA
        go_wp2_with fail
        refine (specHole_any _ _).mono ?_
        rintro e w' ⟨rfl, rfl⟩
        rw [hh1.out, hA'.out]
        go_wp2_with fail
        go_roundw
        case rel => exact ⟨k + 1, by omega, by go_num, by rw [← hkeep.out (by rw [← hx1'.out]; exact keepF_l hA'.out)]; exact hmk⟩
        case measure => simp [intOf]; omega
      | false =>
        have hA' := Lib.hid hA
        clear hA
        cases t1 : (FloatKind.f32.format.order z2 m == some Ordering.gt) <;> cases t2 : (FloatKind.f32.format.order z2 m == some Ordering.eq)
        case false.false =>
          have hB' := Lib.hid (hh2.out.symm.trans (by unfold geB; rw [t1, t2]; rfl : geB z2 m = false))
          go_wp2_with fail
          refine (specHole_any _ _).mono ?_
          rintro e w' ⟨rfl, rfl⟩
          rw [hh1.out, hA'.out]
          go_wp2_with fail
          go_roundw
          case rel =>
            have hM := hput.out
            have he : (3212836864 : Nat) = keepF (cs.getD k 0) (cs'.getD k 0) cm := by rw [← hx1'.out, ← hx2'.out]; exact (keepF_no hA'.out hB'.out).symm
            have hs := Eq.trans (congrArg (fun x => (part2 (fun i => keepF (cs.getD i 0) (cs'.getD i 0) cm) cs k).set k x) he) hset.out
            rw [hs] at hM
            exact ⟨k + 1, by omega, by go_num, hM⟩
          case measure => simp [intOf]; omega
        all_goals
          have hB' := Lib.hid (hh2.out.symm.trans (by unfold geB; rw [t1, t2]; rfl : geB z2 m = true))
          go_wp2_with fail
          refine (specHole_any _ _).mono ?_
          rintro e w' ⟨rfl, rfl⟩
          rw [hh1.out, hA'.out]
          go_wp2_with fail
          go_roundw
          case rel => exact ⟨k + 1, by omega, by go_num, by rw [← hkeep.out (by rw [← hx1'.out, ← hx2'.out]; exact keepF_r hB'.out)]; exact hmk⟩
          case measure => simp [intOf]; omega
    · obtain rfl : k = cs.length := by omega
      obtain ⟨_, f0, f1, f2, f3⟩ := hN
      obtain ⟨_, r0, r1, r2, rf⟩ := hpv.out.2.2.1.below hbl
      have hoc := Lib.hid ho
      clear ho
      go_wp2_with fail
      refine bodyPost_ret (v := ?v) ?hr rfl ?post
      case hr => (simp [results, Try.results24, go_sem, f0, f1, f2, r0, r1, r2, rf]; try rfl)
      case post =>
        have h0 := hpv.out.2.2.2.2.2
        have hoo := hoc.out
        rw [part2_end] at hoo
        refine ⟨_, _, _, rfl, ?_, ?_⟩
        · ((repeat' (first | (refine bel_set ?_ ?_ _) | (refine bel_al ?_ ?_ _) | exact Below.refl _ _ | assumption | (refine below_drewN ?_ _) | (refine Below.drew ?_) | (refine Below.trans ?_ (Below.mono hbl ?_)))) <;> (first | omega | (simp; done) | (simp; omega)))
        · (refine OC.mono (base := ?bb) ?hh ?hl; (case hh => ((repeat' (first | (refine OC.set ?_ _ ?_) | (refine OC.alloc ?_ _) | exact hoo | (refine OC.drewN ?_ _))) <;> (first | omega | (simp; done) | (simp; omega)))); (case hl => (first | omega | (simp; done) | (simp; omega))))
theorem specKeepMap_no (W H : Int) (a : Option Addr) (n c : Nat) (W' H' : Int) (a' : Option Addr) (n' c' : Nat) (m : Nat) (w : World) (hnc : n ≤ c) (hcm : c ≤ maxLen) (hnc' : n' ≤ c') (hcm' : c' ≤ maxLen) (hval : pairB W H n W' H' n' = false) :
    Calls Try.prog 24 #[.agg #[.int .i64 W, .int .i64 H, .slice a n c], .agg #[.int .i64 W', .int .i64 H', .slice a' n' c'], .float .f32 m] w (RPic 35 0 0 [] false w) := by
  have h1 := fun w1 hp hp' => specAlikeM_any W H a n c w.heap.size W' H' a' n' c' (w.heap.size + 1) w1 hp hp' (by omega) (by unfold maxLen at hcm; omega) (by unfold maxLen at hcm'; omega)
  have hval := Lib.hid hval
  go_enter Try.func24, Try.ntmps24
  go_wp2_with fail
  have hP1 := ((Pv.new w W H (.slice a n c) 26).alloc (.cells #[.int .i64 W', .int .i64 H', .slice a' n' c'] 26)).alloc (.cells #[.int .i64 0, .int .i64 0, .slice none 0 0] 26)
  have hP2 := (Pv.new (w.alloc (.cells #[.int .i64 W, .int .i64 H, .slice a n c] 26)) W' H' (.slice a' n' c') 26).alloc (.cells #[.int .i64 0, .int .i64 0, .slice none 0 0] 26)
  simp only [World.size_alloc] at hP2
  refine (h1 _ hP1 hP2).mono ?_
  rintro e w1 ⟨k, rfl, rfl⟩
  rw [hval.out]
  go_wp2_with fail
  refine bodyPost_ret (v := ?v) ?hr rfl ?post
  case hr => (simp [results, Try.results24, go_sem]; try rfl)
  case post => exact ⟨_, _, _, rfl, by ((repeat' (first | (refine bel_set ?_ ?_ _) | (refine bel_al ?_ ?_ _) | exact Below.refl _ _ | assumption | (refine below_drewN ?_ _) | (refine Below.drew ?_))) <;> (first | omega | (simp; done) | (simp; omega))), OC.nil _ _ _⟩
theorem pairKeepMap (W H : Int) (cs : List Nat) (W' H' : Int) (cs' : List Nat) (m : Nat) (hm : m < width .f32) :
    ∃ (W2 H2 : Int) (cs2 : List Nat) (ok : Bool),
      (∀ a n c a' n' c' w, FC w (.slice a n c) cs → FC w (.slice a' n' c') cs' → Calls Try.prog 24 #[.agg #[.int .i64 W, .int .i64 H, .slice a n c], .agg #[.int .i64 W', .int .i64 H', .slice a' n' c'], .float .f32 m] w (RPic 35 W2 H2 cs2 ok w)) ∧
      (∀ a n c a' n' c' w, FC w (.slice a n c) cs → FC w (.slice a' n' c') cs' → Calls Try.prog 25 #[.agg #[.int .i64 W, .int .i64 H, .slice a n c], .agg #[.int .i64 W', .int .i64 H', .slice a' n' c'], .float .f32 m] w (RPic 35 W2 H2 cs2 ok w)) ∧ cs2.length ≤ 256 := by
  cases hv : pairB W H cs.length W' H' cs'.length with
  | false =>
    refine ⟨0, 0, [], false, fun a n c a' n' c' w hv hv' => ?_, fun a n c a' n' c' w hv hv' => ?_, by simp⟩
    · obtain ⟨rfl, h1, h2⟩ := hv.sized
      obtain ⟨rfl, h3, h4⟩ := hv'.sized
      exact specKeepMap_no W H a _ c W' H' a' _ c' m w h1 h2 h3 h4 (by assumption)
    · obtain ⟨rfl, h1, h2⟩ := hv.sized
      obtain ⟨rfl, h3, h4⟩ := hv'.sized
      exact implKeepMap_no W H a _ c W' H' a' _ c' m w h1 h2 h3 h4 (by assumption)
  | true =>
    unfold pairB at hv
    simp only [Bool.and_eq_true, decide_eq_true_eq] at hv
    obtain ⟨hv, hv', rfl, rfl⟩ := hv
    obtain ⟨Wn, Hn, rfl, rfl, b1, b2, b3, b4, b5, hl⟩ := validB_parts hv
    obtain ⟨Wm, Hm, e1, e2, _, _, _, _, _, hl'⟩ := validB_parts hv'
    obtain rfl : Wm = Wn := by omega
    obtain rfl : Hm = Hn := by omega
    exact ⟨_, _, _, _, fun a n c a' n' c' w hv hv' => specKeepMap_any Wm Hm a n c cs a' n' c' cs' w hv hv' b1 b2 b3 b4 b5 hl hl' m _ (Fl.of hm), fun a n c a' n' c' w hv hv' => implKeepMap_any Wm Hm a n c cs a' n' c' cs' w hv hv' b1 b2 b3 b4 b5 hl hl' m _ (Fl.of hm), by rw [seqL_len]; omega⟩
end Go.Proofs.Ythnidpmolafmaaa
