import Derived.Test.YtnbilmlpngcobaaSh
import Derived.Test.YtnbilmlpngcobaaCx
import Derived.Test.YtnbilmlpngcobaaPi
set_option linter.unusedVariables false
set_option linter.unusedSimpArgs false
namespace Go.Proofs.Ytnbilmlpngcobaa
open Go.FX Go.RowKit Go.WideShapes Go.ChangeShapes
theorem sel_no (c : Nat) : sel false c = 0 := rfl
theorem sel_yes (c : Nat) : sel true c = c := rfl
theorem smp_same (W H : Nat) (cs : List Nat) {r0 r1 c0 c1 : Nat} (h0 : Fl .f32 r0 c0) (h1 : Fl .f32 r1 c1) : sel (smpB r0 && smpB r1) (smpF W H cs r0 r1) = sel (smpB c0 && smpB c1) (smpF W H cs c0 c1) := by
  rw [h0.smp, h1.smp]
  cases e0 : smpB c0 with
  | false => rw [Bool.false_and, sel_no, sel_no]
  | true =>
    cases e1 : smpB c1 with
    | false => rw [Bool.and_false, sel_no, sel_no]
    | true => rw [h0.same (isF_not (smp_fin e0)), h1.same (isF_not (smp_fin e1))]
/-- The grey of a bent picture. -/
def bendB (ws : List Nat) (x y : Int) : Bool := smpB (wpU ws 0 (fi x) (fi y)) && smpB (wpU ws 1 (fi x) (fi y))
def bendF (W H : Nat) (cs ws : List Nat) (x y : Int) : Nat := sel (wpOk ws (fi x) (fi y)) (sel (bendB ws x y) (smpF W H cs (wpU ws 0 (fi x) (fi y)) (wpU ws 1 (fi x) (fi y))))
set_option maxHeartbeats 2000000 in
theorem bend_fn (W H : Nat) (a : Option Addr) (n c : Nat) (cs : List Nat) (aw : Option Addr) (nw cw : Nat) (ws : List Nat) (bq bp : Nat) (w : World) (hv : FC w (.slice a n c) cs) (hp : Pv w bp W H (.slice a n c)) (hw : FC w (.slice aw nw cw) ws) (hlt : bq < w.heap.size) (hcq : w.cell? ⟨bq, 0, none⟩ = some (.slice aw nw cw)) (b1 : 1 ≤ W) (b2 : W ≤ 24) (b3 : 1 ≤ H) (b4 : H ≤ 24) (b5 : H * W ≤ 256) (hl : cs.length = H * W) :
    GreyFn Try.prog 87 #[] #[.pointer (some ⟨bq, 0, none⟩), .pointer (some ⟨bp, 0, none⟩)] W H (bendF W H cs ws) w := fun w1 x y hb hx hy => by
  have hwp := fun w2 (h : Below w1.heap.size w1 w2) => implWarpPoint_any aw nw cw ws (fi x) (fi y) w2 ((hw.below hb).below h) (fi_lt _) (fi_lt _)
  have hsa := fun w2 r0 r1 (h : Below w1.heap.size w1 w2) (l0 : r0 < width .f32) (l1 : r1 < width .f32) => implSample_any W H a n c cs r0 r1 w2 ((hv.below hb).below h) b1 b2 b3 b4 b5 hl l0 l1
  have hP1 := hp.below hb
  obtain ⟨l0, p0, p1, p2⟩ := id hP1
  have q := (bcell hb).1 bq 0 hlt
  rw [hcq] at q
  have lq : bq < w1.heap.size := Nat.lt_of_lt_of_le hlt hb.size
  show Calls Try.prog 87 #[.int .i64 x, .int .i64 y, .pointer (some ⟨bq, 0, none⟩), .pointer (some ⟨bp, 0, none⟩)] w1 (RFb .f32 (sel (wpOk ws (fi x) (fi y)) (sel (bendB ws x y) (smpF W H cs (wpU ws 0 (fi x) (fi y)) (wpU ws 1 (fi x) (fi y))))) w1)
  have hS := fun r0 r1 (h0 : Fl .f32 r0 (wpU ws 0 (fi x) (fi y))) (h1 : Fl .f32 r1 (wpU ws 1 (fi x) (fi y))) => smp_same W H cs h0 h1
  have hB : bendB ws x y = (smpB (wpU ws 0 (fi x) (fi y)) && smpB (wpU ws 1 (fi x) (fi y))) := rfl
  rw [← hB] at hS
  clear hcq hv hp hl hb hw hB
  generalize wpU ws 0 (fi x) (fi y) = u0 at *
  generalize wpU ws 1 (fi x) (fi y) = u1 at *
  generalize bendB ws x y = okb at *
  cases hok : wpOk ws (fi x) (fi y) with
  | false =>
    rw [hok] at hwp
    rw [sel_no]
    go_enter Try.func87, Try.ntmps87
    go_wp2_with fail
    refine (hwp _ (Below.refl _ _)).mono ?_
    rintro e w2 ⟨r0, r1, rfl, hb2, h0, h1⟩
    go_wp2_with fail
    go_ret
    exact ⟨_, rfl, hb2, fl00⟩
  | true =>
    rw [hok] at hwp
    rw [sel_yes]
    generalize smpF W H cs u0 u1 = A at *
    go_enter Try.func87, Try.ntmps87
    go_wp2_with fail
    refine (hwp _ (Below.refl _ _)).mono ?_
    rintro e w2 ⟨r0, r1, rfl, hb2, h0, h1⟩
    have hs := hsa w2 r0 r1 hb2 h0.lt h1.lt
    rw [hS r0 r1 h0 h1] at hs
    generalize (smpB r0 && smpB r1) = ok2 at hs
    have P2 := hP1.below hb2
    clear p0 p1 p2
    obtain ⟨l2, p0, p1, p2⟩ := P2
    clear hS hsa hwp q
    go_wp2_with fail
    refine hs.mono ?_
    rintro e w3 ⟨r, rfl, hb3, hr⟩
    go_wp2_with fail
    go_ret
    exact ⟨_, rfl, hb2.trans (hb3.mono hb2.size), hr⟩
set_option maxHeartbeats 2000000 in
theorem implBend_of (aw : Option Addr) (nw cw : Nat) (ws : List Nat) (W H : Int) (a : Option Addr) (n c : Nat) (W' H' : Int) (cs' : List Nat) (ok : Bool) (w : World) (hw : FC w (.slice aw nw cw) ws) (hval : warpB ws = true)
    (h : ∀ w1, Below w.heap.size w w1 → w.heap.size < w1.heap.size → w1.cell? ⟨w.heap.size, 0, none⟩ = some (.slice aw nw cw) → Pv w1 (w.heap.size + 1) W H (.slice a n c) → Calls Try.prog 86 #[.agg #[.int .i64 W, .int .i64 H, .slice a n c], .int .i64 W, .int .i64 H, .func (.func 87) #[] #[.pointer (some ⟨w.heap.size, 0, none⟩), .pointer (some ⟨w.heap.size + 1, 0, none⟩)]] w1 (RPic 22 W' H' cs' ok w1)) :
    Calls Try.prog 29 #[.slice aw nw cw, .agg #[.int .i64 W, .int .i64 H, .slice a n c]] w (RPic 22 W' H' cs' ok w) := by
  have h1 := fun w1 (hb : Below w.heap.size w w1) => isWarp_any (.slice aw nw cw) ws w1 (hw.below hb)
  have hval := Lib.hid hval
  have hP2 := Pv.new (w.alloc (.cells #[.slice aw nw cw] 25)) W H (.slice a n c) 47
  have hN2 := Nv.new ((w.alloc (.cells #[.slice aw nw cw] 25)).alloc (.cells #[.int .i64 W, .int .i64 H, .slice a n c] 47)) (.int .i64 0) (.int .i64 0) (.slice none 0 0) 47
  simp only [World.size_alloc] at hP2 hN2
  clear hw
  go_enter Try.func29, Try.ntmps29
  go_wp2_with fail
  refine (h1 _ (by ((repeat' (first | (refine bel_set ?_ ?_ _) | (refine bel_al ?_ ?_ _) | exact Below.refl _ _ | assumption | (refine below_drewN ?_ _) | (refine Below.drew ?_))) <;> (first | omega | (simp; done) | (simp; omega))))).mono ?_
  rintro e w1 ⟨k, rfl, rfl⟩
  rw [hval.out]
  go_wp2_with fail
  refine (h _ (by ((repeat' (first | (refine bel_set ?_ ?_ _) | (refine bel_al ?_ ?_ _) | exact Below.refl _ _ | assumption | (refine below_drewN ?_ _) | (refine Below.drew ?_))) <;> (first | omega | (simp; done) | (simp; omega)))) (by simp; try omega) (by go_simp) ((hP2.alloc _).drewN _)).mono ?_
  rintro e w1 ⟨a1, n1, c1, rfl, hb1, ho1⟩
  obtain ⟨l1, q0, q1, q2, qf⟩ := (hN2.drewN _).below hb1
  go_wp2_with fail
  refine bodyPost_ret (v := ?v) ?hr rfl ?post
  case hr => (simp [results, Try.results29, go_sem, q0, q1, q2, qf]; try rfl)
  case post =>
    refine ⟨_, _, _, rfl, ?_, ?_⟩
    · ((repeat' (first | (refine bel_set ?_ ?_ _) | (refine bel_al ?_ ?_ _) | exact Below.refl _ _ | assumption | (refine below_drewN ?_ _) | (refine Below.drew ?_) | (refine Below.trans ?_ (Below.mono hb1 ?_)))) <;> (first | omega | (simp; done) | (simp; omega)))
    · (refine OC.mono (base := ?bb) ?hh ?hl; (case hh => ((repeat' (first | (refine OC.set ?_ _ ?_) | (refine OC.alloc ?_ _) | exact ho1 | (refine OC.drewN ?_ _))) <;> (first | omega | (simp; done) | (simp; omega)))); (case hl => (first | omega | (simp; done) | (simp; omega))))
theorem implBend_any (W H : Nat) (a : Option Addr) (n c : Nat) (cs : List Nat) (aw : Option Addr) (nw cw : Nat) (ws : List Nat) (w : World) (hw : FC w (.slice aw nw cw) ws) (hv : FC w (.slice a n c) cs) (hval : warpB ws = true) (b1 : 1 ≤ W) (b2 : W ≤ 24) (b3 : 1 ≤ H) (b4 : H ≤ 24) (b5 : H * W ≤ 256) (hl : cs.length = H * W) :
    Calls Try.prog 29 #[.slice aw nw cw, .agg #[.int .i64 W, .int .i64 H, .slice a n c]] w (RPic 22 W H (gridL W (bendF W H cs ws) (H * W)) true w) := by
  obtain ⟨rfl, hnc, hcm⟩ := hv.sized
  refine implBend_of aw nw cw ws W H a _ c _ _ _ _ w hw hval fun w1 hb hlt hcq hp => ?_
  exact drawFrom_any W H a cs.length c (validB_mk b1 b2 b3 b4 b5 hl) hnc hcm W H b1 b2 b3 b4 b5 _ _ _ _ w1 (enters_of Try.func87 (by kernel_rfl) rfl) (bend_fn W H a _ c cs aw nw cw ws _ _ w1 (hv.below hb) hp (hw.below hb) hlt hcq b1 b2 b3 b4 b5 hl)
theorem implBend_no (aw : Option Addr) (nw cw : Nat) (ws : List Nat) (W H : Int) (a : Option Addr) (n c : Nat) (w : World) (hw : FC w (.slice aw nw cw) ws) (hnc : n ≤ c) (hcm : c ≤ maxLen) (hval : warpB ws = false ∨ validB W H n = false) :
    Calls Try.prog 29 #[.slice aw nw cw, .agg #[.int .i64 W, .int .i64 H, .slice a n c]] w (RPic 22 0 0 [] false w) := by
  cases hr : warpB ws with
  | true =>
    have hm : validB W H n = false := by rcases hval with h | h; · rw [h] at hr; cases hr
                                         · exact h
    exact implBend_of aw nw cw ws W H a n c _ _ _ _ w hw hr fun w1 hb hlt hcq hp => drawFrom_no W H a n c hnc hcm W H (.inl hm) _ _ _ w1
  | false =>
    have h1 := fun w1 (hb : Below w.heap.size w w1) => isWarp_any (.slice aw nw cw) ws w1 (hw.below hb)
    have hr' := Lib.hid hr
    clear hr hval hw
    go_enter Try.func29, Try.ntmps29
    go_wp2_with fail
    refine (h1 _ (by ((repeat' (first | (refine bel_set ?_ ?_ _) | (refine bel_al ?_ ?_ _) | exact Below.refl _ _ | assumption | (refine below_drewN ?_ _) | (refine Below.drew ?_))) <;> (first | omega | (simp; done) | (simp; omega))))).mono ?_
    rintro e w1 ⟨k, rfl, rfl⟩
    rw [hr'.out]
    obtain ⟨l1, q0, q1, q2, qf⟩ := (Nv.new ((w.alloc (.cells #[.slice aw nw cw] 25)).alloc (.cells #[.int .i64 W, .int .i64 H, .slice a n c] 47)) (.int .i64 0) (.int .i64 0) (.slice none 0 0) 47).drewN k
    simp only [World.size_alloc] at l1 q0 q1 q2 qf
    go_wp2_with fail
    refine bodyPost_ret (v := ?v1) ?hr1 rfl ?post1
    case hr1 => (simp [results, Try.results29, go_sem, q0, q1, q2, qf]; try rfl)
    case post1 => exact ⟨_, _, _, rfl, by ((repeat' (first | (refine bel_set ?_ ?_ _) | (refine bel_al ?_ ?_ _) | exact Below.refl _ _ | assumption | (refine below_drewN ?_ _) | (refine Below.drew ?_))) <;> (first | omega | (simp; done) | (simp; omega))), OC.nil _ _ _⟩
end Go.Proofs.Ytnbilmlpngcobaa
