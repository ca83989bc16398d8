import Derived.Test.YthnidpmolafmaaaWa
import Derived.Deep.DrawnRows
set_option linter.unusedVariables false
set_option linter.unusedSimpArgs false
namespace Go.FX
open Go Go.RowKit
def scaledF (c b : Nat) : Nat := if holeB c then 3212836864 else fop .mul .f32 c b
theorem scaledF_l {c b : Nat} (h : holeB c = true) : scaledF c b = 3212836864 := by unfold scaledF; rw [h]; rfl
theorem scaledF_no {c b : Nat} (h : holeB c = false) : scaledF c b = fop .mul .f32 c b := by unfold scaledF; rw [h]; rfl
theorem flH : Fl .f32 1056964608 1056964608 := ⟨by decide, by decide⟩
theorem flT : Fl .f32 1073741824 1073741824 := ⟨by decide, by decide⟩
end Go.FX
namespace Go.Proofs.Ythnidpmolafmaaa
open Go.FX Go.RowKit Go.WideShapes Go.ChangeShapes
attribute [local go_sem ↓] Go.wp_at_zero Go.wp_at_succ

theorem scaled_any (v c b cb : Nat) (hv : Fl .f32 v c) (hb : Fl .f32 b cb) (w : World) : Calls Try.prog 90 #[.float .f32 v, .float .f32 b] w (RFb .f32 (scaledF c cb) w) := by
  have hh := Lib.hid (holeB_fl hv)
  cases hA : holeB c with
  | true =>
    have hA' := Lib.hid hA
    clear hA
    go_enter Try.func90, Try.ntmps90
    go_wp2_with fail
    refine (isHole_any _ _).mono ?_
    rintro e w' ⟨rfl, rfl⟩
    rw [hh.out, hA'.out]
    go_wp2_with fail
    go_ret
    exact ⟨_, rfl, Below.refl _ _, by rw [scaledF_l hA'.out]; exact flM1⟩
  | false =>
    have hA' := Lib.hid hA
    clear hA
    go_enter Try.func90, Try.ntmps90
    go_wp2_with fail
    refine (isHole_any _ _).mono ?_
    rintro e w' ⟨rfl, rfl⟩
    rw [hh.out, hA'.out]
    go_wp2_with fail
    go_ret
    exact ⟨_, rfl, below_drewN (Below.refl _ _) _, by rw [scaledF_no hA'.out]; exact hv.flR hb _⟩
set_option maxHeartbeats 1000000 in
theorem halved_fn (W H : Nat) (a : Option Addr) (n c : Nat) (cs : List Nat) (W' H' : Nat) (hW : W' = (W + 1) / 2) (hH : H' = (H + 1) / 2) (w : World) (hv : FC w (.slice a n c) cs) (b1 : 1 ≤ W) (b2 : W ≤ 24) (b3 : 1 ≤ H) (b4 : H ≤ 24) (hl : cs.length = H * W) :
    GreyFn Try.prog 67 #[.agg #[.int .i64 W, .int .i64 H, .slice a n c]] #[] W' H' (fun x y => scaledF (atC W H cs (2 * x) (2 * y)) 1056964608) w := fun w1 x y hb hx hy => by
  have hat := fun xi yi (ex : xi = ((2 * x : Nat) : Int)) (ey : yi = ((2 * y : Nat) : Int)) w2 (h : Below w1.heap.size w1 w2) => (by subst ex; subst ey; exact mapAt_any W H (.slice a n c) cs (2 * x) (2 * y) w2 ((hv.below hb).below h) b1 b2 b4 hl (by omega) (by omega) : Calls Try.prog 64 #[.agg #[.int .i64 W, .int .i64 H, .slice a n c], .int .i64 xi, .int .i64 yi] w2 (RFb .f32 (atC W H cs ((2 * x : Nat) : Int) ((2 * y : Nat) : Int)) w2))
  have hE : Hid (atC W H cs (2 * (x : Int)) (2 * (y : Int)) = atC W H cs ((2 * x : Nat) : Int) ((2 * y : Nat) : Int)) := Lib.hid (by rw [Int.natCast_mul, Int.natCast_mul]; rfl)
  have hW24 : x ≤ 24 := by omega
  have hH24 : y ≤ 24 := by omega
  clear hv hl hb hW hH
  show Calls Try.prog 67 #[.agg #[.int .i64 W, .int .i64 H, .slice a n c], .int .i64 x, .int .i64 y] w1 _
  go_enter Try.func67, Try.ntmps67
  go_wp2_with fail
  refine (hat _ _ (by omega) (by omega) _ (below1 _ _)).mono ?_
  rintro e w2 ⟨r, rfl, hb2, hr⟩
  go_wp2_with fail
  refine (scaled_any _ _ _ _ hr flH _).mono ?_
  rintro e w3 ⟨r3, rfl, hb3, hr3⟩
  have s2 := hb2.size
  simp only [World.size_alloc] at s2
  go_wp2_with fail
  go_ret
  exact ⟨_, rfl, by ((repeat' (first | (refine bel_set ?_ ?_ _) | (refine bel_al ?_ ?_ _) | exact Below.refl _ _ | assumption | (refine below_drewN ?_ _) | (refine Below.drew ?_) | (refine Below.trans ?_ (Below.mono hb3 ?_)) | (refine Below.trans ?_ (Below.mono hb2 ?_)))) <;> (first | omega | (simp; done) | (simp; omega))), by rw [hE.out]; exact hr3⟩
set_option maxHeartbeats 1000000 in
theorem implHalveMap_any (W H : Nat) (a : Option Addr) (n c : Nat) (cs : List Nat) (W' H' : Nat) (hW : W' = (W + 1) / 2) (hH : H' = (H + 1) / 2) (w : World) (hv : FC w (.slice a n c) cs) (b1 : 1 ≤ W) (b2 : W ≤ 24) (b3 : 1 ≤ H) (b4 : H ≤ 24) (b5 : H * W ≤ 256) (hl : cs.length = H * W) :
    Calls Try.prog 27 #[.agg #[.int .i64 W, .int .i64 H, .slice a n c]] w (RPic 35 W' H' (gridL W' (fun x y => scaledF (atC W H cs (2 * x) (2 * y)) 1056964608) (H' * W')) true w) := by
  obtain ⟨rfl, hnc, hcm⟩ := hv.sized
  have hval := validB_mk b1 b2 b3 b4 b5 hl
  have hG := halved_fn W H a _ c cs W' H' hW hH w hv b1 b2 b3 b4 hl
  have hsz : H' * W' ≤ 256 := Nat.le_trans (Nat.mul_le_mul (by omega : H' ≤ H) (by omega : W' ≤ W)) b5
  have hd := fun w1 (hb : Below w.heap.size w w1) wi hi (ewi : wi = (W' : Int)) (ehi : hi = (H' : Int)) => (by subst ewi; subst ehi; exact redrawAs_of _ _ _ _ _ _ _ _ _ _ _ _ _ _ w1 fun w2 hb2 => drawFrom_any W H a cs.length c hval hnc hcm W' H' (by omega) (by omega) (by omega) (by omega) hsz _ _ _ _ w2 (enters_of Try.func67 (by kernel_rfl) rfl) (hG.later (hb.trans (hb2.mono hb.size))) : Calls Try.prog 66 #[.agg #[.int .i64 W, .int .i64 H, .slice a cs.length c], .int .i64 wi, .int .i64 hi, .func (.func 67) #[.agg #[.int .i64 W, .int .i64 H, .slice a cs.length c]] #[]] w1 (RPic 35 W' H' (gridL W' (fun x y => scaledF (atC W H cs (2 * x) (2 * y)) 1056964608) (H' * W')) true w1))
  have hWH := Lib.hid (And.intro hW hH)
  clear hl hval hW hH
  go_enter Try.func27, Try.ntmps27
  go_wp2_with fail
  refine (hd _ (below2 _ _ _) _ _ (by have := hWH.out; omega) (by have := hWH.out; omega)).mono ?_
  rintro e w1 ⟨a1, n1, c1, rfl, hb1, ho1⟩
  obtain ⟨l1, q0, q1, q2, qf⟩ := (Nv.new _ _ _ _ _).below hb1
  have s1 := hb1.size
  simp only [World.size_alloc] at l1 q0 q1 q2 qf s1
  go_wp2_with fail
  refine bodyPost_ret (v := ?v) ?hr rfl ?post
  case hr => (simp [results, Try.results27, go_sem, q0, q1, q2, qf]; try rfl)
  case post =>
    refine ⟨_, _, _, rfl, ?_, ?_⟩
    · ((repeat' (first | (refine bel_set ?_ ?_ _) | (refine bel_al ?_ ?_ _) | exact Below.refl _ _ | assumption | (refine below_drewN ?_ _) | (refine Below.drew ?_) | (refine Below.trans ?_ (Below.mono hb1 ?_)))) <;> (first | omega | (simp; done) | (simp; omega)))
    · (refine OC.mono (base := ?bb) ?hh ?hl; (case hh => ((repeat' (first | (refine OC.set ?_ _ ?_) | (refine OC.alloc ?_ _) | exact ho1 | (refine OC.drewN ?_ _))) <;> (first | omega | (simp; done) | (simp; omega)))); (case hl => (first | omega | (simp; done) | (simp; omega))))
theorem implHalveMap_no (W H : Int) (a : Option Addr) (n c : Nat) (w : World) (hnc : n ≤ c) (hcm : c ≤ maxLen) (hval : validB W H n = false) :
    Calls Try.prog 27 #[.agg #[.int .i64 W, .int .i64 H, .slice a n c]] w (RPic 35 0 0 [] false w) := by
  have hd := fun w1 wi hi first cap => redrawAs_of _ _ _ _ _ _ _ _ _ _ _ _ _ _ w1 fun w2 hb2 => drawFrom_no W H a n c hnc hcm wi hi (.inl hval) (.func 67) first cap w2
  have hval := Lib.hid hval
  go_enter Try.func27, Try.ntmps27
  go_wp2_with fail
  refine (hd _ _ _ _ _).mono ?_
  rintro e w1 ⟨a1, n1, c1, rfl, hb1, ho1⟩
  obtain ⟨l1, q0, q1, q2, qf⟩ := (Nv.new _ _ _ _ _).below hb1
  have s1 := hb1.size
  simp only [World.size_alloc] at l1 q0 q1 q2 qf s1
  go_wp2_with fail
  refine bodyPost_ret (v := ?v) ?hr rfl ?post
  case hr => (simp [results, Try.results27, go_sem, q0, q1, q2, qf]; try rfl)
  case post =>
    refine ⟨_, _, _, rfl, ?_, ?_⟩
    · ((repeat' (first | (refine bel_set ?_ ?_ _) | (refine bel_al ?_ ?_ _) | exact Below.refl _ _ | assumption | (refine below_drewN ?_ _) | (refine Below.drew ?_) | (refine Below.trans ?_ (Below.mono hb1 ?_)))) <;> (first | omega | (simp; done) | (simp; omega)))
    · (refine OC.mono (base := ?bb) ?hh ?hl; (case hh => ((repeat' (first | (refine OC.set ?_ _ ?_) | (refine OC.alloc ?_ _) | exact ho1 | (refine OC.drewN ?_ _))) <;> (first | omega | (simp; done) | (simp; omega)))); (case hl => (first | omega | (simp; done) | (simp; omega))))
def halF (W H : Nat) (cs : List Nat) (x y : Int) : Nat := scaledF (atC W H cs (2 * x) (2 * y)) 1056964608
set_option maxRecDepth 100000 in
set_option maxHeartbeats 8000000 in
theorem specHalveMap_any (W H : Nat) (a0 : Option Addr) (n0 c0 : Nat) (cs : List Nat) (W' H' : Nat) (hW : W' = (W + 1) / 2) (hH : H' = (H + 1) / 2) (w : World) (hv : FC w (.slice a0 n0 c0) cs) (b1 : 1 ≤ W) (b2 : W ≤ 24) (b3 : 1 ≤ H) (b4 : H ≤ 24) (b5 : H * W ≤ 256) (hl : cs.length = H * W) :
    Calls Try.prog 26 #[.agg #[.int .i64 W, .int .i64 H, .slice a0 n0 c0]] w (RPic 35 W' H' (gridL W' (halF W H cs) (H' * W')) true w) := by
  obtain ⟨i0, hi, hz0, hz1, hz2⟩ := info_parts info_f32
  obtain ⟨rfl, hnc, hcm⟩ := hv.sized
  have hsz : H' * W' ≤ 256 := Nat.le_trans (Nat.mul_le_mul (by omega : H' ≤ H) (by omega : W' ≤ W)) b5
  have hval := Lib.hid (validB_mk b1 b2 b3 b4 b5 hl)
  have h1 := fun w1 hp => specMIs_any W H a0 cs.length c0 w.heap.size w1 hp (by unfold maxLen at hcm; omega)
  have hl' := Lib.hid hl
  have q1 : ((W : Int) + 1) / 2 = (W' : Int) := by omega
  have q2 : ((H : Int) + 1) / 2 = (H' : Int) := by omega
  have hW24 : W' ≤ 24 := by omega
  have hH24 : H' ≤ 24 := by omega
  have hWW := Lib.hid hW
  have hHH := Lib.hid hH
  clear hl hW hH
  go_enter Try.func26, Try.ntmps26
  go_wp2_with fail
  have hP1 := (Pv.new w W H (.slice a0 cs.length c0) 26).alloc (.cells #[.int .i64 0, .int .i64 0, .slice none 0 0] 26)
  have hN := Nv.new (w.alloc (.cells #[.int .i64 W, .int .i64 H, .slice a0 cs.length c0] 26)) (.int .i64 0) (.int .i64 0) (.slice none 0 0) 26
  simp only [World.size_alloc] at hN
  refine (h1 _ hP1).mono ?_
  rintro e w1 ⟨k0, rfl, rfl⟩
  rw [hval.out]
  obtain ⟨w0, hw0⟩ : ∃ w0, w0 = ((w.alloc (.cells #[.int .i64 W, .int .i64 H, .slice a0 cs.length c0] 26)).alloc (.cells #[.int .i64 0, .int .i64 0, .slice none 0 0] 26)).drewN k0 := ⟨_, rfl⟩
  rw [← hw0]
  have hp0 : Pv w0 w.heap.size W H (.slice a0 cs.length c0) := by rw [hw0]; exact hP1.drewN k0
  have hn0 : Nv w0 (w.heap.size + 1) (.int .i64 0) (.int .i64 0) (.slice none 0 0) := by rw [hw0]; exact hN.drewN k0
  have hb0 : Below w.heap.size w w0 := by rw [hw0]; exact below_drewN (below2 _ _ _) _
  have hlt0 : w.heap.size + 1 < w0.heap.size := hn0.1
  clear hw0 hP1 hN
  obtain ⟨hp1, p0, p1, p2⟩ := id hp0
  have hpv := Lib.hid (And.intro hp0 (And.intro (hv.below hb0) (And.intro hn0 hb0)))
  clear hp0 hn0 hb0 hv h1
  obtain ⟨bo, hbo0⟩ : ∃ b, b = w0.heap.size := ⟨_, rfl⟩
  have hmk := Lib.hid (Mk.start0 (E := 35) (w0 := w0) (W := (W' : Int)) (H := (H' : Int)) (T := 26))
  go_wp2_with fail
  try simp only [q1, q2]
  rw [← hbo0] at hmk ⊢
  clear hbo0 q1 q2 p0 p1 p2
  go_loopw [5] (fun i wr => ∃ y : Nat, y ≤ H' ∧ i = .int .i64 y ∧ Hid (Mk 35 w0 bo W' H' (gridL W' (halF W H cs) (y * W' + 0)) wr)) (fun i _ => H' - (intOf i).toNat)
  case atStart => exact ⟨0, Nat.zero_le _, rfl, by simpa [gridL] using hmk⟩
  case round =>
    clear hmk
    obtain ⟨y, hy, rfl, hmk⟩ := hrel
    obtain ⟨wo, rfl⟩ : ∃ wo : World, wo = wr := ⟨_, rfl⟩
    obtain ⟨_, k0, k1, k2, _⟩ := hmk.out.choose_spec.choose_spec.choose_spec.1
    by_cases hly : y < H'
    · go_wp2_with fail
      clear k0 k1 k2
      go_loopw [6, 7] (fun i sv wr => ∃ x : Nat, x ≤ W' ∧ i = .int .i64 x ∧ Hid (Mk 35 w0 bo W' H' (gridL W' (halF W H cs) (y * W' + x)) wr)) (fun i _ _ => W' - (intOf i).toNat)
      case atStart => exact ⟨0, Nat.zero_le _, rfl, hmk⟩
      case round =>
        clear hmk
        obtain ⟨x, hx, rfl, hmk⟩ := hrel
        obtain ⟨a, n, c, hN, ⟨zs, hz, hzm, hrow⟩, hne, hbo, hbl⟩ := hmk.out
        obtain ⟨_, k0, k1, k2, _⟩ := id hN
        by_cases hlx : x < W'
        · obtain ⟨_, e0, e1, e2⟩ := hpv.out.1.below hbl
          have hlen : zs.length = y * W' + x := by rw [← gridL_len W' (halF W H cs) (y * W' + x), ← hzm, List.length_map]
          have hle : y * W' + x + 1 ≤ 256 := by
            have h1 : y * W' + W' ≤ H' * W' := by rw [← Nat.succ_mul]; exact Nat.mul_le_mul_right _ hly
            omega
          have x2 : 2 * x < W := by have := hWW.out; omega
          have y2 : 2 * y < H := by have := hHH.out; omega
          have hF : halF W H cs x y = scaledF (cs.getD (W * 2 * y + 2 * x) 0) 1056964608 := by
            unfold halF
            rw [show 2 * (x : Int) = ((2 * x : Nat) : Int) by rw [Int.natCast_mul]; rfl, show 2 * (y : Int) = ((2 * y : Nat) : Int) by rw [Int.natCast_mul]; rfl, atC_nat cs x2 y2]
            rw [Nat.mul_comm (2 * y) W, Nat.mul_assoc W 2 y]
          have hql : W * 2 * y + 2 * x < cs.length := by
            have h1 : 2 * y * W + W ≤ H * W := by rw [← Nat.succ_mul]; exact Nat.mul_le_mul_right _ y2
            have h2 : 2 * y * W = W * 2 * y := by rw [Nat.mul_comm (2 * y) W, Nat.mul_assoc W 2 y]
            have := hl'.out
            omega
          obtain ⟨b1', off1, cc1, z1, ev1, _, _, _, hz1f, hz1c⟩ := (hpv.out.2.1.below hbl).cell hql
          simp only [Value.slice.injEq, true_and] at ev1
          obtain ⟨rfl, rfl⟩ := ev1
          obtain ⟨x1, hx1⟩ : ∃ x1, x1 = cs.getD (W * 2 * y + 2 * x) 0 := ⟨_, rfl⟩
          rw [← hx1] at hz1f hF
          have hF := Lib.hid hF
          have hwy : (W : Int) * 2 * (y : Int) = ((W * 2 * y : Nat) : Int) := by rw [Int.natCast_mul, Int.natCast_mul]; rfl
          have hwy2 : W * 2 * y ≤ 24 * 2 * 24 := Nat.mul_le_mul (Nat.mul_le_mul b2 (Nat.le_refl _)) (by omega)
          generalize W * 2 * y = wy at *
          have g3 : 2 * (x : Int) + (wy : Int) < (cs.length : Int) := by omega
          have g4 : (2 * (x : Int) + (wy : Int)).toNat = wy + 2 * x := by omega
          have hh1 := Lib.hid (holeB_fl hz1f)
          have hh := Lib.hid (And.intro hz (And.intro hzm (And.intro hlen (And.intro hle (And.intro hbl (And.intro hN hz1f))))))
          have hrowA : ∀ (o : Obj) (m : Nat), ((wr.alloc o).drewN m).ownsRow w0.heap.size 35 1 (.slice a n c) zs.length (zs.map (.float .f32)) := fun o m => hrow.alloc o
          have hsz0 : w0.heap.size ≤ wr.heap.size := hbl.size
          have hbo2 : bo < wr.heap.size := hN.1
          have xx2 : (x : Int) ≤ 24 := by omega
          have yy2 : (y : Int) ≤ 24 := by omega
          clear hlen hzm hz hbl hmk hN hz1f hx1 hql
          cases hA : holeB x1 with
          | true =>
            have hA' := Lib.hid hA
            clear hA
            go_wp2_with fail
            refine (specHole_any _ _).mono ?_
            rintro e w' ⟨rfl, rfl⟩
            rw [hh1.out, hA'.out]
            clear g3 g4 hwy
            go_wp2_with (at_builtin; refine wpList_append_lies _ rfl _ _ _ rfl w0.heap.size 35 i0 _ 1 4 Try.underlying22 hi hz0 hz1 hz2 rfl (by omega) (.slice a n c) zs.length (zs.map (.float .f32)) rfl (hrow.alloc _) ⟨wr.heap.size, 0, none⟩ 1 1 [.float .f32 3212836864] rfl rfl (World.news_of_block (cs := #[.float .f32 3212836864]) (t := 35) (fr := (0, 0)) (heap_alloc_new wr _)) (by simp [Value.oneCell']) (by omega) (by have := hh.out.2.2.1; have := hh.out.2.2.2.1; unfold maxLen; omega) (by have := hh.out.2.2.1; have := hh.out.2.2.2.1; omega) (by simp; omega) (wr.heap.size + 1) (by simp) ?_; intro gg cap w3 hown3 hgrow hat3 hlt3; have hN3 := Mk.nv3 (m := 0) hh.out.2.2.2.2.2.1 hne (by exact hgrow); have j2 := hN3.2.2.2.1; have jf := hN3.2.2.2.2 2)
            have hM : Mk 35 w0 bo W' H' (gridL W' (halF W H cs) (y * W' + (x + 1))) (w3.setCell ⟨bo, 2, none⟩ (.slice (some ⟨gg, 0, none⟩) (zs.length + 1) cap)) := by
              rw [gridL_step W' _ y hlx, hF.out, scaledF_l hA'.out]
              exact Mk.step (m := 0) hh.out.2.2.2.2.2.1 hrow hh.out.1 hh.out.2.1 hne hbo hh.out.2.2.2.2.1 flM1 hown3 (by exact hgrow) hat3
            have hM := Lib.hid hM
            clear hgrow hown3 hat3 hrow hrowA
            go_wp2_with fail
            go_roundw
            case rel => exact ⟨x + 1, by omega, by go_num, by first | exact hM | exact Lib.hid (hM.out.drewN _)⟩
            case measure => simp [intOf]; omega
          | false =>
            have hA' := Lib.hid hA
            clear hA
            go_wp2_with fail
            refine (specHole_any _ _).mono ?_
            rintro e w' ⟨rfl, rfl⟩
            rw [hh1.out, hA'.out]
            clear g3 g4 hwy
            go_wp2_with (at_builtin; refine wpList_append_lies _ rfl _ _ _ rfl w0.heap.size 35 i0 _ 1 4 Try.underlying22 hi hz0 hz1 hz2 rfl (by omega) (.slice a n c) zs.length (zs.map (.float .f32)) rfl (hrowA _ _) ⟨wr.heap.size, 0, none⟩ 1 1 [.float .f32 _] rfl rfl (World.news_of_block (cs := #[.float .f32 _]) (t := 35) (fr := (0, 0)) (heap_alloc_new wr _)) (by simp [Value.oneCell']) (by omega) (by have := hh.out.2.2.1; have := hh.out.2.2.2.1; unfold maxLen; omega) (by have := hh.out.2.2.1; have := hh.out.2.2.2.1; omega) (by simp; omega) (wr.heap.size + 1) (by simp) ?_; intro gg cap w3 hown3 hgrow hat3 hlt3; have hN3 := Mk.nv3 hh.out.2.2.2.2.2.1 hne hgrow; have j2 := hN3.2.2.2.1; have jf := hN3.2.2.2.2 2)
            have hM : Mk 35 w0 bo W' H' (gridL W' (halF W H cs) (y * W' + (x + 1))) (w3.setCell ⟨bo, 2, none⟩ (.slice (some ⟨gg, 0, none⟩) (zs.length + 1) cap)) := by
              rw [gridL_step W' _ y hlx, hF.out, scaledF_no hA'.out, fop_mul_comm]
              exact Mk.step hh.out.2.2.2.2.2.1 hrow hh.out.1 hh.out.2.1 hne hbo hh.out.2.2.2.2.1 (flH.flR hh.out.2.2.2.2.2.2 _) hown3 hgrow hat3
            have hM := Lib.hid hM
            clear hgrow hown3 hat3 hrow hrowA
            go_wp2_with fail
            go_roundw
            case rel => exact ⟨x + 1, by omega, by go_num, by first | exact hM | exact Lib.hid (hM.out.drewN _)⟩
            case measure => simp [intOf]; omega
        · obtain rfl : x = W' := by omega
          rw [gridL_row] at hmk
          have hN := Lib.hid (And.intro hN (And.intro hz (And.intro hzm (And.intro hrow (And.intro hne (And.intro hbo hbl))))))
          clear hz hzm hrow hne hbo hbl
          go_wp2_with fail
          go_roundw
          case rel => exact ⟨y + 1, by omega, by go_num, hmk⟩
          case measure => simp [intOf]; omega
    · obtain rfl : y = H' := by omega
      clear k0 k1 k2
      obtain ⟨a, n, c, hN, hoc, hne, hbo, hbl2⟩ := hmk.out
      obtain ⟨_, f0, f1, f2, f3⟩ := hN
      obtain ⟨_, r0, r1, r2, rf⟩ := hpv.out.2.2.1.below hbl2
      have hoc := Lib.hid hoc
      go_wp2_with fail
      refine bodyPost_ret (v := ?v) ?hr rfl ?post
      case hr => (simp [results, Try.results26, go_sem, f0, f1, f2, r0, r1, r2, rf]; try rfl)
      case post =>
        have h0 := hpv.out.2.2.2
        have ho := hoc.out
        rw [Nat.add_zero] at ho
        refine ⟨_, _, _, rfl, ?_, ?_⟩
        · ((repeat' (first | (refine bel_set ?_ ?_ _) | (refine bel_al ?_ ?_ _) | exact Below.refl _ _ | assumption | (refine below_drewN ?_ _) | (refine Below.drew ?_) | (refine Below.trans ?_ (Below.mono hbl2 ?_)))) <;> (first | omega | (simp; done) | (simp; omega)))
        · (refine OC.mono (base := ?bb) ?hh ?hl; (case hh => ((repeat' (first | (refine OC.set ?_ _ ?_) | (refine OC.alloc ?_ _) | exact ho | (refine OC.drewN ?_ _))) <;> (first | omega | (simp; done) | (simp; omega)))); (case hl => (first | omega | (simp; done) | (simp; omega))))
theorem specHalveMap_no (W H : Int) (a : Option Addr) (n c : Nat) (w : World) (hnc : n ≤ c) (hcm : c ≤ maxLen) (hval : validB W H n = false) :
    Calls Try.prog 26 #[.agg #[.int .i64 W, .int .i64 H, .slice a n c]] w (RPic 35 0 0 [] false w) := by
  have h1 := fun w1 hp => specMIs_any W H a n c w.heap.size w1 hp (by unfold maxLen at hcm; omega)
  have hval := Lib.hid hval
  go_enter Try.func26, Try.ntmps26
  go_wp2_with fail
  refine (h1 _ ((Pv.new _ _ _ _ _).alloc _)).mono ?_
  rintro e w1 ⟨k, rfl, rfl⟩
  rw [hval.out]
  go_wp2_with fail
  refine bodyPost_ret (v := ?v) ?hr rfl ?post
  case hr => (simp [results, Try.results26, go_sem]; try rfl)
  case post => exact ⟨_, _, _, rfl, by ((repeat' (first | (refine bel_set ?_ ?_ _) | (refine bel_al ?_ ?_ _) | exact Below.refl _ _ | assumption | (refine below_drewN ?_ _) | (refine Below.drew ?_))) <;> (first | omega | (simp; done) | (simp; omega))), OC.nil _ _ _⟩
theorem pairHalveMap (W H : Int) (cs : List Nat) :
    ∃ (W' H' : Int) (cs' : List Nat) (ok : Bool),
      (∀ a n c w, FC w (.slice a n c) cs → Calls Try.prog 26 #[.agg #[.int .i64 W, .int .i64 H, .slice a n c]] w (RPic 35 W' H' cs' ok w)) ∧
      (∀ a n c w, FC w (.slice a n c) cs → Calls Try.prog 27 #[.agg #[.int .i64 W, .int .i64 H, .slice a n c]] w (RPic 35 W' H' cs' ok w)) ∧ cs'.length ≤ 256 := by
  cases hval : validB W H cs.length with
  | true =>
    obtain ⟨wn, hn, rfl, rfl, b1, b2, b3, b4, b5, hl⟩ := validB_parts hval
    exact ⟨_, _, _, _, fun a n c w hv => specHalveMap_any wn hn a n c cs _ _ rfl rfl w hv b1 b2 b3 b4 b5 hl, fun a n c w hv => implHalveMap_any wn hn a n c cs _ _ rfl rfl w hv b1 b2 b3 b4 b5 hl, by rw [gridL_len]; exact Nat.le_trans (Nat.mul_le_mul (by omega) (by omega)) b5⟩
  | false =>
    refine ⟨0, 0, [], false, fun a n c w hv => ?_, fun a n c w hv => ?_, by simp⟩
    · obtain ⟨rfl, h1, h2⟩ := hv.sized
      exact specHalveMap_no W H a _ c w h1 h2 hval
    · obtain ⟨rfl, h1, h2⟩ := hv.sized
      exact implHalveMap_no W H a _ c w h1 h2 hval
end Go.Proofs.Ythnidpmolafmaaa
