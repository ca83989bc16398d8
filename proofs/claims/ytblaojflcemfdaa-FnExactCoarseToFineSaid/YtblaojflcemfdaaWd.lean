import Derived.Test.YtblaojflcemfdaaWh
import Derived.Deep.DrawnRows
set_option linter.unusedVariables false
set_option linter.unusedSimpArgs false
namespace Go.Proofs.Ytblaojflcemfdaa
open Go.FX Go.RowKit Go.WideShapes Go.ChangeShapes
attribute [local go_sem ↓] Go.wp_at_zero Go.wp_at_succ

set_option maxHeartbeats 1000000 in
theorem doubledM_fn (W H : Nat) (a : Option Addr) (n c : Nat) (cs : List Nat) (W' H' : Nat) (d2 : W' ≤ 24) (d4 : H' ≤ 24) (w : World) (hv : FC w (.slice a n c) cs) (b1 : 1 ≤ W) (b2 : W ≤ 24) (b3 : 1 ≤ H) (b4 : H ≤ 24) (hl : cs.length = H * W) :
    GreyFn Try.prog 39 #[.agg #[.int .i64 W, .int .i64 H, .slice a n c]] #[] W' H' (fun x y => scaledF (atC W H cs (x / 2) (y / 2)) 1073741824) w := fun w1 x y hb hx hy => by
  have hdb : ∀ w2, Below w1.heap.size w1 w2 → Calls Try.prog 73 #[.agg #[.int .i64 W, .int .i64 H, .slice a n c], .int .i64 x, .int .i64 y] w2 (RFb .f32 (atC W H cs ((x : Int) / 2) ((y : Int) / 2)) w2) := fun w2 h => doubled_fn W H a n c cs w1 (hv.below hb) b1 b2 b3 b4 hl W' H' d2 d4 w2 x y h hx hy
  obtain ⟨g1, e1⟩ : ∃ g, g = atC W H cs ((x : Int) / 2) ((y : Int) / 2) := ⟨_, rfl⟩
  rw [← e1] at hdb
  have hE : Hid (atC W H cs ((x : Int) / 2) ((y : Int) / 2) = g1) := Lib.hid e1.symm
  clear hv hl hb e1
  show Calls Try.prog 39 #[.agg #[.int .i64 W, .int .i64 H, .slice a n c], .int .i64 x, .int .i64 y] w1 _
  go_enter Try.func39, Try.ntmps39
  go_wp2_with fail
  refine (mapPic_any _ _ _ _ _ _).mono ?_
  rintro e w2 ⟨rfl, hb2⟩
  have s2 := hb2.size
  simp only [World.size_alloc] at s2
  have hb12 : Below w1.heap.size w1 w2 := by ((repeat' (first | (refine bel_set ?_ ?_ _) | (refine bel_al ?_ ?_ _) | exact Below.refl _ _ | assumption | (refine below_drewN ?_ _) | (refine Below.drew ?_) | (refine Below.trans ?_ (Below.mono hb2 ?_)))) <;> (first | omega | (simp; done) | (simp; omega)))
  go_wp2_with fail
  refine (hdb _ hb12).mono ?_
  rintro e w3 ⟨r, rfl, hb3, hr⟩
  go_wp2_with fail
  refine (scaled_any _ _ _ _ hr flT _).mono ?_
  rintro e w4 ⟨r4, rfl, hb4, hr4⟩
  have s3 := hb3.size
  go_wp2_with fail
  go_ret
  exact ⟨_, rfl, hb12.trans ((hb3.trans (hb4.mono s3)).mono hb12.size), by rw [hE.out]; exact hr4⟩
set_option maxHeartbeats 1000000 in
theorem implDoubleMap_any (W H : Nat) (a : Option Addr) (n c : Nat) (cs : List Nat) (w : World) (hv : FC w (.slice a n c) cs) (b1 : 1 ≤ W) (b2 : W ≤ 24) (b3 : 1 ≤ H) (b4 : H ≤ 24) (b5 : H * W ≤ 256) (hl : cs.length = H * W)
    (W' H' : Nat) (d1 : 1 ≤ W') (d2 : W' ≤ 24) (d3 : 1 ≤ H') (d4 : H' ≤ 24) (d5 : H' * W' ≤ 256) :
    Calls Try.prog 21 #[.agg #[.int .i64 W, .int .i64 H, .slice a n c], .int .i64 W', .int .i64 H'] w (RPic 61 W' H' (gridL W' (fun x y => scaledF (atC W H cs (x / 2) (y / 2)) 1073741824) (H' * W')) true w) := by
  obtain ⟨rfl, hnc, hcm⟩ := hv.sized
  have hval := validB_mk b1 b2 b3 b4 b5 hl
  have hG := doubledM_fn W H a _ c cs W' H' d2 d4 w hv b1 b2 b3 b4 hl
  have hd := fun w1 (hb : Below w.heap.size w w1) => (redrawAs_of _ _ _ _ _ _ _ _ _ _ _ _ _ _ w1 fun w2 hb2 => drawFrom_any W H a cs.length c hval hnc hcm W' H' d1 d2 d3 d4 d5 _ _ _ _ w2 (enters_of Try.func39 (by kernel_rfl) rfl) (hG.later (hb.trans (hb2.mono hb.size))) : Calls Try.prog 38 #[.agg #[.int .i64 W, .int .i64 H, .slice a cs.length c], .int .i64 W', .int .i64 H', .func (.func 39) #[.agg #[.int .i64 W, .int .i64 H, .slice a cs.length c]] #[]] w1 (RPic 61 W' H' (gridL W' (fun x y => scaledF (atC W H cs (x / 2) (y / 2)) 1073741824) (H' * W')) true w1))
  clear hl hval
  go_enter Try.func21, Try.ntmps21
  go_wp2_with fail
  refine (hd _ (below2 _ _ _)).mono ?_
  rintro e w1 ⟨a1, n1, c1, rfl, hb1, ho1⟩
  obtain ⟨l1, q0, q1, q2, qf⟩ := (Nv.new _ _ _ _ _).below hb1
  have s1 := hb1.size
  simp only [World.size_alloc] at l1 q0 q1 q2 qf s1
  go_wp2_with fail
  refine bodyPost_ret (v := ?v) ?hr rfl ?post
  case hr => (simp [results, Try.results21, go_sem, q0, q1, q2, qf]; try rfl)
  case post =>
    refine ⟨_, _, _, rfl, ?_, ?_⟩
    · ((repeat' (first | (refine bel_set ?_ ?_ _) | (refine bel_al ?_ ?_ _) | exact Below.refl _ _ | assumption | (refine below_drewN ?_ _) | (refine Below.drew ?_) | (refine Below.trans ?_ (Below.mono hb1 ?_)))) <;> (first | omega | (simp; done) | (simp; omega)))
    · (refine OC.mono (base := ?bb) ?hh ?hl; (case hh => ((repeat' (first | (refine OC.set ?_ _ ?_) | (refine OC.alloc ?_ _) | exact ho1 | (refine OC.drewN ?_ _))) <;> (first | omega | (simp; done) | (simp; omega)))); (case hl => (first | omega | (simp; done) | (simp; omega))))
theorem implDoubleMap_no (W H : Int) (a : Option Addr) (n c : Nat) (w : World) (hnc : n ≤ c) (hcm : c ≤ maxLen) (W' H' : Int) (hval : validB W H n = false ∨ sizeB W' H' = false) :
    Calls Try.prog 21 #[.agg #[.int .i64 W, .int .i64 H, .slice a n c], .int .i64 W', .int .i64 H'] w (RPic 61 0 0 [] false w) := by
  have hd := fun w1 first cap => redrawAs_of _ _ _ _ _ _ _ _ _ _ _ _ _ _ w1 fun w2 hb2 => drawFrom_no W H a n c hnc hcm W' H' hval (.func 39) first cap w2
  go_enter Try.func21, Try.ntmps21
  go_wp2_with fail
  refine (hd _ _ _).mono ?_
  rintro e w1 ⟨a1, n1, c1, rfl, hb1, ho1⟩
  obtain ⟨l1, q0, q1, q2, qf⟩ := (Nv.new _ _ _ _ _).below hb1
  have s1 := hb1.size
  simp only [World.size_alloc] at l1 q0 q1 q2 qf s1
  go_wp2_with fail
  refine bodyPost_ret (v := ?v) ?hr rfl ?post
  case hr => (simp [results, Try.results21, go_sem, q0, q1, q2, qf]; try rfl)
  case post =>
    refine ⟨_, _, _, rfl, ?_, ?_⟩
    · ((repeat' (first | (refine bel_set ?_ ?_ _) | (refine bel_al ?_ ?_ _) | exact Below.refl _ _ | assumption | (refine below_drewN ?_ _) | (refine Below.drew ?_) | (refine Below.trans ?_ (Below.mono hb1 ?_)))) <;> (first | omega | (simp; done) | (simp; omega)))
    · (refine OC.mono (base := ?bb) ?hh ?hl; (case hh => ((repeat' (first | (refine OC.set ?_ _ ?_) | (refine OC.alloc ?_ _) | exact ho1 | (refine OC.drewN ?_ _))) <;> (first | omega | (simp; done) | (simp; omega)))); (case hl => (first | omega | (simp; done) | (simp; omega))))
def douF (W H : Nat) (cs : List Nat) (x y : Int) : Nat := scaledF (atC W H cs (x / 2) (y / 2)) 1073741824
set_option maxRecDepth 100000 in
set_option maxHeartbeats 8000000 in
theorem specDouble_any (W H : Nat) (a0 : Option Addr) (n0 c0 bp : Nat) (cs : List Nat) (W' H' : Nat) (d1 : 1 ≤ W') (hW24 : W' ≤ 24) (d3 : 1 ≤ H') (hH24 : H' ≤ 24) (hsz : H' * W' ≤ 256) (w : World) (hp : Pv w bp W H (.slice a0 n0 c0)) (hv : FC w (.slice a0 n0 c0) cs) (b1 : 1 ≤ W) (b2 : W ≤ 24) (b3 : 1 ≤ H) (b4 : H ≤ 24) (b5 : H * W ≤ 256) (hl : cs.length = H * W) :
    Calls Try.prog 30 #[.pointer (some ⟨bp, 0, none⟩), .int .i64 W', .int .i64 H'] w (RPic1 61 W' H' (gridL W' (douF W H cs) (H' * W')) w) := by
  obtain ⟨i0, hi, hz0, hz1, hz2⟩ := info_parts info_f32
  obtain ⟨rfl, hnc, hcm⟩ := hv.sized
  have hl' := Lib.hid hl
  clear hl
  go_enter Try.func30, Try.ntmps30
  go_upto_region 1 with fail
  obtain ⟨w0, hw0⟩ : ∃ w0, w0 = w.alloc (.cells #[.int .i64 0, .int .i64 0, .slice none 0 0] 27) := ⟨_, rfl⟩
  rw [← hw0]
  have hp0 : Pv w0 bp W H (.slice a0 cs.length c0) := by rw [hw0]; exact hp.alloc _
  have hv0 : FC w0 (.slice a0 cs.length c0) cs := by rw [hw0]; exact hv.alloc _
  have hn0 : Nv w0 w.heap.size (.int .i64 0) (.int .i64 0) (.slice none 0 0) := by rw [hw0]; exact Nv.new _ _ _ _ _
  have hb0 : Below w.heap.size w w0 := by rw [hw0]; exact below1 _ _
  have hlt0 : w.heap.size < w0.heap.size := hn0.1
  clear hw0 hp hv
  have hpv := Lib.hid (And.intro hp0 (And.intro hv0 (And.intro hn0 hb0)))
  clear hp0 hv0 hn0 hb0
  obtain ⟨bo, hbo0⟩ : ∃ b, b = w0.heap.size := ⟨_, rfl⟩
  have hmk := Lib.hid (Mk.start0 (E := 61) (w0 := w0) (W := (W' : Int)) (H := (H' : Int)) (T := 27))
  go_wp2_with fail
  rw [← hbo0] at hmk ⊢
  clear hbo0
  go_loopw [8] (fun i wr => ∃ y : Nat, y ≤ H' ∧ i = .int .i64 y ∧ Hid (Mk 61 w0 bo W' H' (gridL W' (douF W H cs) (y * W' + 0)) wr)) (fun i _ => H' - (intOf i).toNat)
  case atStart => exact ⟨0, Nat.zero_le _, rfl, by simpa [gridL] using hmk⟩
  case round =>
    clear hmk
    obtain ⟨y, hy, rfl, hmk⟩ := hrel
    obtain ⟨wo, rfl⟩ : ∃ wo : World, wo = wr := ⟨_, rfl⟩
    obtain ⟨_, k0, k1, k2, _⟩ := hmk.out.choose_spec.choose_spec.choose_spec.1
    by_cases hly : y < H'
    · go_wp2_with fail
      clear k0 k1 k2
      go_loopw [9, 10] (fun i sv wr => ∃ x : Nat, x ≤ W' ∧ i = .int .i64 x ∧ Hid (Mk 61 w0 bo W' H' (gridL W' (douF W H cs) (y * W' + x)) wr)) (fun i _ _ => W' - (intOf i).toNat)
      case atStart => exact ⟨0, Nat.zero_le _, rfl, hmk⟩
      case round =>
        clear hmk
        obtain ⟨x, hx, rfl, hmk⟩ := hrel
        obtain ⟨a, n, c, hN, ⟨zs, hz, hzm, hrow⟩, hne, hbo, hbl⟩ := hmk.out
        obtain ⟨_, k0, k1, k2, _⟩ := id hN
        by_cases hlx : x < W'
        · obtain ⟨_, e0, e1, e2⟩ := hpv.out.1.below hbl
          have hlen : zs.length = y * W' + x := by rw [← gridL_len W' (douF W H cs) (y * W' + x), ← hzm, List.length_map]
          have hle : y * W' + x + 1 ≤ 256 := by
            have h1 : y * W' + W' ≤ H' * W' := by rw [← Nat.succ_mul]; exact Nat.mul_le_mul_right _ hly
            omega
          obtain ⟨xh, hxh⟩ : ∃ xh, xh = x / 2 := ⟨_, rfl⟩
          obtain ⟨yh, hyh⟩ : ∃ yh, yh = y / 2 := ⟨_, rfl⟩
          obtain ⟨u, hu⟩ : ∃ u, u = min (W - 1) xh := ⟨_, rfl⟩
          obtain ⟨v, hvv⟩ : ∃ v, v = min (H - 1) yh := ⟨_, rfl⟩
          have hul : u < W := by omega
          have hvl : v < H := by omega
          have exh : (x : Int) / 2 = (xh : Int) := by omega
          have eyh : (y : Int) / 2 = (yh : Int) := by omega
          have hu2 : (u : Int) = if (W : Int) - 1 < (xh : Int) then (W : Int) - 1 else (xh : Int) := by split <;> omega
          have hv2 : (v : Int) = if (H : Int) - 1 < (yh : Int) then (H : Int) - 1 else (yh : Int) := by split <;> omega
          have hF : douF W H cs x y = scaledF (cs.getD (u + W * v) 0) 1073741824 := by
            unfold douF atC
            rw [exh, eyh, show nearI ((W : Int) - 1) (xh : Int) = (u : Int) by unfold nearI; rw [if_neg (by omega)]; exact hu2.symm, show nearI ((H : Int) - 1) (yh : Int) = (v : Int) by unfold nearI; rw [if_neg (by omega)]; exact hv2.symm]
            rw [show (u : Int) + (W : Int) * (v : Int) = ((u + W * v : Nat) : Int) by push_cast; rfl]; rfl
          have hql : u + W * v < cs.length := by
            have h1 : v * W + W ≤ H * W := by rw [← Nat.succ_mul]; exact Nat.mul_le_mul_right _ hvl
            have := hl'.out
            rw [Nat.mul_comm W v]
            omega
          obtain ⟨b1', off1, cc1, z1, ev1, _, _, _, hz1f, hz1c⟩ := (hpv.out.2.1.below hbl).cell hql
          simp only [Value.slice.injEq, true_and] at ev1
          obtain ⟨rfl, rfl⟩ := ev1
          obtain ⟨x1, hx1⟩ : ∃ x1, x1 = cs.getD (u + W * v) 0 := ⟨_, rfl⟩
          rw [← hx1] at hz1f hF
          have hF := Lib.hid hF
          have hwy : (W : Int) * (v : Int) = ((W * v : Nat) : Int) := by rw [Int.natCast_mul]
          have hwy2 : W * v ≤ 24 * 24 := Nat.mul_le_mul b2 (by omega)
          generalize W * v = wy at *
          have c1 := fun w1 => l00Min_eq _ _ (u : Int) hu2 w1
          have c2 := fun w1 => l00Min_eq _ _ (v : Int) hv2 w1
          have t1 : IntKind.i64.wrap ((W : Int) - 1) = (W : Int) - 1 := IntWalk.i64_in _ (by omega)
          have t2 : IntKind.i64.wrap ((H : Int) - 1) = (H : Int) - 1 := IntWalk.i64_in _ (by omega)
          have t3 : (x : Int).tdiv 2 = (xh : Int) := by rw [Int.tdiv_eq_ediv_of_nonneg (by omega)]; exact exh
          have t4 : (y : Int).tdiv 2 = (yh : Int) := by rw [Int.tdiv_eq_ediv_of_nonneg (by omega)]; exact eyh
          have t5 : IntKind.i64.wrap (xh : Int) = (xh : Int) := IntWalk.i64_in _ (by omega)
          have t6 : IntKind.i64.wrap (yh : Int) = (yh : Int) := IntWalk.i64_in _ (by omega)
          have t7 : IntKind.i64.wrap (wy : Int) = (wy : Int) := IntWalk.i64_in _ (by omega)
          have g1 : IntKind.i64.wrap ((u : Int) + (wy : Int)) = (u : Int) + (wy : Int) := IntWalk.i64_in _ (by omega)
          have g2 : (0 : Int) ≤ (u : Int) + (wy : Int) := by omega
          have g3 : (u : Int) + (wy : Int) < (cs.length : Int) := by omega
          have g4 : ((u : Int) + (wy : Int)).toNat = u + wy := by omega
          clear hu2 hv2 hu hvv hxh hyh
          have hh1 := Lib.hid (holeB_fl hz1f)
          have hh := Lib.hid (And.intro hz (And.intro hzm (And.intro hlen (And.intro hle (And.intro hbl (And.intro hN hz1f))))))
          have hrowA : ∀ (o : Obj) (m : Nat), ((wr.alloc o).drewN m).ownsRow w0.heap.size 61 1 (.slice a n c) zs.length (zs.map (.float .f32)) := fun o m => hrow.alloc o
          have hsz0 : w0.heap.size ≤ wr.heap.size := hbl.size
          have hbo2 : bo < wr.heap.size := hN.1
          have xx2 : (x : Int) ≤ 24 := by omega
          have yy2 : (y : Int) ≤ 24 := by omega
          clear hlen hzm hz hbl hmk hN hz1f hx1 hql
          have hul' := Lib.hid hul
          have hvl' := Lib.hid hvl
          clear hul hvl
          go_wp2_with fail
          go_quiet ((go_at_call 55; first | exact Calls.quiet_of_same (c1 _) | exact Calls.quiet_of_same (c2 _)))
          clear t1 t2 t3 t4 t5 t6 t7 g1 g2 g3 g4 hwy exh eyh c1 c2
          cases hA : holeB x1 with
          | true =>
            have hA' := Lib.hid hA
            clear hA
            go_wp2_with fail
            refine (specHole_any _ _).mono ?_
            rintro e w' ⟨rfl, rfl⟩
            rw [hh1.out, hA'.out]
            go_wp2_with (at_builtin; refine wpList_append_lies _ rfl _ _ _ rfl w0.heap.size 61 i0 _ 1 4 Try.underlying22 hi hz0 hz1 hz2 rfl (by omega) (.slice a n c) zs.length (zs.map (.float .f32)) rfl (hrowA _ _) ⟨wr.heap.size, 0, none⟩ 1 1 [.float .f32 3212836864] rfl rfl (World.news_of_block (cs := #[.float .f32 3212836864]) (t := 61) (fr := (0, 0)) (heap_alloc_new wr _)) (by simp [Value.oneCell']) (by omega) (by have := hh.out.2.2.1; have := hh.out.2.2.2.1; unfold maxLen; omega) (by have := hh.out.2.2.1; have := hh.out.2.2.2.1; omega) (by simp; omega) (wr.heap.size + 1) (by simp) ?_; intro gg cap w3 hown3 hgrow hat3 hlt3; have hN3 := Mk.nv3 hh.out.2.2.2.2.2.1 hne hgrow; have j2 := hN3.2.2.2.1; have jf := hN3.2.2.2.2 2)
            have hM : Mk 61 w0 bo W' H' (gridL W' (douF W H cs) (y * W' + (x + 1))) (w3.setCell ⟨bo, 2, none⟩ (.slice (some ⟨gg, 0, none⟩) (zs.length + 1) cap)) := by
              rw [gridL_step W' _ y hlx, hF.out, scaledF_l hA'.out]
              exact Mk.step hh.out.2.2.2.2.2.1 hrow hh.out.1 hh.out.2.1 hne hbo hh.out.2.2.2.2.1 flM1 hown3 hgrow hat3
            have hM := Lib.hid hM
            clear hgrow hown3 hat3 hrow hrowA
            go_wp2_with fail
            go_roundw
            case rel => exact ⟨x + 1, by omega, by go_num, by first | exact hM | exact Lib.hid (hM.out.drewN _)⟩
            case measure => simp [intOf]; omega
          | false =>
            have hA' := Lib.hid hA
            clear hA
            go_wp2_with fail
            refine (specHole_any _ _).mono ?_
            rintro e w' ⟨rfl, rfl⟩
            rw [hh1.out, hA'.out]
            go_wp2_with (at_builtin; refine wpList_append_lies _ rfl _ _ _ rfl w0.heap.size 61 i0 _ 1 4 Try.underlying22 hi hz0 hz1 hz2 rfl (by omega) (.slice a n c) zs.length (zs.map (.float .f32)) rfl (hrowA _ _) ⟨wr.heap.size, 0, none⟩ 1 1 [.float .f32 _] rfl rfl (World.news_of_block (cs := #[.float .f32 _]) (t := 61) (fr := (0, 0)) (heap_alloc_new wr _)) (by simp [Value.oneCell']) (by omega) (by have := hh.out.2.2.1; have := hh.out.2.2.2.1; unfold maxLen; omega) (by have := hh.out.2.2.1; have := hh.out.2.2.2.1; omega) (by simp; omega) (wr.heap.size + 1) (by simp) ?_; intro gg cap w3 hown3 hgrow hat3 hlt3; have hN3 := Mk.nv3 hh.out.2.2.2.2.2.1 hne hgrow; have j2 := hN3.2.2.2.1; have jf := hN3.2.2.2.2 2)
            have hM : Mk 61 w0 bo W' H' (gridL W' (douF W H cs) (y * W' + (x + 1))) (w3.setCell ⟨bo, 2, none⟩ (.slice (some ⟨gg, 0, none⟩) (zs.length + 1) cap)) := by
              rw [gridL_step W' _ y hlx, hF.out, scaledF_no hA'.out, fop_mul_comm]
              exact Mk.step hh.out.2.2.2.2.2.1 hrow hh.out.1 hh.out.2.1 hne hbo hh.out.2.2.2.2.1 (flT.flR hh.out.2.2.2.2.2.2 _) hown3 hgrow hat3
            have hM := Lib.hid hM
            clear hgrow hown3 hat3 hrow hrowA
            go_wp2_with fail
            go_roundw
            case rel => exact ⟨x + 1, by omega, by go_num, by first | exact hM | exact Lib.hid (hM.out.drewN _)⟩
            case measure => simp [intOf]; omega
        · obtain rfl : x = W' := by omega
          rw [gridL_row] at hmk
          have hN := Lib.hid (And.intro hN (And.intro hz (And.intro hzm (And.intro hrow (And.intro hne (And.intro hbo hbl))))))
          clear hz hzm hrow hne hbo hbl
          go_wp2_with fail
          go_roundw
          case rel => exact ⟨y + 1, by omega, by go_num, hmk⟩
          case measure => simp [intOf]; omega
    · obtain rfl : y = H' := by omega
      clear k0 k1 k2
      obtain ⟨a, n, c, hN, hoc, hne, hbo, hbl2⟩ := hmk.out
      obtain ⟨_, f0, f1, f2, f3⟩ := hN
      obtain ⟨_, r0, r1, r2, rf⟩ := hpv.out.2.2.1.below hbl2
      have hoc := Lib.hid hoc
      go_wp2_with fail
      refine bodyPost_ret (v := ?v) ?hr rfl ?post
      case hr => (simp [results, Try.results30, go_sem, f0, f1, f2, r0, r1, r2, rf]; try rfl)
      case post =>
        have h0 := hpv.out.2.2.2
        have ho := hoc.out
        rw [Nat.add_zero] at ho
        refine ⟨_, _, _, rfl, ?_, ?_⟩
        · ((repeat' (first | (refine bel_set ?_ ?_ _) | (refine bel_al ?_ ?_ _) | exact Below.refl _ _ | assumption | (refine below_drewN ?_ _) | (refine Below.drew ?_) | (refine Below.trans ?_ (Below.mono hbl2 ?_)))) <;> (first | omega | (simp; done) | (simp; omega)))
        · (refine OC.mono (base := ?bb) ?hh ?hl; (case hh => ((repeat' (first | (refine OC.set ?_ _ ?_) | (refine OC.alloc ?_ _) | exact ho | (refine OC.drewN ?_ _))) <;> (first | omega | (simp; done) | (simp; omega)))); (case hl => (first | omega | (simp; done) | (simp; omega))))
end Go.Proofs.Ytblaojflcemfdaa
