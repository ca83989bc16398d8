import Derived.Test.YtmiddlkcankkjaaPj
import Derived.Test.YtmiddlkcankkjaaPc
import Derived.IntWalk
set_option linter.unusedVariables false
set_option linter.unusedSimpArgs false
namespace Go.Proofs.Ytmiddlkcankkjaa
open Go.FX Go.RowKit Go.WideShapes Go.ChangeShapes

set_option maxRecDepth 100000 in
set_option maxHeartbeats 4000000 in
theorem less_fn (W H : Nat) (a : Option Addr) (n c : Nat) (cs : List Nat) (a' : Option Addr) (n' c' : Nat) (cs' : List Nat) (bp bq : Nat) (w : World) (hv : FC w (.slice a n c) cs) (hp : Pv w bp W H (.slice a n c)) (hv' : FC w (.slice a' n' c') cs') (hp' : Pv w bq W H (.slice a' n' c')) (b1 : 1 ≤ W) (b2 : W ≤ 24) (b3 : 1 ≤ H) (b4 : H ≤ 24) (hl : cs.length = H * W) (hl' : cs'.length = H * W) :
    GreyFn Try.prog 99 #[] #[.pointer (some ⟨bp, 0, none⟩), .pointer (some ⟨bq, 0, none⟩)] W H (fun x y => fop .sub .f32 (atC W H cs x y) (atC W H cs' x y)) w := fun w1 x y hb hx hy => by
  have hat := fun w2 (h : Below w1.heap.size w1 w2) => about_any W H (.slice a n c) cs x y w2 ((hv.below hb).below h) b1 b2 b3 b4 hl (by omega) (by omega) (by omega) (by omega)
  have hat' := fun w2 (h : Below w1.heap.size w1 w2) => about_any W H (.slice a' n' c') cs' x y w2 ((hv'.below hb).below h) b1 b2 b3 b4 hl' (by omega) (by omega) (by omega) (by omega)
  obtain ⟨l0, p0, p1, p2⟩ := hp.below hb
  obtain ⟨l1, q0, q1, q2⟩ := hp'.below hb
  obtain ⟨g1, e1⟩ : ∃ g, g = atC W H cs x y := ⟨_, rfl⟩
  obtain ⟨g2, e2⟩ : ∃ g, g = atC W H cs' x y := ⟨_, rfl⟩
  rw [← e1] at hat
  rw [← e2] at hat'
  have hE : Hid (fop .sub .f32 (atC W H cs x y) (atC W H cs' x y) = fop .sub .f32 g1 g2) := Lib.hid (by rw [e1, e2])
  clear hv hp hv' hp' hl hl' hb e1 e2
  show Calls Try.prog 99 #[.int .i64 x, .int .i64 y, .pointer (some ⟨bp, 0, none⟩), .pointer (some ⟨bq, 0, none⟩)] w1 _
  go_enter Try.func99, Try.ntmps99
  go_upto_region 1 with fail
  refine wp_region_cls (by kernel_rfl) (by kernel_rfl) (by kernel_rfl) (by kernel_rfl) (fun w' => Below w1.heap.size w1 w') (below_drewN (Below.refl _ _) 1) [Eq1 ?q1042u0, Eq1 ?q1042u1, Eq1 ?q1042u2, FloatIs .f32 (g1), Eq1 ?q1042u4, Eq1 ?q1042u5, Eq1 ?q1042u6, FloatIs .f32 (g2), FloatIs .f32 (fop .sub .f32 g1 g2), FloatIs .f32 (fop .sub .f32 g1 g2)] ?q1042main
  case q1042main =>
    (refine wpR_pure ?_ (fun w hw => ?_) ?_; rfl; (obtain ⟨hwc, hwf⟩ := bcell2 hw; go_simp; (try with_reducible rfl)); (try simp only [Act.put, List.setIfInBounds_toArray, List.set_cons_zero, List.set_cons_succ]))
    (refine wpR_pure ?_ (fun w hw => ?_) ?_; rfl; (obtain ⟨hwc, hwf⟩ := bcell2 hw; go_simp; (try with_reducible rfl)); (try simp only [Act.put, List.setIfInBounds_toArray, List.set_cons_zero, List.set_cons_succ]))
    (refine wpR_pure ?_ (fun w hw => ?_) ?_; rfl; (obtain ⟨hwc, hwf⟩ := bcell2 hw; go_simp; (try with_reducible rfl)); (try simp only [Act.put, List.setIfInBounds_toArray, List.set_cons_zero, List.set_cons_succ]))
    (refine wpR_cls ?_ (fun w hw => ?_) ?_; rfl; (go_simp; refine (hat _ hw).mono ?_; rintro _ _ ⟨_, rfl, hcb, hcr⟩; exact ⟨_, rfl, ⟨_, rfl, hcr⟩, Below.trans hw (hcb.mono hw.size)⟩); (rintro _ ⟨_, rfl, _⟩; (try simp only [Act.put, List.setIfInBounds_toArray, List.set_cons_zero, List.set_cons_succ])))
    (refine wpR_pure ?_ (fun w hw => ?_) ?_; rfl; (obtain ⟨hwc, hwf⟩ := bcell2 hw; go_simp; (try with_reducible rfl)); (try simp only [Act.put, List.setIfInBounds_toArray, List.set_cons_zero, List.set_cons_succ]))
    (refine wpR_pure ?_ (fun w hw => ?_) ?_; rfl; (obtain ⟨hwc, hwf⟩ := bcell2 hw; go_simp; (try with_reducible rfl)); (try simp only [Act.put, List.setIfInBounds_toArray, List.set_cons_zero, List.set_cons_succ]))
    (refine wpR_pure ?_ (fun w hw => ?_) ?_; rfl; (obtain ⟨hwc, hwf⟩ := bcell2 hw; go_simp; (try with_reducible rfl)); (try simp only [Act.put, List.setIfInBounds_toArray, List.set_cons_zero, List.set_cons_succ]))
    (refine wpR_cls ?_ (fun w hw => ?_) ?_; rfl; (go_simp; refine (hat' _ hw).mono ?_; rintro _ _ ⟨_, rfl, hcb, hcr⟩; exact ⟨_, rfl, ⟨_, rfl, hcr⟩, Below.trans hw (hcb.mono hw.size)⟩); (rintro _ ⟨_, rfl, _⟩; (try simp only [Act.put, List.setIfInBounds_toArray, List.set_cons_zero, List.set_cons_succ])))
    (refine wpR_cls ?_ (fun w hw => ?_) ?_; rfl; (go_simp; exact ⟨below_drewN hw _, _, rfl, Fl.flR (by assumption) (by assumption) _⟩); (rintro _ ⟨_, rfl, _⟩; (try simp only [Act.put, List.setIfInBounds_toArray, List.set_cons_zero, List.set_cons_succ])))
    (refine wpR_cls ?_ (fun w hw => ?_) ?_; rfl; (go_simp; first | exact ⟨_, rfl, by assumption⟩ | exact ⟨hw, _, rfl, by assumption⟩); (rintro _ ⟨_, rfl, _⟩; (try simp only [Act.put, List.setIfInBounds_toArray, List.set_cons_zero, List.set_cons_succ])))
    refine wpR_nil ?_
    intro w' hw'
    go_wp2_with fail
    go_ret
    exact ⟨_, rfl, hw', by rw [hE.out]; assumption⟩
theorem pairB_self {W H : Nat} {n n' : Nat} (h : validB W H n = true) (h' : validB W H n' = true) : pairB W H n W H n' = true := by simp [pairB, h, h']
theorem less_cells (W H : Nat) (cs cs' : List Nat) (hl : cs.length = H * W) : gridL W (fun x y => fop .sub .f32 (atC W H cs x y) (atC W H cs' x y)) (H * W) = gridL W (fun x y => fop .sub .f32 (atC W H cs x y) (atC W H cs' x y)) cs.length := by rw [hl]
set_option maxHeartbeats 2000000 in
theorem implLessPictures_any (W H : Nat) (a : Option Addr) (n c : Nat) (cs : List Nat) (a' : Option Addr) (n' c' : Nat) (cs' : List Nat) (w : World) (hv : FC w (.slice a n c) cs) (hv' : FC w (.slice a' n' c') cs') (b1 : 1 ≤ W) (b2 : W ≤ 24) (b3 : 1 ≤ H) (b4 : H ≤ 24) (b5 : H * W ≤ 256) (hl : cs.length = H * W) (hl' : cs'.length = H * W) :
    Calls Try.prog 53 #[.agg #[.int .i64 W, .int .i64 H, .slice a n c], .agg #[.int .i64 W, .int .i64 H, .slice a' n' c']] w (RPic 39 W H (gridL W (fun x y => fop .sub .f32 (atC W H cs x y) (atC W H cs' x y)) (H * W)) true w) := by
  obtain ⟨rfl, hnc, hcm⟩ := hv.sized
  obtain ⟨rfl, hnc', hcm'⟩ := hv'.sized
  have hval := Lib.hid (pairB_self (validB_mk b1 b2 b3 b4 b5 hl) (validB_mk b1 b2 b3 b4 b5 hl'))
  have h1 := fun w1 => isPair_any W H a cs.length c W H a' cs'.length c' w1 hnc hcm hnc' hcm'
  have hd := fun w1 (hb : Below w.heap.size w w1) hp hp' => draw_any W H b1 b2 b3 b4 b5 _ _ _ _ w1 (enters_of Try.func99 (by kernel_rfl) rfl) (less_fn W H a _ c cs a' _ c' cs' w.heap.size (w.heap.size + 1) w1 (hv.below hb) hp (hv'.below hb) hp' b1 b2 b3 b4 hl hl')
  clear hl hl'
  go_enter Try.func53, Try.ntmps53
  go_wp2_with fail
  refine (h1 _).mono ?_
  rintro e w1 ⟨rfl, hb1⟩
  rw [hval.out]
  have hP := (((Pv.new w W H (.slice a cs.length c) 49).alloc _).alloc _).below hb1
  have hQ := ((Pv.new (w.alloc (.cells #[.int .i64 W, .int .i64 H, .slice a cs.length c] 49)) W H (.slice a' cs'.length c') 49).alloc _).below hb1
  have hn := (Nv.new _ _ _ _ _).below hb1
  have s1 := hb1.size
  simp only [World.size_alloc] at hQ hn s1
  obtain ⟨l1, p0, p1, p2⟩ := id hP
  obtain ⟨l2, q0, q1, q2⟩ := id hQ
  go_wp2_with fail
  refine (hd _ (by ((repeat' (first | (refine bel_set ?_ ?_ _) | (refine bel_al ?_ ?_ _) | exact Below.refl _ _ | assumption | (refine below_drewN ?_ _) | (refine Below.drew ?_) | (refine Below.trans ?_ (Below.mono hb1 ?_)))) <;> (first | omega | (simp; done) | (simp; omega)))) hP hQ).mono ?_
  rintro e w3 ⟨a3, n3, c3, rfl, hb3, ho3⟩
  obtain ⟨l4, r0, r1, r2, rf⟩ := hn.below hb3
  have s3 := hb3.size
  go_wp2_with fail
  refine bodyPost_ret (v := ?v) ?hr rfl ?post
  case hr => (simp [results, Try.results53, go_sem, r0, r1, r2, rf]; try rfl)
  case post =>
    refine ⟨_, _, _, rfl, ?_, ?_⟩
    · ((repeat' (first | (refine bel_set ?_ ?_ _) | (refine bel_al ?_ ?_ _) | exact Below.refl _ _ | assumption | (refine below_drewN ?_ _) | (refine Below.drew ?_) | (refine Below.trans ?_ (Below.mono hb3 ?_)) | (refine Below.trans ?_ (Below.mono hb1 ?_)))) <;> (first | omega | (simp; done) | (simp; omega)))
    · (refine OC.mono (base := ?bb) ?hh ?hl; (case hh => ((repeat' (first | (refine OC.set ?_ _ ?_) | (refine OC.alloc ?_ _) | exact ho3 | (refine OC.drewN ?_ _))) <;> (first | omega | (simp; done) | (simp; omega)))); (case hl => (first | omega | (simp; done) | (simp; omega))))
set_option maxHeartbeats 2000000 in
theorem implLessPictures_no (W H : Int) (a : Option Addr) (n c : Nat) (W' H' : Int) (a' : Option Addr) (n' c' : Nat) (w : World) (hnc : n ≤ c) (hcm : c ≤ maxLen) (hnc' : n' ≤ c') (hcm' : c' ≤ maxLen) (hval : pairB W H n W' H' n' = false) :
    Calls Try.prog 53 #[.agg #[.int .i64 W, .int .i64 H, .slice a n c], .agg #[.int .i64 W', .int .i64 H', .slice a' n' c']] w (RPic 39 0 0 [] false w) := by
  have h1 := fun w1 => isPair_any W H a n c W' H' a' n' c' w1 hnc hcm hnc' hcm'
  have hval := Lib.hid hval
  go_enter Try.func53, Try.ntmps53
  go_wp2_with fail
  refine (h1 _).mono ?_
  rintro e w1 ⟨rfl, hb1⟩
  rw [hval.out]
  have hn := (Nv.new _ _ _ _ _).below hb1
  have s1 := hb1.size
  simp only [World.size_alloc] at hn s1
  obtain ⟨l1, q0, q1, q2, qf⟩ := id hn
  go_wp2_with fail
  refine bodyPost_ret (v := ?v1) ?hr1 rfl ?post1
  case hr1 => (simp [results, Try.results53, go_sem, q0, q1, q2, qf]; try rfl)
  case post1 => exact ⟨_, _, _, rfl, by ((repeat' (first | (refine bel_set ?_ ?_ _) | (refine bel_al ?_ ?_ _) | exact Below.refl _ _ | assumption | (refine below_drewN ?_ _) | (refine Below.drew ?_) | (refine Below.trans ?_ (Below.mono hb1 ?_)))) <;> (first | omega | (simp; done) | (simp; omega))), OC.nil _ _ _⟩
set_option maxRecDepth 100000 in
set_option maxHeartbeats 8000000 in
theorem specLessPictures_any (W H : Nat) (a0 : Option Addr) (n0 c0 : Nat) (cs : List Nat) (a' : Option Addr) (n' c' : Nat) (cs' : List Nat) (w : World) (hv : FC w (.slice a0 n0 c0) cs) (hv' : FC w (.slice a' n' c') cs') (b1 : 1 ≤ W) (b2 : W ≤ 24) (b3 : 1 ≤ H) (b4 : H ≤ 24) (b5 : H * W ≤ 256) (hl : cs.length = H * W) (hle : cs'.length = H * W) :
    Calls Try.prog 52 #[.agg #[.int .i64 W, .int .i64 H, .slice a0 n0 c0], .agg #[.int .i64 W, .int .i64 H, .slice a' n' c']] w (RPic 39 W H (gridL W (fun x y => fop .sub .f32 (atC W H cs x y) (atC W H cs' x y)) (H * W)) true w) := by
  obtain ⟨i0, hi, hz0, hz1, hz2⟩ := info_parts info_f32
  obtain ⟨rfl, hnc, hcm⟩ := hv.sized
  obtain ⟨rfl, hnc', hcm'⟩ := hv'.sized
  have hval := Lib.hid (pairB_self (validB_mk b1 b2 b3 b4 b5 hl) (validB_mk b1 b2 b3 b4 b5 hle))
  have h1 := fun w1 hp hp' => specTwo_any W H a0 cs.length c0 w.heap.size W H a' cs'.length c' (w.heap.size + 1) w1 hp hp' (by omega) (by unfold maxLen at hcm; omega) (by unfold maxLen at hcm'; omega)
  have hl' := Lib.hid hl
  have hll := Lib.hid (hle.trans hl.symm)
  have h256 : cs.length ≤ 256 := by omega
  clear hl hle
  go_enter Try.func52, Try.ntmps52
  go_wp2_with fail
  have hP1 := ((Pv.new w W H (.slice a0 cs.length c0) 49).alloc (.cells #[.int .i64 W, .int .i64 H, .slice a' cs'.length c'] 49)).alloc (.cells #[.int .i64 0, .int .i64 0, .slice none 0 0] 49)
  have hP2 := (Pv.new (w.alloc (.cells #[.int .i64 W, .int .i64 H, .slice a0 cs.length c0] 49)) W H (.slice a' cs'.length c') 49).alloc (.cells #[.int .i64 0, .int .i64 0, .slice none 0 0] 49)
  have hN := Nv.new ((w.alloc (.cells #[.int .i64 W, .int .i64 H, .slice a0 cs.length c0] 49)).alloc (.cells #[.int .i64 W, .int .i64 H, .slice a' cs'.length c'] 49)) (.int .i64 0) (.int .i64 0) (.slice none 0 0) 49
  simp only [World.size_alloc] at hP2 hN
  refine (h1 _ hP1 hP2).mono ?_
  rintro e w1 ⟨k0, rfl, rfl⟩
  rw [hval.out]
  go_wp2_with fail
  obtain ⟨w0, hw0⟩ : ∃ w0, w0 = (((w.alloc (.cells #[.int .i64 W, .int .i64 H, .slice a0 cs.length c0] 49)).alloc (.cells #[.int .i64 W, .int .i64 H, .slice a' cs'.length c'] 49)).alloc (.cells #[.int .i64 0, .int .i64 0, .slice none 0 0] 49)).drewN k0 := ⟨_, rfl⟩
  rw [← hw0]
  have hp0 : Pv w0 w.heap.size W H (.slice a0 cs.length c0) := by rw [hw0]; exact hP1.drewN k0
  have hq0 : Pv w0 (w.heap.size + 1) W H (.slice a' cs'.length c') := by rw [hw0]; exact hP2.drewN k0
  have hn0 : Nv w0 (w.heap.size + 1 + 1) (.int .i64 0) (.int .i64 0) (.slice none 0 0) := by rw [hw0]; exact hN.drewN k0
  have hb0 : Below w.heap.size w w0 := by rw [hw0]; exact below_drewN (below3 _ _ _ _) _
  have hlt0 : w.heap.size + 1 + 1 < w0.heap.size := hn0.1
  clear hw0 hP1 hP2 hN
  obtain ⟨hp1, p0, p1, p2⟩ := id hp0
  have hpv := Lib.hid (And.intro hp0 (And.intro (hv.below hb0) (And.intro hn0 (And.intro hq0 (And.intro (hv'.below hb0) hb0)))))
  clear hp0 hn0 hb0 hq0 hv hv'
  refine (specNew_any _ _ _).mono ?_
  rintro e w1 ⟨a1, n1, c1, rfl, hb1, ho1⟩
  obtain ⟨bo, hbo0⟩ : ∃ b, b = w1.heap.size := ⟨_, rfl⟩
  have hmk := Lib.hid (Mk.start1 (W := (W : Int)) (H := (H : Int)) (T := 49) hb1 ho1)
  rw [← hbo0] at hmk
  clear hb1 ho1
  go_wp2_with fail
  rw [← hbo0]
  clear hbo0
  go_loopw [7] (fun i wr => ∃ k : Nat, k ≤ cs.length ∧ i = .int .i64 k ∧ Hid (Mk 39 w0 bo W H (gridL W (fun x y => fop .sub .f32 (atC W H cs x y) (atC W H cs' x y)) k) wr)) (fun i _ => cs.length - (intOf i).toNat)
  case atStart => exact ⟨0, Nat.zero_le _, rfl, by simpa [gridL] using hmk⟩
  case round =>
    clear hmk
    obtain ⟨k, hk, rfl, hmk⟩ := hrel
    obtain ⟨a, n, c, hN, ⟨zs, hz, hzm, hrow⟩, hne, hbo, hbl⟩ := hmk.out
    obtain ⟨lb, e0, e1, e2⟩ := hpv.out.1.below hbl
    obtain ⟨lq, g0, g1, g2⟩ := hpv.out.2.2.2.1.below hbl
    by_cases hlk : k < cs.length
    · have hlen : zs.length = k := by rw [← gridL_len W (fun x y => fop .sub .f32 (atC W H cs x y) (atC W H cs' x y)) k, ← hzm, List.length_map]
      obtain ⟨bb, off, cc, z, ev, _, _, hbz, hzf, hzc⟩ := (hpv.out.2.1.below hbl).cell hlk
      obtain ⟨bb', off', cc', z', ev', _, _, hbz', hzf', hzc'⟩ := (hpv.out.2.2.2.2.1.below hbl).cell (k := k) (by rw [hll.out]; exact hlk)
      simp only [Value.slice.injEq, true_and] at ev ev'
      obtain ⟨rfl, rfl⟩ := ev
      obtain ⟨rfl, rfl⟩ := ev'
      have i3 : (k : Int) < (cs'.length : Int) := by rw [hll.out]; omega
      have hh := Lib.hid (And.intro hz (And.intro hzm (And.intro hlen (And.intro hbl (And.intro hN (And.intro hzf hzf'))))))
      have hrowA : ∀ (o : Obj) (m : Nat), ((wr.alloc o).drewN m).ownsRow w0.heap.size 39 1 (.slice a n c) zs.length (zs.map (.float .f32)) := fun o m => hrow.alloc o
      have hsz : w0.heap.size ≤ wr.heap.size := hbl.size
      have k2 : wr.cell? ⟨bo, 2, none⟩ = some (.slice a n c) := hN.2.2.2.1
      have hbo2 : bo < wr.heap.size := hN.1
      have i1 : (0 : Int) ≤ (k : Int) := Int.natCast_nonneg _
      have i2 : (k : Int) < (cs.length : Int) := by omega
      clear hlen hzm hz hbl hmk hN hzf hzf'
      go_wp2_with fail
      go_region_law
        (first
          | (refine step_append_lies _ (by rfl) _ _ _ (by rfl) w0.heap.size 39 i0 _ 1 4 Try.underlying22 hi hz0 hz1 hz2 rfl (by omega) (.slice a n c) zs.length (zs.map (.float .f32)) (by rfl) (hrowA _ _)
              ⟨wr.heap.size, 0, none⟩ 1 1 [.float .f32 _] (by rfl) (by rfl) (World.news_of_block (cs := #[.float .f32 _]) (t := 39) (fr := (0, 0)) (heap_alloc_new wr _)) (by simp [Value.oneCell'])
              (by omega) (by have := hh.out.2.2.1; unfold maxLen; omega) (by have := hh.out.2.2.1; omega) (by simp; omega) (wr.heap.size + 1) (by simp) ?_; intro gg cap w3 hown3 hgrow hat3 hlt3; have hN3 := Mk.nv3 hh.out.2.2.2.2.1 hne hgrow; have j2 := hN3.2.2.2.1; have jf := hN3.2.2.2.2 2))
      all_goals
        have hM : Mk 39 w0 bo W H (gridL W (fun x y => fop .sub .f32 (atC W H cs x y) (atC W H cs' x y)) (k + 1)) (w3.setCell ⟨bo, 2, none⟩ (.slice (some ⟨gg, 0, none⟩) (zs.length + 1) cap)) := by
          rw [gridL_succ W _ k]
          show Mk _ _ _ _ _ (_ ++ [fop .sub .f32 (atC W H cs _ _) (atC W H cs' _ _)]) _
          rw [atC_lin cs b1 (by have := hl'.out; omega), atC_lin cs' b1 (by have := hl'.out; omega)]
          exact Mk.step hh.out.2.2.2.2.1 hrow hh.out.1 hh.out.2.1 hne hbo hh.out.2.2.2.1 (hh.out.2.2.2.2.2.1.flR hh.out.2.2.2.2.2.2 _) hown3 hgrow hat3
        have hM := Lib.hid hM
        clear hgrow hown3 hat3 hrow hrowA
        go_wp2_with fail
        go_roundw
        case rel => exact ⟨k + 1, by omega, by go_num, by first | exact hM | exact Lib.hid (hM.out.drewN _)⟩
        case measure => simp [intOf]; omega
    · obtain rfl : k = cs.length := by omega
      obtain ⟨_, f0, f1, f2, f3⟩ := hN
      obtain ⟨_, r0, r1, r2, rf⟩ := hpv.out.2.2.1.below hbl
      have hoc : OC wr w0.heap.size 39 (.slice a n c) _ := ⟨zs, hz, hzm, hrow⟩
      have hoc := Lib.hid hoc
      have hzm' := Lib.hid hzm
      clear hzm hrow hz
      go_wp2_with fail
      refine bodyPost_ret (v := ?v) ?hr rfl ?post
      case hr => (simp [results, Try.results52, go_sem, f0, f1, f2, r0, r1, r2, rf]; try rfl)
      case post =>
        have h0 := hpv.out.2.2.2.2.2
        have ho := hoc.out
        rw [hl'.out] at ho
        refine ⟨_, _, _, rfl, ?_, ?_⟩
        · ((repeat' (first | (refine bel_set ?_ ?_ _) | (refine bel_al ?_ ?_ _) | exact Below.refl _ _ | assumption | (refine below_drewN ?_ _) | (refine Below.drew ?_) | (refine Below.trans ?_ (Below.mono hbl ?_)))) <;> (first | omega | (simp; done) | (simp; omega)))
        · (refine OC.mono (base := ?bb) ?hh ?hl; (case hh => ((repeat' (first | (refine OC.set ?_ _ ?_) | (refine OC.alloc ?_ _) | exact ho | (refine OC.drewN ?_ _))) <;> (first | omega | (simp; done) | (simp; omega)))); (case hl => (first | omega | (simp; done) | (simp; omega))))
theorem specLessPictures_no (W H : Int) (a : Option Addr) (n c : Nat) (W' H' : Int) (a' : Option Addr) (n' c' : Nat) (w : World) (hnc : n ≤ c) (hcm : c ≤ maxLen) (hnc' : n' ≤ c') (hcm' : c' ≤ maxLen) (hval : pairB W H n W' H' n' = false) :
    Calls Try.prog 52 #[.agg #[.int .i64 W, .int .i64 H, .slice a n c], .agg #[.int .i64 W', .int .i64 H', .slice a' n' c']] w (RPic 39 0 0 [] false w) := by
  have h1 := fun w1 hp hp' => specTwo_any W H a n c w.heap.size W' H' a' n' c' (w.heap.size + 1) w1 hp hp' (by omega) (by unfold maxLen at hcm; omega) (by unfold maxLen at hcm'; omega)
  have hval := Lib.hid hval
  go_enter Try.func52, Try.ntmps52
  go_wp2_with fail
  have hP1 := ((Pv.new w W H (.slice a n c) 49).alloc (.cells #[.int .i64 W', .int .i64 H', .slice a' n' c'] 49)).alloc (.cells #[.int .i64 0, .int .i64 0, .slice none 0 0] 49)
  have hP2 := (Pv.new (w.alloc (.cells #[.int .i64 W, .int .i64 H, .slice a n c] 49)) W' H' (.slice a' n' c') 49).alloc (.cells #[.int .i64 0, .int .i64 0, .slice none 0 0] 49)
  simp only [World.size_alloc] at hP2
  refine (h1 _ hP1 hP2).mono ?_
  rintro e w1 ⟨k, rfl, rfl⟩
  rw [hval.out]
  go_wp2_with fail
  refine bodyPost_ret (v := ?v) ?hr rfl ?post
  case hr => (simp [results, Try.results52, go_sem]; try rfl)
  case post => exact ⟨_, _, _, rfl, by ((repeat' (first | (refine bel_set ?_ ?_ _) | (refine bel_al ?_ ?_ _) | exact Below.refl _ _ | assumption | (refine below_drewN ?_ _) | (refine Below.drew ?_))) <;> (first | omega | (simp; done) | (simp; omega))), OC.nil _ _ _⟩
theorem pairLessPictures (W H : Int) (cs : List Nat) (W' H' : Int) (cs' : List Nat) :
    ∃ (W2 H2 : Int) (cs2 : List Nat) (ok : Bool),
      (∀ a n c a' n' c' w, FC w (.slice a n c) cs → FC w (.slice a' n' c') cs' → Calls Try.prog 52 #[.agg #[.int .i64 W, .int .i64 H, .slice a n c], .agg #[.int .i64 W', .int .i64 H', .slice a' n' c']] w (RPic 39 W2 H2 cs2 ok w)) ∧
      (∀ a n c a' n' c' w, FC w (.slice a n c) cs → FC w (.slice a' n' c') cs' → Calls Try.prog 53 #[.agg #[.int .i64 W, .int .i64 H, .slice a n c], .agg #[.int .i64 W', .int .i64 H', .slice a' n' c']] w (RPic 39 W2 H2 cs2 ok w)) ∧ cs2.length ≤ 256 := by
  cases hv : pairB W H cs.length W' H' cs'.length with
  | false =>
    refine ⟨0, 0, [], false, fun a n c a' n' c' w hv hv' => ?_, fun a n c a' n' c' w hv hv' => ?_, by simp⟩
    · obtain ⟨rfl, h1, h2⟩ := hv.sized
      obtain ⟨rfl, h3, h4⟩ := hv'.sized
      exact specLessPictures_no W H a _ c W' H' a' _ c' w h1 h2 h3 h4 (by assumption)
    · obtain ⟨rfl, h1, h2⟩ := hv.sized
      obtain ⟨rfl, h3, h4⟩ := hv'.sized
      exact implLessPictures_no W H a _ c W' H' a' _ c' w h1 h2 h3 h4 (by assumption)
  | true =>
    unfold pairB at hv
    simp only [Bool.and_eq_true, decide_eq_true_eq] at hv
    obtain ⟨hv, hv', rfl, rfl⟩ := hv
    obtain ⟨Wn, Hn, rfl, rfl, b1, b2, b3, b4, b5, hl⟩ := validB_parts hv
    obtain ⟨Wm, Hm, e1, e2, _, _, _, _, _, hl'⟩ := validB_parts hv'
    obtain rfl : Wm = Wn := by omega
    obtain rfl : Hm = Hn := by omega
    exact ⟨_, _, _, _, fun a n c a' n' c' w hv hv' => specLessPictures_any Wm Hm a n c cs a' n' c' cs' w hv hv' b1 b2 b3 b4 b5 hl hl', fun a n c a' n' c' w hv hv' => implLessPictures_any Wm Hm a n c cs a' n' c' cs' w hv hv' b1 b2 b3 b4 b5 hl hl', by rw [gridL_len]; exact b5⟩
end Go.Proofs.Ytmiddlkcankkjaa
