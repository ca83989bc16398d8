import Derived.Test.YtdgpjpabhbifbaaPl
import Derived.Test.YtdgpjpabhbifbaaPi
import Derived.Test.YtdgpjpabhbifbaaPq
import Derived.Test.YtdgpjpabhbifbaaPk
set_option linter.unusedVariables false
set_option linter.unusedSimpArgs false
namespace Go.Proofs.Ytdgpjpabhbifbaa
open Go.FX Go.RowKit Go.WideShapes Go.ChangeShapes

theorem crop_fn (W H : Nat) (a : Option Addr) (n c : Nat) (cs : List Nat) (x0 y0 : Int) (bp bx by_ : Nat) (w : World) (hv : FC w (.slice a n c) cs) (hp : Pv w bp W H (.slice a n c)) (hlx : bx < w.heap.size) (hcx : w.cell? ⟨bx, 0, none⟩ = some (.int .i64 x0)) (hly : by_ < w.heap.size) (hcy : w.cell? ⟨by_, 0, none⟩ = some (.int .i64 y0)) (W' H' : Nat) (e1 : 0 ≤ x0) (e2 : x0 + W' ≤ W) (e3 : 0 ≤ y0) (e4 : y0 + H' ≤ H) (b1 : 1 ≤ W) (b2 : W ≤ 24) (b3 : 1 ≤ H) (b4 : H ≤ 24) (hl : cs.length = H * W) :
    GreyFn Try.prog 72 #[] #[.pointer (some ⟨bp, 0, none⟩), .pointer (some ⟨bx, 0, none⟩), .pointer (some ⟨by_, 0, none⟩)] W' H' (fun x y => atC W H cs (x0 + x) (y0 + y)) w := fun w1 x y hb hx hy => by
  have hab := fun w2 (h : Below w1.heap.size w1 w2) => about_any W H (.slice a n c) cs (x0 + (x : Int)) (y0 + (y : Int)) w2 ((hv.below hb).below h) b1 b2 b3 b4 hl (by omega) (by omega) (by omega) (by omega)
  obtain ⟨l0, p0, p1, p2⟩ := hp.below hb
  have q := (bcell hb).1 bx 0 hlx
  rw [hcx] at q
  have q2 := (bcell hb).1 by_ 0 hly
  rw [hcy] at q2
  clear hcx hcy hv hp hl hb
  show Calls Try.prog 72 #[.int .i64 x, .int .i64 y, .pointer (some ⟨bp, 0, none⟩), .pointer (some ⟨bx, 0, none⟩), .pointer (some ⟨by_, 0, none⟩)] w1 _
  go_enter Try.func72, Try.ntmps72
  go_wp2_with fail
  refine (hab _ (Below.refl _ _)).mono ?_
  rintro e w2 ⟨r, rfl, hb2, hr⟩
  go_wp2_with fail
  go_ret
  exact ⟨_, rfl, hb2, hr⟩
set_option maxHeartbeats 1000000 in
theorem implCropPicture_any (W H : Nat) (a : Option Addr) (n c : Nat) (cs : List Nat) (w : World) (hv : FC w (.slice a n c) cs) (b1 : 1 ≤ W) (b2 : W ≤ 24) (b3 : 1 ≤ H) (b4 : H ≤ 24) (b5 : H * W ≤ 256) (hl : cs.length = H * W) (x0 y0 : Int) (W' H' : Nat) (hx0 : 0 ≤ x0) (hy0 : 0 ≤ y0) (g1 : 1 ≤ W') (g2 : x0 + W' ≤ W) (g3 : 1 ≤ H') (g4 : y0 + H' ≤ H) (g5 : H' * W' ≤ 256) :
    Calls Try.prog 40 #[.agg #[.int .i64 W, .int .i64 H, .slice a n c], .int .i64 x0, .int .i64 y0, .int .i64 W', .int .i64 H'] w (RPic 32 W' H' (gridL W' (fun x y => atC W H cs (x0 + x) (y0 + y)) (H' * W')) true w) := by
  obtain ⟨rfl, hnc, hcm⟩ := hv.sized
  have hval := validB_mk b1 b2 b3 b4 b5 hl
  have hcell := Lib.hid (show cellB W H x0 y0 = true by simp [cellB]; omega)
  have hd := fun w1 (hb : Below w.heap.size w w1) hp hlx hcx hly hcy => drawFrom_any W H a cs.length c hval hnc hcm W' H' g1 (by omega) g3 (by omega) g5 _ _ _ _ w1 (enters_of Try.func72 (by kernel_rfl) rfl) (crop_fn W H a _ c cs x0 y0 w.heap.size (w.heap.size + 1) (w.heap.size + 1 + 1) w1 (hv.below hb) hp hlx hcx hly hcy W' H' hx0 g2 hy0 g4 b1 b2 b3 b4 hl)
  clear hl hval
  go_enter Try.func40, Try.ntmps40
  go_wp2_with fail
  refine (hasCell_any _ _ _ _ _ _ _ _).mono ?_
  rintro e w1 ⟨rfl, hb1⟩
  rw [hcell.out]
  have s1 := hb1.size
  simp only [World.size_alloc] at s1
  have hP := ((((Pv.new w (W : Int) (H : Int) (.slice a cs.length c) 27).alloc (.cells #[.int .i64 x0] 2)).alloc (.cells #[.int .i64 y0] 2)).alloc (.cells #[.int .i64 0, .int .i64 0, .slice none 0 0] 27)).below hb1
  obtain ⟨l1, p0, p1, p2⟩ := id hP
  have hx1 : w1.cell? ⟨w.heap.size + 1, 0, none⟩ = some (.int .i64 x0) := by rw [(bcell hb1).1 _ _ (by simp; try omega)]; go_simp
  have hy1 : w1.cell? ⟨w.heap.size + 1 + 1, 0, none⟩ = some (.int .i64 y0) := by rw [(bcell hb1).1 _ _ (by simp; try omega)]; go_simp
  have hN := (Nv.new _ _ _ _ _).below hb1
  simp only [World.size_alloc] at hN
  go_wp2_with fail
  refine (hd _ (by ((repeat' (first | exact Below.refl _ _ | assumption | (refine bel_set ?_ ?_ _) | (refine bel_al ?_ ?_ _) | (refine below_drewN ?_ _) | (refine Below.drew ?_) | (refine Below.trans ?_ (Below.mono hb1 ?_)))) <;> (first | omega | (simp; done) | (simp; omega)))) hP (by omega) hx1 (by omega) hy1).mono ?_
  rintro e w2 ⟨a1, n1, c1, rfl, hb2, ho2⟩
  obtain ⟨l2, q0, q1, q2, qf⟩ := hN.below hb2
  go_wp2_with fail
  refine bodyPost_ret (v := ?v) ?hr rfl ?post
  case hr => (simp [results, Try.results40, go_sem, q0, q1, q2, qf]; try rfl)
  case post =>
    refine ⟨_, _, _, rfl, ?_, ?_⟩
    · ((repeat' (first | exact Below.refl _ _ | assumption | (refine bel_set ?_ ?_ _) | (refine bel_al ?_ ?_ _) | (refine below_drewN ?_ _) | (refine Below.drew ?_) | (refine Below.trans ?_ (Below.mono hb2 ?_)) | (refine Below.trans ?_ (Below.mono hb1 ?_)))) <;> (first | omega | (simp; done) | (simp; omega)))
    · (refine OC.mono (base := ?bb) ?hh ?hl; (case hh => ((repeat' (first | exact ho2 | (refine OC.set ?_ _ ?_) | (refine OC.alloc ?_ _) | (refine OC.drewN ?_ _))) <;> (first | omega | (simp; done) | (simp; omega)))); (case hl => (first | omega | (simp; done) | (simp; omega))))
set_option maxRecDepth 100000 in
set_option maxHeartbeats 4000000 in
theorem specCropPicture_any (W H : Nat) (a0 : Option Addr) (n0 c0 : Nat) (cs : List Nat) (w : World) (hv : FC w (.slice a0 n0 c0) cs) (b1 : 1 ≤ W) (b2 : W ≤ 24) (b3 : 1 ≤ H) (b4 : H ≤ 24) (b5 : H * W ≤ 256) (hl : cs.length = H * W) (x0 y0 : Int) (W' H' : Nat) (hx0 : 0 ≤ x0) (hy0 : 0 ≤ y0) (g1 : 1 ≤ W') (g2 : x0 + W' ≤ W) (g3 : 1 ≤ H') (g4 : y0 + H' ≤ H) (g5 : H' * W' ≤ 256) :
    Calls Try.prog 39 #[.agg #[.int .i64 W, .int .i64 H, .slice a0 n0 c0], .int .i64 x0, .int .i64 y0, .int .i64 W', .int .i64 H'] w (RPic 32 W' H' (gridL W' (fun x y => atC W H cs (x0 + x) (y0 + y)) (H' * W')) true w) := by
  obtain ⟨i0, hi, hz0, hz1, hz2⟩ := info_parts info_f32
  obtain ⟨rfl, hnc, hcm⟩ := hv.sized
  have hbW : 1 ≤ W' ∧ W' ≤ 24 ∧ 1 ≤ H' ∧ H' ≤ 24 ∧ H' * W' ≤ 256 := ⟨by omega, by omega, by omega, by omega, g5⟩
  obtain ⟨d1, d2, d3, d4, d5⟩ := hbW
  have hval := Lib.hid (validB_mk b1 b2 b3 b4 b5 hl)
  have h1 := fun w1 hp => specIs_any W H a0 cs.length c0 w.heap.size w1 hp (by unfold maxLen at hcm; omega)
  have hcell := Lib.hid (show cellB W H x0 y0 = true by simp [cellB]; omega)
  have hin1 := Lib.hid (show decide (1 ≤ (W' : Int) ∧ (W' : Int) ≤ (W : Int) - x0) = true by simp; omega)
  have hin2 := Lib.hid (show decide (1 ≤ (H' : Int) ∧ (H' : Int) ≤ (H : Int) - y0) = true by simp; omega)
  have hl' := Lib.hid hl
  clear hl
  go_enter Try.func39, Try.ntmps39
  go_wp2_with fail
  refine (h1 _ ((Pv.new _ _ _ _ _).alloc _)).mono ?_
  rintro e w1 ⟨k0, rfl, rfl⟩
  rw [hval.out]
  go_wp2_with fail
  refine (specCell_any W H b1 b2 b3 b4 _ _ _ _ _ (((Pv.new _ _ _ _ _).alloc _).drewN _)).mono ?_
  rintro e w1 ⟨rfl, rfl⟩
  rw [hcell.out]
  go_wp2_with fail
  refine (specIn_any _ _ _ _).mono ?_
  rintro e w1 ⟨rfl, rfl⟩
  rw [hin1.out]
  go_wp2_with fail
  refine (specIn_any _ _ _ _).mono ?_
  rintro e w1 ⟨rfl, rfl⟩
  rw [hin2.out]
  go_wp2_with fail
  obtain ⟨w0, hw0⟩ : ∃ w0, w0 = ((w.alloc (.cells #[.int .i64 W, .int .i64 H, .slice a0 cs.length c0] 27)).alloc (.cells #[.int .i64 0, .int .i64 0, .slice none 0 0] 27)).drewN k0 := ⟨_, rfl⟩
  rw [← hw0]
  have hp0 : Pv w0 w.heap.size W H (.slice a0 cs.length c0) := by rw [hw0]; exact ((Pv.new _ _ _ _ _).alloc _).drewN _
  have hv0 : FC w0 (.slice a0 cs.length c0) cs := by rw [hw0]; exact ((hv.alloc _).alloc _).drewN _
  have hn0 : Nv w0 (w.heap.size + 1) (.int .i64 0) (.int .i64 0) (.slice none 0 0) := by rw [hw0]; have := (Nv.new (w.alloc (.cells #[.int .i64 W, .int .i64 H, .slice a0 cs.length c0] 27)) (.int .i64 0) (.int .i64 0) (.slice none 0 0) 27).drewN k0; simpa only [World.size_alloc] using this
  have hb0 : Below w.heap.size w w0 := by rw [hw0]; exact below_drewN (below2 _ _ _) _
  have hlt0 : w.heap.size + 1 < w0.heap.size := hn0.1
  clear hw0 hv
  obtain ⟨hp1, p0, p1, p2⟩ := id hp0
  have hpv := Lib.hid (And.intro hp0 (And.intro hv0 (And.intro hn0 hb0)))
  clear hp0 hv0 hn0 hb0
  refine (specNew_any _ _ _).mono ?_
  rintro e w1 ⟨a1, n1, c1, rfl, hb1, ho1⟩
  obtain ⟨bo, hbo0⟩ : ∃ b, b = w1.heap.size := ⟨_, rfl⟩
  have hmk := Lib.hid (Mk.start1 (W := (W' : Int)) (H := (H' : Int)) (T := 27) hb1 ho1)
  rw [← hbo0] at hmk
  have hbl := hb1.size
  obtain ⟨_, e0, e1, e2⟩ := (hpv.out.1.below hb1)
  clear hb1 ho1
  go_wp2_with fail
  rw [← hbo0]
  clear hbo0 e0 e1 e2 hbl
  go_loopw [13] (fun i wr => ∃ y : Nat, y ≤ H' ∧ i = .int .i64 (y0 + y) ∧ Hid (Mk 32 w0 bo W' H' (gridL W' (fun x y => atC W H cs (x0 + x) (y0 + y)) (y * W' + 0)) wr)) (fun i _ => H' - (intOf i - y0).toNat)
  case atStart => exact ⟨0, Nat.zero_le _, by simp, by simpa [gridL] using hmk⟩
  case round =>
    clear hmk
    obtain ⟨y, hy, rfl, hmk⟩ := hrel
    obtain ⟨wo, rfl⟩ : ∃ wo : World, wo = wr := ⟨_, rfl⟩
    have hbl : Below w0.heap.size w0 wo := hmk.out.choose_spec.choose_spec.choose_spec.2.2.2.2
    obtain ⟨_, e0, e1, e2⟩ := hpv.out.1.below hbl
    have hbl := Lib.hid hbl
    by_cases hly : y < H'
    · go_wp2_with fail
      clear e0 e1 e2 hbl
      go_loopw [14] (fun i wr => ∃ x : Nat, x ≤ W' ∧ i = .int .i64 (x0 + x) ∧ Hid (Mk 32 w0 bo W' H' (gridL W' (fun x y => atC W H cs (x0 + x) (y0 + y)) (y * W' + x)) wr)) (fun i _ => W' - (intOf i - x0).toNat)
      case atStart => exact ⟨0, Nat.zero_le _, by simp, hmk⟩
      case round =>
        clear hmk
        obtain ⟨x, hx, rfl, hmk⟩ := hrel
        obtain ⟨a, n, c, hN, ⟨zs, hz, hzm, hrow⟩, hne, hbo, hbl⟩ := hmk.out
        obtain ⟨_, e0, e1, e2⟩ := hpv.out.1.below hbl
        by_cases hlx : x < W'
        · have hlen : zs.length = y * W' + x := by rw [← gridL_len W' (fun x y => atC W H cs (x0 + x) (y0 + y)) (y * W' + x), ← hzm, List.length_map]
          have hle : y * W' + x + 1 ≤ 256 := by
            have h1 : y * W' + W' ≤ H' * W' := by rw [← Nat.succ_mul]; exact Nat.mul_le_mul_right _ hly
            omega
          have hh := Lib.hid (And.intro hz (And.intro hzm (And.intro hlen (And.intro hle (And.intro hbl hN)))))
          have hat := fun w1 (hb1 : Below wr.heap.size wr w1) => specAt_any W H a0 cs.length c0 w.heap.size cs (x0 + (x : Int)) (y0 + (y : Int)) w1 ((hpv.out.1.below hbl).below hb1) ((hpv.out.2.1.below hbl).below hb1) b1 b2 b3 b4 hl'.out
          have hrowA : ∀ (o : Obj) (m : Nat), ((wr.alloc o).drewN m).ownsRow w0.heap.size 32 1 (.slice a n c) zs.length (zs.map (.float .f32)) := fun o m => hrow.alloc o
          have hsz : w0.heap.size ≤ wr.heap.size := hbl.size
          have k2 : wr.cell? ⟨bo, 2, none⟩ = some (.slice a n c) := hN.2.2.2.1
          have hbo2 : bo < wr.heap.size := hN.1
          clear hlen hzm hz hbl hmk hN e2
          go_wp2_with fail
          go_region_law
            (first
              | (refine step_append_lies _ (by rfl) _ _ _ (by rfl) w0.heap.size 32 i0 _ 1 4 Try.underlying22 hi hz0 hz1 hz2 rfl (by omega) (.slice a n c) zs.length (zs.map (.float .f32)) (by rfl) (hrowA _ _)
                  ⟨wr.heap.size, 0, none⟩ 1 1 [.float .f32 r] (by rfl) (by rfl) (World.news_of_block (cs := #[.float .f32 r]) (t := 32) (fr := (0, 0)) (heap_alloc_new wr _)) (by simp [Value.oneCell'])
                  (by omega) (by have := hh.out.2.2; unfold maxLen; omega) (by have := hh.out.2.2; omega) (by simp; omega) (wr.heap.size + 1) (by simp) ?_; intro gg cap w3 hown3 hgrow hat3 hlt3; have hN3 := Mk.nv3 hh.out.2.2.2.2.2 hne hgrow; have j2 := hN3.2.2.2.1; have jf := hN3.2.2.2.2 2)
              | (refine step_plain rfl ?_; go_wp2_with (go_at_call 59; refine (hat _ (by ((repeat' (first | exact Below.refl _ _ | assumption | (refine bel_set ?_ ?_ _) | (refine bel_al ?_ ?_ _) | (refine below_drewN ?_ _) | (refine Below.drew ?_))) <;> (first | omega | (simp; done) | (simp; omega))))).mono ?_; rintro e w2 ⟨r, k, rfl, rfl, hr⟩)))
          all_goals
            have hM : Mk 32 w0 bo W' H' (gridL W' (fun x y => atC W H cs (x0 + x) (y0 + y)) (y * W' + (x + 1))) (w3.setCell ⟨bo, 2, none⟩ (.slice (some ⟨gg, 0, none⟩) (zs.length + 1) cap)) := by
              rw [gridL_step W' _ y hlx]
              exact Mk.step hh.out.2.2.2.2.2 hrow hh.out.1 hh.out.2.1 hne hbo hh.out.2.2.2.2.1 hr hown3 hgrow hat3
            have hM := Lib.hid hM
            clear hgrow hown3 hat3 hrow hrowA 
            go_wp2_with fail
            go_roundw
            case rel => exact ⟨x + 1, by omega, by simp; omega, by first | exact hM | exact Lib.hid (hM.out.drewN _)⟩
            case measure => simp [intOf]; omega
        · obtain rfl : x = W' := by omega
          rw [gridL_row] at hmk
          have hN := Lib.hid (And.intro hN (And.intro hz (And.intro hzm (And.intro hrow (And.intro hne (And.intro hbo hbl))))))
          go_wp2_with fail
          go_roundw
          case rel => exact ⟨y + 1, by omega, by simp; omega, hmk⟩
          case measure => simp [intOf]; omega
    · obtain rfl : y = H' := by omega
      obtain ⟨a, n, c, hN, hoc, hne, hbo, hbl2⟩ := hmk.out
      obtain ⟨_, f0, f1, f2, f3⟩ := hN
      obtain ⟨_, r0, r1, r2, rf⟩ := hpv.out.2.2.1.below hbl2
      have hoc := Lib.hid hoc
      go_wp2_with fail
      refine bodyPost_ret (v := ?v) ?hr rfl ?post
      case hr => (simp [results, Try.results39, go_sem, f0, f1, f2, r0, r1, r2, rf]; try rfl)
      case post =>
        have h0 := hpv.out.2.2.2
        have ho := hoc.out
        rw [Nat.add_zero] at ho
        refine ⟨_, _, _, rfl, ?_, ?_⟩
        · ((repeat' (first | exact Below.refl _ _ | assumption | (refine bel_set ?_ ?_ _) | (refine bel_al ?_ ?_ _) | (refine below_drewN ?_ _) | (refine Below.drew ?_) | (refine Below.trans ?_ (Below.mono hbl2 ?_)))) <;> (first | omega | (simp; done) | (simp; omega)))
        · (refine OC.mono (base := ?bb) ?hh ?hl; (case hh => ((repeat' (first | exact ho | (refine OC.set ?_ _ ?_) | (refine OC.alloc ?_ _) | (refine OC.drewN ?_ _))) <;> (first | omega | (simp; done) | (simp; omega)))); (case hl => (first | omega | (simp; done) | (simp; omega))))

theorem implCropPicture_no (W H : Int) (a : Option Addr) (n c : Nat) (w : World) (hnc : n ≤ c) (hcm : c ≤ maxLen) (hW : W ≤ 9223372036854775807) (hH : H ≤ 9223372036854775807) (x0 y0 wd hg : Int)
    (hC : ¬ (validB W H n = true ∧ cellB W H x0 y0 = true ∧ 1 ≤ wd ∧ wd ≤ W - x0 ∧ 1 ≤ hg ∧ hg ≤ H - y0)) :
    Calls Try.prog 40 #[.agg #[.int .i64 W, .int .i64 H, .slice a n c], .int .i64 x0, .int .i64 y0, .int .i64 wd, .int .i64 hg] w (RPic 32 0 0 [] false w) := by
  cases hcell : cellB W H x0 y0 with
  | false =>
    have hcell := Lib.hid hcell
    clear hC
    go_enter Try.func40, Try.ntmps40
    go_wp2_with fail
    refine (hasCell_any _ _ _ _ _ _ _ _).mono ?_
    rintro e w1 ⟨rfl, hb1⟩
    rw [hcell.out]
    obtain ⟨l2, q0, q1, q2, qf⟩ := (Nv.new _ _ _ _ _).below hb1
    simp only [World.size_alloc] at l2 q0 q1 q2 qf
    go_wp2_with fail
    refine bodyPost_ret (v := ?v) ?hr rfl ?post
    case hr => (simp [results, Try.results40, go_sem, q0, q1, q2, qf]; try rfl)
    case post => exact ⟨_, _, _, rfl, by ((repeat' (first | exact Below.refl _ _ | assumption | (refine bel_set ?_ ?_ _) | (refine bel_al ?_ ?_ _) | (refine below_drewN ?_ _) | (refine Below.drew ?_) | (refine Below.trans ?_ (Below.mono hb1 ?_)))) <;> (first | omega | (simp; done) | (simp; omega))), OC.nil _ _ _⟩
  | true =>
    have hc4 : 0 ≤ x0 ∧ x0 < W ∧ 0 ≤ y0 ∧ y0 < H := by simpa [cellB] using hcell
    obtain ⟨c1, c2, c3, c4⟩ := hc4
    by_cases t1 : W - x0 < wd
    · have hcell := Lib.hid hcell
      clear hC
      go_enter Try.func40, Try.ntmps40
      go_wp2_with fail
      refine (hasCell_any _ _ _ _ _ _ _ _).mono ?_
      rintro e w1 ⟨rfl, hb1⟩
      rw [hcell.out]
      obtain ⟨l1, p0, p1, p2⟩ := ((((Pv.new w W H (.slice a n c) 27).alloc (.cells #[.int .i64 x0] 2)).alloc (.cells #[.int .i64 y0] 2)).alloc (.cells #[.int .i64 0, .int .i64 0, .slice none 0 0] 27)).below hb1
      have hx1 : w1.cell? ⟨w.heap.size + 1, 0, none⟩ = some (.int .i64 x0) := by rw [(bcell hb1).1 _ _ (by simp; try omega)]; go_simp
      obtain ⟨l2, q0, q1, q2, qf⟩ := (Nv.new _ _ _ _ _).below hb1
      simp only [World.size_alloc] at l2 q0 q1 q2 qf
      go_wp2_with fail
      refine bodyPost_ret (v := ?v2) ?hr2 rfl ?post2
      case hr2 => (simp [results, Try.results40, go_sem, q0, q1, q2, qf]; try rfl)
      case post2 => exact ⟨_, _, _, rfl, by ((repeat' (first | exact Below.refl _ _ | assumption | (refine bel_set ?_ ?_ _) | (refine bel_al ?_ ?_ _) | (refine below_drewN ?_ _) | (refine Below.drew ?_) | (refine Below.trans ?_ (Below.mono hb1 ?_)))) <;> (first | omega | (simp; done) | (simp; omega))), OC.nil _ _ _⟩
    · by_cases t2 : H - y0 < hg
      · have hcell := Lib.hid hcell
        clear hC
        go_enter Try.func40, Try.ntmps40
        go_wp2_with fail
        refine (hasCell_any _ _ _ _ _ _ _ _).mono ?_
        rintro e w1 ⟨rfl, hb1⟩
        rw [hcell.out]
        obtain ⟨l1, p0, p1, p2⟩ := ((((Pv.new w W H (.slice a n c) 27).alloc (.cells #[.int .i64 x0] 2)).alloc (.cells #[.int .i64 y0] 2)).alloc (.cells #[.int .i64 0, .int .i64 0, .slice none 0 0] 27)).below hb1
        have hx1 : w1.cell? ⟨w.heap.size + 1, 0, none⟩ = some (.int .i64 x0) := by rw [(bcell hb1).1 _ _ (by simp; try omega)]; go_simp
        have hy1 : w1.cell? ⟨w.heap.size + 1 + 1, 0, none⟩ = some (.int .i64 y0) := by rw [(bcell hb1).1 _ _ (by simp; try omega)]; go_simp
        obtain ⟨l2, q0, q1, q2, qf⟩ := (Nv.new _ _ _ _ _).below hb1
        simp only [World.size_alloc] at l2 q0 q1 q2 qf
        go_wp2_with fail
        refine bodyPost_ret (v := ?v3) ?hr3 rfl ?post3
        case hr3 => (simp [results, Try.results40, go_sem, q0, q1, q2, qf]; try rfl)
        case post3 => exact ⟨_, _, _, rfl, by ((repeat' (first | exact Below.refl _ _ | assumption | (refine bel_set ?_ ?_ _) | (refine bel_al ?_ ?_ _) | (refine below_drewN ?_ _) | (refine Below.drew ?_) | (refine Below.trans ?_ (Below.mono hb1 ?_)))) <;> (first | omega | (simp; done) | (simp; omega))), OC.nil _ _ _⟩
      · have hno : validB W H n = false ∨ sizeB wd hg = false := by
          cases h1 : validB W H n
          · exact .inl rfl
          · cases h2 : sizeB wd hg
            · exact .inr rfl
            · exfalso
              have := sizeB_iff.1 h2
              exact hC ⟨h1, hcell, by omega, by omega, by omega, by omega⟩
        have hd := fun w1 first cap => drawFrom_no W H a n c hnc hcm wd hg hno (.func 72) first cap w1
        have hcell := Lib.hid hcell
        clear hC hno
        go_enter Try.func40, Try.ntmps40
        go_wp2_with fail
        refine (hasCell_any _ _ _ _ _ _ _ _).mono ?_
        rintro e w1 ⟨rfl, hb1⟩
        rw [hcell.out]
        have s1 := hb1.size
        simp only [World.size_alloc] at s1
        obtain ⟨l1, p0, p1, p2⟩ := ((((Pv.new w W H (.slice a n c) 27).alloc (.cells #[.int .i64 x0] 2)).alloc (.cells #[.int .i64 y0] 2)).alloc (.cells #[.int .i64 0, .int .i64 0, .slice none 0 0] 27)).below hb1
        have hx1 : w1.cell? ⟨w.heap.size + 1, 0, none⟩ = some (.int .i64 x0) := by rw [(bcell hb1).1 _ _ (by simp; try omega)]; go_simp
        have hy1 : w1.cell? ⟨w.heap.size + 1 + 1, 0, none⟩ = some (.int .i64 y0) := by rw [(bcell hb1).1 _ _ (by simp; try omega)]; go_simp
        have hN := (Nv.new _ _ _ _ _).below hb1
        simp only [World.size_alloc] at hN
        go_wp2_with fail
        refine (hd _ _ _).mono ?_
        rintro e w2 ⟨a1, n1, c1, rfl, hb2, ho2⟩
        obtain ⟨l2, q0, q1, q2, qf⟩ := hN.below hb2
        go_wp2_with fail
        refine bodyPost_ret (v := ?v4) ?hr4 rfl ?post4
        case hr4 => (simp [results, Try.results40, go_sem, q0, q1, q2, qf]; try rfl)
        case post4 =>
          refine ⟨_, _, _, rfl, ?_, ?_⟩
          · ((repeat' (first | exact Below.refl _ _ | assumption | (refine bel_set ?_ ?_ _) | (refine bel_al ?_ ?_ _) | (refine below_drewN ?_ _) | (refine Below.drew ?_) | (refine Below.trans ?_ (Below.mono hb2 ?_)) | (refine Below.trans ?_ (Below.mono hb1 ?_)))) <;> (first | omega | (simp; done) | (simp; omega)))
          · (refine OC.mono (base := ?bb) ?hh ?hl; (case hh => ((repeat' (first | exact ho2 | (refine OC.set ?_ _ ?_) | (refine OC.alloc ?_ _) | (refine OC.drewN ?_ _))) <;> (first | omega | (simp; done) | (simp; omega)))); (case hl => (first | omega | (simp; done) | (simp; omega))))
theorem specCropPicture_no (W H : Int) (a : Option Addr) (n c : Nat) (w : World) (hnc : n ≤ c) (hcm : c ≤ maxLen) (x0 y0 wd hg : Int)
    (hC : ¬ (validB W H n = true ∧ cellB W H x0 y0 = true ∧ 1 ≤ wd ∧ wd ≤ W - x0 ∧ 1 ≤ hg ∧ hg ≤ H - y0)) :
    Calls Try.prog 39 #[.agg #[.int .i64 W, .int .i64 H, .slice a n c], .int .i64 x0, .int .i64 y0, .int .i64 wd, .int .i64 hg] w (RPic 32 0 0 [] false w) := by
  have h1 := fun w1 hp => specIs_any W H a n c w.heap.size w1 hp (by unfold maxLen at hcm; omega)
  cases hv : validB W H n with
  | false =>
    have hv := Lib.hid hv
    clear hC
    go_enter Try.func39, Try.ntmps39
    go_wp2_with fail
    refine (h1 _ ((Pv.new _ _ _ _ _).alloc _)).mono ?_
    rintro e w1 ⟨k, rfl, rfl⟩
    rw [hv.out]
    go_wp2_with fail
    refine bodyPost_ret (v := ?v) ?hr rfl ?post
    case hr => (simp [results, Try.results39, go_sem]; try rfl)
    case post => exact ⟨_, _, _, rfl, by ((repeat' (first | exact Below.refl _ _ | assumption | (refine bel_set ?_ ?_ _) | (refine bel_al ?_ ?_ _) | (refine below_drewN ?_ _) | (refine Below.drew ?_))) <;> (first | omega | (simp; done) | (simp; omega))), OC.nil _ _ _⟩
  | true =>
    obtain ⟨wn, hn, rfl, rfl, b1, b2, b3, b4, b5, hl⟩ := validB_parts hv
    have hv' := Lib.hid hv
    clear hl
    cases hcell : cellB wn hn x0 y0 with
    | false =>
      have hcell := Lib.hid hcell
      clear hC hv
      go_enter Try.func39, Try.ntmps39
      go_wp2_with fail
      refine (h1 _ ((Pv.new _ _ _ _ _).alloc _)).mono ?_
      rintro e w1 ⟨k, rfl, rfl⟩
      rw [hv'.out]
      go_wp2_with fail
      refine (specCell_any wn hn b1 b2 b3 b4 _ _ _ _ _ (((Pv.new _ _ _ _ _).alloc _).drewN _)).mono ?_
      rintro e w1 ⟨rfl, rfl⟩
      rw [hcell.out]
      go_wp2_with fail
      refine bodyPost_ret (v := ?v2) ?hr2 rfl ?post2
      case hr2 => (simp [results, Try.results39, go_sem]; try rfl)
      case post2 => exact ⟨_, _, _, rfl, by ((repeat' (first | exact Below.refl _ _ | assumption | (refine bel_set ?_ ?_ _) | (refine bel_al ?_ ?_ _) | (refine below_drewN ?_ _) | (refine Below.drew ?_))) <;> (first | omega | (simp; done) | (simp; omega))), OC.nil _ _ _⟩
    | true =>
      have hc4 : 0 ≤ x0 ∧ x0 < wn ∧ 0 ≤ y0 ∧ y0 < hn := by simpa [cellB] using hcell
      obtain ⟨c1, c2, c3, c4⟩ := hc4
      cases hin1 : decide (1 ≤ wd ∧ wd ≤ (wn : Int) - x0) with
      | false =>
        have hcell := Lib.hid hcell
        have hin1 := Lib.hid hin1
        clear hC hv
        go_enter Try.func39, Try.ntmps39
        go_wp2_with fail
        refine (h1 _ ((Pv.new _ _ _ _ _).alloc _)).mono ?_
        rintro e w1 ⟨k, rfl, rfl⟩
        rw [hv'.out]
        go_wp2_with fail
        refine (specCell_any wn hn b1 b2 b3 b4 _ _ _ _ _ (((Pv.new _ _ _ _ _).alloc _).drewN _)).mono ?_
        rintro e w1 ⟨rfl, rfl⟩
        rw [hcell.out]
        go_wp2_with fail
        refine (specIn_any _ _ _ _).mono ?_
        rintro e w1 ⟨rfl, rfl⟩
        rw [hin1.out]
        go_wp2_with fail
        refine bodyPost_ret (v := ?v3) ?hr3 rfl ?post3
        case hr3 => (simp [results, Try.results39, go_sem]; try rfl)
        case post3 => exact ⟨_, _, _, rfl, by ((repeat' (first | exact Below.refl _ _ | assumption | (refine bel_set ?_ ?_ _) | (refine bel_al ?_ ?_ _) | (refine below_drewN ?_ _) | (refine Below.drew ?_))) <;> (first | omega | (simp; done) | (simp; omega))), OC.nil _ _ _⟩
      | true =>
        have hin2 : decide (1 ≤ hg ∧ hg ≤ (hn : Int) - y0) = false := by
          apply decide_eq_false
          intro h
          have h1 := of_decide_eq_true hin1
          exact hC ⟨hv, hcell, h1.1, h1.2, h.1, h.2⟩
        have hcell := Lib.hid hcell
        have hin1 := Lib.hid hin1
        have hin2 := Lib.hid hin2
        clear hC hv
        go_enter Try.func39, Try.ntmps39
        go_wp2_with fail
        refine (h1 _ ((Pv.new _ _ _ _ _).alloc _)).mono ?_
        rintro e w1 ⟨k, rfl, rfl⟩
        rw [hv'.out]
        go_wp2_with fail
        refine (specCell_any wn hn b1 b2 b3 b4 _ _ _ _ _ (((Pv.new _ _ _ _ _).alloc _).drewN _)).mono ?_
        rintro e w1 ⟨rfl, rfl⟩
        rw [hcell.out]
        go_wp2_with fail
        refine (specIn_any _ _ _ _).mono ?_
        rintro e w1 ⟨rfl, rfl⟩
        rw [hin1.out]
        go_wp2_with fail
        refine (specIn_any _ _ _ _).mono ?_
        rintro e w1 ⟨rfl, rfl⟩
        rw [hin2.out]
        go_wp2_with fail
        refine bodyPost_ret (v := ?v4) ?hr4 rfl ?post4
        case hr4 => (simp [results, Try.results39, go_sem]; try rfl)
        case post4 => exact ⟨_, _, _, rfl, by ((repeat' (first | exact Below.refl _ _ | assumption | (refine bel_set ?_ ?_ _) | (refine bel_al ?_ ?_ _) | (refine below_drewN ?_ _) | (refine Below.drew ?_))) <;> (first | omega | (simp; done) | (simp; omega))), OC.nil _ _ _⟩
theorem pairCropPicture (W H : Int) (cs : List Nat) (x0 y0 wd hg : Int) (hW : (Lit.int .i64 W).wf = true) (hH : (Lit.int .i64 H).wf = true) :
    ∃ (W' H' : Int) (cs' : List Nat) (ok : Bool),
      (∀ a n c w, FC w (.slice a n c) cs → Calls Try.prog 39 #[.agg #[.int .i64 W, .int .i64 H, .slice a n c], .int .i64 x0, .int .i64 y0, .int .i64 wd, .int .i64 hg] w (RPic 32 W' H' cs' ok w)) ∧
      (∀ a n c w, FC w (.slice a n c) cs → Calls Try.prog 40 #[.agg #[.int .i64 W, .int .i64 H, .slice a n c], .int .i64 x0, .int .i64 y0, .int .i64 wd, .int .i64 hg] w (RPic 32 W' H' cs' ok w)) ∧ cs'.length ≤ 256 := by
  by_cases hC : validB W H cs.length = true ∧ cellB W H x0 y0 = true ∧ 1 ≤ wd ∧ wd ≤ W - x0 ∧ 1 ≤ hg ∧ hg ≤ H - y0
  · obtain ⟨hval, hcell, k1, k2, k3, k4⟩ := hC
    obtain ⟨wn, hn, rfl, rfl, b1, b2, b3, b4, b5, hl⟩ := validB_parts hval
    have hc4 : 0 ≤ x0 ∧ x0 < wn ∧ 0 ≤ y0 ∧ y0 < hn := by simpa [cellB] using hcell
    obtain ⟨wd', rfl⟩ := Int.eq_ofNat_of_zero_le (show 0 ≤ wd by omega)
    obtain ⟨hg', rfl⟩ := Int.eq_ofNat_of_zero_le (show 0 ≤ hg by omega)
    have d5 : hg' * wd' ≤ 256 := Nat.le_trans (Nat.mul_le_mul (by omega) (by omega)) b5
    exact ⟨_, _, _, _, fun a n c w hv => specCropPicture_any wn hn a n c cs w hv b1 b2 b3 b4 b5 hl x0 y0 wd' hg' hc4.1 hc4.2.2.1 (by omega) (by omega) (by omega) (by omega) d5, fun a n c w hv => implCropPicture_any wn hn a n c cs w hv b1 b2 b3 b4 b5 hl x0 y0 wd' hg' hc4.1 hc4.2.2.1 (by omega) (by omega) (by omega) (by omega) d5, by rw [gridL_len]; exact d5⟩
  · have iW : W ≤ 9223372036854775807 := by simp [Lit.wf, IntKind.min, IntKind.max, IntKind.signed, IntKind.bits] at hW; omega
    have iH : H ≤ 9223372036854775807 := by simp [Lit.wf, IntKind.min, IntKind.max, IntKind.signed, IntKind.bits] at hH; omega
    refine ⟨0, 0, [], false, fun a n c w hv => ?_, fun a n c w hv => ?_, by simp⟩
    · obtain ⟨rfl, h1, h2⟩ := hv.sized
      exact specCropPicture_no W H a _ c w h1 h2 x0 y0 wd hg hC
    · obtain ⟨rfl, h1, h2⟩ := hv.sized
      exact implCropPicture_no W H a _ c w h1 h2 iW iH x0 y0 wd hg hC
end Go.Proofs.Ytdgpjpabhbifbaa
