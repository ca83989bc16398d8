import Derived.Test.YtdgpjpabhbifbaaPl
import Derived.Test.YtdgpjpabhbifbaaPi
set_option linter.unusedVariables false
set_option linter.unusedSimpArgs false
namespace Go.FX
open Go Go.RowKit
theorem atC_lin {W H k : Nat} (cs : List Nat) (hW : 1 ≤ W) (hk : k < H * W) : atC W H cs ((k % W : Nat) : Int) ((k / W : Nat) : Int) = cs.getD k 0 := by
  have h1 : k % W < W := Nat.mod_lt _ (by omega)
  have h2 : k / W < H := Nat.div_lt_of_lt_mul (by rw [Nat.mul_comm]; exact hk)
  rw [atC_in cs (Int.natCast_nonneg _) (Int.ofNat_lt.2 h1) (Int.natCast_nonneg _) (Int.ofNat_lt.2 h2)]
  congr 1
  have := Nat.mod_add_div k W
  rw [show ((k % W : Nat) : Int) + (W : Int) * ((k / W : Nat) : Int) = ((k % W + W * (k / W) : Nat) : Int) by push_cast; rfl, this]; rfl
end Go.FX
namespace Go.Proofs.Ytdgpjpabhbifbaa
open Go.FX Go.RowKit Go.WideShapes Go.ChangeShapes

set_option maxHeartbeats 2000000 in
theorem scale_fn (W H : Nat) (a : Option Addr) (n c : Nat) (cs : List Nat) (sb sa cb ca : Nat) (hsb : Fl .f32 sb cb) (hsa : Fl .f32 sa ca) (bp bb ba : Nat) (w : World) (hv : FC w (.slice a n c) cs) (hp : Pv w bp W H (.slice a n c)) (hlb : bb < w.heap.size) (hcb : w.cell? ⟨bb, 0, none⟩ = some (.float .f32 sb)) (hla : ba < w.heap.size) (hca : w.cell? ⟨ba, 0, none⟩ = some (.float .f32 sa)) (b1 : 1 ≤ W) (b2 : W ≤ 24) (b3 : 1 ≤ H) (b4 : H ≤ 24) (hl : cs.length = H * W) :
    GreyFn Try.prog 73 #[] #[.pointer (some ⟨bp, 0, none⟩), .pointer (some ⟨bb, 0, none⟩), .pointer (some ⟨ba, 0, none⟩)] W H (fun x y => fop .add .f32 (fop .mul .f32 (atC W H cs x y) cb) ca) w := fun w1 x y hb hx hy => by
  have hab := fun w2 (h : Below w1.heap.size w1 w2) => about_any W H (.slice a n c) cs (x : Int) y w2 ((hv.below hb).below h) b1 b2 b3 b4 hl (by omega) (by omega) (by omega) (by omega)
  obtain ⟨l0, p0, p1, p2⟩ := hp.below hb
  have q := (bcell hb).1 bb 0 hlb
  rw [hcb] at q
  have qa := (bcell hb).1 ba 0 hla
  rw [hca] at qa
  have lb1 : bb < w1.heap.size := Nat.lt_of_lt_of_le hlb hb.size
  have la1 : ba < w1.heap.size := Nat.lt_of_lt_of_le hla hb.size
  clear hcb hca hv hp hl hb
  show Calls Try.prog 73 #[.int .i64 x, .int .i64 y, .pointer (some ⟨bp, 0, none⟩), .pointer (some ⟨bb, 0, none⟩), .pointer (some ⟨ba, 0, none⟩)] w1 _
  go_enter Try.func73, Try.ntmps73
  go_wp2_with fail
  go_region_with
    (first
      | (go_at_call 61; refine (hab _ (by ((repeat' (first | exact Below.refl _ _ | assumption | (refine bel_set ?_ ?_ _) | (refine bel_al ?_ ?_ _) | (refine below_drewN ?_ _) | (refine Below.drew ?_))) <;> (first | omega | (simp; done) | (simp; omega))))).mono ?_; rintro e w2 ⟨r, rfl, hbp, hr⟩; have hJ : Below w1.heap.size w1 w2 := (by ((repeat' (first | exact Below.refl _ _ | assumption | (refine bel_set ?_ ?_ _) | (refine bel_al ?_ ?_ _) | (refine below_drewN ?_ _) | (refine Below.drew ?_) | (refine Below.trans ?_ (Below.mono hbp ?_)))) <;> (first | omega | (simp; done) | (simp; omega)))); have qb2 := ((bcell hJ).1 bb 0 lb1).trans q; have qa2 := ((bcell hJ).1 ba 0 la1).trans qa; clear hbp))
  all_goals
    go_wp2_with fail
    go_ret
    exact ⟨_, rfl, by first | exact hJ | exact below_drewN hJ _, (hr.flR hsb _).flR hsa _⟩
set_option maxHeartbeats 1000000 in
theorem implScalePicture_any (W H : Nat) (a : Option Addr) (n c : Nat) (cs : List Nat) (sb sa cb ca : Nat) (hsb : Fl .f32 sb cb) (hsa : Fl .f32 sa ca) (w : World) (hv : FC w (.slice a n c) cs) (b1 : 1 ≤ W) (b2 : W ≤ 24) (b3 : 1 ≤ H) (b4 : H ≤ 24) (b5 : H * W ≤ 256) (hl : cs.length = H * W) :
    Calls Try.prog 42 #[.agg #[.int .i64 W, .int .i64 H, .slice a n c], .float .f32 sb, .float .f32 sa] w (RPic 32 W H (gridL W (fun x y => fop .add .f32 (fop .mul .f32 (atC W H cs x y) cb) ca) (H * W)) true w) := by
  obtain ⟨rfl, hnc, hcm⟩ := hv.sized
  have hval := validB_mk b1 b2 b3 b4 b5 hl
  have hd := fun w1 (hb : Below w.heap.size w w1) hp hlb hcb hla hca => drawFrom_any W H a cs.length c hval hnc hcm W H b1 b2 b3 b4 b5 _ _ _ _ w1 (enters_of Try.func73 (by kernel_rfl) rfl) (scale_fn W H a _ c cs sb sa cb ca hsb hsa w.heap.size (w.heap.size + 1) (w.heap.size + 1 + 1) w1 (hv.below hb) hp hlb hcb hla hca b1 b2 b3 b4 hl)
  clear hl hval
  go_enter Try.func42, Try.ntmps42
  go_wp2_with fail
  refine (hd _ (by ((repeat' (first | exact Below.refl _ _ | assumption | (refine bel_set ?_ ?_ _) | (refine bel_al ?_ ?_ _) | (refine below_drewN ?_ _) | (refine Below.drew ?_))) <;> (first | omega | (simp; done) | (simp; omega)))) ((((Pv.new _ _ _ _ _).alloc _).alloc _).alloc _) (by simp; try omega) (by go_simp) (by simp; try omega) (by go_simp)).mono ?_
  rintro e w1 ⟨a1, n1, c1, rfl, hb1, ho1⟩
  obtain ⟨l1, q0, q1, q2, qf⟩ := (Nv.new _ _ _ _ _).below hb1
  simp only [World.size_alloc] at l1 q0 q1 q2 qf
  go_wp2_with fail
  refine bodyPost_ret (v := ?v) ?hr rfl ?post
  case hr => (simp [results, Try.results42, go_sem, q0, q1, q2, qf]; try rfl)
  case post =>
    refine ⟨_, _, _, rfl, ?_, ?_⟩
    · ((repeat' (first | exact Below.refl _ _ | assumption | (refine bel_set ?_ ?_ _) | (refine bel_al ?_ ?_ _) | (refine below_drewN ?_ _) | (refine Below.drew ?_) | (refine Below.trans ?_ (Below.mono hb1 ?_)))) <;> (first | omega | (simp; done) | (simp; omega)))
    · (refine OC.mono (base := ?bb) ?hh ?hl; (case hh => ((repeat' (first | exact ho1 | (refine OC.set ?_ _ ?_) | (refine OC.alloc ?_ _) | (refine OC.drewN ?_ _))) <;> (first | omega | (simp; done) | (simp; omega)))); (case hl => (first | omega | (simp; done) | (simp; omega))))
theorem implScalePicture_no (W H : Int) (a : Option Addr) (n c : Nat) (sb sa : Nat) (w : World) (hnc : n ≤ c) (hcm : c ≤ maxLen) (hval : validB W H n = false) :
    Calls Try.prog 42 #[.agg #[.int .i64 W, .int .i64 H, .slice a n c], .float .f32 sb, .float .f32 sa] w (RPic 32 0 0 [] false w) := by
  have hd := fun w1 first cap => drawFrom_no W H a n c hnc hcm W H (.inl hval) (.func 73) first cap w1
  go_enter Try.func42, Try.ntmps42
  go_wp2_with fail
  refine (hd _ _ _).mono ?_
  rintro e w1 ⟨a1, n1, c1, rfl, hb1, ho1⟩
  obtain ⟨l1, q0, q1, q2, qf⟩ := (Nv.new _ _ _ _ _).below hb1
  simp only [World.size_alloc] at l1 q0 q1 q2 qf
  go_wp2_with fail
  refine bodyPost_ret (v := ?v) ?hr rfl ?post
  case hr => (simp [results, Try.results42, go_sem, q0, q1, q2, qf]; try rfl)
  case post =>
    refine ⟨_, _, _, rfl, ?_, ?_⟩
    · ((repeat' (first | exact Below.refl _ _ | assumption | (refine bel_set ?_ ?_ _) | (refine bel_al ?_ ?_ _) | (refine below_drewN ?_ _) | (refine Below.drew ?_) | (refine Below.trans ?_ (Below.mono hb1 ?_)))) <;> (first | omega | (simp; done) | (simp; omega)))
    · (refine OC.mono (base := ?bb) ?hh ?hl; (case hh => ((repeat' (first | exact ho1 | (refine OC.set ?_ _ ?_) | (refine OC.alloc ?_ _) | (refine OC.drewN ?_ _))) <;> (first | omega | (simp; done) | (simp; omega)))); (case hl => (first | omega | (simp; done) | (simp; omega))))
set_option maxRecDepth 100000 in
set_option maxHeartbeats 4000000 in
theorem specScalePicture_any (W H : Nat) (a0 : Option Addr) (n0 c0 : Nat) (cs : List Nat) (sb sa cb ca : Nat) (hsb : Fl .f32 sb cb) (hsa : Fl .f32 sa ca) (w : World) (hv : FC w (.slice a0 n0 c0) cs) (b1 : 1 ≤ W) (b2 : W ≤ 24) (b3 : 1 ≤ H) (b4 : H ≤ 24) (b5 : H * W ≤ 256) (hl : cs.length = H * W) :
    Calls Try.prog 41 #[.agg #[.int .i64 W, .int .i64 H, .slice a0 n0 c0], .float .f32 sb, .float .f32 sa] w (RPic 32 W H (gridL W (fun x y => fop .add .f32 (fop .mul .f32 (atC W H cs x y) cb) ca) (H * W)) true w) := by
  obtain ⟨i0, hi, hz0, hz1, hz2⟩ := info_parts info_f32
  obtain ⟨rfl, hnc, hcm⟩ := hv.sized
  have hval := Lib.hid (validB_mk b1 b2 b3 b4 b5 hl)
  have h1 := fun w1 hp => specIs_any W H a0 cs.length c0 w.heap.size w1 hp (by unfold maxLen at hcm; omega)
  have hl' := Lib.hid hl
  have h256 : cs.length ≤ 256 := by omega
  clear hl
  go_enter Try.func41, Try.ntmps41
  go_wp2_with fail
  refine (h1 _ ((Pv.new _ _ _ _ _).alloc _)).mono ?_
  rintro e w1 ⟨k0, rfl, rfl⟩
  rw [hval.out]
  go_wp2_with fail
  obtain ⟨w0, hw0⟩ : ∃ w0, w0 = ((w.alloc (.cells #[.int .i64 W, .int .i64 H, .slice a0 cs.length c0] 27)).alloc (.cells #[.int .i64 0, .int .i64 0, .slice none 0 0] 27)).drewN k0 := ⟨_, rfl⟩
  rw [← hw0]
  have hp0 : Pv w0 w.heap.size W H (.slice a0 cs.length c0) := by rw [hw0]; exact ((Pv.new _ _ _ _ _).alloc _).drewN _
  have hv0 : FC w0 (.slice a0 cs.length c0) cs := by rw [hw0]; exact ((hv.alloc _).alloc _).drewN _
  have hn0 : Nv w0 (w.heap.size + 1) (.int .i64 0) (.int .i64 0) (.slice none 0 0) := by rw [hw0]; have := (Nv.new (w.alloc (.cells #[.int .i64 W, .int .i64 H, .slice a0 cs.length c0] 27)) (.int .i64 0) (.int .i64 0) (.slice none 0 0) 27).drewN k0; simpa only [World.size_alloc] using this
  have hb0 : Below w.heap.size w w0 := by rw [hw0]; exact below_drewN (below2 _ _ _) _
  have hlt0 : w.heap.size + 1 < w0.heap.size := hn0.1
  clear hw0 hv
  obtain ⟨hp1, p0, p1, p2⟩ := id hp0
  have hpv := Lib.hid (And.intro hp0 (And.intro hv0 (And.intro hn0 hb0)))
  clear hp0 hv0 hn0 hb0
  refine (specNew_any _ _ _).mono ?_
  rintro e w1 ⟨a1, n1, c1, rfl, hb1, ho1⟩
  obtain ⟨bo, hbo0⟩ : ∃ b, b = w1.heap.size := ⟨_, rfl⟩
  have hmk := Lib.hid (Mk.start1 (W := (W : Int)) (H := (H : Int)) (T := 27) hb1 ho1)
  rw [← hbo0] at hmk
  clear hb1 ho1
  go_wp2_with fail
  rw [← hbo0]
  clear hbo0
  go_loopw [9] (fun i wr => ∃ k : Nat, k ≤ cs.length ∧ i = .int .i64 k ∧ Hid (Mk 32 w0 bo W H (gridL W (fun x y => fop .add .f32 (fop .mul .f32 (atC W H cs x y) cb) ca) k) wr)) (fun i _ => cs.length - (intOf i).toNat)
  case atStart => exact ⟨0, Nat.zero_le _, rfl, by simpa [gridL] using hmk⟩
  case round =>
    clear hmk
    obtain ⟨k, hk, rfl, hmk⟩ := hrel
    obtain ⟨a, n, c, hN, ⟨zs, hz, hzm, hrow⟩, hne, hbo, hbl⟩ := hmk.out
    obtain ⟨lb, e0, e1, e2⟩ := hpv.out.1.below hbl
    by_cases hlk : k < cs.length
    · have hlen : zs.length = k := by rw [← gridL_len W (fun x y => fop .add .f32 (fop .mul .f32 (atC W H cs x y) cb) ca) k, ← hzm, List.length_map]
      obtain ⟨bb, off, cc, z, ev, _, _, hbz, hzf, hzc⟩ := (hpv.out.2.1.below hbl).cell hlk
      simp only [Value.slice.injEq, true_and] at ev
      obtain ⟨rfl, rfl⟩ := ev
      have hh := Lib.hid (And.intro hz (And.intro hzm (And.intro hlen (And.intro hbl (And.intro hN hzf)))))
      have hrowA : ∀ (o : Obj) (m : Nat), ((wr.alloc o).drewN m).ownsRow w0.heap.size 32 1 (.slice a n c) zs.length (zs.map (.float .f32)) := fun o m => hrow.alloc o
      have hsz : w0.heap.size ≤ wr.heap.size := hbl.size
      have k2 : wr.cell? ⟨bo, 2, none⟩ = some (.slice a n c) := hN.2.2.2.1
      have hbo2 : bo < wr.heap.size := hN.1
      have i1 : (0 : Int) ≤ (k : Int) := Int.natCast_nonneg _
      have i2 : (k : Int) < (cs.length : Int) := by omega
      clear hlen hzm hz hbl hmk hN hzf
      go_wp2_with fail
      go_region_law
        (first
          | (refine step_append_lies _ (by rfl) _ _ _ (by rfl) w0.heap.size 32 i0 _ 1 4 Try.underlying22 hi hz0 hz1 hz2 rfl (by omega) (.slice a n c) zs.length (zs.map (.float .f32)) (by rfl) (hrowA _ _)
              ⟨wr.heap.size, 0, none⟩ 1 1 [.float .f32 _] (by rfl) (by rfl) (World.news_of_block (cs := #[.float .f32 _]) (t := 32) (fr := (0, 0)) (heap_alloc_new wr _)) (by simp [Value.oneCell'])
              (by omega) (by have := hh.out.2.2.1; unfold maxLen; omega) (by have := hh.out.2.2.1; omega) (by simp; omega) (wr.heap.size + 1) (by simp) ?_; intro gg cap w3 hown3 hgrow hat3 hlt3; have hN3 := Mk.nv3 hh.out.2.2.2.2.1 hne hgrow; have j2 := hN3.2.2.2.1; have jf := hN3.2.2.2.2 2))
      all_goals
        have hM : Mk 32 w0 bo W H (gridL W (fun x y => fop .add .f32 (fop .mul .f32 (atC W H cs x y) cb) ca) (k + 1)) (w3.setCell ⟨bo, 2, none⟩ (.slice (some ⟨gg, 0, none⟩) (zs.length + 1) cap)) := by
          rw [gridL_succ W _ k, atC_lin cs b1 (by have := hl'.out; omega)]
          exact Mk.step hh.out.2.2.2.2.1 hrow hh.out.1 hh.out.2.1 hne hbo hh.out.2.2.2.1 ((hh.out.2.2.2.2.2.flR hsb _).flR hsa _) hown3 hgrow hat3
        have hM := Lib.hid hM
        clear hgrow hown3 hat3 hrow hrowA
        go_wp2_with fail
        go_roundw
        case rel => exact ⟨k + 1, by omega, by go_num, by first | exact hM | exact Lib.hid (hM.out.drewN _)⟩
        case measure => simp [intOf]; omega
    · obtain rfl : k = cs.length := by omega
      obtain ⟨_, f0, f1, f2, f3⟩ := hN
      obtain ⟨_, r0, r1, r2, rf⟩ := hpv.out.2.2.1.below hbl
      have hoc : OC wr w0.heap.size 32 (.slice a n c) _ := ⟨zs, hz, hzm, hrow⟩
      have hoc := Lib.hid hoc
      have hzm' := Lib.hid hzm
      clear hzm hrow hz
      go_wp2_with fail
      refine bodyPost_ret (v := ?v) ?hr rfl ?post
      case hr => (simp [results, Try.results41, go_sem, f0, f1, f2, r0, r1, r2, rf]; try rfl)
      case post =>
        have h0 := hpv.out.2.2.2
        have ho := hoc.out
        rw [hl'.out] at ho
        refine ⟨_, _, _, rfl, ?_, ?_⟩
        · ((repeat' (first | exact Below.refl _ _ | assumption | (refine bel_set ?_ ?_ _) | (refine bel_al ?_ ?_ _) | (refine below_drewN ?_ _) | (refine Below.drew ?_) | (refine Below.trans ?_ (Below.mono hbl ?_)))) <;> (first | omega | (simp; done) | (simp; omega)))
        · (refine OC.mono (base := ?bb) ?hh ?hl; (case hh => ((repeat' (first | exact ho | (refine OC.set ?_ _ ?_) | (refine OC.alloc ?_ _) | (refine OC.drewN ?_ _))) <;> (first | omega | (simp; done) | (simp; omega)))); (case hl => (first | omega | (simp; done) | (simp; omega))))
theorem specScalePicture_no (W H : Int) (a : Option Addr) (n c : Nat) (sb sa : Nat) (w : World) (hnc : n ≤ c) (hcm : c ≤ maxLen) (hval : validB W H n = false) :
    Calls Try.prog 41 #[.agg #[.int .i64 W, .int .i64 H, .slice a n c], .float .f32 sb, .float .f32 sa] w (RPic 32 0 0 [] false w) := by
  have h1 := fun w1 hp => specIs_any W H a n c w.heap.size w1 hp (by unfold maxLen at hcm; omega)
  have hval := Lib.hid hval
  go_enter Try.func41, Try.ntmps41
  go_wp2_with fail
  refine (h1 _ ((Pv.new _ _ _ _ _).alloc _)).mono ?_
  rintro e w1 ⟨k, rfl, rfl⟩
  rw [hval.out]
  go_wp2_with fail
  refine bodyPost_ret (v := ?v) ?hr rfl ?post
  case hr => (simp [results, Try.results41, go_sem]; try rfl)
  case post => exact ⟨_, _, _, rfl, by ((repeat' (first | exact Below.refl _ _ | assumption | (refine bel_set ?_ ?_ _) | (refine bel_al ?_ ?_ _) | (refine below_drewN ?_ _) | (refine Below.drew ?_))) <;> (first | omega | (simp; done) | (simp; omega))), OC.nil _ _ _⟩
theorem pairScalePicture (W H : Int) (cs : List Nat) (sb sa : Nat) (hb : sb < width .f32) (ha : sa < width .f32) :
    ∃ (W' H' : Int) (cs' : List Nat) (ok : Bool),
      (∀ a n c w, FC w (.slice a n c) cs → Calls Try.prog 41 #[.agg #[.int .i64 W, .int .i64 H, .slice a n c], .float .f32 sb, .float .f32 sa] w (RPic 32 W' H' cs' ok w)) ∧
      (∀ a n c w, FC w (.slice a n c) cs → Calls Try.prog 42 #[.agg #[.int .i64 W, .int .i64 H, .slice a n c], .float .f32 sb, .float .f32 sa] w (RPic 32 W' H' cs' ok w)) ∧ cs'.length ≤ 256 := by
  cases hval : validB W H cs.length with
  | true =>
    obtain ⟨wn, hn, rfl, rfl, b1, b2, b3, b4, b5, hl⟩ := validB_parts hval
    exact ⟨_, _, _, _, fun a n c w hv => specScalePicture_any wn hn a n c cs sb sa _ _ (Fl.of hb) (Fl.of ha) w hv b1 b2 b3 b4 b5 hl, fun a n c w hv => implScalePicture_any wn hn a n c cs sb sa _ _ (Fl.of hb) (Fl.of ha) w hv b1 b2 b3 b4 b5 hl, by rw [gridL_len]; exact b5⟩
  | false =>
    refine ⟨0, 0, [], false, fun a n c w hv => ?_, fun a n c w hv => ?_, by simp⟩
    · obtain ⟨rfl, h1, h2⟩ := hv.sized
      exact specScalePicture_no W H a _ c sb sa w h1 h2 hval
    · obtain ⟨rfl, h1, h2⟩ := hv.sized
      exact implScalePicture_no W H a _ c sb sa w h1 h2 hval
end Go.Proofs.Ytdgpjpabhbifbaa
