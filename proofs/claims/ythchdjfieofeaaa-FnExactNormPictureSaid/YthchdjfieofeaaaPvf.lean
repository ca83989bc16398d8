import Derived.Test.YthchdjfieofeaaaPv
set_option linter.unusedVariables false
set_option linter.unusedSimpArgs false
namespace Go.Proofs.Ythchdjfieofeaaa
open Go.FX Go.RowKit Go.WideShapes Go.ChangeShapes

set_option maxRecDepth 100000 in
set_option maxHeartbeats 8000000 in
theorem specNormPicture_flat (W H : Nat) (a0 : Option Addr) (n0 c0 : Nat) (cs : List Nat) (w : World) (hv : FC w (.slice a0 n0 c0) cs) (b1 : 1 ≤ W) (b2 : W ≤ 24) (b3 : 1 ≤ H) (b4 : H ≤ 24) (b5 : H * W ≤ 256) (hl : cs.length = H * W) (hs : (RG cs).2.2 = true) (he : rgEq cs = true) :
    Calls Try.prog 18 #[.agg #[.int .i64 W, .int .i64 H, .slice a0 n0 c0]] w (RPic 26 W H (gridL W (fun x y => 0) (H * W)) true w) := by
  obtain ⟨i0, hi, hz0, hz1, hz2⟩ := info_parts info_f32
  obtain ⟨rfl, hnc, hcm⟩ := hv.sized
  have hval := Lib.hid (validB_mk b1 b2 b3 b4 b5 hl)
  have h1 := fun w1 hp => specIs_any W H a0 cs.length c0 w.heap.size w1 hp (by unfold maxLen at hcm; omega)
  unfold rgEq at he
  obtain ⟨g1, g2, q, hR⟩ : ∃ g1 g2 q, RG cs = (g1, g2, q) := ⟨_, _, _, rfl⟩
  have hRR := Lib.hid hR
  have h2 := fun w1 (hb : Below w.heap.size w w1) hp => specRange0_any W H a0 cs.length c0 w.heap.size cs w1 hp (hv.below hb)
  rw [hR] at hs he
  try rw [hR]
  change q = true at hs
  subst hs
  change (FloatKind.f32.format.order g1 g2 == some Ordering.eq) = true at he
  show Calls Try.prog _ _ w (RPic _ _ _ (gridL W (fun x y => 0) (H * W)) true w)
  have he := Lib.hid he
  clear hR
  have hl' := Lib.hid hl
  have h256 : cs.length ≤ 256 := by omega
  clear hl
  go_enter Try.func18, Try.ntmps18
  go_wp2_with fail
  refine (h1 _ ((Pv.new _ _ _ _ _).alloc _)).mono ?_
  rintro e w1 ⟨k0, rfl, rfl⟩
  rw [hval.out]
  go_wp2_with fail
  refine (h2 _ (by ((repeat' (first | (refine bel_set ?_ ?_ _) | (refine bel_al ?_ ?_ _) | exact Below.refl _ _ | assumption | (refine below_drewN ?_ _) | (refine Below.drew ?_))) <;> (first | omega | (simp; done) | (simp; omega)))) (((Pv.new _ _ _ _ _).alloc _).drewN _)).mono ?_
  rintro e w2 ⟨rl, rh, s, rfl, rfl, h3, h4, h5⟩
  rw [List.take_length, hRR.out] at h3 h4 h5
  change Fl .f32 rl g1 at h3
  change Fl .f32 rh g2 at h4
  change s = true at h5
  subst h5
  have hO : (FloatKind.f32.format.order rl rh == some Ordering.eq) = true := by rw [h3.order h4]; exact he.out
  clear h2
  go_wp2_with fail
  obtain ⟨w0, hw0⟩ : ∃ w0, w0 = ((w.alloc (.cells #[.int .i64 W, .int .i64 H, .slice a0 cs.length c0] 29)).alloc (.cells #[.int .i64 0, .int .i64 0, .slice none 0 0] 29)).drewN k0 := ⟨_, rfl⟩
  rw [← hw0]
  have hp0 : Pv w0 w.heap.size W H (.slice a0 cs.length c0) := by rw [hw0]; exact ((Pv.new _ _ _ _ _).alloc _).drewN _
  have hv0 : FC w0 (.slice a0 cs.length c0) cs := by rw [hw0]; exact ((hv.alloc _).alloc _).drewN _
  have hn0 : Nv w0 (w.heap.size + 1) (.int .i64 0) (.int .i64 0) (.slice none 0 0) := by rw [hw0]; have := (Nv.new (w.alloc (.cells #[.int .i64 W, .int .i64 H, .slice a0 cs.length c0] 29)) (.int .i64 0) (.int .i64 0) (.slice none 0 0) 29).drewN k0; simpa only [World.size_alloc] using this
  have hb0 : Below w.heap.size w w0 := by rw [hw0]; exact below_drewN (below2 _ _ _) _
  have hlt0 : w.heap.size + 1 < w0.heap.size := hn0.1
  clear hw0 hv
  obtain ⟨hp1, p0, p1, p2⟩ := id hp0
  have hpv := Lib.hid (And.intro hp0 (And.intro hv0 (And.intro hn0 hb0)))
  clear hp0 hv0 hn0 hb0
  refine (specNew_any _ _ _).mono ?_
  rintro e w1 ⟨a1, n1, c1, rfl, hb1, ho1⟩
  obtain ⟨bo, hbo0⟩ : ∃ b, b = w1.heap.size := ⟨_, rfl⟩
  have hmk := Lib.hid (Mk.start1 (W := (W : Int)) (H := (H : Int)) (T := 29) hb1 ho1)
  rw [← hbo0] at hmk
  clear hb1 ho1
  go_wp2_with fail
  rw [← hbo0]
  clear hbo0
  go_loopw [8] (fun i wr => ∃ k : Nat, k ≤ cs.length ∧ i = .int .i64 k ∧ Hid (Mk 26 w0 bo W H (gridL W (fun x y => 0) k) wr)) (fun i _ => cs.length - (intOf i).toNat)
  case atStart => exact ⟨0, Nat.zero_le _, rfl, by simpa [gridL] using hmk⟩
  case round =>
    clear hmk
    obtain ⟨k, hk, rfl, hmk⟩ := hrel
    obtain ⟨a, n, c, hN, ⟨zs, hz, hzm, hrow⟩, hne, hbo, hbl⟩ := hmk.out
    obtain ⟨lb, e0, e1, e2⟩ := hpv.out.1.below hbl
    by_cases hlk : k < cs.length
    · have hlen : zs.length = k := by rw [← gridL_len W (fun x y => 0) k, ← hzm, List.length_map]
      obtain ⟨bb, off, cc, z, ev, _, _, hbz, hzf, hzc⟩ := (hpv.out.2.1.below hbl).cell hlk
      simp only [Value.slice.injEq, true_and] at ev
      obtain ⟨rfl, rfl⟩ := ev
      have hh := Lib.hid (And.intro hz (And.intro hzm (And.intro hlen (And.intro hbl (And.intro hN hzf)))))
      have hrowA : ∀ (o : Obj) (m : Nat), ((wr.alloc o).drewN m).ownsRow w0.heap.size 26 1 (.slice a n c) zs.length (zs.map (.float .f32)) := fun o m => hrow.alloc o
      have hsz : w0.heap.size ≤ wr.heap.size := hbl.size
      have k2 : wr.cell? ⟨bo, 2, none⟩ = some (.slice a n c) := hN.2.2.2.1
      have hbo2 : bo < wr.heap.size := hN.1
      have i1 : (0 : Int) ≤ (k : Int) := Int.natCast_nonneg _
      have i2 : (k : Int) < (cs.length : Int) := by omega
      clear hlen hzm hz hbl hmk hN hzf
      go_wp2_with (at_builtin; go_loud (refine wpList_append_lies _ (by rfl) _ _ _ (by rfl) w0.heap.size 26 i0 _ 1 4 Try.underlying22 hi hz0 hz1 hz2 rfl (by omega) (.slice a n c) zs.length (zs.map (.float .f32)) (by rfl) (hrow.alloc _) ⟨wr.heap.size, 0, none⟩ 1 1 [.float .f32 0] (by rfl) (by rfl) (World.news_of_block (cs := #[.float .f32 0]) (t := 26) (fr := (0, 0)) (heap_alloc_new wr _)) (by simp [Value.oneCell']) (by omega) (by have := hh.out.2.2.1; unfold maxLen; omega) (by have := hh.out.2.2.1; omega) (by simp; omega) (wr.heap.size + 1) (by simp) ?_; intro gg cap w3 hown3 hgrow0 hat3 hlt3; have hgrow := (show ((wr.alloc (.cells #[.float .f32 0] 26)).drewN 0).grownBy w3 _ from hgrow0); clear hgrow0; have hN3 := Mk.nv3 hh.out.2.2.2.2.1 hne hgrow; have j2 := hN3.2.2.2.1; have jf := hN3.2.2.2.2 2))
      all_goals
        have hM : Mk 26 w0 bo W H (gridL W (fun x y => 0) (k + 1)) (w3.setCell ⟨bo, 2, none⟩ (.slice (some ⟨gg, 0, none⟩) (zs.length + 1) cap)) := by
          rw [gridL_succ W _ k]
          exact Mk.step hh.out.2.2.2.2.1 hrow hh.out.1 hh.out.2.1 hne hbo hh.out.2.2.2.1 zeroF hown3 hgrow hat3
        have hM := Lib.hid hM
        clear hgrow hown3 hat3 hrow hrowA
        go_wp2_with fail
        go_roundw
        case rel => exact ⟨k + 1, by omega, by go_num, by first | exact hM | exact Lib.hid (hM.out.drewN _)⟩
        case measure => simp [intOf]; omega
    · obtain rfl : k = cs.length := by omega
      obtain ⟨_, f0, f1, f2, f3⟩ := hN
      obtain ⟨_, r0, r1, r2, rf⟩ := hpv.out.2.2.1.below hbl
      have hoc : OC wr w0.heap.size 26 (.slice a n c) _ := ⟨zs, hz, hzm, hrow⟩
      have hoc := Lib.hid hoc
      have hzm' := Lib.hid hzm
      clear hzm hrow hz
      go_wp2_with fail
      refine bodyPost_ret (v := ?v) ?hr rfl ?post
      case hr => (simp [results, Try.results18, go_sem, f0, f1, f2, r0, r1, r2, rf]; try rfl)
      case post =>
        have h0 := hpv.out.2.2.2
        have ho := hoc.out
        rw [hl'.out] at ho
        refine ⟨_, _, _, rfl, ?_, ?_⟩
        · ((repeat' (first | (refine bel_set ?_ ?_ _) | (refine bel_al ?_ ?_ _) | exact Below.refl _ _ | assumption | (refine below_drewN ?_ _) | (refine Below.drew ?_) | (refine Below.trans ?_ (Below.mono hbl ?_)))) <;> (first | omega | (simp; done) | (simp; omega)))
        · (refine OC.mono (base := ?bb) ?hh ?hl; (case hh => ((repeat' (first | (refine OC.set ?_ _ ?_) | (refine OC.alloc ?_ _) | exact ho | (refine OC.drewN ?_ _))) <;> (first | omega | (simp; done) | (simp; omega)))); (case hl => (first | omega | (simp; done) | (simp; omega))))
theorem specNormPicture_no (W H : Int) (a : Option Addr) (n c : Nat) (cs : List Nat) (w : World) (hv : FC w (.slice a n c) cs) (hC : validB W H cs.length = true → (RG cs).2.2 = false) :
    Calls Try.prog 18 #[.agg #[.int .i64 W, .int .i64 H, .slice a n c]] w (RPic 26 0 0 [] false w) := by
  obtain ⟨rfl, hnc, hcm⟩ := hv.sized
  have h1 := fun w1 hp => specIs_any W H a cs.length c w.heap.size w1 hp (by unfold maxLen at hcm; omega)
  have h2 := fun w1 (hb : Below w.heap.size w w1) hp => specRange0_any W H a cs.length c w.heap.size cs w1 hp (hv.below hb)
  cases hval : validB W H cs.length with
  | false =>
    have hval := Lib.hid hval
    clear hC
    go_enter Try.func18, Try.ntmps18
    go_wp2_with fail
    refine (h1 _ ((Pv.new _ _ _ _ _).alloc _)).mono ?_
    rintro e w1 ⟨k, rfl, rfl⟩
    rw [hval.out]
    go_wp2_with fail
    refine bodyPost_ret (v := ?v) ?hr rfl ?post
    case hr => (simp [results, Try.results18, go_sem]; try rfl)
    case post => exact ⟨_, _, _, rfl, by ((repeat' (first | (refine bel_set ?_ ?_ _) | (refine bel_al ?_ ?_ _) | exact Below.refl _ _ | assumption | (refine below_drewN ?_ _) | (refine Below.drew ?_))) <;> (first | omega | (simp; done) | (simp; omega))), OC.nil _ _ _⟩
  | true =>
    have hq := Lib.hid (hC hval)
    have hval := Lib.hid hval
    clear hC
    go_enter Try.func18, Try.ntmps18
    go_wp2_with fail
    refine (h1 _ ((Pv.new _ _ _ _ _).alloc _)).mono ?_
    rintro e w1 ⟨k, rfl, rfl⟩
    rw [hval.out]
    go_wp2_with fail
    refine (h2 _ (by ((repeat' (first | (refine bel_set ?_ ?_ _) | (refine bel_al ?_ ?_ _) | exact Below.refl _ _ | assumption | (refine below_drewN ?_ _) | (refine Below.drew ?_))) <;> (first | omega | (simp; done) | (simp; omega)))) (((Pv.new _ _ _ _ _).alloc _).drewN _)).mono ?_
    rintro e w2 ⟨rl, rh, s, rfl, rfl, h3, h4, h5⟩
    rw [List.take_length, hq.out] at h5
    subst h5
    clear h3 h4
    go_wp2_with fail
    refine bodyPost_ret (v := ?v2) ?hr2 rfl ?post2
    case hr2 => (simp [results, Try.results18, go_sem]; try rfl)
    case post2 => exact ⟨_, _, _, rfl, by ((repeat' (first | (refine bel_set ?_ ?_ _) | (refine bel_al ?_ ?_ _) | exact Below.refl _ _ | assumption | (refine below_drewN ?_ _) | (refine Below.drew ?_))) <;> (first | omega | (simp; done) | (simp; omega))), OC.nil _ _ _⟩
end Go.Proofs.Ythchdjfieofeaaa
