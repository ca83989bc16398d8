import Derived.Test.YtmgdofengamcmaaR7
import Derived.Deep.RegionLaw
import Derived.Deep.DeepCutAuto
set_option linter.unusedVariables false
set_option linter.unusedSimpArgs false
namespace Go.FX
open Go Go.RowKit
theorem Mv.undrew {E : TypeId} {w0 : World} {bo : Nat} {W H D : Int} {cs : List Nat} {wr : World} {k : Nat} (h : Mv E (w0.drewN k) bo W H D cs wr) : Mv E w0 bo W H D cs wr := by
  obtain ⟨a, n, c, h1, h2, h3, h4, h5⟩ := h
  exact ⟨a, n, c, h1, h2, h3, h4, undrewN h5⟩
theorem turn_start1 {E T : TypeId} (w0 : World) (W H D : Int) : Mv E w0 (w0.heap.size + 1) W H D [] ((((w0.alloc (.cells #[] E)).alloc (.cells #[.int .i64 W, .int .i64 H, .int .i64 D, .slice (some ⟨w0.heap.size, 0, none⟩) 0 0] T))).drew) := by
  have h := Mv.start1 (E := E) (T := T) (w0 := w0) (W := W) (H := H) (D := D) (below1 w0 (.cells #[] E)) (OC.lit0 w0 E)
  simp only [World.size_alloc] at h
  exact h.drewN 1
theorem turn_start2 {E T : TypeId} (w0 : World) (W H D : Int) : Mv E w0 w0.heap.size W H D [] ((((w0.alloc (.cells #[.int .i64 W, .int .i64 H, .int .i64 D, .slice (some ⟨w0.heap.size + 1, 0, none⟩) 0 0] T)).alloc (.cells #[] E))).drew) := by
  have ho := OC.lit0 (w0.alloc (.cells #[.int .i64 W, .int .i64 H, .int .i64 D, .slice (some ⟨w0.heap.size + 1, 0, none⟩) 0 0] T)) E
  simp only [World.size_alloc] at ho
  have h : Mv E w0 w0.heap.size W H D [] ((w0.alloc (.cells #[.int .i64 W, .int .i64 H, .int .i64 D, .slice (some ⟨w0.heap.size + 1, 0, none⟩) 0 0] T)).alloc (.cells #[] E)) := by
    refine ⟨_, _, _, (Nw.new _ _ _ _ _ _).alloc _, ho.mono (Nat.le_succ _), fun e => ?_, Nat.le_refl _, below2 _ _ _⟩
    simp [Value.ownBlock] at e
  exact h.drewN 1
end Go.FX
namespace Go.Proofs.Ytmgdofengamcmaa
open Go.FX Go.RowKit Go.WideShapes Go.ChangeShapes

theorem specCosts_of (W H D : Nat) (a0 : Option Addr) (n0 c0 bp : Nat) (cs : List Nat) (x y : Nat) (xi yi : Int) (hxi : xi = x) (hyi : yi = y) (w : World) (hp : Pw w bp W H D (.slice a0 n0 c0)) (hv : FC w (.slice a0 n0 c0) cs) (b2 : W ≤ 24) (b4 : H ≤ 24) (b5 : H * W ≤ 256) (d1 : 1 ≤ D) (d2 : D ≤ 8) (hl : cs.length = H * W * D) (hx : x < W) (hy : y < H) :
    Calls Try.prog 100 #[.pointer (some ⟨bp, 0, none⟩), .int .i64 xi, .int .i64 yi] w (RRow 22 (cellL W D cs x y) w) := by
  subst hxi; subst hyi
  exact specCosts_any W H D a0 n0 c0 bp cs x y w hp hv b2 b4 b5 d1 d2 hl hx hy
set_option maxRecDepth 100000 in
set_option maxHeartbeats 8000000 in
theorem specTurn0_any (W H D : Nat) (a0 : Option Addr) (n0 c0 bp : Nat) (cs : List Nat) (w : World) (hp : Pw w bp W H D (.slice a0 n0 c0)) (hv : FC w (.slice a0 n0 c0) cs) (b1 : 1 ≤ W) (b2 : W ≤ 24) (b3 : 1 ≤ H) (b4 : H ≤ 24) (b5 : H * W ≤ 256) (d1 : 1 ≤ D) (d2 : D ≤ 8) (hl : cs.length = H * W * D) :
    Calls Try.prog 75 #[.pointer (some ⟨bp, 0, none⟩), .int .i64 0] w (RVol1 22 W H D (cubeL W D (fun x y d => costC W D cs (W - 1 - x) y d) (H * W * D)) w) := by
  obtain ⟨i0, hi, hz0, hz1, hz2⟩ := info_parts info_f32
  obtain ⟨rfl, hnc, hcm⟩ := hv.sized
  have hl' := Lib.hid hl
  have hmaxA : H * W * D ≤ 256 * 8 := Nat.mul_le_mul b5 d2
  have hmax := Lib.hid hmaxA
  clear hl hmaxA
  go_enter Try.func75, Try.ntmps75
  go_upto_region 1 with fail
  obtain ⟨w0, hw0⟩ : ∃ w0, w0 = w.alloc (.cells #[.int .i64 0, .int .i64 0, .int .i64 0, .slice none 0 0] 41) := ⟨_, rfl⟩
  rw [← hw0]
  have hp0 : Pw w0 bp W H D (.slice a0 cs.length c0) := by rw [hw0]; exact hp.alloc _
  have hv0 : FC w0 (.slice a0 cs.length c0) cs := by rw [hw0]; exact hv.alloc _
  have hn0 : Nw w0 w.heap.size (.int .i64 0) (.int .i64 0) (.int .i64 0) (.slice none 0 0) := by rw [hw0]; exact Nw.new _ _ _ _ _ _
  have hb0 : Below w.heap.size w w0 := by rw [hw0]; exact below1 _ _
  have hlt0 : w.heap.size < w0.heap.size := hn0.1
  clear hw0 hp hv
  obtain ⟨hp1, p0, p1, p2, p3⟩ := id hp0
  have hpv := Lib.hid (And.intro hp0 (And.intro hv0 (And.intro hn0 hb0)))
  clear hp0 hv0 hn0 hb0
  go_cut [5] (fun s5 wx => ∃ bo, s5 = .pointer (some ⟨bo, 0, none⟩) ∧ Mv 22 w0 bo W H D [] wx)
  case first =>
    go_region_held3 (fun w' => Below w0.heap.size w0 w' ∧ w0.heap.size ≤ w'.heap.size ∧ (∀ b o, b < w0.heap.size → w'.cell? ⟨b, o, none⟩ = w0.cell? ⟨b, o, none⟩)) (first | assumption | (refine keepOf ?_; ((repeat' (first | (with_reducible exact Below.refl _ _) | (with_reducible refine bel_set ?_ ?_ _) | (with_reducible refine bel_al ?_ ?_ _) | (with_reducible refine Below.drew ?_) | (with_reducible refine below_drewN ?_ _) | (with_reducible assumption) | (with_reducible exact And.left (by assumption)))) <;> (first | omega | (simp; done) | (simp; omega)))))
      (fail)
    all_goals go_wp2_with fail
    all_goals go_meet
    all_goals first | (with_reducible exact ⟨_, rfl, turn_start1 w0 _ _ _⟩) | (with_reducible exact ⟨_, rfl, turn_start2 w0 _ _ _⟩)
  case rest =>
    obtain ⟨bo, rfl, hmk⟩ := hcut
    have hmk := Lib.hid hmk
    go_wp2_with fail
    go_loopw [6] (fun i wr => ∃ y : Nat, y ≤ H ∧ i = .int .i64 y ∧ Hid (Mv 22 w0 bo W H D (cubeL W D (fun x y d => costC W D cs (W - 1 - x) y d) ((y * W + 0) * D + 0)) wr)) (fun i _ => H - (intOf i).toNat)
    case atStart => exact ⟨0, Nat.zero_le _, rfl, by simpa [cubeL, seqL] using hmk⟩
    case round =>
      clear hmk
      obtain ⟨y, hy, rfl, hmk⟩ := hrel
      obtain ⟨wo, rfl⟩ : ∃ wo : World, wo = wr := ⟨_, rfl⟩
      obtain ⟨a, n, c, hN, hoc, hne, hbo, hbl⟩ := hmk.out
      obtain ⟨_, f0, f1, f2, f3, f4⟩ := id hN
      by_cases hly : y < H
      · have hhid := Lib.hid (And.intro hN (And.intro hoc (And.intro hne hbl)))
        clear hN hoc hne hbl
        go_wp2_with fail
        clear f0 f1 f2 f3 f4 hhid
        go_loopw [7] (fun i wr => ∃ x : Nat, x ≤ W ∧ i = .int .i64 x ∧ Hid (Mv 22 w0 bo W H D (cubeL W D (fun x y d => costC W D cs (W - 1 - x) y d) ((y * W + x) * D + 0)) wr)) (fun i _ => W - (intOf i).toNat)
        case atStart => exact ⟨0, Nat.zero_le _, rfl, hmk⟩
        case round =>
          clear hmk
          obtain ⟨x, hx, rfl, hmk⟩ := hrel
          obtain ⟨a, n, c, hN, ⟨zs, hz, hzm, hrow⟩, hne, hbo, hbl⟩ := hmk.out
          obtain ⟨_, f0, f1, f2, f3, f4⟩ := id hN
          obtain ⟨_, e0, e1, e2, e3⟩ := hpv.out.1.below hbl
          by_cases hlx : x < W
          · have hlen : zs.length = (y * W + x) * D + 0 := by rw [← cubeL_len W D (fun x y d => costC W D cs (W - 1 - x) y d) ((y * W + x) * D + 0), ← hzm, List.length_map]
            have hle : zs.length + D ≤ 2048 := by
              have h1 := (cost_lt (W := W) (H := H) (D := D) hlx hly (d := D - 1) (by omega)).1
              have := hmax.out
              omega
            have hh := Lib.hid (And.intro hz (And.intro hzm (And.intro hle (And.intro hbl hN))))
            have hat := fun w1 xi yi (hxi : xi = (((W - 1 - x) : Nat) : Int)) (hyi : yi = ((y : Nat) : Int)) (hb1 : Below wr.heap.size wr w1) => specCosts_of W H D a0 cs.length c0 bp cs (W - 1 - x) y xi yi hxi hyi w1 ((hpv.out.1.below hbl).below hb1) ((hpv.out.2.1.below hbl).below hb1) b2 b4 b5 d1 d2 hl'.out (by omega) (by omega)
            have hrowA : ∀ w2, Below wr.heap.size wr w2 → w2.ownsRow w0.heap.size 22 1 (.slice a n c) zs.length (zs.map (.float .f32)) := fun w2 hb2 => hrow.kept (grown_of_below hb2 none) (own_none _)
            have hsz : w0.heap.size ≤ wr.heap.size := hbl.size
            have k2 : wr.cell? ⟨bo, 3, none⟩ = some (.slice a n c) := hN.2.2.2.2.1
            have hbo2 : bo < wr.heap.size := hN.1
            clear hlen hzm hz hbl hmk hN e2 e3 f2 f3 f4 hle
            go_wp2_with fail
            have s1 : IntKind.i64.wrap ((W : Int) - 1) = (W : Int) - 1 := IntWalk.i64_in _ (by omega)
            have s2 : IntKind.i64.wrap ((W : Int) - 1 - (x : Int)) = (W : Int) - 1 - (x : Int) := IntWalk.i64_in _ (by omega)
            go_region_law
              (first
                | (refine step_append_lies _ (by rfl) _ _ _ (by rfl) w0.heap.size 22 i0 _ 1 4 Try.underlying37 hi hz0 hz1 hz2 rfl (by omega) (.slice a n c) zs.length (zs.map (.float .f32)) (by rfl) (hrowA _ hb2') ⟨g2, 0, none⟩ zs2.length c2 (zs2.map (.float .f32)) (by rfl) (by simp) (news_own hown2) (by intro u hu; obtain ⟨z, _, rfl⟩ := List.mem_map.1 hu; rfl) (by have := hz2l.out; omega) (by have := hz2l.out; have := hh.out.2.2.1; unfold maxLen; omega) (by have := hz2l.out; have := hh.out.2.2.1; omega) (by have := hb2'.size; omega) w2.heap.size rfl ?_; intro gg cap w3 hown3 hgrow hat3 hlt3; have hN3 := (hh.out.2.2.2.2.below hb2').kept hgrow hne; have j2 := hN3.2.2.2.2.1; have jf := hN3.2.2.2.2.2 3)
                | (refine step_plain rfl ?_; go_wp2_with (go_at_call 100; refine (hat _ _ _ (by omega) (by omega) (by ((repeat' (first | (refine bel_set ?_ ?_ _) | (refine bel_al ?_ ?_ _) | exact Below.refl _ _ | assumption | (refine below_drewN ?_ _) | (refine Below.drew ?_))) <;> (first | omega | (simp; done) | (simp; omega))))).mono ?_; rintro e w2 ⟨g2, c2, zs2, rfl, hzz2, hm2, hown2, hb2⟩; have hb2' : Below wr.heap.size wr w2 := (by first | exact hb2 | exact undrew hb2 | exact undrewN hb2); have k3 : w2.cell? ⟨bo, 3, none⟩ = some (.slice a n c) := ((bcell hb2').1 bo 3 hbo2).trans k2; have hz2l : Hid (zs2.length = D) := Lib.hid (by have h := congrArg List.length hm2; rw [List.length_map, cellL_len] at h; exact h))))
            all_goals
              have hM : Mv 22 w0 bo W H D (cubeL W D (fun x y d => costC W D cs (W - 1 - x) y d) ((y * W + (x + 1)) * D + 0)) (w3.setCell ⟨bo, 3, none⟩ (.slice (some ⟨gg, 0, none⟩) (zs.length + zs2.length) cap)) := by
                rw [← cubeL_cell, ← cubeL_cells W D (fun x y d => costC W D cs (W - 1 - x) y d) y hlx D (Nat.le_refl _)]
                exact Mv.stepL hh.out.2.2.2.2 hrow hh.out.1 hh.out.2.1 hne hbo hh.out.2.2.2.1 hb2' hzz2 hm2 hown3 hgrow hat3
              have hM := Lib.hid hM
              clear hgrow hown3 hat3 hrow hrowA
              go_wp2_with fail
              go_roundw
              case rel => exact ⟨x + 1, by omega, by go_num, by first | exact hM | exact Lib.hid (hM.out.drewN _)⟩
              case measure => simp [intOf]; omega
          · obtain rfl : x = W := by omega
            rw [cubeL_row] at hmk
            have hN := Lib.hid (And.intro hN (And.intro hz (And.intro hzm (And.intro hrow (And.intro hne (And.intro hbo hbl))))))
            go_wp2_with fail
            go_roundw
            case rel => exact ⟨y + 1, by omega, by go_num, hmk⟩
            case measure => simp [intOf]; omega
      · obtain rfl : y = H := by omega
        obtain ⟨_, r0, r1, r2, r3, rf⟩ := hpv.out.2.2.1.below hbl
        have hoc := Lib.hid hoc
        go_wp2_with fail
        refine bodyPost_ret (v := ?v) ?hr rfl ?post
        case hr => (simp [results, Try.results75, go_sem, f0, f1, f2, f3, r0, r1, r2, r3, rf]; try rfl)
        case post =>
          have h0 := hpv.out.2.2.2
          have ho := hoc.out
          rw [Nat.add_zero, Nat.add_zero] at ho
          refine ⟨_, _, _, rfl, ?_, ?_⟩
          · ((repeat' (first | (refine bel_set ?_ ?_ _) | (refine bel_al ?_ ?_ _) | exact Below.refl _ _ | assumption | (refine below_drewN ?_ _) | (refine Below.drew ?_) | (refine Below.trans ?_ (Below.mono hbl ?_)))) <;> (first | omega | (simp; done) | (simp; omega)))
          · (refine OC.mono (base := ?bb) ?hh ?hl; (case hh => ((repeat' (first | (refine OC.set ?_ _ ?_) | (refine OC.alloc ?_ _) | exact ho | (refine OC.drewN ?_ _))) <;> (first | omega | (simp; done) | (simp; omega)))); (case hl => (first | omega | (simp; done) | (simp; omega))))
set_option maxRecDepth 100000 in
set_option maxHeartbeats 8000000 in
theorem specTurn1_any (W H D : Nat) (a0 : Option Addr) (n0 c0 bp : Nat) (cs : List Nat) (w : World) (hp : Pw w bp W H D (.slice a0 n0 c0)) (hv : FC w (.slice a0 n0 c0) cs) (b1 : 1 ≤ W) (b2 : W ≤ 24) (b3 : 1 ≤ H) (b4 : H ≤ 24) (b5 : H * W ≤ 256) (d1 : 1 ≤ D) (d2 : D ≤ 8) (hl : cs.length = H * W * D) :
    Calls Try.prog 75 #[.pointer (some ⟨bp, 0, none⟩), .int .i64 1] w (RVol1 22 W H D (cubeL W D (fun x y d => costC W D cs x (H - 1 - y) d) (H * W * D)) w) := by
  obtain ⟨i0, hi, hz0, hz1, hz2⟩ := info_parts info_f32
  obtain ⟨rfl, hnc, hcm⟩ := hv.sized
  have hl' := Lib.hid hl
  have hmaxA : H * W * D ≤ 256 * 8 := Nat.mul_le_mul b5 d2
  have hmax := Lib.hid hmaxA
  clear hl hmaxA
  go_enter Try.func75, Try.ntmps75
  go_upto_region 1 with fail
  obtain ⟨w0, hw0⟩ : ∃ w0, w0 = w.alloc (.cells #[.int .i64 0, .int .i64 0, .int .i64 0, .slice none 0 0] 41) := ⟨_, rfl⟩
  rw [← hw0]
  have hp0 : Pw w0 bp W H D (.slice a0 cs.length c0) := by rw [hw0]; exact hp.alloc _
  have hv0 : FC w0 (.slice a0 cs.length c0) cs := by rw [hw0]; exact hv.alloc _
  have hn0 : Nw w0 w.heap.size (.int .i64 0) (.int .i64 0) (.int .i64 0) (.slice none 0 0) := by rw [hw0]; exact Nw.new _ _ _ _ _ _
  have hb0 : Below w.heap.size w w0 := by rw [hw0]; exact below1 _ _
  have hlt0 : w.heap.size < w0.heap.size := hn0.1
  clear hw0 hp hv
  obtain ⟨hp1, p0, p1, p2, p3⟩ := id hp0
  have hpv := Lib.hid (And.intro hp0 (And.intro hv0 (And.intro hn0 hb0)))
  clear hp0 hv0 hn0 hb0
  go_cut [5] (fun s5 wx => ∃ bo, s5 = .pointer (some ⟨bo, 0, none⟩) ∧ Mv 22 w0 bo W H D [] wx)
  case first =>
    go_region_held3 (fun w' => Below w0.heap.size w0 w' ∧ w0.heap.size ≤ w'.heap.size ∧ (∀ b o, b < w0.heap.size → w'.cell? ⟨b, o, none⟩ = w0.cell? ⟨b, o, none⟩)) (first | assumption | (refine keepOf ?_; ((repeat' (first | (with_reducible exact Below.refl _ _) | (with_reducible refine bel_set ?_ ?_ _) | (with_reducible refine bel_al ?_ ?_ _) | (with_reducible refine Below.drew ?_) | (with_reducible refine below_drewN ?_ _) | (with_reducible assumption) | (with_reducible exact And.left (by assumption)))) <;> (first | omega | (simp; done) | (simp; omega)))))
      (fail)
    all_goals go_wp2_with fail
    all_goals go_meet
    all_goals first | (with_reducible exact ⟨_, rfl, turn_start1 w0 _ _ _⟩) | (with_reducible exact ⟨_, rfl, turn_start2 w0 _ _ _⟩)
  case rest =>
    obtain ⟨bo, rfl, hmk⟩ := hcut
    have hmk := Lib.hid hmk
    go_wp2_with fail
    go_loopw [6] (fun i wr => ∃ y : Nat, y ≤ H ∧ i = .int .i64 y ∧ Hid (Mv 22 w0 bo W H D (cubeL W D (fun x y d => costC W D cs x (H - 1 - y) d) ((y * W + 0) * D + 0)) wr)) (fun i _ => H - (intOf i).toNat)
    case atStart => exact ⟨0, Nat.zero_le _, rfl, by simpa [cubeL, seqL] using hmk⟩
    case round =>
      clear hmk
      obtain ⟨y, hy, rfl, hmk⟩ := hrel
      obtain ⟨wo, rfl⟩ : ∃ wo : World, wo = wr := ⟨_, rfl⟩
      obtain ⟨a, n, c, hN, hoc, hne, hbo, hbl⟩ := hmk.out
      obtain ⟨_, f0, f1, f2, f3, f4⟩ := id hN
      by_cases hly : y < H
      · have hhid := Lib.hid (And.intro hN (And.intro hoc (And.intro hne hbl)))
        clear hN hoc hne hbl
        go_wp2_with fail
        clear f0 f1 f2 f3 f4 hhid
        go_loopw [7] (fun i wr => ∃ x : Nat, x ≤ W ∧ i = .int .i64 x ∧ Hid (Mv 22 w0 bo W H D (cubeL W D (fun x y d => costC W D cs x (H - 1 - y) d) ((y * W + x) * D + 0)) wr)) (fun i _ => W - (intOf i).toNat)
        case atStart => exact ⟨0, Nat.zero_le _, rfl, hmk⟩
        case round =>
          clear hmk
          obtain ⟨x, hx, rfl, hmk⟩ := hrel
          obtain ⟨a, n, c, hN, ⟨zs, hz, hzm, hrow⟩, hne, hbo, hbl⟩ := hmk.out
          obtain ⟨_, f0, f1, f2, f3, f4⟩ := id hN
          obtain ⟨_, e0, e1, e2, e3⟩ := hpv.out.1.below hbl
          by_cases hlx : x < W
          · have hlen : zs.length = (y * W + x) * D + 0 := by rw [← cubeL_len W D (fun x y d => costC W D cs x (H - 1 - y) d) ((y * W + x) * D + 0), ← hzm, List.length_map]
            have hle : zs.length + D ≤ 2048 := by
              have h1 := (cost_lt (W := W) (H := H) (D := D) hlx hly (d := D - 1) (by omega)).1
              have := hmax.out
              omega
            have hh := Lib.hid (And.intro hz (And.intro hzm (And.intro hle (And.intro hbl hN))))
            have hat := fun w1 xi yi (hxi : xi = ((x : Nat) : Int)) (hyi : yi = (((H - 1 - y) : Nat) : Int)) (hb1 : Below wr.heap.size wr w1) => specCosts_of W H D a0 cs.length c0 bp cs x (H - 1 - y) xi yi hxi hyi w1 ((hpv.out.1.below hbl).below hb1) ((hpv.out.2.1.below hbl).below hb1) b2 b4 b5 d1 d2 hl'.out (by omega) (by omega)
            have hrowA : ∀ w2, Below wr.heap.size wr w2 → w2.ownsRow w0.heap.size 22 1 (.slice a n c) zs.length (zs.map (.float .f32)) := fun w2 hb2 => hrow.kept (grown_of_below hb2 none) (own_none _)
            have hsz : w0.heap.size ≤ wr.heap.size := hbl.size
            have k2 : wr.cell? ⟨bo, 3, none⟩ = some (.slice a n c) := hN.2.2.2.2.1
            have hbo2 : bo < wr.heap.size := hN.1
            clear hlen hzm hz hbl hmk hN e2 e3 f2 f3 f4 hle
            go_wp2_with fail
            have s1 : IntKind.i64.wrap ((H : Int) - 1) = (H : Int) - 1 := IntWalk.i64_in _ (by omega)
            have s2 : IntKind.i64.wrap ((H : Int) - 1 - (y : Int)) = (H : Int) - 1 - (y : Int) := IntWalk.i64_in _ (by omega)
            go_region_law
              (first
                | (refine step_append_lies _ (by rfl) _ _ _ (by rfl) w0.heap.size 22 i0 _ 1 4 Try.underlying37 hi hz0 hz1 hz2 rfl (by omega) (.slice a n c) zs.length (zs.map (.float .f32)) (by rfl) (hrowA _ hb2') ⟨g2, 0, none⟩ zs2.length c2 (zs2.map (.float .f32)) (by rfl) (by simp) (news_own hown2) (by intro u hu; obtain ⟨z, _, rfl⟩ := List.mem_map.1 hu; rfl) (by have := hz2l.out; omega) (by have := hz2l.out; have := hh.out.2.2.1; unfold maxLen; omega) (by have := hz2l.out; have := hh.out.2.2.1; omega) (by have := hb2'.size; omega) w2.heap.size rfl ?_; intro gg cap w3 hown3 hgrow hat3 hlt3; have hN3 := (hh.out.2.2.2.2.below hb2').kept hgrow hne; have j2 := hN3.2.2.2.2.1; have jf := hN3.2.2.2.2.2 3)
                | (refine step_plain rfl ?_; go_wp2_with (go_at_call 100; refine (hat _ _ _ (by omega) (by omega) (by ((repeat' (first | (refine bel_set ?_ ?_ _) | (refine bel_al ?_ ?_ _) | exact Below.refl _ _ | assumption | (refine below_drewN ?_ _) | (refine Below.drew ?_))) <;> (first | omega | (simp; done) | (simp; omega))))).mono ?_; rintro e w2 ⟨g2, c2, zs2, rfl, hzz2, hm2, hown2, hb2⟩; have hb2' : Below wr.heap.size wr w2 := (by first | exact hb2 | exact undrew hb2 | exact undrewN hb2); have k3 : w2.cell? ⟨bo, 3, none⟩ = some (.slice a n c) := ((bcell hb2').1 bo 3 hbo2).trans k2; have hz2l : Hid (zs2.length = D) := Lib.hid (by have h := congrArg List.length hm2; rw [List.length_map, cellL_len] at h; exact h))))
            all_goals
              have hM : Mv 22 w0 bo W H D (cubeL W D (fun x y d => costC W D cs x (H - 1 - y) d) ((y * W + (x + 1)) * D + 0)) (w3.setCell ⟨bo, 3, none⟩ (.slice (some ⟨gg, 0, none⟩) (zs.length + zs2.length) cap)) := by
                rw [← cubeL_cell, ← cubeL_cells W D (fun x y d => costC W D cs x (H - 1 - y) d) y hlx D (Nat.le_refl _)]
                exact Mv.stepL hh.out.2.2.2.2 hrow hh.out.1 hh.out.2.1 hne hbo hh.out.2.2.2.1 hb2' hzz2 hm2 hown3 hgrow hat3
              have hM := Lib.hid hM
              clear hgrow hown3 hat3 hrow hrowA
              go_wp2_with fail
              go_roundw
              case rel => exact ⟨x + 1, by omega, by go_num, by first | exact hM | exact Lib.hid (hM.out.drewN _)⟩
              case measure => simp [intOf]; omega
          · obtain rfl : x = W := by omega
            rw [cubeL_row] at hmk
            have hN := Lib.hid (And.intro hN (And.intro hz (And.intro hzm (And.intro hrow (And.intro hne (And.intro hbo hbl))))))
            go_wp2_with fail
            go_roundw
            case rel => exact ⟨y + 1, by omega, by go_num, hmk⟩
            case measure => simp [intOf]; omega
      · obtain rfl : y = H := by omega
        obtain ⟨_, r0, r1, r2, r3, rf⟩ := hpv.out.2.2.1.below hbl
        have hoc := Lib.hid hoc
        go_wp2_with fail
        refine bodyPost_ret (v := ?v) ?hr rfl ?post
        case hr => (simp [results, Try.results75, go_sem, f0, f1, f2, f3, r0, r1, r2, r3, rf]; try rfl)
        case post =>
          have h0 := hpv.out.2.2.2
          have ho := hoc.out
          rw [Nat.add_zero, Nat.add_zero] at ho
          refine ⟨_, _, _, rfl, ?_, ?_⟩
          · ((repeat' (first | (refine bel_set ?_ ?_ _) | (refine bel_al ?_ ?_ _) | exact Below.refl _ _ | assumption | (refine below_drewN ?_ _) | (refine Below.drew ?_) | (refine Below.trans ?_ (Below.mono hbl ?_)))) <;> (first | omega | (simp; done) | (simp; omega)))
          · (refine OC.mono (base := ?bb) ?hh ?hl; (case hh => ((repeat' (first | (refine OC.set ?_ _ ?_) | (refine OC.alloc ?_ _) | exact ho | (refine OC.drewN ?_ _))) <;> (first | omega | (simp; done) | (simp; omega)))); (case hl => (first | omega | (simp; done) | (simp; omega))))
set_option maxRecDepth 100000 in
set_option maxHeartbeats 8000000 in
theorem specTurn2_any (W H D : Nat) (a0 : Option Addr) (n0 c0 bp : Nat) (cs : List Nat) (w : World) (hp : Pw w bp W H D (.slice a0 n0 c0)) (hv : FC w (.slice a0 n0 c0) cs) (b1 : 1 ≤ W) (b2 : W ≤ 24) (b3 : 1 ≤ H) (b4 : H ≤ 24) (b5 : H * W ≤ 256) (d1 : 1 ≤ D) (d2 : D ≤ 8) (hl : cs.length = H * W * D) :
    Calls Try.prog 75 #[.pointer (some ⟨bp, 0, none⟩), .int .i64 2] w (RVol1 22 H W D (cubeL H D (fun x y d => costC W D cs y x d) (W * H * D)) w) := by
  obtain ⟨i0, hi, hz0, hz1, hz2⟩ := info_parts info_f32
  obtain ⟨rfl, hnc, hcm⟩ := hv.sized
  have hl' := Lib.hid hl
  have hmaxA : W * H * D ≤ 256 * 8 := Nat.mul_le_mul (by rw [Nat.mul_comm]; exact b5) d2
  have hmax := Lib.hid hmaxA
  clear hl hmaxA
  go_enter Try.func75, Try.ntmps75
  go_upto_region 1 with fail
  obtain ⟨w0, hw0⟩ : ∃ w0, w0 = w.alloc (.cells #[.int .i64 0, .int .i64 0, .int .i64 0, .slice none 0 0] 41) := ⟨_, rfl⟩
  rw [← hw0]
  have hp0 : Pw w0 bp W H D (.slice a0 cs.length c0) := by rw [hw0]; exact hp.alloc _
  have hv0 : FC w0 (.slice a0 cs.length c0) cs := by rw [hw0]; exact hv.alloc _
  have hn0 : Nw w0 w.heap.size (.int .i64 0) (.int .i64 0) (.int .i64 0) (.slice none 0 0) := by rw [hw0]; exact Nw.new _ _ _ _ _ _
  have hb0 : Below w.heap.size w w0 := by rw [hw0]; exact below1 _ _
  have hlt0 : w.heap.size < w0.heap.size := hn0.1
  clear hw0 hp hv
  obtain ⟨hp1, p0, p1, p2, p3⟩ := id hp0
  have hpv := Lib.hid (And.intro hp0 (And.intro hv0 (And.intro hn0 hb0)))
  clear hp0 hv0 hn0 hb0
  go_cut [5] (fun s5 wx => ∃ bo, s5 = .pointer (some ⟨bo, 0, none⟩) ∧ Mv 22 w0 bo W H D [] wx)
  case first =>
    go_region_held3 (fun w' => Below w0.heap.size w0 w' ∧ w0.heap.size ≤ w'.heap.size ∧ (∀ b o, b < w0.heap.size → w'.cell? ⟨b, o, none⟩ = w0.cell? ⟨b, o, none⟩)) (first | assumption | (refine keepOf ?_; ((repeat' (first | (with_reducible exact Below.refl _ _) | (with_reducible refine bel_set ?_ ?_ _) | (with_reducible refine bel_al ?_ ?_ _) | (with_reducible refine Below.drew ?_) | (with_reducible refine below_drewN ?_ _) | (with_reducible assumption) | (with_reducible exact And.left (by assumption)))) <;> (first | omega | (simp; done) | (simp; omega)))))
      (fail)
    all_goals go_wp2_with fail
    all_goals go_meet
    all_goals first | (with_reducible exact ⟨_, rfl, turn_start1 w0 _ _ _⟩) | (with_reducible exact ⟨_, rfl, turn_start2 w0 _ _ _⟩)
  case rest =>
    obtain ⟨bo, rfl, hmk⟩ := hcut
    have hmk := Lib.hid hmk
    obtain ⟨ai, ni, ci, hNi, hoi, hnei, hboi, hbli⟩ := hmk.out
    obtain ⟨_, f0, f1, f2, f3, f4⟩ := id hNi
    obtain ⟨lb0, e0, e1, e2, e3⟩ := hpv.out.1.below hbli
    have hbpw := hpv.out.1.1
    have hbpo : bp ≠ bo := by omega
    have hbpo' : bo ≠ bp := by omega
    have hmk2 := Lib.hid (Mv.size1 (H' := (W : Int)) (Mv.size0 (W' := (H : Int)) hmk.out))
    clear hmk hNi hoi hnei hbli
    have hmk := hmk2
    clear hmk2
    go_wp2_with fail
    go_loopw [6] (fun i wr => ∃ y : Nat, y ≤ W ∧ i = .int .i64 y ∧ Hid (Mv 22 w0 bo H W D (cubeL H D (fun x y d => costC W D cs y x d) ((y * H + 0) * D + 0)) wr)) (fun i _ => W - (intOf i).toNat)
    case atStart => exact ⟨0, Nat.zero_le _, rfl, by simpa [cubeL, seqL] using hmk⟩
    case round =>
      clear hmk
      obtain ⟨y, hy, rfl, hmk⟩ := hrel
      obtain ⟨wo, rfl⟩ : ∃ wo : World, wo = wr := ⟨_, rfl⟩
      obtain ⟨a, n, c, hN, hoc, hne, hbo, hbl⟩ := hmk.out
      obtain ⟨_, f0, f1, f2, f3, f4⟩ := id hN
      by_cases hly : y < W
      · have hhid := Lib.hid (And.intro hN (And.intro hoc (And.intro hne hbl)))
        clear hN hoc hne hbl
        go_wp2_with fail
        clear f0 f1 f2 f3 f4 hhid
        go_loopw [7] (fun i wr => ∃ x : Nat, x ≤ H ∧ i = .int .i64 x ∧ Hid (Mv 22 w0 bo H W D (cubeL H D (fun x y d => costC W D cs y x d) ((y * H + x) * D + 0)) wr)) (fun i _ => H - (intOf i).toNat)
        case atStart => exact ⟨0, Nat.zero_le _, rfl, hmk⟩
        case round =>
          clear hmk
          obtain ⟨x, hx, rfl, hmk⟩ := hrel
          obtain ⟨a, n, c, hN, ⟨zs, hz, hzm, hrow⟩, hne, hbo, hbl⟩ := hmk.out
          obtain ⟨_, f0, f1, f2, f3, f4⟩ := id hN
          obtain ⟨_, e0, e1, e2, e3⟩ := hpv.out.1.below hbl
          by_cases hlx : x < H
          · have hlen : zs.length = (y * H + x) * D + 0 := by rw [← cubeL_len H D (fun x y d => costC W D cs y x d) ((y * H + x) * D + 0), ← hzm, List.length_map]
            have hle : zs.length + D ≤ 2048 := by
              have h1 := (cost_lt (W := H) (H := W) (D := D) hlx hly (d := D - 1) (by omega)).1
              have := hmax.out
              omega
            have hh := Lib.hid (And.intro hz (And.intro hzm (And.intro hle (And.intro hbl hN))))
            have hat := fun w1 xi yi (hxi : xi = ((y : Nat) : Int)) (hyi : yi = ((x : Nat) : Int)) (hb1 : Below wr.heap.size wr w1) => specCosts_of W H D a0 cs.length c0 bp cs y x xi yi hxi hyi w1 ((hpv.out.1.below hbl).below hb1) ((hpv.out.2.1.below hbl).below hb1) b2 b4 b5 d1 d2 hl'.out (by omega) (by omega)
            have hrowA : ∀ w2, Below wr.heap.size wr w2 → w2.ownsRow w0.heap.size 22 1 (.slice a n c) zs.length (zs.map (.float .f32)) := fun w2 hb2 => hrow.kept (grown_of_below hb2 none) (own_none _)
            have hsz : w0.heap.size ≤ wr.heap.size := hbl.size
            have k2 : wr.cell? ⟨bo, 3, none⟩ = some (.slice a n c) := hN.2.2.2.2.1
            have hbo2 : bo < wr.heap.size := hN.1
            clear hlen hzm hz hbl hmk hN e2 e3 f2 f3 f4 hle
            go_wp2_with fail

            go_region_law
              (first
                | (refine step_append_lies _ (by rfl) _ _ _ (by rfl) w0.heap.size 22 i0 _ 1 4 Try.underlying37 hi hz0 hz1 hz2 rfl (by omega) (.slice a n c) zs.length (zs.map (.float .f32)) (by rfl) (hrowA _ hb2') ⟨g2, 0, none⟩ zs2.length c2 (zs2.map (.float .f32)) (by rfl) (by simp) (news_own hown2) (by intro u hu; obtain ⟨z, _, rfl⟩ := List.mem_map.1 hu; rfl) (by have := hz2l.out; omega) (by have := hz2l.out; have := hh.out.2.2.1; unfold maxLen; omega) (by have := hz2l.out; have := hh.out.2.2.1; omega) (by have := hb2'.size; omega) w2.heap.size rfl ?_; intro gg cap w3 hown3 hgrow hat3 hlt3; have hN3 := (hh.out.2.2.2.2.below hb2').kept hgrow hne; have j2 := hN3.2.2.2.2.1; have jf := hN3.2.2.2.2.2 3)
                | (refine step_plain rfl ?_; go_wp2_with (go_at_call 100; refine (hat _ _ _ (by omega) (by omega) (by ((repeat' (first | (refine bel_set ?_ ?_ _) | (refine bel_al ?_ ?_ _) | exact Below.refl _ _ | assumption | (refine below_drewN ?_ _) | (refine Below.drew ?_))) <;> (first | omega | (simp; done) | (simp; omega))))).mono ?_; rintro e w2 ⟨g2, c2, zs2, rfl, hzz2, hm2, hown2, hb2⟩; have hb2' : Below wr.heap.size wr w2 := (by first | exact hb2 | exact undrew hb2 | exact undrewN hb2); have k3 : w2.cell? ⟨bo, 3, none⟩ = some (.slice a n c) := ((bcell hb2').1 bo 3 hbo2).trans k2; have hz2l : Hid (zs2.length = D) := Lib.hid (by have h := congrArg List.length hm2; rw [List.length_map, cellL_len] at h; exact h))))
            all_goals
              have hM : Mv 22 w0 bo H W D (cubeL H D (fun x y d => costC W D cs y x d) ((y * H + (x + 1)) * D + 0)) (w3.setCell ⟨bo, 3, none⟩ (.slice (some ⟨gg, 0, none⟩) (zs.length + zs2.length) cap)) := by
                rw [← cubeL_cell, ← cubeL_cells H D (fun x y d => costC W D cs y x d) y hlx D (Nat.le_refl _)]
                exact Mv.stepL hh.out.2.2.2.2 hrow hh.out.1 hh.out.2.1 hne hbo hh.out.2.2.2.1 hb2' hzz2 hm2 hown3 hgrow hat3
              have hM := Lib.hid hM
              clear hgrow hown3 hat3 hrow hrowA
              go_wp2_with fail
              go_roundw
              case rel => exact ⟨x + 1, by omega, by go_num, by first | exact hM | exact Lib.hid (hM.out.drewN _)⟩
              case measure => simp [intOf]; omega
          · obtain rfl : x = H := by omega
            rw [cubeL_row] at hmk
            have hN := Lib.hid (And.intro hN (And.intro hz (And.intro hzm (And.intro hrow (And.intro hne (And.intro hbo hbl))))))
            go_wp2_with fail
            go_roundw
            case rel => exact ⟨y + 1, by omega, by go_num, hmk⟩
            case measure => simp [intOf]; omega
      · obtain rfl : y = W := by omega
        obtain ⟨_, r0, r1, r2, r3, rf⟩ := hpv.out.2.2.1.below hbl
        have hoc := Lib.hid hoc
        go_wp2_with fail
        refine bodyPost_ret (v := ?v) ?hr rfl ?post
        case hr => (simp [results, Try.results75, go_sem, f0, f1, f2, f3, r0, r1, r2, r3, rf]; try rfl)
        case post =>
          have h0 := hpv.out.2.2.2
          have ho := hoc.out
          rw [Nat.add_zero, Nat.add_zero] at ho
          refine ⟨_, _, _, rfl, ?_, ?_⟩
          · ((repeat' (first | (refine bel_set ?_ ?_ _) | (refine bel_al ?_ ?_ _) | exact Below.refl _ _ | assumption | (refine below_drewN ?_ _) | (refine Below.drew ?_) | (refine Below.trans ?_ (Below.mono hbl ?_)))) <;> (first | omega | (simp; done) | (simp; omega)))
          · (refine OC.mono (base := ?bb) ?hh ?hl; (case hh => ((repeat' (first | (refine OC.set ?_ _ ?_) | (refine OC.alloc ?_ _) | exact ho | (refine OC.drewN ?_ _))) <;> (first | omega | (simp; done) | (simp; omega)))); (case hl => (first | omega | (simp; done) | (simp; omega))))
end Go.Proofs.Ytmgdofengamcmaa
