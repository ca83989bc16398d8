import Derived.Test.YtnbilmlpngcobaaBe
import Derived.Test.YtnbilmlpngcobaaSi
import Derived.Test.YtnbilmlpngcobaaPl
set_option linter.unusedVariables false
set_option linter.unusedSimpArgs false
namespace Go.FX
open Go Go.RowKit
theorem Mk.belowG {E : TypeId} {w0 : World} {bo : Nat} {W H : Int} {cs : List Nat} {wr w1 : World} (h : Mk E w0 bo W H cs wr) (hb : Below wr.heap.size wr w1) : Mk E w0 bo W H cs w1 := by
  obtain ⟨a, n, c, h1, h2, h3, h4, h5⟩ := h
  exact ⟨a, n, c, h1.below hb, h2.below hb, h3, h4, h5.trans (hb.mono h5.size)⟩
end Go.FX
namespace Go.Proofs.Ytnbilmlpngcobaa
open Go.FX Go.RowKit Go.WideShapes Go.ChangeShapes
theorem Nine.kept {w w1 : World} {b off : Nat} {cs : List Nat} (h : Nine w b off cs) (hlt : b < w.heap.size) (hb : Below w.heap.size w w1) : Nine w1 b off cs := fun k hk => by
  obtain ⟨z, h1, h2⟩ := h k hk
  exact ⟨z, h1, by rw [(bcell hb).1 b _ hlt, h2]⟩
set_option maxRecDepth 100000 in
set_option maxHeartbeats 16000000 in
theorem specBend_any (W H : Nat) (a0 : Option Addr) (n0 c0 : Nat) (cs : List Nat) (aw : Option Addr) (nw cw : Nat) (ws : List Nat) (w : World) (hw : FC w (.slice aw nw cw) ws) (hv : FC w (.slice a0 n0 c0) cs) (hval : warpB ws = true) (b1 : 1 ≤ W) (b2 : W ≤ 24) (b3 : 1 ≤ H) (b4 : H ≤ 24) (b5 : H * W ≤ 256) (hl : cs.length = H * W) :
    Calls Try.prog 26 #[.slice aw nw cw, .agg #[.int .i64 W, .int .i64 H, .slice a0 n0 c0]] w (RPic 22 W H (gridL W (bendF W H cs ws) (H * W)) true w) := by
  obtain ⟨i0, hi, hz0, hz1, hz2⟩ := info_parts info_f32
  obtain ⟨rfl, hnc, hcm⟩ := hv.sized
  have hval2 := Lib.hid (validB_mk b1 b2 b3 b4 b5 hl)
  have hl' := Lib.hid hl
  have h9 : ws.length = 9 := by have h := hval; unfold warpB at h; simp at h; exact h.1
  obtain ⟨bw, ow, cw', ev, _, _, hbw, hN9⟩ := FC.nine hw h9
  simp only [Value.slice.injEq] at ev
  obtain ⟨rfl, rfl, rfl⟩ := ev
  have h1 := fun w1 (hb : Below w.heap.size w w1) => sIsWarp_any _ ws w1 (hw.below hb)
  have h2 := fun w1 hp => specIs_any W H a0 cs.length c0 w.heap.size w1 hp (by unfold maxLen at hcm; omega)
  have hval' := Lib.hid hval
  have hLead : ∀ w1, Below w.heap.size w w1 → ∀ x y, x < width .f32 → y < width .f32 → Calls Try.prog 82 #[.slice (some ⟨bw, ow, none⟩) 9 cw, .float .f32 x, .float .f32 y] w1 (R2D (wpU ws 0 x y) (wpU ws 1 x y) (wpOk ws x y) w1) := fun w1 hb x y lx ly => by
    have h := specLead_any bw ow cw ws x y w1 (Nine.kept hN9 hbw hb) lx ly
    unfold wpU
    rw [wpOk_yes x y hval]
    exact h
  clear hval hl h9 hN9 hw
  obtain ⟨W0, hW0⟩ : ∃ U, U = (w.alloc (.cells #[.int .i64 W, .int .i64 H, .slice a0 cs.length c0] 47)).alloc (.cells #[.int .i64 0, .int .i64 0, .slice none 0 0] 47) := ⟨_, rfl⟩
  have PP : Pv W0 w.heap.size W H (.slice a0 cs.length c0) := by rw [hW0]; exact (Pv.new _ _ _ _ _).alloc _
  have PN := Nv.new (w.alloc (.cells #[.int .i64 W, .int .i64 H, .slice a0 cs.length c0] 47)) (.int .i64 0) (.int .i64 0) (.slice none 0 0) 47
  simp only [World.size_alloc] at PN
  rw [← hW0] at PN
  have bw0 : Below w.heap.size w W0 := by rw [hW0]; ((repeat' (first | (refine bel_set ?_ ?_ _) | (refine bel_al ?_ ?_ _) | exact Below.refl _ _ | assumption | (refine below_drewN ?_ _) | (refine Below.drew ?_))) <;> (first | omega | (simp; done) | (simp; omega)))
  go_enter Try.func26, Try.ntmps26
  go_wp2_with fail
  rw [← hW0]
  clear hW0
  refine (h1 _ bw0).mono ?_
  rintro e w2 ⟨k2, rfl, hw2⟩
  rw [hval'.out]
  replace PP : Pv w2 w.heap.size W H (.slice a0 cs.length c0) := by rw [hw2]; exact PP.drewN _
  replace PN : Nv w2 (w.heap.size + 1) (.int .i64 0) (.int .i64 0) (.slice none 0 0) := by rw [hw2]; exact PN.drewN _
  replace bw0 : Below w.heap.size w w2 := by rw [hw2]; exact below_drewN bw0 _
  clear hw2
  go_wp2_with fail
  refine (h2 _ PP).mono ?_
  rintro e w0 ⟨k3, rfl, hw3⟩
  rw [hval2.out]
  replace PP : Pv w0 w.heap.size W H (.slice a0 cs.length c0) := by rw [hw3]; exact PP.drewN _
  replace PN : Nv w0 (w.heap.size + 1) (.int .i64 0) (.int .i64 0) (.slice none 0 0) := by rw [hw3]; exact PN.drewN _
  replace bw0 : Below w.heap.size w w0 := by rw [hw3]; exact below_drewN bw0 _
  clear hw3
  have hlt0 : w.heap.size + 1 < w0.heap.size := PN.1
  obtain ⟨_, p0, p1, p2⟩ := id PP
  go_wp2_with fail
  refine (specNew_any _ _ _).mono ?_
  rintro e w1 ⟨a1, n1, c1, rfl, hb1, ho1⟩
  obtain ⟨bo, hbo0⟩ : ∃ b, b = w1.heap.size := ⟨_, rfl⟩
  have hmk := Lib.hid (Mk.start1 (W := (W : Int)) (H := (H : Int)) (T := 47) hb1 ho1)
  clear hb1 ho1
  go_wp2_with fail
  rw [← hbo0] at hmk ⊢
  have hpv := Lib.hid (And.intro PP (And.intro PN bw0))
  clear hbo0 PP PN bw0 p0 p1 p2
  go_loopw [7] (fun i wr => ∃ y : Nat, y ≤ H ∧ i = .int .i64 y ∧ Hid (Mk 22 w0 bo W H (gridL W (bendF W H cs ws) (y * W + 0)) wr)) (fun i _ => H - (intOf i).toNat)
  case atStart => exact ⟨0, Nat.zero_le _, rfl, by simpa [gridL] using hmk⟩
  case round =>
    clear hmk
    obtain ⟨y, hy, rfl, hmk⟩ := hrel
    obtain ⟨wo, rfl⟩ : ∃ wo : World, wo = wr := ⟨_, rfl⟩
    have hbl : Below w0.heap.size w0 wo := hmk.out.choose_spec.choose_spec.choose_spec.2.2.2.2
    obtain ⟨_, e0, e1, e2⟩ := hpv.out.1.below hbl
    have hbl := Lib.hid hbl
    by_cases hly : y < H
    · go_wp2_with fail
      clear e0 e1 e2 hbl
      go_loopw [8] (fun i wr => ∃ x : Nat, x ≤ W ∧ i = .int .i64 x ∧ Hid (Mk 22 w0 bo W H (gridL W (bendF W H cs ws) (y * W + x)) wr)) (fun i _ => W - (intOf i).toNat)
      case atStart => exact ⟨0, Nat.zero_le _, rfl, hmk⟩
      case round =>
        clear hmk
        obtain ⟨x, hx, rfl, hmk⟩ := hrel
        have hblr : Below w0.heap.size w0 wr := by obtain ⟨_, _, _, _, _, _, _, h⟩ := hmk.out; exact h
        obtain ⟨_, e0, e1, e2⟩ := hpv.out.1.below hblr
        by_cases hlx : x < W
        · have hle : y * W + x + 1 ≤ 256 := by
            have h1 : y * W + W ≤ H * W := by rw [← Nat.succ_mul]; exact Nat.mul_le_mul_right _ hly
            omega
          have hL := hLead wr (hpv.out.2.2.trans (hblr.mono hpv.out.2.2.size)) (fi x) (fi y) (fi_lt _) (fi_lt _)
          have hF : Hid (bendF W H cs ws x y = sel (wpOk ws (fi x) (fi y)) (sel (smpB (wpU ws 0 (fi x) (fi y)) && smpB (wpU ws 1 (fi x) (fi y))) (smpF W H cs (wpU ws 0 (fi x) (fi y)) (wpU ws 1 (fi x) (fi y))))) := Lib.hid rfl
          generalize wpU ws 0 (fi x) (fi y) = u0 at hL hF
          generalize wpU ws 1 (fi x) (fi y) = u1 at hL hF
          clear hblr e1 e2
          cases hK : wpOk ws (fi x) (fi y) with
          | false =>
            rw [hK] at hL
            have hG : Hid (bendF W H cs ws x y = 0) := Lib.hid (by rw [hF.out, hK, sel_no])
            clear hK
            go_wp2_with fail
            refine hL.mono ?_
            rintro e wl ⟨r0, r1, kk, rfl, hwl, f0, f1⟩
            have hmkl : Hid (Mk 22 w0 bo W H (gridL W (bendF W H cs ws) (y * W + x)) wl) := Lib.hid (by rw [hwl]; exact hmk.out.drewN _)
            clear hwl hmk
            have hmk2 : Hid (Mk 22 w0 bo W H (gridL W (bendF W H cs ws) (y * W + x)) wl) := Lib.hid (hmkl.out)
            obtain ⟨a, n, c, hN, ⟨zs, hz, hzm, hrow⟩, hne, hbo, hbl⟩ := hmk2.out
            have hlen : zs.length = y * W + x := by rw [← gridL_len W (bendF W H cs ws) (y * W + x), ← hzm, List.length_map]
            have hlen2 : zs.length + 1 ≤ 256 := by omega
            have hh := Lib.hid (And.intro hz (And.intro hzm (And.intro hlen2 (And.intro hbl hN))))
            have hrowA : ∀ (o : Obj) (m : Nat), ((wl.alloc o).drewN m).ownsRow w0.heap.size 22 1 (.slice a n c) zs.length (zs.map (.float .f32)) := fun o m => hrow.alloc o
            have hsz : w0.heap.size ≤ wl.heap.size := hbl.size
            have k2 : wl.cell? ⟨bo, 2, none⟩ = some (.slice a n c) := hN.2.2.2.1
            have hbo2 : bo < wl.heap.size := hN.1
            clear hlen hlen2 hzm hz hbl hmk2 hN
            go_wp2_with (at_builtin; go_loud (refine wpList_append_lies _ (by rfl) _ _ _ (by rfl) w0.heap.size 22 i0 _ 1 4 Try.underlying25 hi hz0 hz1 hz2 rfl (by omega) (.slice a n c) zs.length (zs.map (.float .f32)) (by rfl) (hrow.alloc _) ⟨wl.heap.size, 0, none⟩ 1 1 [.float .f32 0] (by rfl) (by rfl) (World.news_of_block (cs := #[.float .f32 0]) (t := 22) (fr := (0, 0)) (heap_alloc_new wl _)) (by simp [Value.oneCell']) (by omega) (by have := hh.out.2.2.1; unfold maxLen; omega) (by have := hh.out.2.2.1; omega) (by simp; omega) (wl.heap.size + 1) (by simp) ?_; intro gg cap w3 hown3 hgrow0 hat3 hlt3; have hgrow := (show ((wl.alloc (.cells #[.float .f32 0] 22)).drewN 0).grownBy w3 _ from hgrow0); clear hgrow0; have hN3 := Mk.nv3 hh.out.2.2.2.2 hne hgrow; have j2 := hN3.2.2.2.1; have jf := hN3.2.2.2.2 2))
            all_goals
              have hM : Mk 22 w0 bo W H (gridL W (bendF W H cs ws) (y * W + (x + 1))) (w3.setCell ⟨bo, 2, none⟩ (.slice (some ⟨gg, 0, none⟩) (zs.length + 1) cap)) := by
                rw [gridL_step W _ y hlx, hG.out]
                exact Mk.step hh.out.2.2.2.2 hrow hh.out.1 hh.out.2.1 hne hbo hh.out.2.2.2.1 fl00 hown3 hgrow hat3
              have hM := Lib.hid hM
              clear hgrow hown3 hat3 hrow hrowA
              go_wp2_with fail
              go_roundw
              case rel => exact ⟨x + 1, by omega, by go_num, by first | exact hM | exact Lib.hid (hM.out.drewN _)⟩
              case measure => simp [intOf]; omega
          | true =>
            cases hs0 : smpB u0 with
            | false =>
              rw [hK] at hL
              have hG : Hid (bendF W H cs ws x y = 0) := Lib.hid (by rw [hF.out, hK, sel_yes, hs0, Bool.false_and, sel_no])
              have hs0' := Lib.hid hs0
              clear hK hs0
              go_wp2_with fail
              refine hL.mono ?_
              rintro e wl ⟨r0, r1, kk, rfl, hwl, f0, f1⟩
              have hmkl : Hid (Mk 22 w0 bo W H (gridL W (bendF W H cs ws) (y * W + x)) wl) := Lib.hid (by rw [hwl]; exact hmk.out.drewN _)
              clear hwl hmk
              go_wp2_with fail
              refine (sPlace_any r0 f0.lt _).mono ?_
              rintro e w4 ⟨rfl, h4⟩
              obtain rfl : w4 = wl := by first | exact h4 | exact h4.symm
              rw [f0.smp, hs0'.out]
              have hmk2 : Hid (Mk 22 w0 bo W H (gridL W (bendF W H cs ws) (y * W + x)) w4) := Lib.hid (hmkl.out)
              obtain ⟨a, n, c, hN, ⟨zs, hz, hzm, hrow⟩, hne, hbo, hbl⟩ := hmk2.out
              have hlen : zs.length = y * W + x := by rw [← gridL_len W (bendF W H cs ws) (y * W + x), ← hzm, List.length_map]
              have hlen2 : zs.length + 1 ≤ 256 := by omega
              have hh := Lib.hid (And.intro hz (And.intro hzm (And.intro hlen2 (And.intro hbl hN))))
              have hrowA : ∀ (o : Obj) (m : Nat), ((w4.alloc o).drewN m).ownsRow w0.heap.size 22 1 (.slice a n c) zs.length (zs.map (.float .f32)) := fun o m => hrow.alloc o
              have hsz : w0.heap.size ≤ w4.heap.size := hbl.size
              have k2 : w4.cell? ⟨bo, 2, none⟩ = some (.slice a n c) := hN.2.2.2.1
              have hbo2 : bo < w4.heap.size := hN.1
              clear hlen hlen2 hzm hz hbl hmk2 hN
              go_wp2_with (at_builtin; go_loud (refine wpList_append_lies _ (by rfl) _ _ _ (by rfl) w0.heap.size 22 i0 _ 1 4 Try.underlying25 hi hz0 hz1 hz2 rfl (by omega) (.slice a n c) zs.length (zs.map (.float .f32)) (by rfl) (hrow.alloc _) ⟨w4.heap.size, 0, none⟩ 1 1 [.float .f32 0] (by rfl) (by rfl) (World.news_of_block (cs := #[.float .f32 0]) (t := 22) (fr := (0, 0)) (heap_alloc_new w4 _)) (by simp [Value.oneCell']) (by omega) (by have := hh.out.2.2.1; unfold maxLen; omega) (by have := hh.out.2.2.1; omega) (by simp; omega) (w4.heap.size + 1) (by simp) ?_; intro gg cap w3 hown3 hgrow0 hat3 hlt3; have hgrow := (show ((w4.alloc (.cells #[.float .f32 0] 22)).drewN 0).grownBy w3 _ from hgrow0); clear hgrow0; have hN3 := Mk.nv3 hh.out.2.2.2.2 hne hgrow; have j2 := hN3.2.2.2.1; have jf := hN3.2.2.2.2 2))
              all_goals
                have hM : Mk 22 w0 bo W H (gridL W (bendF W H cs ws) (y * W + (x + 1))) (w3.setCell ⟨bo, 2, none⟩ (.slice (some ⟨gg, 0, none⟩) (zs.length + 1) cap)) := by
                  rw [gridL_step W _ y hlx, hG.out]
                  exact Mk.step hh.out.2.2.2.2 hrow hh.out.1 hh.out.2.1 hne hbo hh.out.2.2.2.1 fl00 hown3 hgrow hat3
                have hM := Lib.hid hM
                clear hgrow hown3 hat3 hrow hrowA
                go_wp2_with fail
                go_roundw
                case rel => exact ⟨x + 1, by omega, by go_num, by first | exact hM | exact Lib.hid (hM.out.drewN _)⟩
                case measure => simp [intOf]; omega
            | true =>
              cases hs1 : smpB u1 with
              | false =>
                rw [hK] at hL
                have hG : Hid (bendF W H cs ws x y = 0) := Lib.hid (by rw [hF.out, hK, sel_yes, hs1, Bool.and_false, sel_no])
                have hs0' := Lib.hid hs0
                have hs1' := Lib.hid hs1
                clear hK hs0 hs1
                go_wp2_with fail
                refine hL.mono ?_
                rintro e wl ⟨r0, r1, kk, rfl, hwl, f0, f1⟩
                have hmkl : Hid (Mk 22 w0 bo W H (gridL W (bendF W H cs ws) (y * W + x)) wl) := Lib.hid (by rw [hwl]; exact hmk.out.drewN _)
                clear hwl hmk
                go_wp2_with fail
                refine (sPlace_any r0 f0.lt _).mono ?_
                rintro e w4 ⟨rfl, h4⟩
                obtain rfl : w4 = wl := by first | exact h4 | exact h4.symm
                rw [f0.smp, hs0'.out]
                go_wp2_with fail
                refine (sPlace_any r1 f1.lt _).mono ?_
                rintro e w5 ⟨rfl, h4⟩
                obtain rfl : w5 = w4 := by first | exact h4 | exact h4.symm
                rw [f1.smp, hs1'.out]
                have hmk2 : Hid (Mk 22 w0 bo W H (gridL W (bendF W H cs ws) (y * W + x)) w5) := Lib.hid (hmkl.out)
                obtain ⟨a, n, c, hN, ⟨zs, hz, hzm, hrow⟩, hne, hbo, hbl⟩ := hmk2.out
                have hlen : zs.length = y * W + x := by rw [← gridL_len W (bendF W H cs ws) (y * W + x), ← hzm, List.length_map]
                have hlen2 : zs.length + 1 ≤ 256 := by omega
                have hh := Lib.hid (And.intro hz (And.intro hzm (And.intro hlen2 (And.intro hbl hN))))
                have hrowA : ∀ (o : Obj) (m : Nat), ((w5.alloc o).drewN m).ownsRow w0.heap.size 22 1 (.slice a n c) zs.length (zs.map (.float .f32)) := fun o m => hrow.alloc o
                have hsz : w0.heap.size ≤ w5.heap.size := hbl.size
                have k2 : w5.cell? ⟨bo, 2, none⟩ = some (.slice a n c) := hN.2.2.2.1
                have hbo2 : bo < w5.heap.size := hN.1
                clear hlen hlen2 hzm hz hbl hmk2 hN
                go_wp2_with (at_builtin; go_loud (refine wpList_append_lies _ (by rfl) _ _ _ (by rfl) w0.heap.size 22 i0 _ 1 4 Try.underlying25 hi hz0 hz1 hz2 rfl (by omega) (.slice a n c) zs.length (zs.map (.float .f32)) (by rfl) (hrow.alloc _) ⟨w5.heap.size, 0, none⟩ 1 1 [.float .f32 0] (by rfl) (by rfl) (World.news_of_block (cs := #[.float .f32 0]) (t := 22) (fr := (0, 0)) (heap_alloc_new w5 _)) (by simp [Value.oneCell']) (by omega) (by have := hh.out.2.2.1; unfold maxLen; omega) (by have := hh.out.2.2.1; omega) (by simp; omega) (w5.heap.size + 1) (by simp) ?_; intro gg cap w3 hown3 hgrow0 hat3 hlt3; have hgrow := (show ((w5.alloc (.cells #[.float .f32 0] 22)).drewN 0).grownBy w3 _ from hgrow0); clear hgrow0; have hN3 := Mk.nv3 hh.out.2.2.2.2 hne hgrow; have j2 := hN3.2.2.2.1; have jf := hN3.2.2.2.2 2))
                all_goals
                  have hM : Mk 22 w0 bo W H (gridL W (bendF W H cs ws) (y * W + (x + 1))) (w3.setCell ⟨bo, 2, none⟩ (.slice (some ⟨gg, 0, none⟩) (zs.length + 1) cap)) := by
                    rw [gridL_step W _ y hlx, hG.out]
                    exact Mk.step hh.out.2.2.2.2 hrow hh.out.1 hh.out.2.1 hne hbo hh.out.2.2.2.1 fl00 hown3 hgrow hat3
                  have hM := Lib.hid hM
                  clear hgrow hown3 hat3 hrow hrowA
                  go_wp2_with fail
                  go_roundw
                  case rel => exact ⟨x + 1, by omega, by go_num, by first | exact hM | exact Lib.hid (hM.out.drewN _)⟩
                  case measure => simp [intOf]; omega
              | true =>
                rw [hK] at hL
                have hG : Hid (bendF W H cs ws x y = smpF W H cs u0 u1) := Lib.hid (by rw [hF.out, hK, sel_yes, hs0, hs1, Bool.and_self, sel_yes])
                have hs0' := Lib.hid hs0
                have hs1' := Lib.hid hs1
                clear hK hs0 hs1
                go_wp2_with fail
                refine hL.mono ?_
                rintro e wl ⟨r0, r1, kk, rfl, hwl, f0, f1⟩
                have hmkl : Hid (Mk 22 w0 bo W H (gridL W (bendF W H cs ws) (y * W + x)) wl) := Lib.hid (by rw [hwl]; exact hmk.out.drewN _)
                clear hwl hmk
                go_wp2_with fail
                refine (sPlace_any r0 f0.lt _).mono ?_
                rintro e w4 ⟨rfl, h4⟩
                obtain rfl : w4 = wl := by first | exact h4 | exact h4.symm
                rw [f0.smp, hs0'.out]
                go_wp2_with fail
                refine (sPlace_any r1 f1.lt _).mono ?_
                rintro e w5 ⟨rfl, h4⟩
                obtain rfl : w5 = w4 := by first | exact h4 | exact h4.symm
                rw [f1.smp, hs1'.out]
                have hbl4 : Below w0.heap.size w0 w5 := by obtain ⟨_, _, _, _, _, _, _, h⟩ := hmkl.out; exact h
                have hsm := sSample_any W H a0 cs.length c0 w.heap.size cs r0 r1 f0.lt f1.lt (by rw [f0.smp, hs0'.out]) (by rw [f1.smp, hs1'.out]) w5 (hpv.out.1.below hbl4) (hv.below (hpv.out.2.2.trans (hbl4.mono hpv.out.2.2.size))) b1 b2 b3 b4 hl'.out
                rw [f0.same (isF_not (smp_fin hs0'.out)), f1.same (isF_not (smp_fin hs1'.out))] at hsm
                rw [f0.same (isF_not (smp_fin hs0'.out)), f1.same (isF_not (smp_fin hs1'.out))]
                generalize smpF W H cs u0 u1 = A at hsm hG
                clear hbl4
                go_wp2_with fail
                refine hsm.mono ?_
                rintro e w6 ⟨r, rfl, hb6, hr6⟩
                have hmk6 : Hid (Mk 22 w0 bo W H (gridL W (bendF W H cs ws) (y * W + x)) w6) := Lib.hid (hmkl.out.belowG hb6)
                clear hmkl hb6 hsm
                have hmk2 : Hid (Mk 22 w0 bo W H (gridL W (bendF W H cs ws) (y * W + x)) w6) := Lib.hid (hmk6.out)
                obtain ⟨a, n, c, hN, ⟨zs, hz, hzm, hrow⟩, hne, hbo, hbl⟩ := hmk2.out
                have hlen : zs.length = y * W + x := by rw [← gridL_len W (bendF W H cs ws) (y * W + x), ← hzm, List.length_map]
                have hlen2 : zs.length + 1 ≤ 256 := by omega
                have hh := Lib.hid (And.intro hz (And.intro hzm (And.intro hlen2 (And.intro hbl hN))))
                have hrowA : ∀ (o : Obj) (m : Nat), ((w6.alloc o).drewN m).ownsRow w0.heap.size 22 1 (.slice a n c) zs.length (zs.map (.float .f32)) := fun o m => hrow.alloc o
                have hsz : w0.heap.size ≤ w6.heap.size := hbl.size
                have k2 : w6.cell? ⟨bo, 2, none⟩ = some (.slice a n c) := hN.2.2.2.1
                have hbo2 : bo < w6.heap.size := hN.1
                clear hlen hlen2 hzm hz hbl hmk2 hN
                go_wp2_with (at_builtin; go_loud (refine wpList_append_lies _ (by rfl) _ _ _ (by rfl) w0.heap.size 22 i0 _ 1 4 Try.underlying25 hi hz0 hz1 hz2 rfl (by omega) (.slice a n c) zs.length (zs.map (.float .f32)) (by rfl) (hrow.alloc _) ⟨w6.heap.size, 0, none⟩ 1 1 [.float .f32 r] (by rfl) (by rfl) (World.news_of_block (cs := #[.float .f32 r]) (t := 22) (fr := (0, 0)) (heap_alloc_new w6 _)) (by simp [Value.oneCell']) (by omega) (by have := hh.out.2.2.1; unfold maxLen; omega) (by have := hh.out.2.2.1; omega) (by simp; omega) (w6.heap.size + 1) (by simp) ?_; intro gg cap w3 hown3 hgrow0 hat3 hlt3; have hgrow := (show ((w6.alloc (.cells #[.float .f32 r] 22)).drewN 0).grownBy w3 _ from hgrow0); clear hgrow0; have hN3 := Mk.nv3 hh.out.2.2.2.2 hne hgrow; have j2 := hN3.2.2.2.1; have jf := hN3.2.2.2.2 2))
                all_goals
                  have hM : Mk 22 w0 bo W H (gridL W (bendF W H cs ws) (y * W + (x + 1))) (w3.setCell ⟨bo, 2, none⟩ (.slice (some ⟨gg, 0, none⟩) (zs.length + 1) cap)) := by
                    rw [gridL_step W _ y hlx, hG.out]
                    exact Mk.step hh.out.2.2.2.2 hrow hh.out.1 hh.out.2.1 hne hbo hh.out.2.2.2.1 hr6 hown3 hgrow hat3
                  have hM := Lib.hid hM
                  clear hgrow hown3 hat3 hrow hrowA
                  go_wp2_with fail
                  go_roundw
                  case rel => exact ⟨x + 1, by omega, by go_num, by first | exact hM | exact Lib.hid (hM.out.drewN _)⟩
                  case measure => simp [intOf]; omega
        · obtain rfl : x = W := by omega
          rw [gridL_row] at hmk
          clear hblr
          go_wp2_with fail
          go_roundw
          case rel => exact ⟨y + 1, by omega, by go_num, hmk⟩
          case measure => simp [intOf]; omega
    · obtain rfl : y = H := by omega
      obtain ⟨a, n, c, hN, hoc, hne, hbo, hbl2⟩ := hmk.out
      obtain ⟨_, f0, f1, f2, f3⟩ := hN
      obtain ⟨_, r0, r1, r2, rf⟩ := hpv.out.2.1.below hbl2
      have hoc := Lib.hid hoc
      go_wp2_with fail
      refine bodyPost_ret (v := ?v) ?hr rfl ?post
      case hr => (simp [results, Try.results26, go_sem, f0, f1, f2, r0, r1, r2, rf]; try rfl)
      case post =>
        have h0 := hpv.out.2.2
        have ho := hoc.out
        rw [Nat.add_zero] at ho
        refine ⟨_, _, _, rfl, ?_, ?_⟩
        · ((repeat' (first | (refine bel_set ?_ ?_ _) | (refine bel_al ?_ ?_ _) | exact Below.refl _ _ | assumption | (refine below_drewN ?_ _) | (refine Below.drew ?_) | (refine Below.trans ?_ (Below.mono hbl2 ?_)))) <;> (first | omega | (simp; done) | (simp; omega)))
        · (refine OC.mono (base := ?bb) ?hh ?hl; (case hh => ((repeat' (first | (refine OC.set ?_ _ ?_) | (refine OC.alloc ?_ _) | exact ho | (refine OC.drewN ?_ _))) <;> (first | omega | (simp; done) | (simp; omega)))); (case hl => (first | omega | (simp; done) | (simp; omega))))
theorem specBend_no1 (aw : Option Addr) (nw cw : Nat) (ws : List Nat) (W H : Int) (a : Option Addr) (n c : Nat) (w : World) (hw : FC w (.slice aw nw cw) ws) (hval : warpB ws = false) :
    Calls Try.prog 26 #[.slice aw nw cw, .agg #[.int .i64 W, .int .i64 H, .slice a n c]] w (RPic 22 0 0 [] false w) := by
  have h1 := fun w1 (hb : Below w.heap.size w w1) => sIsWarp_any _ ws w1 (hw.below hb)
  have hval' := Lib.hid hval
  clear hval hw
  go_enter Try.func26, Try.ntmps26
  go_wp2_with fail
  refine (h1 _ (by ((repeat' (first | (refine bel_set ?_ ?_ _) | (refine bel_al ?_ ?_ _) | exact Below.refl _ _ | assumption | (refine below_drewN ?_ _) | (refine Below.drew ?_))) <;> (first | omega | (simp; done) | (simp; omega))))).mono ?_
  rintro e w1 ⟨k, rfl, rfl⟩
  rw [hval'.out]
  go_wp2_with fail
  refine bodyPost_ret (v := ?v1) ?hr1 rfl ?post1
  case hr1 => (simp [results, Try.results26, go_sem]; try rfl)
  case post1 => exact ⟨_, _, _, rfl, by ((repeat' (first | (refine bel_set ?_ ?_ _) | (refine bel_al ?_ ?_ _) | exact Below.refl _ _ | assumption | (refine below_drewN ?_ _) | (refine Below.drew ?_))) <;> (first | omega | (simp; done) | (simp; omega))), OC.nil _ _ _⟩
theorem specBend_no2 (aw : Option Addr) (nw cw : Nat) (ws : List Nat) (W H : Int) (a : Option Addr) (n c : Nat) (w : World) (hw : FC w (.slice aw nw cw) ws) (hnc : n ≤ c) (hcm : c ≤ maxLen) (hval : warpB ws = true) (hpic : validB W H n = false) :
    Calls Try.prog 26 #[.slice aw nw cw, .agg #[.int .i64 W, .int .i64 H, .slice a n c]] w (RPic 22 0 0 [] false w) := by
  have h1 := fun w1 (hb : Below w.heap.size w w1) => sIsWarp_any _ ws w1 (hw.below hb)
  have h2 := fun w1 hp => specIs_any W H a n c w.heap.size w1 hp (by unfold maxLen at hcm; omega)
  have hval' := Lib.hid hval
  have hpic' := Lib.hid hpic
  clear hval hw hpic
  go_enter Try.func26, Try.ntmps26
  go_wp2_with fail
  refine (h1 _ (by ((repeat' (first | (refine bel_set ?_ ?_ _) | (refine bel_al ?_ ?_ _) | exact Below.refl _ _ | assumption | (refine below_drewN ?_ _) | (refine Below.drew ?_))) <;> (first | omega | (simp; done) | (simp; omega))))).mono ?_
  rintro e w1 ⟨k, rfl, rfl⟩
  rw [hval'.out]
  go_wp2_with fail
  refine (h2 _ (((Pv.new _ _ _ _ _).alloc _).drewN _)).mono ?_
  rintro e w1 ⟨k1, rfl, rfl⟩
  rw [hpic'.out]
  go_wp2_with fail
  refine bodyPost_ret (v := ?v1) ?hr1 rfl ?post1
  case hr1 => (simp [results, Try.results26, go_sem]; try rfl)
  case post1 => exact ⟨_, _, _, rfl, by ((repeat' (first | (refine bel_set ?_ ?_ _) | (refine bel_al ?_ ?_ _) | exact Below.refl _ _ | assumption | (refine below_drewN ?_ _) | (refine Below.drew ?_))) <;> (first | omega | (simp; done) | (simp; omega))), OC.nil _ _ _⟩
theorem pairBendPicture (ws : List Nat) (W H : Int) (cs : List Nat) :
    ∃ (W' H' : Int) (cs' : List Nat) (ok : Bool),
      (∀ aw nw cw a n c w, FC w (.slice aw nw cw) ws → FC w (.slice a n c) cs → Calls Try.prog 26 #[.slice aw nw cw, .agg #[.int .i64 W, .int .i64 H, .slice a n c]] w (RPic 22 W' H' cs' ok w)) ∧
      (∀ aw nw cw a n c w, FC w (.slice aw nw cw) ws → FC w (.slice a n c) cs → Calls Try.prog 29 #[.slice aw nw cw, .agg #[.int .i64 W, .int .i64 H, .slice a n c]] w (RPic 22 W' H' cs' ok w)) ∧ cs'.length ≤ 256 := by
  cases h : warpB ws with
  | false =>
    refine ⟨0, 0, [], false, fun aw nw cw a n c w hw hv => specBend_no1 aw nw cw ws W H a n c w hw h, fun aw nw cw a n c w hw hv => ?_, by simp⟩
    obtain ⟨rfl, h1, h2⟩ := hv.sized
    exact implBend_no aw nw cw ws W H a _ c w hw h1 h2 (.inl h)
  | true =>
    cases hp : validB W H cs.length with
    | false =>
      refine ⟨0, 0, [], false, fun aw nw cw a n c w hw hv => ?_, fun aw nw cw a n c w hw hv => ?_, by simp⟩
      · obtain ⟨rfl, h1, h2⟩ := hv.sized
        exact specBend_no2 aw nw cw ws W H a _ c w hw h1 h2 h hp
      · obtain ⟨rfl, h1, h2⟩ := hv.sized
        exact implBend_no aw nw cw ws W H a _ c w hw h1 h2 (.inr hp)
    | true =>
      obtain ⟨wn, hn, rfl, rfl, b1, b2, b3, b4, b5, hl⟩ := validB_parts hp
      exact ⟨_, _, _, _, fun aw nw cw a n c w hw hv => specBend_any wn hn a n c cs aw nw cw ws w hw hv h b1 b2 b3 b4 b5 hl, fun aw nw cw a n c w hw hv => implBend_any wn hn a n c cs aw nw cw ws w hw hv h b1 b2 b3 b4 b5 hl, by rw [gridL_len]; exact b5⟩
end Go.Proofs.Ytnbilmlpngcobaa
