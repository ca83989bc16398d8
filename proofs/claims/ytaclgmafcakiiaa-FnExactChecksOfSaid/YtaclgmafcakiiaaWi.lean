import Derived.Test.YtaclgmafcakiiaaWt
import Derived.Test.YtaclgmafcakiiaaVl
import Derived.Test.YtaclgmafcakiiaaWs
set_option linter.unusedVariables false
set_option linter.unusedSimpArgs false
namespace Go.Proofs.Ytaclgmafcakiiaa
open Go.FX Go.RowKit Go.WideShapes Go.ChangeShapes
attribute [local go_sem ↓] Go.wp_at_zero Go.wp_at_succ

theorem notD_none2 (cs : List Nat) : winI cs (notD (-1)) = winI cs (fun _ => true) := by
  have e : notD (-1) = fun _ => true := by
    funext d
    unfold notD
    rw [decide_eq_false (by omega)]; rfl
  rw [e]
set_option maxRecDepth 100000 in
set_option maxHeartbeats 8000000 in
theorem specWinners_any (W H D : Nat) (a0 : Option Addr) (n0 c0 bp : Nat) (cs : List Nat) (w : World) (hp : Pw w bp W H D (.slice a0 n0 c0)) (hv : FC w (.slice a0 n0 c0) cs) (b1 : 1 ≤ W) (b2 : W ≤ 24) (b3 : 1 ≤ H) (b4 : H ≤ 24) (b5 : H * W ≤ 256) (d1 : 1 ≤ D) (d2 : D ≤ 8) (hl : cs.length = H * W * D) :
    Calls Try.prog 39 #[.pointer (some ⟨bp, 0, none⟩)] w (RPic1 37 W H (seqL (fun i => fi (winI (rowC D cs i) fun _ => true)) (H * W)) w) := by
  obtain ⟨i0, hi, hz0, hz1, hz2⟩ := info_parts info_f32
  obtain ⟨rfl, hnc, hcm⟩ := hv.sized
  have hWH : (W : Int) * (H : Int) = ((H * W : Nat) : Int) := by push_cast; rw [Int.mul_comm]
  have hsw := fun w1 k hp hv hk => specWinner_any W H D a0 cs.length c0 bp cs k (-1) w1 hp hv hk b5 d1 d2 hl
  simp only [notD_none2] at hsw
  generalize H * W = m at hWH b5 hl hsw ⊢
  have hl' := Lib.hid hl
  clear hl
  go_enter Try.func39, Try.ntmps39
  go_upto_region 1 with fail
  obtain ⟨w0, hw0⟩ : ∃ w0, w0 = w.alloc (.cells #[.int .i64 0, .int .i64 0, .slice none 0 0] 27) := ⟨_, rfl⟩
  rw [← hw0]
  have hp0 : Pw w0 bp W H D (.slice a0 cs.length c0) := by rw [hw0]; exact hp.alloc _
  have hv0 : FC w0 (.slice a0 cs.length c0) cs := by rw [hw0]; exact hv.alloc _
  have hn0 : Nv w0 w.heap.size (.int .i64 0) (.int .i64 0) (.slice none 0 0) := by rw [hw0]; exact Nv.new _ _ _ _ _
  have hb0 : Below w.heap.size w w0 := by rw [hw0]; exact below1 _ _
  have hlt0 : w.heap.size < w0.heap.size := hn0.1
  clear hw0 hp hv
  obtain ⟨hp1, p0, p1, p2, p3⟩ := id hp0
  have hpv := Lib.hid (And.intro hp0 (And.intro hv0 (And.intro hn0 hb0)))
  clear hp0 hv0 hn0 hb0
  go_region_held3 (fun w' => Below w0.heap.size w0 w' ∧ w0.heap.size ≤ w'.heap.size ∧ (∀ b o, b < w0.heap.size → w'.cell? ⟨b, o, none⟩ = w0.cell? ⟨b, o, none⟩)) (first | exact keepStart _ | assumption | exact ⟨by assumption, by assumption, by assumption⟩ | exact keepCall (by assumption) (by assumption) | exact keepAlloc (by assumption) | (refine keepSet ?_ (keepSet ?_ (keepSet ?_ (keepSet ?_ ?_))) <;> first | assumption | omega | (simp; done) | (simp; omega)) | (refine keepSet ?_ (keepSet ?_ (keepSet ?_ ?_)) <;> first | assumption | omega | (simp; done) | (simp; omega)) | (refine keepSet ?_ (keepSet ?_ ?_) <;> first | assumption | omega | (simp; done) | (simp; omega)) | (refine keepSet ?_ ?_ <;> first | assumption | omega | (simp; done) | (simp; omega)) | ((refine keepOf ?_; ((repeat' (first | (refine bel_set ?_ ?_ _) | (refine bel_al ?_ ?_ _) | exact Below.refl _ _ | assumption | exact And.left (by assumption) | (refine below_drewN ?_ _) | (refine Below.drew ?_))) <;> (first | omega | (simp; done) | (simp; omega)))))) (fail)
  obtain ⟨bo, hbo0⟩ : ∃ b, b = w0.heap.size := ⟨_, rfl⟩
  have hmk := Lib.hid (Mk.start0 (E := 37) (w0 := w0) (W := (W : Int)) (H := (H : Int)) (T := 27))
  go_wp2_with fail
  rw [← hbo0] at hmk ⊢
  have hbo1 : w0.heap.size ≤ bo := by omega
  clear hbo0
  go_loopw [4] (fun i wr => ∃ k : Nat, k ≤ m ∧ i = .int .i64 k ∧ Hid (Mk 37 w0 bo W H (seqL (fun i => fi (winI (rowC D cs i) fun _ => true)) k) wr)) (fun i _ => m - (intOf i).toNat)
  case atStart => exact ⟨0, Nat.zero_le _, rfl, by first | exact hmk | exact Lib.hid (hmk.out.drewN 1)⟩
  case round =>
    clear hmk
    obtain ⟨k, hk, rfl, hmk⟩ := hrel
    obtain ⟨a, n, c, hN, ⟨zs, hz, hzm, hrow⟩, hne, hbo, hbl⟩ := hmk.out
    obtain ⟨lb, e0, e1, e2, e3⟩ := hpv.out.1.below hbl
    by_cases hlk : k < m
    · have hlen : zs.length = k := by rw [← seqL_len (fun i => fi (winI (rowC D cs i) fun _ => true)) k, ← hzm, List.length_map]
      obtain ⟨B, hB⟩ : ∃ B, B = winI (rowC D cs k) (fun _ => true) := ⟨_, rfl⟩
      have hat := fun w1 (hb1 : Below wr.heap.size wr w1) => hsw w1 k ((hpv.out.1.below hbl).below hb1) ((hpv.out.2.1.below hbl).below hb1) hlk
      rw [← hB] at hat
      have hB' := Lib.hid hB
      clear hB
      have hh := Lib.hid (And.intro hz (And.intro hzm (And.intro hlen (And.intro hbl (And.intro hN (fiFl2 B))))))
      have hrowA : ∀ (o : Obj) (m : Nat), ((wr.alloc o).drewN m).ownsRow w0.heap.size 37 1 (.slice a n c) zs.length (zs.map (.float .f32)) := fun o m => hrow.alloc o
      have hsz : w0.heap.size ≤ wr.heap.size := hbl.size
      have k2 : wr.cell? ⟨bo, 2, none⟩ = some (.slice a n c) := hN.2.2.2.1
      have hbo2 : bo < wr.heap.size := hN.1
      clear hlen hzm hz hbl hmk hN
      go_wp2_with fail
      go_quiet (fail)
      go_wp2_with fail
      clear hWH e0 e1
      go_region_law
        (first
          | (refine step_append_lies _ (by rfl) _ _ _ (by rfl) w0.heap.size 37 i0 _ 1 4 Try.underlying22 hi hz0 hz1 hz2 rfl (by omega) (.slice a n c) zs.length (zs.map (.float .f32)) (by rfl) (hrowA _ _)
              ⟨wr.heap.size, 0, none⟩ 1 1 [.float .f32 (fi B)] (by rfl) (by rfl) (World.news_of_block (cs := #[.float .f32 (fi B)]) (t := 37) (fr := (0, 0)) (heap_alloc_new wr _)) (by simp [Value.oneCell'])
              (by omega) (by have := hh.out.2.2.1; unfold maxLen; omega) (by have := hh.out.2.2.1; omega) (by simp; omega) (wr.heap.size + 1) (by simp) ?_; intro gg cap w3 hown3 hgrow hat3 hlt3; have hN3 := Mk.nv3 hh.out.2.2.2.2.1 hne hgrow; have j2 := hN3.2.2.2.1; have jf := hN3.2.2.2.2 2)
          | (refine step_plain rfl ?_; go_wp2_with (go_at_call 31; refine (hat _ (by ((repeat' (first | (refine bel_set ?_ ?_ _) | (refine bel_al ?_ ?_ _) | exact Below.refl _ _ | assumption | (refine below_drewN ?_ _) | (refine Below.drew ?_))) <;> (first | omega | (simp; done) | (simp; omega))))).mono ?_; rintro e w2 ⟨kk, rfl, rfl⟩)))
      all_goals
        have hM : Mk 37 w0 bo W H (seqL (fun i => fi (winI (rowC D cs i) fun _ => true)) (k + 1)) (w3.setCell ⟨bo, 2, none⟩ (.slice (some ⟨gg, 0, none⟩) (zs.length + 1) cap)) := by
          rw [seqL_succ _ k, ← hB'.out]
          exact Mk.step hh.out.2.2.2.2.1 hrow hh.out.1 hh.out.2.1 hne hbo hh.out.2.2.2.1 hh.out.2.2.2.2.2 hown3 hgrow hat3
        have hM := Lib.hid hM
        clear hgrow hown3 hat3 hrow hrowA
        go_wp2_with fail
        go_roundw
        case rel => exact ⟨k + 1, by omega, by go_num, by first | exact hM | exact Lib.hid (hM.out.drewN _)⟩
        case measure => simp [intOf]; omega
    · obtain rfl : k = m := by omega
      obtain ⟨_, f0, f1, f2, f3⟩ := hN
      obtain ⟨_, r0, r1, r2, rf⟩ := hpv.out.2.2.1.below hbl
      have hoc : OC wr w0.heap.size 37 (.slice a n c) _ := ⟨zs, hz, hzm, hrow⟩
      have hoc := Lib.hid hoc
      have hzm' := Lib.hid hzm
      clear hzm hrow hz
      go_wp2_with fail
      go_quiet (fail)
      go_wp2_with fail
      refine bodyPost_ret (v := ?v) ?hr rfl ?post
      case hr => (simp [results, Try.results39, go_sem, f0, f1, f2, r0, r1, r2, rf]; try rfl)
      case post =>
        have h0 := hpv.out.2.2.2
        have ho := hoc.out
        refine ⟨_, _, _, rfl, ?_, ?_⟩
        · ((repeat' (first | (refine bel_set ?_ ?_ _) | (refine bel_al ?_ ?_ _) | exact Below.refl _ _ | assumption | (refine below_drewN ?_ _) | (refine Below.drew ?_) | (refine Below.trans ?_ (Below.mono hbl ?_)))) <;> (first | omega | (simp; done) | (simp; omega)))
        · (refine OC.mono (base := ?bb) ?hh ?hl; (case hh => ((repeat' (first | (refine OC.set ?_ _ ?_) | (refine OC.alloc ?_ _) | exact ho | (refine OC.drewN ?_ _))) <;> (first | omega | (simp; done) | (simp; omega)))); (case hl => (first | omega | (simp; done) | (simp; omega))))
end Go.Proofs.Ytaclgmafcakiiaa
