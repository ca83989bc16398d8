import Derived.Test.YtbiobmdibiplfaaVa
import Derived.Test.YtbiobmdibiplfaaPl
import Derived.Test.YtbiobmdibiplfaaPi
set_option linter.unusedVariables false
set_option linter.unusedSimpArgs false
namespace Go.FX
open Go Go.RowKit
/-- A variable that was made by a literal of two integers, its slice nil. -/
theorem Mk.start0 {E T : TypeId} {w0 : World} {W H : Int} : Mk E w0 w0.heap.size W H [] (w0.alloc (.cells #[.int .i64 W, .int .i64 H, .slice none 0 0] T)) :=
  ⟨none, 0, 0, Nv.new w0 _ _ _ T, OC.nil _ _ _, fun e => by simp [Value.ownBlock] at e, Nat.le_refl _, below1 w0 _⟩
end Go.FX
namespace Go.Proofs.Ytbiobmdibiplfaa
open Go.FX Go.RowKit Go.WideShapes Go.ChangeShapes

set_option maxHeartbeats 2000000 in
theorem specMFlat_any (W H : Nat) (g cg : Nat) (hg : Fl .f32 g cg) (w : World) (b1 : 1 ≤ W) (b2 : W ≤ 24) (b3 : 1 ≤ H) (b4 : H ≤ 24) (b5 : H * W ≤ 256) :
    Calls Try.prog 84 #[.int .i64 W, .int .i64 H, .float .f32 g] w (RPic1 49 W H (seqL (fun _ => cg) (H * W)) w) := by
  obtain ⟨i0, hi, hz0, hz1, hz2⟩ := info_parts info_f32
  have hWH : (W : Int) * (H : Int) = ((H * W : Nat) : Int) := by push_cast; rw [Int.mul_comm]
  generalize H * W = m at hWH b5 ⊢
  go_enter Try.func84, Try.ntmps84
  go_upto_region 1 with fail
  obtain ⟨w0, hw0⟩ : ∃ w0, w0 = w.alloc (.cells #[.int .i64 0, .int .i64 0, .slice none 0 0] 34) := ⟨_, rfl⟩
  rw [← hw0]
  have hn0 : Nv w0 w.heap.size (.int .i64 0) (.int .i64 0) (.slice none 0 0) := by rw [hw0]; exact Nv.new _ _ _ _ _
  have hb0 : Below w.heap.size w w0 := by rw [hw0]; exact below1 _ _
  have hlt0 : w.heap.size < w0.heap.size := hn0.1
  clear hw0
  have hpv := Lib.hid (And.intro hn0 hb0)
  clear hn0 hb0
  obtain ⟨bo, hbo0⟩ : ∃ b, b = w0.heap.size := ⟨_, rfl⟩
  have hmk := Lib.hid (Mk.start0 (E := 49) (w0 := w0) (W := (W : Int)) (H := (H : Int)) (T := 34))
  go_wp2_with fail
  rw [← hbo0] at hmk ⊢
  clear hbo0
  go_loopw [8] (fun i wr => ∃ k : Nat, k ≤ m ∧ i = .int .i64 k ∧ Hid (Mk 49 w0 bo W H (seqL (fun _ => cg) k) wr)) (fun i _ => m - (intOf i).toNat)
  case atStart => exact ⟨0, Nat.zero_le _, rfl, hmk⟩
  case round =>
    clear hmk
    obtain ⟨k, hk, rfl, hmk⟩ := hrel
    by_cases hlk : k < m
    · obtain ⟨a, n, c, hN, ⟨zs, hz, hzm, hrow⟩, hne, hbo, hbl⟩ := hmk.out
      have hlen : zs.length = k := by rw [← seqL_len (fun _ => cg) k, ← hzm, List.length_map]
      have hh := Lib.hid (And.intro hz (And.intro hzm (And.intro hlen (And.intro hbl hN))))
      have hsz : w0.heap.size ≤ wr.heap.size := hbl.size
      have k2 : wr.cell? ⟨bo, 2, none⟩ = some (.slice a n c) := hN.2.2.2.1
      have hbo2 : bo < wr.heap.size := hN.1
      clear hlen hzm hz hbl hmk hN
      go_wp2_with (at_builtin; refine wpList_append_lies _ rfl _ _ _ rfl w0.heap.size 49 i0 _ 1 4 Try.underlying22 hi hz0 hz1 hz2 rfl (by omega) (.slice a n c) zs.length (zs.map (.float .f32)) rfl (hrow.alloc _) ⟨wr.heap.size, 0, none⟩ 1 1 [.float .f32 g] rfl rfl (World.news_of_block (cs := #[.float .f32 g]) (t := 49) (fr := (0, 0)) (heap_alloc_new wr _)) (by simp [Value.oneCell']) (by omega) (by have := hh.out.2.2.1; unfold maxLen; omega) (by have := hh.out.2.2.1; omega) (by simp; omega) (wr.heap.size + 1) (by simp) ?_; intro gg cap w3 hown3 hgrow hat3 hlt3; have hN3 := Mk.nv3 (m := 0) hh.out.2.2.2.2 hne (by exact hgrow); have j2 := hN3.2.2.2.1; have jf := hN3.2.2.2.2 2)
      have hM : Mk 49 w0 bo W H (seqL (fun _ => cg) (k + 1)) (w3.setCell ⟨bo, 2, none⟩ (.slice (some ⟨gg, 0, none⟩) (zs.length + 1) cap)) := by
        rw [seqL_succ _ k]
        exact Mk.step (m := 0) hh.out.2.2.2.2 hrow hh.out.1 hh.out.2.1 hne hbo hh.out.2.2.2.1 hg hown3 (by exact hgrow) hat3
      have hM := Lib.hid hM
      clear hgrow hown3 hat3 hrow
      go_wp2_with fail
      go_roundw
      case rel => exact ⟨k + 1, by omega, by go_num, hM⟩
      case measure => simp [intOf]; omega
    · obtain rfl : k = m := by omega
      obtain ⟨a, n, c, hN, hoc, hne, hbo, hbl2⟩ := hmk.out
      obtain ⟨_, f0, f1, f2, f3⟩ := hN
      obtain ⟨_, r0, r1, r2, rf⟩ := hpv.out.1.below hbl2
      have hoc := Lib.hid hoc
      go_wp2_with fail
      refine bodyPost_ret (v := ?v) ?hr rfl ?post
      case hr => (simp [results, Try.results84, go_sem, f0, f1, f2, r0, r1, r2, rf]; try rfl)
      case post =>
        have h0 := hpv.out.2
        have ho := hoc.out
        refine ⟨_, _, _, rfl, ?_, ?_⟩
        · ((repeat' (first | (refine bel_set ?_ ?_ _) | (refine bel_al ?_ ?_ _) | exact Below.refl _ _ | assumption | (refine below_drewN ?_ _) | (refine Below.drew ?_) | (refine Below.trans ?_ (Below.mono hbl2 ?_)))) <;> (first | omega | (simp; done) | (simp; omega)))
        · (refine OC.mono (base := ?bb) ?hh ?hl; (case hh => ((repeat' (first | (refine OC.set ?_ _ ?_) | (refine OC.alloc ?_ _) | exact ho | (refine OC.drewN ?_ _))) <;> (first | omega | (simp; done) | (simp; omega)))); (case hl => (first | omega | (simp; done) | (simp; omega))))
end Go.Proofs.Ytbiobmdibiplfaa
