import Derived.Test.YtmgdofengamcmaaVz
import Derived.Test.YtmgdofengamcmaaVt
import Derived.Test.YtmgdofengamcmaaRc
import Derived.Deep.DrawnRows
import Derived.BigRegion
import Derived.IntWalk
set_option linter.unusedVariables false
set_option linter.unusedSimpArgs false
namespace Go.FX
open Go Go.RowKit
theorem rep_cn (n : Nat) : (List.replicate n 0).map (cn .f32) = List.replicate n 0 := by rw [List.map_replicate]; rfl
theorem rep_wf (n : Nat) : ∀ z ∈ List.replicate n (0 : Nat), z < width .f32 := by intro z hz; rw [(List.mem_replicate.1 hz).2]; decide
end Go.FX
namespace Go.Proofs.Ytmgdofengamcmaa
open Go.FX Go.RowKit Go.WideShapes Go.ChangeShapes

def mkW (W : World) (n : Nat) : World := W.alloc (.cells (madeCells #[.float .f32 0] n) 22)
theorem made_at (n : Nat) (hn : n ≤ 2048) (W : World) : (Instr.makeSlice 37 (.int .i64 (n : Int)) (.int .i64 (n : Int))).run Try.prog W = .ok (.slice (some ⟨W.heap.size, 0, none⟩) n n) (mkW W n) := by
  obtain ⟨i0, hi, hz0, hz1, hz2⟩ := info_parts info_f32
  have hr := run_make (P := Try.prog) W 37 22 i0 (.float .f32 0) Try.underlying37 hi hz0 .i64 .i64 n n (by omega) (by omega) (by rw [hz2]; omega) (by omega)
  simp only [Int.toNat_natCast, hz1, Nat.mul_one] at hr
  exact hr
theorem made_oc (n : Nat) (hn : n ≤ 2048) (W : World) : OC (mkW W n) W.heap.size 22 (.slice (some ⟨W.heap.size, 0, none⟩) n n) (List.replicate n 0) := by
  obtain ⟨i0, hi, hz0, hz1, hz2⟩ := info_parts info_f32
  obtain ⟨w', h1, h2, h3⟩ := run_make_full (P := Try.prog) W W.heap.size 37 22 i0 (.float .f32 0) 1 Try.underlying37 hi hz0 hz1 .i64 .i64 n (by rw [hz2]; omega) (by unfold maxLen; omega) (Nat.le_refl _)
  rw [made_at n hn W] at h1
  obtain rfl : mkW W n = w' := by injection h1
  refine ⟨List.replicate n 0, rep_wf n, rep_cn n, ?_⟩
  rw [List.map_replicate, List.length_replicate]
  have e : (madeCells (Value.float .f32 0).cells (n * 1)).toList = List.replicate n (Value.float .f32 0) := by rw [Nat.mul_one]; exact made_float _ _
  rw [e] at h2
  exact h2
set_option maxRecDepth 100000 in
set_option maxHeartbeats 4000000 in
theorem specNew4_any (W H D : Int) (a0 : Option Addr) (n0 c0 bp : Nat) (w : World) (hp : Pw w bp W H D (.slice a0 n0 c0)) (hmx : n0 ≤ 2048) :
    Calls Try.prog 73 #[.pointer (some ⟨bp, 0, none⟩)] w (RVol1 22 W H D (List.replicate n0 0) w) := by
  have hmk := made_at n0 hmx
  go_enter Try.func73, Try.ntmps73
  go_upto_region 1 with fail
  obtain ⟨w0, hw0⟩ : ∃ w0, w0 = w.alloc (.cells #[.int .i64 0, .int .i64 0, .int .i64 0, .slice none 0 0] 41) := ⟨_, rfl⟩
  rw [← hw0]
  have hp0 : Pw w0 bp W H D (.slice a0 n0 c0) := by rw [hw0]; exact hp.alloc _
  have hn0 : Nw w0 w.heap.size (.int .i64 0) (.int .i64 0) (.int .i64 0) (.slice none 0 0) := by rw [hw0]; exact Nw.new _ _ _ _ _ _
  have hb0 : Below w.heap.size w w0 := by rw [hw0]; exact below1 _ _
  have hs0 : w0.heap.size = w.heap.size + 1 := by rw [hw0]; simp
  clear hw0 hp
  have hoc := Lib.hid (made_oc n0 hmx w0.drew)
  have hbm : Below w0.heap.size w0 (mkW w0.drew n0) := (below_drewN (Below.refl _ _) 1).alloc (Nat.le_refl _) _
  have hsm : (mkW w0.drew n0).heap.size = w0.heap.size + 1 := by unfold mkW; simp
  have hn1 := hn0.below hbm
  obtain ⟨_, r0, r1, r2, r3, rf⟩ := id hn1
  obtain ⟨hp1, p0, p1, p2, p3⟩ := id hp0
  obtain ⟨_, m0, m1, m2, m3⟩ := hp0.below hbm
  have hpv := Lib.hid (And.intro hbm hb0)
  clear hn0 hn1 hbm hb0 hp0
  go_region
  all_goals go_wp2_with fail
  all_goals refine bodyPost_ret (v := ?v) ?hr rfl ?post
  case hr => (simp [results, Try.results73, go_sem, r0, r1, r2, r3, rf]; try rfl)
  case post =>
    have h0 := hpv.out.1
    have h1 := hpv.out.2
    have ho : OC (mkW w0.drew n0) (w.heap.size + 1) 22 (.slice (some ⟨w.heap.size + 1, 0, none⟩) n0 n0) (List.replicate n0 0) := by rw [← hs0]; exact hoc.out
    refine ⟨_, _, _, rfl, ?_, ?_⟩
    · (repeat (refine bel_set ?_ ?_ _)) <;> first | exact h1.trans (h0.mono (by omega)) | exact Nat.le_refl _
    · refine OC.mono (base := w.heap.size + 1) ?_ (by omega)
      (repeat (refine OC.set ?_ _ ?_)) <;> first | exact ho | exact Nat.lt_succ_self _
end Go.Proofs.Ytmgdofengamcmaa
