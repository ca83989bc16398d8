import Derived.Test.YtbiobmdibiplfaaVa
import Derived.Test.YtbiobmdibiplfaaRc
import Derived.Test.YtbiobmdibiplfaaRp
import Derived.Test.YtbiobmdibiplfaaWn
import Derived.Test.YtbiobmdibiplfaaPi
import Derived.IntWalk
import Derived.Deep.DrawnRows
import Derived.BigQuiet
set_option linter.unusedVariables false
set_option linter.unusedSimpArgs false
namespace Go.FX
open Go Go.RowKit
/-! The winner between disparities. -/
theorem fiFl2 (k : Int) : Fl .f32 (fi k) (fi k) := ⟨fi_lt k, cn_of_not (fi_not k)⟩
/-- The costs of a cell. -/
def rowC (D : Nat) (cs : List Nat) (i : Nat) : List Nat := seqL (fun d => cs.getD (i * D + d) 0) D
theorem rowC_len (D : Nat) (cs : List Nat) (i : Nat) : (rowC D cs i).length = D := seqL_len _ _
theorem rowC_get {D : Nat} (cs : List Nat) (i : Nat) {d : Nat} (h : d < D) : (rowC D cs i).getD d 0 = cs.getD (i * D + d) 0 := seqL_get _ _ _ h
def quotF (a b c : Nat) : Nat := fop .quo .f32 (fop .sub .f32 a c) (fop .add .f32 (fop .sub .f32 a b) (fop .sub .f32 c b))
def nearOne (q : Nat) : Bool := le2 3212836864 q && le2 q 1065353216
def sharpF (cs : List Nat) (d : Int) : Nat :=
  if d ≤ 0 ∨ d = (cs.length : Int) - 1 then fi d
  else if nearOne (quotF (cs.getD (d.toNat - 1) 0) (cs.getD d.toNat 0) (cs.getD (d.toNat + 1) 0)) = true
  then fop .add .f32 (fi d) (fop .mul .f32 (quotF (cs.getD (d.toNat - 1) 0) (cs.getD d.toNat 0) (cs.getD (d.toNat + 1) 0)) 1056964608) else fi d
theorem sharpF_end {cs : List Nat} {d : Int} (h : d ≤ 0 ∨ d = (cs.length : Int) - 1) : sharpF cs d = fi d := if_pos h
theorem sharpF_no {cs : List Nat} {d : Int} (h : ¬ (d ≤ 0 ∨ d = (cs.length : Int) - 1)) (hn : nearOne (quotF (cs.getD (d.toNat - 1) 0) (cs.getD d.toNat 0) (cs.getD (d.toNat + 1) 0)) = false) : sharpF cs d = fi d := by
  unfold sharpF; rw [if_neg h, if_neg (by rw [hn]; simp)]
theorem sharpF_yes {cs : List Nat} {d : Int} (h : ¬ (d ≤ 0 ∨ d = (cs.length : Int) - 1)) (hn : nearOne (quotF (cs.getD (d.toNat - 1) 0) (cs.getD d.toNat 0) (cs.getD (d.toNat + 1) 0)) = true) : sharpF cs d = fop .add .f32 (fi d) (fop .mul .f32 (quotF (cs.getD (d.toNat - 1) 0) (cs.getD d.toNat 0) (cs.getD (d.toNat + 1) 0)) 1056964608) := by
  unfold sharpF; rw [if_neg h, if_pos hn]
/-- A part of a slice, as a slice. -/
theorem FC.part {w : World} {b off n cap : Nat} {cs : List Nat} (h : FC w (.slice (some ⟨b, off, none⟩) n cap) cs) {p D : Nat} (hD : 0 < D) (hp : p + D ≤ cs.length) : FC w (.slice (some ⟨b, off + p, none⟩) D D) (seqL (fun d => cs.getD (p + d) 0) D) := by
  obtain ⟨zs, ⟨hz, a, cap', hv, h1, h2, h3⟩, rfl⟩ := h
  obtain ⟨ea0, rfl, rfl⟩ := Value.slice.inj hv
  have hp' : p + D ≤ zs.length := by simpa using hp
  rcases h3 with h3 | ⟨b', off', ea, hlt, hc⟩
  · rw [h3] at hp'; simp at hp'; omega
  · have e1 := Option.some.inj (ea0.trans ea)
    have e2 : b = b' := congrArg Addr.block e1
    have e3 : off = off' := congrArg Addr.off e1
    subst e2; subst e3
    refine ⟨seqL (fun d => zs.getD (p + d) 0) D, ⟨?_, some ⟨b, off + p, none⟩, D, by rw [seqL_len], by rw [seqL_len]; exact Nat.le_refl _, by omega, .inr ⟨b, off + p, rfl, hlt, fun i hi => ?_⟩⟩, ?_⟩
    · intro z hzm
      simp only [seqL, List.mem_map, List.mem_range] at hzm
      obtain ⟨d, hd, rfl⟩ := hzm
      have hd2 : p + d < zs.length := by omega
      have e : zs.getD (p + d) 0 = zs[p + d] := by simp [List.getD, hd2]
      rw [e]
      exact hz _ (List.getElem_mem _)
    · rw [seqL_len] at hi
      rw [seqL_get _ _ _ hi, Nat.add_assoc]
      exact hc (p + i) (by omega)
    · simp only [seqL, List.map_map]
      refine List.map_congr_left fun d hd => ?_
      have hd := List.mem_range.1 hd
      show cn .f32 (zs.getD (p + d) 0) = (zs.map (cn .f32)).getD (p + d) 0
      exact (getD_map zs _ (by omega)).symm
def ge2 (x y : Nat) : Bool := FloatKind.f32.format.order x y == some Ordering.gt || FloatKind.f32.format.order x y == some Ordering.eq
theorem ge2_le2 (x y : Nat) : ge2 x y = le2 y x := by
  unfold le2 ge2
  by_cases h : isN .f32 x = true
  · rw [order_nan_right h, order_nan_left h]; rfl
  · have hx : isN .f32 x = false := by simpa using h
    by_cases h' : isN .f32 y = true
    · rw [order_nan_right h', order_nan_left h']; rfl
    · have hy : isN .f32 y = false := by simpa using h'
      rw [lt_key hy hx, gt_key hx hy, eq_key hy hx, eq_key hx hy]
      congr 1
      simp only [decide_eq_decide]
      omega
end Go.FX
namespace Go.Proofs.Ytbiobmdibiplfaa
open Go.FX Go.RowKit Go.WideShapes Go.ChangeShapes

def notD (but : Int) (d : Nat) : Bool := !decide ((d : Int) = but)
theorem bestTo_succ (cs : List Nat) (p : Nat → Bool) (k : Nat) : bestTo cs p (k + 1) = if validC cs p k && (decide (bestTo cs p k < 0) || cLess (cs.getD k 0) (cs.getD (bestTo cs p k).toNat 0)) then (k : Int) else bestTo cs p k := rfl
theorem bestTo_same {cs : List Nat} {p : Nat → Bool} {k : Nat} (h : validC cs p k = false) : bestTo cs p (k + 1) = bestTo cs p k := by rw [bestTo_succ, h]; rfl
theorem bestTo_first {cs : List Nat} {p : Nat → Bool} {k : Nat} (h : validC cs p k = true) (hb : bestTo cs p k = -1) : bestTo cs p (k + 1) = k := by rw [bestTo_succ, h, hb]; rfl
theorem bestTo_less {cs : List Nat} {p : Nat → Bool} {k b : Nat} (h : validC cs p k = true) (hb : bestTo cs p k = b) (hl : cLess (cs.getD k 0) (cs.getD b 0) = true) : bestTo cs p (k + 1) = k := by rw [bestTo_succ, h, hb, Int.toNat_natCast, hl, Bool.or_true]; rfl
theorem bestTo_keep {cs : List Nat} {p : Nat → Bool} {k b : Nat} (hb : bestTo cs p k = b) (hl : cLess (cs.getD k 0) (cs.getD b 0) = false) : bestTo cs p (k + 1) = b := by
  rw [bestTo_succ, hb, Int.toNat_natCast, hl, Bool.or_false, decide_eq_false (by omega), Bool.and_false]; rfl
set_option maxHeartbeats 4000000 in
theorem specWinner_any (W H D : Nat) (a0 : Option Addr) (n0 c0 bp : Nat) (cs : List Nat) (i : Nat) (but : Int) (w : World) (hp : Pw w bp W H D (.slice a0 n0 c0)) (hv : FC w (.slice a0 n0 c0) cs) (hi : i < H * W) (h5 : H * W ≤ 256) (d1 : 1 ≤ D) (d2 : D ≤ 8) (hl : cs.length = H * W * D) :
    Calls Try.prog 86 #[.pointer (some ⟨bp, 0, none⟩), .int .i64 i, .int .i64 but] w (RI .i64 (winI (rowC D cs i) (notD but)) w) := by
  have q1 : i * D + D ≤ H * W * D := by rw [← Nat.succ_mul]; exact Nat.mul_le_mul_right _ hi
  have q2 : H * W * D ≤ 256 * 8 := Nat.mul_le_mul h5 d2
  have hpd : (i : Int) * (D : Int) = ((i * D : Nat) : Int) := by rw [Int.natCast_mul]
  obtain ⟨row, hrow⟩ : ∃ r, r = rowC D cs i := ⟨_, rfl⟩
  have hrl : row.length = D := by rw [hrow]; exact rowC_len _ _ _
  obtain ⟨bb, off, cc, z0, ev, hx1, hx2, hbb, _, _⟩ := hv.cell (k := i * D + 0) (by omega)
  simp only [Value.slice.injEq] at ev
  obtain ⟨rfl, rfl, rfl⟩ := ev
  have hc : Hid (∀ d, d < D → ∃ z, Fl .f32 z (row.getD d 0) ∧ w.cell? ⟨bb, off + (i * D + d), none⟩ = some (.float .f32 z)) := Lib.hid fun d hd => by
    obtain ⟨b', o', c', z, ev, _, _, _, h1, h2⟩ := hv.cell (k := i * D + d) (by omega)
    simp only [Value.slice.injEq, Option.some.injEq, Addr.mk.injEq, and_true, true_and] at ev
    obtain ⟨⟨rfl, rfl⟩, rfl⟩ := ev
    exact ⟨z, by rw [hrow, rowC_get _ _ hd]; exact h1, h2⟩
  rw [← hrow]
  clear hrow hv
  rw [← hl] at q1 q2
  generalize i * D = pd at hpd q1 hc
  obtain ⟨L, hL⟩ : ∃ L, L = cs.length := ⟨_, rfl⟩
  rw [← hL] at q1 q2 hx1 hp
  clear hl hL hi
  obtain ⟨lp, e0, e1, e2, e3⟩ := hp
  have w0 : IntKind.i64.wrap (pd : Int) = (pd : Int) := IntWalk.i64_in _ (by omega)
  unfold maxLen at hx2
  go_enter Try.func86, Try.ntmps86
  go_wp2_with fail
  go_loopw [7, 8] (fun b d wr => ∃ k n : Nat, k ≤ D ∧ d = .int .i64 k ∧ b = .int .i64 (bestTo row (notD but) k) ∧ wr = w.drewN n) (fun _ d _ => D - (intOf d).toNat)
  case atStart => exact ⟨0, 0, Nat.zero_le _, rfl, rfl, rfl⟩
  case round =>
    obtain ⟨k, n, hk, rfl, rfl, hwr⟩ := hrel
    have r2 : wr.cell? ⟨bp, 2, none⟩ = some (.int .i64 D) := by rw [hwr]; exact e2
    have r3 : wr.cell? ⟨bp, 3, none⟩ = some (.slice (some ⟨bb, off, none⟩) L c0) := by rw [hwr]; exact e3
    have hwr' := Lib.hid hwr
    by_cases hlk : k < D
    · obtain ⟨z, hz, hzc0⟩ := hc.out k hlk
      have hzc : wr.cell? ⟨bb, off + (pd + k), none⟩ = some (.float .f32 z) := by rw [hwr]; exact hzc0
      obtain ⟨B0, hB0⟩ : ∃ x, x = bestTo row (notD but) k := ⟨_, rfl⟩
      rw [← hB0]
      have g1 : IntKind.i64.wrap ((pd : Int) + (k : Int)) = (pd : Int) + (k : Int) := IntWalk.i64_in _ (by omega)
      have g2 : (0 : Int) ≤ (pd : Int) + (k : Int) := by omega
      have g3 : (pd : Int) + (k : Int) < (L : Int) := by omega
      have g4 : ((pd : Int) + (k : Int)).toNat = pd + k := by omega
      have hB0' := Lib.hid hB0
      have hzF := Lib.hid hz
      clear hB0 hz hzc0 hwr
      by_cases hkb : (k : Int) = but
      · have hval : Hid (bestTo row (notD but) (k + 1) = B0) := Lib.hid (by rw [hB0'.out]; exact bestTo_same (by unfold validC notD; rw [decide_eq_true hkb]; simp))
        subst hkb
        go_upto_region 5 with fail
        refine wp_region_cls (by kernel_rfl) (by kernel_rfl) (by kernel_rfl) (by kernel_rfl) (fun w' => ∃ n, w' = wr.drewN n) ⟨1, rfl⟩ [Eq1 ?q162u0, Eq1 ?q162u1, Eq1 ?q162u2, Eq1 ?q162u3, Eq1 ?q162u4, Eq1 ?q162u5, Eq1 ?q162u6, Eq1 ?q162u7, Eq1 ?q162u8, Eq1 ?q162u9, Eq1 ?q162u10, Eq1 ?q162u11, Eq1 ?q162u12, Eq1 ?q162u13, Eq1 ?q162u14] ?q162main
        case q162main =>
          (refine wpR_pure ?_ (fun w hw => ?_) ?_; rfl; (obtain ⟨nn, rfl⟩ := hw; go_simp; (try with_reducible rfl)); (try simp only [Act.put, List.setIfInBounds_toArray, List.set_cons_zero, List.set_cons_succ]))
          (refine wpR_pure ?_ (fun w hw => ?_) ?_; rfl; (obtain ⟨nn, rfl⟩ := hw; go_simp; (try with_reducible rfl)); (try simp only [Act.put, List.setIfInBounds_toArray, List.set_cons_zero, List.set_cons_succ]))
          (refine wpR_pure ?_ (fun w hw => ?_) ?_; rfl; (obtain ⟨nn, rfl⟩ := hw; go_simp; (try with_reducible rfl)); (try simp only [Act.put, List.setIfInBounds_toArray, List.set_cons_zero, List.set_cons_succ]))
          (refine wpR_pure ?_ (fun w hw => ?_) ?_; rfl; (obtain ⟨nn, rfl⟩ := hw; go_simp; (try with_reducible rfl)); (try simp only [Act.put, List.setIfInBounds_toArray, List.set_cons_zero, List.set_cons_succ]))
          (refine wpR_pure ?_ (fun w hw => ?_) ?_; rfl; (obtain ⟨nn, rfl⟩ := hw; go_simp; (try with_reducible rfl)); (try simp only [Act.put, List.setIfInBounds_toArray, List.set_cons_zero, List.set_cons_succ]))
          (refine wpR_pure ?_ (fun w hw => ?_) ?_; rfl; (obtain ⟨nn, rfl⟩ := hw; go_simp; (try with_reducible rfl)); (try simp only [Act.put, List.setIfInBounds_toArray, List.set_cons_zero, List.set_cons_succ]))
          (refine wpR_pure ?_ (fun w hw => ?_) ?_; rfl; (obtain ⟨nn, rfl⟩ := hw; go_simp; (try with_reducible rfl)); (try simp only [Act.put, List.setIfInBounds_toArray, List.set_cons_zero, List.set_cons_succ]))
          (refine wpR_pure ?_ (fun w hw => ?_) ?_; rfl; (obtain ⟨nn, rfl⟩ := hw; go_simp; (try with_reducible rfl)); (try simp only [Act.put, List.setIfInBounds_toArray, List.set_cons_zero, List.set_cons_succ]))
          (refine wpR_pure ?_ (fun w hw => ?_) ?_; rfl; (obtain ⟨nn, rfl⟩ := hw; go_simp; (try with_reducible rfl)); (try simp only [Act.put, List.setIfInBounds_toArray, List.set_cons_zero, List.set_cons_succ]))
          (refine wpR_pure ?_ (fun w hw => ?_) ?_; rfl; (obtain ⟨nn, rfl⟩ := hw; go_simp; (try with_reducible rfl)); (try simp only [Act.put, List.setIfInBounds_toArray, List.set_cons_zero, List.set_cons_succ]))
          (refine wpR_pure ?_ (fun w hw => ?_) ?_; rfl; (obtain ⟨nn, rfl⟩ := hw; go_simp; (try with_reducible rfl)); (try simp only [Act.put, List.setIfInBounds_toArray, List.set_cons_zero, List.set_cons_succ]))
          (refine wpR_pure ?_ (fun w hw => ?_) ?_; rfl; (obtain ⟨nn, rfl⟩ := hw; go_simp; (try with_reducible rfl)); (try simp only [Act.put, List.setIfInBounds_toArray, List.set_cons_zero, List.set_cons_succ]))
          (refine wpR_pure ?_ (fun w hw => ?_) ?_; rfl; (obtain ⟨nn, rfl⟩ := hw; go_simp; (try with_reducible rfl)); (try simp only [Act.put, List.setIfInBounds_toArray, List.set_cons_zero, List.set_cons_succ]))
          (refine wpR_pure ?_ (fun w hw => ?_) ?_; rfl; (obtain ⟨nn, rfl⟩ := hw; go_simp; (try with_reducible rfl)); (try simp only [Act.put, List.setIfInBounds_toArray, List.set_cons_zero, List.set_cons_succ]))
          (refine wpR_pure ?_ (fun w hw => ?_) ?_; rfl; (obtain ⟨nn, rfl⟩ := hw; go_simp; (try with_reducible rfl)); (try simp only [Act.put, List.setIfInBounds_toArray, List.set_cons_zero, List.set_cons_succ]))
          refine wpR_nil ?_
          rintro w' ⟨nn, rfl⟩
          go_wp2_with fail
          go_roundw
          case rel => exact ⟨k + 1, _, by omega, by go_num, by rw [hval.out], by rw [hwr'.out]; first | rfl | (simp only [World.drewN_drewN]; rfl)⟩
          case measure => simp [intOf]; omega
      · have t0 : ((k : Int) == but) = false := by simpa using hkb
        cases hn : isN .f32 z with
        | true =>
          have hval : Hid (bestTo row (notD but) (k + 1) = B0) := Lib.hid (by rw [hB0'.out]; exact bestTo_same (by unfold validC; rw [← hzF.out.eq, isN_cn, hn]; rfl))
          go_upto_region 5 with fail
          refine wp_region_cls (by kernel_rfl) (by kernel_rfl) (by kernel_rfl) (by kernel_rfl) (fun w' => ∃ n, w' = wr.drewN n) ⟨1, rfl⟩ [Eq1 ?q4590u0, Eq1 ?q4590u1, Eq1 ?q4590u2, Eq1 ?q4590u3, Eq1 ?q4590u4, Eq1 ?q4590u5, Eq1 ?q4590u6, Eq1 ?q4590u7, Eq1 ?q4590u8, Eq1 ?q4590u9, Eq1 ?q4590u10, Eq1 ?q4590u11, Eq1 ?q4590u12, Eq1 ?q4590u13, Eq1 ?q4590u14] ?q4590main
          case q4590main =>
            (refine wpR_pure ?_ (fun w hw => ?_) ?_; rfl; (obtain ⟨nn, rfl⟩ := hw; go_simp; (try with_reducible rfl)); (try simp only [Act.put, List.setIfInBounds_toArray, List.set_cons_zero, List.set_cons_succ]))
            (refine wpR_pure ?_ (fun w hw => ?_) ?_; rfl; (obtain ⟨nn, rfl⟩ := hw; go_simp; (try with_reducible rfl)); (try simp only [Act.put, List.setIfInBounds_toArray, List.set_cons_zero, List.set_cons_succ]))
            (refine wpR_pure ?_ (fun w hw => ?_) ?_; rfl; (obtain ⟨nn, rfl⟩ := hw; go_simp; (try with_reducible rfl)); (try simp only [Act.put, List.setIfInBounds_toArray, List.set_cons_zero, List.set_cons_succ]))
            (refine wpR_pure ?_ (fun w hw => ?_) ?_; rfl; (obtain ⟨nn, rfl⟩ := hw; go_simp; (try with_reducible rfl)); (try simp only [Act.put, List.setIfInBounds_toArray, List.set_cons_zero, List.set_cons_succ]))
            (refine wpR_pure ?_ (fun w hw => ?_) ?_; rfl; (obtain ⟨nn, rfl⟩ := hw; go_simp; (try with_reducible rfl)); (try simp only [Act.put, List.setIfInBounds_toArray, List.set_cons_zero, List.set_cons_succ]))
            (refine wpR_pure ?_ (fun w hw => ?_) ?_; rfl; (obtain ⟨nn, rfl⟩ := hw; go_simp; (try with_reducible rfl)); (try simp only [Act.put, List.setIfInBounds_toArray, List.set_cons_zero, List.set_cons_succ]))
            (refine wpR_pure ?_ (fun w hw => ?_) ?_; rfl; (obtain ⟨nn, rfl⟩ := hw; go_simp; (try with_reducible rfl)); (try simp only [Act.put, List.setIfInBounds_toArray, List.set_cons_zero, List.set_cons_succ]))
            (refine wpR_pure ?_ (fun w hw => ?_) ?_; rfl; (obtain ⟨nn, rfl⟩ := hw; go_simp; (try with_reducible rfl)); (try simp only [Act.put, List.setIfInBounds_toArray, List.set_cons_zero, List.set_cons_succ]))
            (refine wpR_pure ?_ (fun w hw => ?_) ?_; rfl; (obtain ⟨nn, rfl⟩ := hw; go_simp; (try with_reducible rfl)); (try simp only [Act.put, List.setIfInBounds_toArray, List.set_cons_zero, List.set_cons_succ]))
            (refine wpR_pure ?_ (fun w hw => ?_) ?_; rfl; (obtain ⟨nn, rfl⟩ := hw; go_simp; (try with_reducible rfl)); (try simp only [Act.put, List.setIfInBounds_toArray, List.set_cons_zero, List.set_cons_succ]))
            (refine wpR_pure ?_ (fun w hw => ?_) ?_; rfl; (obtain ⟨nn, rfl⟩ := hw; go_simp; (try with_reducible rfl)); (try simp only [Act.put, List.setIfInBounds_toArray, List.set_cons_zero, List.set_cons_succ]))
            (refine wpR_pure ?_ (fun w hw => ?_) ?_; rfl; (obtain ⟨nn, rfl⟩ := hw; go_simp; (try with_reducible rfl)); (try simp only [Act.put, List.setIfInBounds_toArray, List.set_cons_zero, List.set_cons_succ]))
            (refine wpR_pure ?_ (fun w hw => ?_) ?_; rfl; (obtain ⟨nn, rfl⟩ := hw; go_simp; (try with_reducible rfl)); (try simp only [Act.put, List.setIfInBounds_toArray, List.set_cons_zero, List.set_cons_succ]))
            (refine wpR_pure ?_ (fun w hw => ?_) ?_; rfl; (obtain ⟨nn, rfl⟩ := hw; go_simp; (try with_reducible rfl)); (try simp only [Act.put, List.setIfInBounds_toArray, List.set_cons_zero, List.set_cons_succ]))
            (refine wpR_pure ?_ (fun w hw => ?_) ?_; rfl; (obtain ⟨nn, rfl⟩ := hw; go_simp; (try with_reducible rfl)); (try simp only [Act.put, List.setIfInBounds_toArray, List.set_cons_zero, List.set_cons_succ]))
            refine wpR_nil ?_
            rintro w' ⟨nn, rfl⟩
            go_wp2_with fail
            go_roundw
            case rel => exact ⟨k + 1, _, by omega, by go_num, by rw [hval.out], by rw [hwr'.out]; first | rfl | (simp only [World.drewN_drewN]; rfl)⟩
            case measure => simp [intOf]; omega
        | false =>
          have hvd : Hid (validC row (notD but) k = true) := Lib.hid (by unfold validC notD; rw [← hzF.out.eq, isN_cn, hn, decide_eq_false hkb]; rfl)
          rcases bestTo_inv row (notD but) k with ⟨hb, _⟩ | ⟨b, hb, hbk, hbv, _⟩
          · obtain rfl : B0 = -1 := hB0'.out.trans hb
            have hval := Lib.hid (bestTo_first hvd.out hb)
            clear hb
            go_upto_region 5 with fail
            refine wp_region_cls (by kernel_rfl) (by kernel_rfl) (by kernel_rfl) (by kernel_rfl) (fun w' => ∃ n, w' = wr.drewN n) ⟨1, rfl⟩ [Eq1 ?q5460u0, Eq1 ?q5460u1, Eq1 ?q5460u2, Eq1 ?q5460u3, Eq1 ?q5460u4, Eq1 ?q5460u5, Eq1 ?q5460u6, Eq1 ?q5460u7, Eq1 ?q5460u8, Eq1 ?q5460u9, Eq1 ?q5460u10, Eq1 ?q5460u11, Eq1 ?q5460u12, Eq1 ?q5460u13, Eq1 ?q5460u14] ?q5460main
            case q5460main =>
              (refine wpR_pure ?_ (fun w hw => ?_) ?_; rfl; (obtain ⟨nn, rfl⟩ := hw; go_simp; (try with_reducible rfl)); (try simp only [Act.put, List.setIfInBounds_toArray, List.set_cons_zero, List.set_cons_succ]))
              (refine wpR_pure ?_ (fun w hw => ?_) ?_; rfl; (obtain ⟨nn, rfl⟩ := hw; go_simp; (try with_reducible rfl)); (try simp only [Act.put, List.setIfInBounds_toArray, List.set_cons_zero, List.set_cons_succ]))
              (refine wpR_pure ?_ (fun w hw => ?_) ?_; rfl; (obtain ⟨nn, rfl⟩ := hw; go_simp; (try with_reducible rfl)); (try simp only [Act.put, List.setIfInBounds_toArray, List.set_cons_zero, List.set_cons_succ]))
              (refine wpR_pure ?_ (fun w hw => ?_) ?_; rfl; (obtain ⟨nn, rfl⟩ := hw; go_simp; (try with_reducible rfl)); (try simp only [Act.put, List.setIfInBounds_toArray, List.set_cons_zero, List.set_cons_succ]))
              (refine wpR_pure ?_ (fun w hw => ?_) ?_; rfl; (obtain ⟨nn, rfl⟩ := hw; go_simp; (try with_reducible rfl)); (try simp only [Act.put, List.setIfInBounds_toArray, List.set_cons_zero, List.set_cons_succ]))
              (refine wpR_pure ?_ (fun w hw => ?_) ?_; rfl; (obtain ⟨nn, rfl⟩ := hw; go_simp; (try with_reducible rfl)); (try simp only [Act.put, List.setIfInBounds_toArray, List.set_cons_zero, List.set_cons_succ]))
              (refine wpR_pure ?_ (fun w hw => ?_) ?_; rfl; (obtain ⟨nn, rfl⟩ := hw; go_simp; (try with_reducible rfl)); (try simp only [Act.put, List.setIfInBounds_toArray, List.set_cons_zero, List.set_cons_succ]))
              (refine wpR_pure ?_ (fun w hw => ?_) ?_; rfl; (obtain ⟨nn, rfl⟩ := hw; go_simp; (try with_reducible rfl)); (try simp only [Act.put, List.setIfInBounds_toArray, List.set_cons_zero, List.set_cons_succ]))
              (refine wpR_pure ?_ (fun w hw => ?_) ?_; rfl; (obtain ⟨nn, rfl⟩ := hw; go_simp; (try with_reducible rfl)); (try simp only [Act.put, List.setIfInBounds_toArray, List.set_cons_zero, List.set_cons_succ]))
              (refine wpR_pure ?_ (fun w hw => ?_) ?_; rfl; (obtain ⟨nn, rfl⟩ := hw; go_simp; (try with_reducible rfl)); (try simp only [Act.put, List.setIfInBounds_toArray, List.set_cons_zero, List.set_cons_succ]))
              (refine wpR_pure ?_ (fun w hw => ?_) ?_; rfl; (obtain ⟨nn, rfl⟩ := hw; go_simp; (try with_reducible rfl)); (try simp only [Act.put, List.setIfInBounds_toArray, List.set_cons_zero, List.set_cons_succ]))
              (refine wpR_pure ?_ (fun w hw => ?_) ?_; rfl; (obtain ⟨nn, rfl⟩ := hw; go_simp; (try with_reducible rfl)); (try simp only [Act.put, List.setIfInBounds_toArray, List.set_cons_zero, List.set_cons_succ]))
              (refine wpR_pure ?_ (fun w hw => ?_) ?_; rfl; (obtain ⟨nn, rfl⟩ := hw; go_simp; (try with_reducible rfl)); (try simp only [Act.put, List.setIfInBounds_toArray, List.set_cons_zero, List.set_cons_succ]))
              (refine wpR_pure ?_ (fun w hw => ?_) ?_; rfl; (obtain ⟨nn, rfl⟩ := hw; go_simp; (try with_reducible rfl)); (try simp only [Act.put, List.setIfInBounds_toArray, List.set_cons_zero, List.set_cons_succ]))
              (refine wpR_pure ?_ (fun w hw => ?_) ?_; rfl; (obtain ⟨nn, rfl⟩ := hw; go_simp; (try with_reducible rfl)); (try simp only [Act.put, List.setIfInBounds_toArray, List.set_cons_zero, List.set_cons_succ]))
              refine wpR_nil ?_
              rintro w' ⟨nn, rfl⟩
              go_upto_region 7 with fail
              go_quiet (fail)
              go_wp2_with fail
              go_roundw
              case rel => exact ⟨k + 1, _, by omega, by go_num, by rw [hval.out], by rw [hwr'.out]; first | rfl | (simp only [World.drewN_drewN]; rfl)⟩
              case measure => simp [intOf]; omega
          · obtain rfl : B0 = (b : Int) := hB0'.out.trans hb
            obtain ⟨z2, hz2, hzc3⟩ := hc.out b (by omega)
            have hzc2 : wr.cell? ⟨bb, off + (pd + b), none⟩ = some (.float .f32 z2) := by rw [hwr'.out]; exact hzc3
            have f1 : IntKind.i64.wrap ((pd : Int) + (b : Int)) = (pd : Int) + (b : Int) := IntWalk.i64_in _ (by omega)
            have f2 : (0 : Int) ≤ (pd : Int) + (b : Int) := by omega
            have f3 : (pd : Int) + (b : Int) < (L : Int) := by omega
            have f4 : ((pd : Int) + (b : Int)).toNat = pd + b := by omega
            have f5 : ¬ (b : Int) < 0 := by omega
            have hls := Lib.hid (cLess_fl hzF.out hz2)
            clear hz2
            cases tl : (FloatKind.f32.format.order z z2 == some Ordering.lt) with
            | true =>
              have hval := Lib.hid (bestTo_less hvd.out hb (hls.out.symm.trans tl))
              clear hb
              go_upto_region 5 with fail
              refine wp_region_cls (by kernel_rfl) (by kernel_rfl) (by kernel_rfl) (by kernel_rfl) (fun w' => ∃ n, w' = wr.drewN n) ⟨1, rfl⟩ [Eq1 ?q8495u0, Eq1 ?q8495u1, Eq1 ?q8495u2, Eq1 ?q8495u3, Eq1 ?q8495u4, Eq1 ?q8495u5, Eq1 ?q8495u6, Eq1 ?q8495u7, Eq1 ?q8495u8, Eq1 ?q8495u9, Eq1 ?q8495u10, Eq1 ?q8495u11, Eq1 ?q8495u12, Eq1 ?q8495u13, Eq1 ?q8495u14] ?q8495main
              case q8495main =>
                (refine wpR_pure ?_ (fun w hw => ?_) ?_; rfl; (obtain ⟨nn, rfl⟩ := hw; go_simp; (try with_reducible rfl)); (try simp only [Act.put, List.setIfInBounds_toArray, List.set_cons_zero, List.set_cons_succ]))
                (refine wpR_pure ?_ (fun w hw => ?_) ?_; rfl; (obtain ⟨nn, rfl⟩ := hw; go_simp; (try with_reducible rfl)); (try simp only [Act.put, List.setIfInBounds_toArray, List.set_cons_zero, List.set_cons_succ]))
                (refine wpR_pure ?_ (fun w hw => ?_) ?_; rfl; (obtain ⟨nn, rfl⟩ := hw; go_simp; (try with_reducible rfl)); (try simp only [Act.put, List.setIfInBounds_toArray, List.set_cons_zero, List.set_cons_succ]))
                (refine wpR_pure ?_ (fun w hw => ?_) ?_; rfl; (obtain ⟨nn, rfl⟩ := hw; go_simp; (try with_reducible rfl)); (try simp only [Act.put, List.setIfInBounds_toArray, List.set_cons_zero, List.set_cons_succ]))
                (refine wpR_pure ?_ (fun w hw => ?_) ?_; rfl; (obtain ⟨nn, rfl⟩ := hw; go_simp; (try with_reducible rfl)); (try simp only [Act.put, List.setIfInBounds_toArray, List.set_cons_zero, List.set_cons_succ]))
                (refine wpR_pure ?_ (fun w hw => ?_) ?_; rfl; (obtain ⟨nn, rfl⟩ := hw; go_simp; (try with_reducible rfl)); (try simp only [Act.put, List.setIfInBounds_toArray, List.set_cons_zero, List.set_cons_succ]))
                (refine wpR_pure ?_ (fun w hw => ?_) ?_; rfl; (obtain ⟨nn, rfl⟩ := hw; go_simp; (try with_reducible rfl)); (try simp only [Act.put, List.setIfInBounds_toArray, List.set_cons_zero, List.set_cons_succ]))
                (refine wpR_pure ?_ (fun w hw => ?_) ?_; rfl; (obtain ⟨nn, rfl⟩ := hw; go_simp; (try with_reducible rfl)); (try simp only [Act.put, List.setIfInBounds_toArray, List.set_cons_zero, List.set_cons_succ]))
                (refine wpR_pure ?_ (fun w hw => ?_) ?_; rfl; (obtain ⟨nn, rfl⟩ := hw; go_simp; (try with_reducible rfl)); (try simp only [Act.put, List.setIfInBounds_toArray, List.set_cons_zero, List.set_cons_succ]))
                (refine wpR_pure ?_ (fun w hw => ?_) ?_; rfl; (obtain ⟨nn, rfl⟩ := hw; go_simp; (try with_reducible rfl)); (try simp only [Act.put, List.setIfInBounds_toArray, List.set_cons_zero, List.set_cons_succ]))
                (refine wpR_pure ?_ (fun w hw => ?_) ?_; rfl; (obtain ⟨nn, rfl⟩ := hw; go_simp; (try with_reducible rfl)); (try simp only [Act.put, List.setIfInBounds_toArray, List.set_cons_zero, List.set_cons_succ]))
                (refine wpR_pure ?_ (fun w hw => ?_) ?_; rfl; (obtain ⟨nn, rfl⟩ := hw; go_simp; (try with_reducible rfl)); (try simp only [Act.put, List.setIfInBounds_toArray, List.set_cons_zero, List.set_cons_succ]))
                (refine wpR_pure ?_ (fun w hw => ?_) ?_; rfl; (obtain ⟨nn, rfl⟩ := hw; go_simp; (try with_reducible rfl)); (try simp only [Act.put, List.setIfInBounds_toArray, List.set_cons_zero, List.set_cons_succ]))
                (refine wpR_pure ?_ (fun w hw => ?_) ?_; rfl; (obtain ⟨nn, rfl⟩ := hw; go_simp; (try with_reducible rfl)); (try simp only [Act.put, List.setIfInBounds_toArray, List.set_cons_zero, List.set_cons_succ]))
                (refine wpR_pure ?_ (fun w hw => ?_) ?_; rfl; (obtain ⟨nn, rfl⟩ := hw; go_simp; (try with_reducible rfl)); (try simp only [Act.put, List.setIfInBounds_toArray, List.set_cons_zero, List.set_cons_succ]))
                refine wpR_nil ?_
                rintro w' ⟨nn, rfl⟩
                go_upto_region 7 with fail
                go_quiet (fail)
                go_wp2_with fail
                go_roundw
                case rel => exact ⟨k + 1, _, by omega, by go_num, by rw [hval.out], by rw [hwr'.out]; first | rfl | (simp only [World.drewN_drewN]; rfl)⟩
                case measure => simp [intOf]; omega
            | false =>
              have hval := Lib.hid (bestTo_keep hb (hls.out.symm.trans tl))
              clear hb
              go_upto_region 5 with fail
              refine wp_region_cls (by kernel_rfl) (by kernel_rfl) (by kernel_rfl) (by kernel_rfl) (fun w' => ∃ n, w' = wr.drewN n) ⟨1, rfl⟩ [Eq1 ?q1696u0, Eq1 ?q1696u1, Eq1 ?q1696u2, Eq1 ?q1696u3, Eq1 ?q1696u4, Eq1 ?q1696u5, Eq1 ?q1696u6, Eq1 ?q1696u7, Eq1 ?q1696u8, Eq1 ?q1696u9, Eq1 ?q1696u10, Eq1 ?q1696u11, Eq1 ?q1696u12, Eq1 ?q1696u13, Eq1 ?q1696u14] ?q1696main
              case q1696main =>
                (refine wpR_pure ?_ (fun w hw => ?_) ?_; rfl; (obtain ⟨nn, rfl⟩ := hw; go_simp; (try with_reducible rfl)); (try simp only [Act.put, List.setIfInBounds_toArray, List.set_cons_zero, List.set_cons_succ]))
                (refine wpR_pure ?_ (fun w hw => ?_) ?_; rfl; (obtain ⟨nn, rfl⟩ := hw; go_simp; (try with_reducible rfl)); (try simp only [Act.put, List.setIfInBounds_toArray, List.set_cons_zero, List.set_cons_succ]))
                (refine wpR_pure ?_ (fun w hw => ?_) ?_; rfl; (obtain ⟨nn, rfl⟩ := hw; go_simp; (try with_reducible rfl)); (try simp only [Act.put, List.setIfInBounds_toArray, List.set_cons_zero, List.set_cons_succ]))
                (refine wpR_pure ?_ (fun w hw => ?_) ?_; rfl; (obtain ⟨nn, rfl⟩ := hw; go_simp; (try with_reducible rfl)); (try simp only [Act.put, List.setIfInBounds_toArray, List.set_cons_zero, List.set_cons_succ]))
                (refine wpR_pure ?_ (fun w hw => ?_) ?_; rfl; (obtain ⟨nn, rfl⟩ := hw; go_simp; (try with_reducible rfl)); (try simp only [Act.put, List.setIfInBounds_toArray, List.set_cons_zero, List.set_cons_succ]))
                (refine wpR_pure ?_ (fun w hw => ?_) ?_; rfl; (obtain ⟨nn, rfl⟩ := hw; go_simp; (try with_reducible rfl)); (try simp only [Act.put, List.setIfInBounds_toArray, List.set_cons_zero, List.set_cons_succ]))
                (refine wpR_pure ?_ (fun w hw => ?_) ?_; rfl; (obtain ⟨nn, rfl⟩ := hw; go_simp; (try with_reducible rfl)); (try simp only [Act.put, List.setIfInBounds_toArray, List.set_cons_zero, List.set_cons_succ]))
                (refine wpR_pure ?_ (fun w hw => ?_) ?_; rfl; (obtain ⟨nn, rfl⟩ := hw; go_simp; (try with_reducible rfl)); (try simp only [Act.put, List.setIfInBounds_toArray, List.set_cons_zero, List.set_cons_succ]))
                (refine wpR_pure ?_ (fun w hw => ?_) ?_; rfl; (obtain ⟨nn, rfl⟩ := hw; go_simp; (try with_reducible rfl)); (try simp only [Act.put, List.setIfInBounds_toArray, List.set_cons_zero, List.set_cons_succ]))
                (refine wpR_pure ?_ (fun w hw => ?_) ?_; rfl; (obtain ⟨nn, rfl⟩ := hw; go_simp; (try with_reducible rfl)); (try simp only [Act.put, List.setIfInBounds_toArray, List.set_cons_zero, List.set_cons_succ]))
                (refine wpR_pure ?_ (fun w hw => ?_) ?_; rfl; (obtain ⟨nn, rfl⟩ := hw; go_simp; (try with_reducible rfl)); (try simp only [Act.put, List.setIfInBounds_toArray, List.set_cons_zero, List.set_cons_succ]))
                (refine wpR_pure ?_ (fun w hw => ?_) ?_; rfl; (obtain ⟨nn, rfl⟩ := hw; go_simp; (try with_reducible rfl)); (try simp only [Act.put, List.setIfInBounds_toArray, List.set_cons_zero, List.set_cons_succ]))
                (refine wpR_pure ?_ (fun w hw => ?_) ?_; rfl; (obtain ⟨nn, rfl⟩ := hw; go_simp; (try with_reducible rfl)); (try simp only [Act.put, List.setIfInBounds_toArray, List.set_cons_zero, List.set_cons_succ]))
                (refine wpR_pure ?_ (fun w hw => ?_) ?_; rfl; (obtain ⟨nn, rfl⟩ := hw; go_simp; (try with_reducible rfl)); (try simp only [Act.put, List.setIfInBounds_toArray, List.set_cons_zero, List.set_cons_succ]))
                (refine wpR_pure ?_ (fun w hw => ?_) ?_; rfl; (obtain ⟨nn, rfl⟩ := hw; go_simp; (try with_reducible rfl)); (try simp only [Act.put, List.setIfInBounds_toArray, List.set_cons_zero, List.set_cons_succ]))
                refine wpR_nil ?_
                rintro w' ⟨nn, rfl⟩
                go_upto_region 7 with fail
                go_quiet (fail)
                go_wp2_with fail
                go_roundw
                case rel => exact ⟨k + 1, _, by omega, by go_num, by rw [hval.out], by rw [hwr'.out]; first | rfl | (simp only [World.drewN_drewN]; rfl)⟩
                case measure => simp [intOf]; omega
    · obtain rfl : k = D := by omega
      go_wp2_with fail
      go_ret
      exact ⟨n, by unfold winI; rw [hrl]; rfl, by first | rfl | exact hwr'.out⟩
theorem costRow_any (W H D : Nat) (a : Option Addr) (n c : Nat) (cs : List Nat) (cell : Nat) (ci : Int) (hci : ci = cell) (w : World) (hv : FC w (.slice a n c) cs) (hc : cell < H * W) (h5 : H * W ≤ 256) (d1 : 1 ≤ D) (d2 : D ≤ 8) (hl : cs.length = H * W * D) :
    Calls Try.prog 100 #[.agg #[.int .i64 W, .int .i64 H, .int .i64 D, .slice a n c], .int .i64 ci] w (fun e w' => ∃ v, e = .returned v ∧ Below w.heap.size w w' ∧ FC w' v (rowC D cs cell)) := by
  have q1 : cell * D + D ≤ H * W * D := by rw [← Nat.succ_mul]; exact Nat.mul_le_mul_right _ hc
  obtain ⟨b, off, cc, z0, ev, hx1, hx2, _, _, _⟩ := hv.cell (k := cell * D + 0) (by omega)
  simp only [Value.slice.injEq] at ev
  obtain ⟨rfl, rfl, rfl⟩ := ev
  rw [hl] at hx1 hv ⊢
  refine (costsOf_any W H D b off c cell ci hci w hc h5 d1 d2 hx1 hx2).mono ?_
  rintro e w' ⟨rfl, hb⟩
  exact ⟨_, rfl, hb, (hv.below hb).part d1 (by omega)⟩
end Go.Proofs.Ytbiobmdibiplfaa
