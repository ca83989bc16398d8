import Derived.Test.YtmgdofengamcmaaRc
import Derived.Test.YtmgdofengamcmaaRp
import Derived.Test.YtmgdofengamcmaaVt
import Derived.Deep.AppendLies
import Derived.OwnWalk
import Derived.IntWalk
set_option linter.unusedVariables false
set_option linter.unusedSimpArgs false
namespace Go.FX
open Go Go.RowKit
/-- The one operation that is ready, in the world at hand; others follow. -/
theorem wpAny_one {P : Program} {md : Region.Mode} {ops : Array Oper} {Q : Exit → Act → World → Prop} {listed : Array Bool} {a : Act} {w : World} {f : Nat} (i : Nat) (o : Oper) (hr : Region.ready md ops listed = [i]) (ho : ops[i]? = some o) (hg : o.guard = none)
    (h : ∀ K : Act → World → Prop, (∀ a w, wpAny P md ops Q f (listed.setIfInBounds i true) a w → K a w) → Oper.wp P o a w K Q) : wpAny P md ops Q (f + 1) listed a w := by
  refine ⟨fun h0 => (by rw [hr] at h0; cases h0), fun j hj => ?_⟩
  rw [hr] at hj
  obtain rfl := List.mem_singleton.1 hj
  unfold wpOp
  simp only [ho]
  rw [if_pos (by simp [Region.wanted, hg])]
  exact .inl (h _ fun a w hq => hq)

/-! The least one of numbers. -/
def minF (m x : Nat) : Nat := if FloatKind.f32.format.order x m == some Ordering.lt then x else m
def leastTo (cs : List Nat) : Nat → Nat
  | 0 => cs.getD 0 0
  | k + 1 => minF (leastTo cs k) (cs.getD k 0)
def leastL (cs : List Nat) : Nat := leastTo cs cs.length
theorem minF_self (m : Nat) : minF m m = m := by unfold minF; split <;> rfl
theorem leastTo_one (cs : List Nat) : leastTo cs 1 = cs.getD 0 0 := minF_self _
theorem least2 (a b : Nat) : leastL [a, b] = minF a b := by
  show minF (minF a a) b = _
  rw [minF_self]
theorem leastTo_append (cs ds : List Nat) (h : 0 < cs.length) : ∀ k, k ≤ cs.length → leastTo (cs ++ ds) k = leastTo cs k
  | 0, _ => by simp [leastTo, List.getD, List.getElem?_append_left h]
  | k + 1, hk => by
    unfold leastTo
    rw [leastTo_append cs ds h k (by omega)]
    congr 1
    simp [List.getD, List.getElem?_append_left (show k < cs.length by omega)]
theorem leastL_push (cs : List Nat) (d : Nat) (h : 0 < cs.length) : leastL (cs ++ [d]) = minF (leastL cs) d := by
  unfold leastL
  rw [List.length_append, List.length_singleton]
  show minF (leastTo (cs ++ [d]) cs.length) ((cs ++ [d]).getD cs.length 0) = _
  rw [leastTo_append cs [d] h _ (Nat.le_refl _)]
  congr 1
  simp [List.getD]
theorem leastL_one (a : Nat) : leastL [a] = a := minF_self _
/-- A float by its order with another one. -/
theorem Fl.minF {r m c cm : Nat} (hr : Fl .f32 r c) (hm : Fl .f32 m cm) : Fl .f32 (if FloatKind.f32.format.order r m == some Ordering.lt then r else m) (minF cm c) := by
  unfold FX.minF
  rw [← hr.order hm]
  split
  · exact hr
  · exact hm
end Go.FX
namespace Go.Proofs.Ytmgdofengamcmaa
open Go.FX Go.RowKit Go.WideShapes Go.ChangeShapes

set_option maxHeartbeats 1000000 in
theorem least_any (v : Value) (cs : List Nat) (w : World) (hv : FC w v cs) (h0 : 0 < cs.length) (hmx : cs.length ≤ 1048576) :
    Calls Try.prog 102 #[v] w (RF .f32 (leastL cs) w) := by
  obtain ⟨zs, ⟨hz, a', cap', rfl, k1, k2, k3⟩, rfl⟩ := hv
  rw [List.length_map] at h0 hmx
  rcases k3 with k3 | ⟨b, off, rfl, hb, hc⟩
  · subst k3; simp at h0
  · have hl : (zs.map (cn .f32)).length = zs.length := List.length_map ..
    have hF : ∀ k, k < zs.length → Fl .f32 (zs.getD k 0) ((zs.map (cn .f32)).getD k 0) := fun k hk => by
      rw [getD_map zs k hk]
      exact Fl.of (hz _ (by simp [List.getD, hk]))
    unfold leastL
    rw [hl]
    generalize hcs : zs.map (cn .f32) = cs at hF
    have hc' := Lib.hid hc
    have hF' := Lib.hid hF
    obtain ⟨z0, hz0⟩ : ∃ z, z = zs.getD 0 0 := ⟨_, rfl⟩
    have hc0 : w.cell? ⟨b, off, none⟩ = some (.float .f32 z0) := by have := hc 0 h0; rw [Nat.add_zero] at this; rw [hz0]; exact this
    have hf0 : Hid (Fl .f32 z0 (leastTo cs 0)) := Lib.hid (by rw [hz0]; exact hF 0 h0)
    clear hcs hl hF hz0 hz hc
    go_enter Try.func102, Try.ntmps102
    go_wp2_with fail
    go_loopw [3, 11] (fun s i wr => ∃ k r : Nat, k ≤ zs.length ∧ i = .int .i64 k ∧ s = .float .f32 r ∧ Hid (Fl .f32 r (leastTo cs k)) ∧ wr = w) (fun _ i _ => zs.length - (intOf i).toNat)
    case atStart => exact ⟨0, z0, Nat.zero_le _, rfl, rfl, hf0, rfl⟩
    case round =>
      clear hf0
      obtain ⟨k, r, hk, rfl, rfl, hr, rfl⟩ := hrel
      by_cases hlk : k < zs.length
      · obtain ⟨z, ez⟩ : ∃ z, z = zs.getD k 0 := ⟨_, rfl⟩
        have hck : wr.cell? ⟨b, off + k, none⟩ = some (.float .f32 z) := by rw [ez]; exact hc'.out k hlk
        have hfz : Hid (Fl .f32 z (cs.getD k 0)) := Lib.hid (by rw [ez]; exact hF'.out k hlk)
        have hmm := Lib.hid (Fl.minF hfz.out hr.out)
        clear ez
        cases tt : (FloatKind.f32.format.order z r == some Ordering.lt)
        · go_wp2_with fail
          go_roundw
          case rel => exact ⟨k + 1, r, by omega, by go_num, rfl, Lib.hid (by have h := hmm.out; rw [tt] at h; exact h), by first | rfl | trivial⟩
          case measure => simp [intOf]; omega
        · go_wp2_with fail
          go_roundw
          case rel => exact ⟨k + 1, z, by omega, by go_num, rfl, Lib.hid (by have h := hmm.out; rw [tt] at h; exact h), by first | rfl | trivial⟩
          case measure => simp [intOf]; omega
      · obtain rfl : k = zs.length := by omega
        go_wp2_with fail
        go_ret
        exact ⟨r, 0, rfl, rfl, hr.out⟩
set_option maxHeartbeats 1000000 in
theorem specLeast_any (v : Value) (cs : List Nat) (w : World) (hv : FC w v cs) (h0 : 0 < cs.length) (hmx : cs.length ≤ 1048576) :
    Calls Try.prog 101 #[v] w (RF .f32 (leastL cs) w) := by
  obtain ⟨zs, ⟨hz, a', cap', rfl, k1, k2, k3⟩, rfl⟩ := hv
  rw [List.length_map] at h0 hmx
  rcases k3 with k3 | ⟨b, off, rfl, hb, hc⟩
  · subst k3; simp at h0
  · have hl : (zs.map (cn .f32)).length = zs.length := List.length_map ..
    have hF : ∀ k, k < zs.length → Fl .f32 (zs.getD k 0) ((zs.map (cn .f32)).getD k 0) := fun k hk => by
      rw [getD_map zs k hk]
      exact Fl.of (hz _ (by simp [List.getD, hk]))
    unfold leastL
    rw [hl]
    generalize hcs : zs.map (cn .f32) = cs at hF
    have hc' := Lib.hid hc
    have hF' := Lib.hid hF
    obtain ⟨z0, hz0⟩ : ∃ z, z = zs.getD 0 0 := ⟨_, rfl⟩
    have hc0 : w.cell? ⟨b, off, none⟩ = some (.float .f32 z0) := by have := hc 0 h0; rw [Nat.add_zero] at this; rw [hz0]; exact this
    have hf0 : Hid (Fl .f32 z0 (leastTo cs 1)) := Lib.hid (by rw [hz0, leastTo_one]; exact hF 0 h0)
    clear hcs hl hF hz0 hz hc
    go_enter Try.func101, Try.ntmps101
    go_wp2_with fail
    go_loopw [3, 4] (fun s i wr => ∃ k r : Nat, k ≤ zs.length ∧ i = .int .i64 k ∧ s = .float .f32 r ∧ Hid (Fl .f32 r (leastTo cs k)) ∧ wr = w) (fun _ i _ => zs.length - (intOf i).toNat)
    case atStart => exact ⟨1, z0, h0, rfl, rfl, hf0, rfl⟩
    case round =>
      clear hf0
      obtain ⟨k, r, hk, rfl, rfl, hr, rfl⟩ := hrel
      by_cases hlk : k < zs.length
      · obtain ⟨z, ez⟩ : ∃ z, z = zs.getD k 0 := ⟨_, rfl⟩
        have hck : wr.cell? ⟨b, off + k, none⟩ = some (.float .f32 z) := by rw [ez]; exact hc'.out k hlk
        have hfz : Hid (Fl .f32 z (cs.getD k 0)) := Lib.hid (by rw [ez]; exact hF'.out k hlk)
        have hmm := Lib.hid (Fl.minF hfz.out hr.out)
        clear ez
        cases tt : (FloatKind.f32.format.order z r == some Ordering.lt)
        · go_wp2_with fail
          go_roundw
          case rel => exact ⟨k + 1, r, by omega, by go_num, rfl, Lib.hid (by have h := hmm.out; rw [tt] at h; exact h), by first | rfl | trivial⟩
          case measure => simp [intOf]; omega
        · go_wp2_with fail
          go_roundw
          case rel => exact ⟨k + 1, z, by omega, by go_num, rfl, Lib.hid (by have h := hmm.out; rw [tt] at h; exact h), by first | rfl | trivial⟩
          case measure => simp [intOf]; omega
      · obtain rfl : k = zs.length := by omega
        go_wp2_with fail
        go_ret
        exact ⟨r, 0, rfl, rfl, hr.out⟩
end Go.Proofs.Ytmgdofengamcmaa
