import Derived.Test.YthchdjfieofeaaaVf
import Derived.Test.YthchdjfieofeaaaPj
import Derived.Test.YthchdjfieofeaaaPp
import Derived.Test.YthchdjfieofeaaaPc
import Derived.IntWalk
set_option linter.unusedVariables false
set_option linter.unusedSimpArgs false
namespace Go.FX
open Go Go.RowKit
/-! Holes: values that are less than 0, or not-a-numbers. -/
def holeB (c : Nat) : Bool := !(FloatKind.f32.format.order c 0 == some Ordering.gt) && !(FloatKind.f32.format.order c 0 == some Ordering.eq)
theorem fl0 : Fl .f32 0 0 := ⟨by decide, by decide⟩
theorem flM1 : Fl .f32 3212836864 3212836864 := ⟨by decide, by decide⟩
theorem holeB_fl {z c : Nat} (h : Fl .f32 z c) : holeB z = holeB c := by unfold holeB; rw [h.order fl0]
theorem hole_nan {z : Nat} (h : isN .f32 z = true) : holeB z = true := by unfold holeB; rw [order_nan_left h]; rfl
theorem hole_num {z : Nat} (h : isN .f32 z = false) : holeB z = (FloatKind.f32.format.order z 0 == some Ordering.lt) := by
  have h0 : isN .f32 0 = false := by decide
  unfold holeB
  rw [gt_key h h0, eq_key h h0, lt_key h h0, Bool.eq_iff_iff]
  simp
  omega
theorem atC_nat {W H : Nat} (cs : List Nat) {x y : Nat} (hx : x < W) (hy : y < H) : atC W H cs (x : Int) (y : Int) = cs.getD (y * W + x) 0 := by
  rw [atC_in cs (Int.natCast_nonneg _) (Int.ofNat_lt.2 hx) (Int.natCast_nonneg _) (Int.ofNat_lt.2 hy)]
  congr 1
  rw [show (x : Int) + (W : Int) * (y : Int) = ((y * W + x : Nat) : Int) by push_cast; rw [Int.mul_comm, Int.add_comm]]; rfl
/-- A number of a map in the making is stored anew. -/
theorem Mk.put {E : TypeId} {w0 : World} {bo : Nat} {W H : Int} {cs : List Nat} {wr : World} {g n cap k r c : Nat}
    (hN : Nv wr bo (.int .i64 W) (.int .i64 H) (.slice (some ⟨g, 0, none⟩) n cap)) (ho : OC wr w0.heap.size E (.slice (some ⟨g, 0, none⟩) n cap) cs) (hne : (Value.slice (some ⟨g, 0, none⟩) n cap).ownBlock ≠ some bo) (hbo : w0.heap.size ≤ bo) (hb : Below w0.heap.size w0 wr)
    (hk : k < cs.length) (hr : Fl .f32 r c) : Mk E w0 bo W H (cs.set k c) (wr.setCell ⟨g, k, none⟩ (.float .f32 r)) := by
  obtain ⟨h1, h2⟩ := ho.put hk hr
  have hg := (ho.lt g rfl).1
  exact ⟨_, _, _, hN.kept h2 hne, h1, hne, hbo, hb.setCell (by exact hg) _⟩
/-- A row that is filled anew from the left. -/
def part2 (F : Nat → Nat) (cs : List Nat) (k : Nat) : List Nat := seqL F k ++ cs.drop k
theorem part2_zero (F : Nat → Nat) (cs : List Nat) : part2 F cs 0 = cs := by simp [part2, seqL]
theorem part2_len (F : Nat → Nat) (cs : List Nat) (k : Nat) (h : k ≤ cs.length) : (part2 F cs k).length = cs.length := by simp [part2, seqL_len]; omega
theorem part2_end (F : Nat → Nat) (cs : List Nat) : part2 F cs cs.length = seqL F cs.length := by simp [part2]
theorem part2_set (F : Nat → Nat) (cs : List Nat) (k : Nat) (h : k < cs.length) : (part2 F cs k).set k (F k) = part2 F cs (k + 1) := by
  unfold part2
  rw [List.set_append_right _ _ (by rw [seqL_len]; omega), seqL_len, Nat.sub_self, seqL_succ, List.append_assoc]
  congr 1
  rw [List.drop_eq_getElem_cons h, List.set_cons_zero]; rfl
theorem part2_get (F : Nat → Nat) (cs : List Nat) (k : Nat) (h : k < cs.length) : (part2 F cs k).getD k 0 = cs.getD k 0 := by
  simp [part2, List.getD, List.getElem?_append_right, seqL_len, h]
theorem part2_keep (F : Nat → Nat) (cs : List Nat) (k : Nat) (h : k < cs.length) (he : F k = cs.getD k 0) : part2 F cs k = part2 F cs (k + 1) := by
  rw [← part2_set F cs k h, he]
  unfold part2
  rw [List.set_append_right _ _ (by rw [seqL_len]; omega), seqL_len, Nat.sub_self]
  congr 1
  rw [List.drop_eq_getElem_cons h, List.set_cons_zero]
  simp [List.getD, h]
end Go.FX
namespace Go.Proofs.Ythchdjfieofeaaa
open Go.FX Go.RowKit Go.WideShapes Go.ChangeShapes
attribute [local go_sem ↓] Go.wp_at_zero Go.wp_at_succ

theorem pairM_self {W H : Int} {n n' : Nat} (h : validB W H n = true) (h' : validB W H n' = true) : pairB W H n W H n' = true := by simp [pairB, h, h']
end Go.Proofs.Ythchdjfieofeaaa
