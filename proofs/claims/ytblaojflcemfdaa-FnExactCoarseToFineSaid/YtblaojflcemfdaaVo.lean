import Derived.Test.YtblaojflcemfdaaVl
import Derived.Deep.DrawnRows
set_option linter.unusedVariables false
set_option linter.unusedSimpArgs false
namespace Go.FX
open Go Go.RowKit
theorem keepOfN {n : Nat} {W w' : World} (hn : n ≤ W.heap.size) (h : Below n W w') : Below n W w' ∧ n ≤ w'.heap.size ∧ (∀ b o, b < n → w'.cell? ⟨b, o, none⟩ = W.cell? ⟨b, o, none⟩) := ⟨h, Nat.le_trans hn h.size, (bcell2 h).1⟩
/-- A volume in the making, or in change: the variable at bo, its row, all of the call's own. -/
def Mv (E : TypeId) (w0 : World) (bo : Nat) (W H D : Int) (cs : List Nat) (wr : World) : Prop :=
  ∃ a n c, Nw wr bo (.int .i64 W) (.int .i64 H) (.int .i64 D) (.slice a n c) ∧ OC wr w0.heap.size E (.slice a n c) cs ∧ (Value.slice a n c).ownBlock ≠ some bo ∧ w0.heap.size ≤ bo ∧ Below w0.heap.size w0 wr
theorem Mv.drewN {E : TypeId} {w0 : World} {bo : Nat} {W H D : Int} {cs : List Nat} {wr : World} (h : Mv E w0 bo W H D cs wr) (k : Nat) : Mv E w0 bo W H D cs (wr.drewN k) := by
  obtain ⟨a, n, c, h1, h2, h3, h4, h5⟩ := h
  exact ⟨a, n, c, h1.drewN k, h2.drewN k, h3, h4, below_drewN h5 k⟩
theorem Mv.start1 {E T : TypeId} {w0 w1 : World} {W H D : Int} {a : Option Addr} {n c : Nat} {cs : List Nat} (hb : Below w0.heap.size w0 w1) (ho : OC w1 w0.heap.size E (.slice a n c) cs) :
    Mv E w0 w1.heap.size W H D cs (w1.alloc (.cells #[.int .i64 W, .int .i64 H, .int .i64 D, .slice a n c] T)) := by
  refine ⟨a, n, c, Nw.new _ _ _ _ _ _, ho.alloc _, fun e => ?_, hb.size, hb.alloc hb.size _⟩
  have := (ho.lt _ e).2
  omega
theorem OC.put {w : World} {base : Nat} {E : TypeId} {g n cap : Nat} {cs : List Nat} {k r c : Nat} (h : OC w base E (.slice (some ⟨g, 0, none⟩) n cap) cs) (hk : k < cs.length) (hr : Fl .f32 r c) :
    OC (w.setCell ⟨g, k, none⟩ (.float .f32 r)) base E (.slice (some ⟨g, 0, none⟩) n cap) (cs.set k c) ∧ w.grownBy (w.setCell ⟨g, k, none⟩ (.float .f32 r)) (some g) := by
  obtain ⟨zs, h1, rfl, h3⟩ := h
  obtain ⟨a', c', ev, _, _⟩ := (OC.of h1 h3).fc.shape
  simp only [Value.slice.injEq, List.length_map] at ev
  obtain ⟨_, rfl, _⟩ := ev
  have hst := h3.stored k (.float .f32 r)
  rw [← List.map_set] at hst
  refine ⟨⟨zs.set k r, ?_, by rw [List.map_set, hr.eq], by rw [List.length_set]; exact hst.1⟩, hst.2⟩
  intro z hz
  rcases List.mem_or_eq_of_mem_set hz with h | h
  · exact h1 z h
  · rw [h]; exact hr.lt
/-- A number of the row is stored anew. -/
theorem Mv.put {E : TypeId} {w0 : World} {bo : Nat} {W H D : Int} {cs : List Nat} {wr : World} {g n cap k r c : Nat}
    (hN : Nw wr bo (.int .i64 W) (.int .i64 H) (.int .i64 D) (.slice (some ⟨g, 0, none⟩) n cap)) (ho : OC wr w0.heap.size E (.slice (some ⟨g, 0, none⟩) n cap) cs) (hne : (Value.slice (some ⟨g, 0, none⟩) n cap).ownBlock ≠ some bo) (hbo : w0.heap.size ≤ bo) (hb : Below w0.heap.size w0 wr)
    (hk : k < cs.length) (hr : Fl .f32 r c) : Mv E w0 bo W H D (cs.set k c) (wr.setCell ⟨g, k, none⟩ (.float .f32 r)) := by
  obtain ⟨h1, h2⟩ := ho.put hk hr
  have hg := (ho.lt g rfl).1
  exact ⟨_, _, _, hN.kept h2 hne, h1, hne, hbo, hb.setCell (by exact hg) _⟩
/-- A row that is filled anew from the left. -/
def partL (F : Nat → Nat) (cs : List Nat) (k : Nat) : List Nat := seqL F k ++ cs.drop k
theorem partL_zero (F : Nat → Nat) (cs : List Nat) : partL F cs 0 = cs := by simp [partL, seqL]
theorem partL_len (F : Nat → Nat) (cs : List Nat) (k : Nat) (h : k ≤ cs.length) : (partL F cs k).length = cs.length := by simp [partL, seqL_len]; omega
theorem partL_end (F : Nat → Nat) (cs : List Nat) : partL F cs cs.length = seqL F cs.length := by simp [partL]
theorem partL_set (F : Nat → Nat) (cs : List Nat) (k : Nat) (h : k < cs.length) : (partL F cs k).set k (F k) = partL F cs (k + 1) := by
  unfold partL
  rw [List.set_append_right _ _ (by rw [seqL_len]; omega), seqL_len, Nat.sub_self, seqL_succ, List.append_assoc]
  congr 1
  rw [List.drop_eq_getElem_cons h, List.set_cons_zero]; rfl
theorem partL_get (F : Nat → Nat) (cs : List Nat) (k : Nat) (h : k < cs.length) : (partL F cs k).getD k 0 = cs.getD k 0 := by
  simp [partL, List.getD, List.getElem?_append_right, seqL_len, h]
theorem partL_keep (F : Nat → Nat) (cs : List Nat) (k : Nat) (h : k < cs.length) (he : F k = cs.getD k 0) : partL F cs k = partL F cs (k + 1) := by
  rw [← partL_set F cs k h, he]
  unfold partL
  rw [List.set_append_right _ _ (by rw [seqL_len]; omega), seqL_len, Nat.sub_self]
  congr 1
  rw [List.drop_eq_getElem_cons h, List.set_cons_zero]
  simp [List.getD, h]
end Go.FX
namespace Go.Proofs.Ytblaojflcemfdaa
open Go.FX Go.RowKit Go.WideShapes Go.ChangeShapes
attribute [local go_sem ↓] Go.wp_at_zero Go.wp_at_succ

end Go.Proofs.Ytblaojflcemfdaa
