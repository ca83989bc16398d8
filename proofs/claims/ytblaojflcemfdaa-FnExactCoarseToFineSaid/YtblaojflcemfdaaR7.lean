import Derived.Test.YtblaojflcemfdaaVt
import Derived.Test.YtblaojflcemfdaaRc
import Derived.Deep.DrawnRows
import Derived.BigRegion
import Derived.IntWalk
set_option linter.unusedVariables false
set_option linter.unusedSimpArgs false
namespace Go.FX
open Go Go.RowKit
/-- A row of the call's own that is not empty, as it lies. -/
def RRow (E : TypeId) (cs : List Nat) (w : World) (e : Ending) (w' : World) : Prop :=
  ∃ (g c : Nat) (zs : List Nat), e = .returned (.slice (some ⟨g, 0, none⟩) zs.length c) ∧ (∀ z ∈ zs, z < width .f32) ∧ zs.map (cn .f32) = cs ∧ w'.ownsRow w.heap.size E 1 (.slice (some ⟨g, 0, none⟩) zs.length c) zs.length (zs.map (.float .f32)) ∧ Below w.heap.size w w'
theorem news_own {w : World} {base : Nat} {E : TypeId} {g n c : Nat} {xs : List Value} (h : w.ownsRow base E 1 (.slice (some ⟨g, 0, none⟩) n c) n xs) : ∀ j u, xs[j]? = some u → w.cell? ((⟨g, 0, none⟩ : Addr).add j) = some u := fun j u hu => by
  have hl : xs.length = n := by have := h.1; omega
  have hadd : (⟨g, 0, none⟩ : Addr).add j = ⟨g, j, none⟩ := by unfold Addr.add; split <;> simp_all
  rw [hadd, h.cellAt j (by have := (List.getElem?_eq_some_iff.1 hu).1; omega)]
  exact hu
/-- The costs of a cell. -/
def cellL (W D : Nat) (cs : List Nat) (x y : Nat) : List Nat := seqL (fun d => costC W D cs x y d) D
theorem cellL_len (W D : Nat) (cs : List Nat) (x y : Nat) : (cellL W D cs x y).length = D := seqL_len _ _
theorem cellL_drop {W H D : Nat} {cs : List Nat} {x y : Nat} (hl : cs.length = H * W * D) (hx : x < W) (hy : y < H) (hd : 0 < D) : (cs.drop ((y * W + x) * D)).take D = cellL W D cs x y := by
  have h0 := (cost_lt (W := W) (H := H) (D := D) hx hy (d := D - 1) (by omega)).1
  apply List.ext_getElem
  · rw [cellL_len, List.length_take, List.length_drop]; omega
  · intro i h1 h2
    rw [cellL_len] at h2
    have e : (cellL W D cs x y)[i] = costC W D cs x y i := by simp [cellL, seqL]
    have hb : (y * W + x) * D + i < cs.length := by omega
    rw [e, List.getElem_take, List.getElem_drop]
    unfold costC
    simp [List.getD, hb]
theorem cubeL_cells (W D : Nat) (G : Nat → Nat → Nat → Nat) {x : Nat} (y : Nat) (hx : x < W) : ∀ d, d ≤ D → cubeL W D G ((y * W + x) * D + 0) ++ seqL (G x y) d = cubeL W D G ((y * W + x) * D + d)
  | 0, _ => by rw [seqL_zero, List.append_nil]
  | d + 1, h => by
    rw [seqL_succ, ← List.append_assoc, cubeL_cells W D G y hx d (by omega), cubeL_step W D G y hx (by omega)]
theorem Mv.stepL {E : TypeId} {w0 : World} {bo : Nat} {W H D : Int} {cs cs2 : List Nat} {wr w2 w3 : World} {a : Option Addr} {n c : Nat} {zs news : List Nat} {g cap : Nat}
    (hN : Nw wr bo (.int .i64 W) (.int .i64 H) (.int .i64 D) (.slice a n c)) (hrow : wr.ownsRow w0.heap.size E 1 (.slice a n c) zs.length (zs.map (.float .f32))) (hz : ∀ z ∈ zs, z < width .f32) (hm : zs.map (cn .f32) = cs)
    (hne : (Value.slice a n c).ownBlock ≠ some bo) (hbo : w0.heap.size ≤ bo) (hb : Below w0.heap.size w0 wr) (hb2 : Below wr.heap.size wr w2) (hnz : ∀ z ∈ news, z < width .f32) (hnm : news.map (cn .f32) = cs2)
    (hown : w3.ownsRow w0.heap.size E 1 (.slice (some ⟨g, 0, none⟩) (zs.length + news.length) cap) (zs.length + news.length) (zs.map (.float .f32) ++ news.map (.float .f32)))
    (hgrow : w2.grownBy w3 (Value.slice a n c).ownBlock) (hat : (Value.slice a n c).ownBlock = some g ∨ g = w2.heap.size) :
    Mv E w0 bo W H D (cs ++ cs2) (w3.setCell ⟨bo, 3, none⟩ (.slice (some ⟨g, 0, none⟩) (zs.length + news.length) cap)) := by
  have hN3 := (hN.below hb2).kept hgrow hne
  have hg : (Value.slice (some ⟨g, 0, none⟩) (zs.length + news.length) cap).ownBlock ≠ some bo := by
    simp only [Value.ownBlock, ne_eq, Option.some.injEq]
    rcases hat with h | h
    · intro e; rw [h, e] at hne; exact hne rfl
    · have := hN.1; have := hb2.size; omega
  have hoc : OC w3 w0.heap.size E (.slice (some ⟨g, 0, none⟩) (zs.length + news.length) cap) (cs ++ cs2) := by
    refine ⟨zs ++ news, ?_, by rw [List.map_append, hm, hnm], by rw [List.length_append, List.map_append]; exact hown⟩
    intro z hzz
    rcases List.mem_append.1 hzz with h | h
    · exact hz z h
    · exact hnz z h
  obtain ⟨zs', k1, k2, k3⟩ := hoc
  refine ⟨_, _, _, hN3.set3, ⟨zs', k1, k2, ownsRow_set_other k3 (by exact hg) _⟩, hg, hbo, ?_⟩
  have h1 : Below w0.heap.size w0 w2 := hb.trans (hb2.mono hb.size)
  exact (h1.grown hgrow (by have := hb.size; have := hb2.size; omega) (fun k hk => (hrow.lt k hk).1)).setCell (by exact hbo) _
theorem Nw.set0 {w : World} {b : Nat} {x y z u x' : Value} (h : Nw w b x y z u) : Nw (w.setCell ⟨b, 0, none⟩ x') b x' y z u := by
  obtain ⟨h0, h1, h2, h3, h4, h5⟩ := h
  refine ⟨by simpa [World.setCell] using h0, ?_, ?_, ?_, ?_, fun o => ?_⟩
  · exact World.cell?_setCell_same _ _ _ h1
  · rw [World.cell?_setCell_other _ _ _ _ (by simp)]; exact h2
  · rw [World.cell?_setCell_other _ _ _ _ (by simp)]; exact h3
  · rw [World.cell?_setCell_other _ _ _ _ (by simp)]; exact h4
  · rw [World.frozen?_setCell]; exact h5 o
theorem Nw.set1 {w : World} {b : Nat} {x y z u y' : Value} (h : Nw w b x y z u) : Nw (w.setCell ⟨b, 1, none⟩ y') b x y' z u := by
  obtain ⟨h0, h1, h2, h3, h4, h5⟩ := h
  refine ⟨by simpa [World.setCell] using h0, ?_, ?_, ?_, ?_, fun o => ?_⟩
  · rw [World.cell?_setCell_other _ _ _ _ (by simp)]; exact h1
  · exact World.cell?_setCell_same _ _ _ h2
  · rw [World.cell?_setCell_other _ _ _ _ (by simp)]; exact h3
  · rw [World.cell?_setCell_other _ _ _ _ (by simp)]; exact h4
  · rw [World.frozen?_setCell]; exact h5 o
theorem Nw.set2 {w : World} {b : Nat} {x y z u z' : Value} (h : Nw w b x y z u) : Nw (w.setCell ⟨b, 2, none⟩ z') b x y z' u := by
  obtain ⟨h0, h1, h2, h3, h4, h5⟩ := h
  refine ⟨by simpa [World.setCell] using h0, ?_, ?_, ?_, ?_, fun o => ?_⟩
  · rw [World.cell?_setCell_other _ _ _ _ (by simp)]; exact h1
  · rw [World.cell?_setCell_other _ _ _ _ (by simp)]; exact h2
  · exact World.cell?_setCell_same _ _ _ h3
  · rw [World.cell?_setCell_other _ _ _ _ (by simp)]; exact h4
  · rw [World.frozen?_setCell]; exact h5 o
/-- A size of a volume in the making is stored anew. -/
theorem Mv.size0 {E : TypeId} {w0 : World} {bo : Nat} {W H D W' : Int} {cs : List Nat} {wr : World} (h : Mv E w0 bo W H D cs wr) : Mv E w0 bo W' H D cs (wr.setCell ⟨bo, 0, none⟩ (.int .i64 W')) := by
  obtain ⟨a, n, c, h1, ⟨zs, k1, k2, k3⟩, h3, h4, h5⟩ := h
  exact ⟨a, n, c, h1.set0, ⟨zs, k1, k2, ownsRow_set_other k3 (by exact h3) _⟩, h3, h4, h5.setCell (by exact h4) _⟩
theorem Mv.size1 {E : TypeId} {w0 : World} {bo : Nat} {W H D H' : Int} {cs : List Nat} {wr : World} (h : Mv E w0 bo W H D cs wr) : Mv E w0 bo W H' D cs (wr.setCell ⟨bo, 1, none⟩ (.int .i64 H')) := by
  obtain ⟨a, n, c, h1, ⟨zs, k1, k2, k3⟩, h3, h4, h5⟩ := h
  exact ⟨a, n, c, h1.set1, ⟨zs, k1, k2, ownsRow_set_other k3 (by exact h3) _⟩, h3, h4, h5.setCell (by exact h4) _⟩
theorem Mv.start2 {E T : TypeId} {w0 w1 : World} {W H D : Int} {x y z u : Value} {a : Option Addr} {n c : Nat} {cs : List Nat} (hb : Below (w0.alloc (.cells #[x, y, z, u] T)).heap.size (w0.alloc (.cells #[x, y, z, u] T)) w1) (ho : OC w1 (w0.alloc (.cells #[x, y, z, u] T)).heap.size E (.slice a n c) cs) :
    Mv E w0 w0.heap.size W H D cs ((((w1.setCell ⟨w0.heap.size, 0, none⟩ (.int .i64 W)).setCell ⟨w0.heap.size, 1, none⟩ (.int .i64 H)).setCell ⟨w0.heap.size, 2, none⟩ (.int .i64 D)).setCell ⟨w0.heap.size, 3, none⟩ (.slice a n c)) := by
  have hN := (Nw.new w0 x y z u T).below hb
  simp only [World.size_alloc] at ho hb
  refine ⟨a, n, c, hN.set0.set1.set2.set3, ?_, fun e => ?_, Nat.le_refl _, ?_⟩
  · exact OC.mono ((((ho.set _ (Nat.lt_succ_self _)).set _ (Nat.lt_succ_self _)).set _ (Nat.lt_succ_self _)).set _ (Nat.lt_succ_self _)) (Nat.le_succ _)
  · have := (ho.lt _ e).1; omega
  · exact (((((below1 w0 _).trans (hb.mono (Nat.le_succ _))).setCell (by simp) _).setCell (by simp) _).setCell (by simp) _).setCell (by simp) _
theorem OC.lit0 (w : World) (E : TypeId) : OC (w.alloc (.cells #[] E)) w.heap.size E (.slice (some ⟨w.heap.size, 0, none⟩) 0 0) [] := by
  have ho := World.ownsRow_lit (base := w.heap.size) (e := E) (size := 1) w #[] 0 (Nat.le_refl _) (by simp [maxLen]) (by simp)
  exact ⟨[], by simp, rfl, by simpa using ho⟩
end Go.FX
namespace Go.Proofs.Ytblaojflcemfdaa
open Go.FX Go.RowKit Go.WideShapes Go.ChangeShapes
attribute [local go_sem ↓] Go.wp_at_zero Go.wp_at_succ

end Go.Proofs.Ytblaojflcemfdaa
