import Derived.Test.YtaclgmafcakiiaaPl
import Derived.Test.YtaclgmafcakiiaaPi
import Derived.Test.YtaclgmafcakiiaaPq
import Derived.Deep.DrawnRows
import Derived.IntWalk
set_option linter.unusedVariables false
set_option linter.unusedSimpArgs false
namespace Go.FX
open Go Go.RowKit
theorem keepOfN {n : Nat} {W w' : World} (hn : n ≤ W.heap.size) (h : Below n W w') : Below n W w' ∧ n ≤ w'.heap.size ∧ (∀ b o, b < n → w'.cell? ⟨b, o, none⟩ = W.cell? ⟨b, o, none⟩) := ⟨h, Nat.le_trans hn h.size, (bcell2 h).1⟩
/-- What a row with numbers looks like. -/
theorem OC.own_form {w : World} {base : Nat} {E : TypeId} {a : Option Addr} {n c : Nat} {cs : List Nat} (h : OC w base E (.slice a n c) cs) (hp : 0 < cs.length) : ∃ g cap, (Value.slice a n c) = .slice (some ⟨g, 0, none⟩) n cap ∧ n = cs.length ∧ ∀ k, w.frozen? ⟨g, k, none⟩ = false := by
  have hn := h.fc.sized.1
  obtain ⟨zs, h1, h2, h3⟩ := h
  have hz : zs.length = cs.length := by rw [← h2]; simp
  obtain ⟨g, cap, e, _, _⟩ := h3.form (by omega)
  obtain ⟨rfl, rfl, rfl⟩ := Value.slice.inj e
  exact ⟨g, c, by rw [hn, ← hz], hn, fun k => h3.frozenAt k⟩
theorem OC.row_at {w : World} {base : Nat} {E : TypeId} {g n c : Nat} {cs : List Nat} (h : OC w base E (.slice (some ⟨g, 0, none⟩) n c) cs) {k : Nat} (hk : k < cs.length) : ∃ z, Fl .f32 z (cs.getD k 0) ∧ w.cell? ⟨g, k, none⟩ = some (.float .f32 z) := by
  obtain ⟨b, off, cap, z, ev, _, _, _, hz, hc⟩ := h.fc.cell hk
  simp only [Value.slice.injEq, Option.some.injEq, Addr.mk.injEq, and_true] at ev
  obtain ⟨⟨rfl, rfl⟩, _⟩ := ev
  exact ⟨z, hz, by rwa [Nat.zero_add] at hc⟩
theorem OC.put {w : World} {base : Nat} {E : TypeId} {g n cap : Nat} {cs : List Nat} {k r c : Nat} (h : OC w base E (.slice (some ⟨g, 0, none⟩) n cap) cs) (hk : k < cs.length) (hr : Fl .f32 r c) :
    OC (w.setCell ⟨g, k, none⟩ (.float .f32 r)) base E (.slice (some ⟨g, 0, none⟩) n cap) (cs.set k c) ∧ w.grownBy (w.setCell ⟨g, k, none⟩ (.float .f32 r)) (some g) := by
  obtain ⟨zs, h1, rfl, h3⟩ := h
  obtain ⟨a', c', ev, _, _⟩ := (OC.of h1 h3).fc.shape
  simp only [Value.slice.injEq, List.length_map] at ev
  obtain ⟨_, rfl, _⟩ := ev
  have hst := h3.stored k (.float .f32 r)
  rw [← List.map_set] at hst
  refine ⟨⟨zs.set k r, ?_, by rw [List.map_set, hr.eq], by rw [List.length_set]; exact hst.1⟩, hst.2⟩
  intro z hz
  rcases List.mem_or_eq_of_mem_set hz with h | h
  · exact h1 z h
  · rw [h]; exact hr.lt
theorem gridL_at (W H : Nat) (cs : List Nat) (hl : cs.length = H * W) : gridL W (atC W H cs) (H * W) = cs := by
  refine Eq.trans (gridL_congr fun x y hx hy => ?_) (gridL_self W H cs hl)
  exact atC_in cs (Int.natCast_nonneg _) (Int.ofNat_lt.2 hx) (Int.natCast_nonneg _) (Int.ofNat_lt.2 hy)
end Go.FX
namespace Go.Proofs.Ytaclgmafcakiiaa
open Go.FX Go.RowKit Go.WideShapes Go.ChangeShapes
attribute [local go_sem ↓] Go.wp_at_zero Go.wp_at_succ

end Go.Proofs.Ytaclgmafcakiiaa
