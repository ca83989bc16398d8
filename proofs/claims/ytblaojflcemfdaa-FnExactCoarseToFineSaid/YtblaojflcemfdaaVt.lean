import Derived.Test.YtblaojflcemfdaaVo
import Derived.IntWalk
set_option linter.unusedVariables false
set_option linter.unusedSimpArgs false
namespace Go.FX
open Go Go.RowKit
/-- What a row with numbers looks like. -/
theorem OC.own_form {w : World} {base : Nat} {E : TypeId} {a : Option Addr} {n c : Nat} {cs : List Nat} (h : OC w base E (.slice a n c) cs) (hp : 0 < cs.length) : ∃ g cap, (Value.slice a n c) = .slice (some ⟨g, 0, none⟩) n cap ∧ n = cs.length ∧ ∀ k, w.frozen? ⟨g, k, none⟩ = false := by
  have hn := h.fc.sized.1
  obtain ⟨zs, h1, h2, h3⟩ := h
  have hz : zs.length = cs.length := by rw [← h2]; simp
  obtain ⟨g, cap, e, _, _⟩ := h3.form (by omega)
  obtain ⟨rfl, rfl, rfl⟩ := Value.slice.inj e
  exact ⟨g, c, by rw [hn, ← hz], hn, fun k => h3.frozenAt k⟩
theorem OC.row_at {w : World} {base : Nat} {E : TypeId} {g n c : Nat} {cs : List Nat} (h : OC w base E (.slice (some ⟨g, 0, none⟩) n c) cs) {k : Nat} (hk : k < cs.length) : ∃ z, Fl .f32 z (cs.getD k 0) ∧ w.cell? ⟨g, k, none⟩ = some (.float .f32 z) := by
  obtain ⟨b, off, cap, z, ev, _, _, _, hz, hc⟩ := h.fc.cell hk
  simp only [Value.slice.injEq, Option.some.injEq, Addr.mk.injEq, and_true] at ev
  obtain ⟨⟨rfl, rfl⟩, _⟩ := ev
  exact ⟨z, hz, by rwa [Nat.zero_add] at hc⟩
end Go.FX
namespace Go.Proofs.Ytblaojflcemfdaa
open Go.FX Go.RowKit Go.WideShapes Go.ChangeShapes







end Go.Proofs.Ytblaojflcemfdaa
