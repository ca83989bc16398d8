import Derived.Test.YtblaojflcemfdaaR7
import Derived.Deep.RegionLaw
import Derived.Deep.DeepCutAuto
set_option linter.unusedVariables false
set_option linter.unusedSimpArgs false
namespace Go.FX
open Go Go.RowKit
theorem Mv.undrew {E : TypeId} {w0 : World} {bo : Nat} {W H D : Int} {cs : List Nat} {wr : World} {k : Nat} (h : Mv E (w0.drewN k) bo W H D cs wr) : Mv E w0 bo W H D cs wr := by
  obtain ⟨a, n, c, h1, h2, h3, h4, h5⟩ := h
  exact ⟨a, n, c, h1, h2, h3, h4, undrewN h5⟩
theorem turn_start1 {E T : TypeId} (w0 : World) (W H D : Int) : Mv E w0 (w0.heap.size + 1) W H D [] ((((w0.alloc (.cells #[] E)).alloc (.cells #[.int .i64 W, .int .i64 H, .int .i64 D, .slice (some ⟨w0.heap.size, 0, none⟩) 0 0] T))).drew) := by
  have h := Mv.start1 (E := E) (T := T) (w0 := w0) (W := W) (H := H) (D := D) (below1 w0 (.cells #[] E)) (OC.lit0 w0 E)
  simp only [World.size_alloc] at h
  exact h.drewN 1
theorem turn_start2 {E T : TypeId} (w0 : World) (W H D : Int) : Mv E w0 w0.heap.size W H D [] ((((w0.alloc (.cells #[.int .i64 W, .int .i64 H, .int .i64 D, .slice (some ⟨w0.heap.size + 1, 0, none⟩) 0 0] T)).alloc (.cells #[] E))).drew) := by
  have ho := OC.lit0 (w0.alloc (.cells #[.int .i64 W, .int .i64 H, .int .i64 D, .slice (some ⟨w0.heap.size + 1, 0, none⟩) 0 0] T)) E
  simp only [World.size_alloc] at ho
  have h : Mv E w0 w0.heap.size W H D [] ((w0.alloc (.cells #[.int .i64 W, .int .i64 H, .int .i64 D, .slice (some ⟨w0.heap.size + 1, 0, none⟩) 0 0] T)).alloc (.cells #[] E)) := by
    refine ⟨_, _, _, (Nw.new _ _ _ _ _ _).alloc _, ho.mono (Nat.le_succ _), fun e => ?_, Nat.le_refl _, below2 _ _ _⟩
    simp [Value.ownBlock] at e
  exact h.drewN 1
end Go.FX
namespace Go.Proofs.Ytblaojflcemfdaa
open Go.FX Go.RowKit Go.WideShapes Go.ChangeShapes


end Go.Proofs.Ytblaojflcemfdaa
