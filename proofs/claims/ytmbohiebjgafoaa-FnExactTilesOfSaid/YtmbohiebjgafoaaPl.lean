import Derived.Test.YtmbohiebjgafoaaPs
import Derived.Deep.RegionLaw
set_option linter.unusedVariables false
set_option linter.unusedSimpArgs false
namespace Go.FX
open Go Go.RowKit

/-- A picture in the making: the variable at bo, its row, all of the call's own. -/
def Mk (E : TypeId) (w0 : World) (bo : Nat) (W H : Int) (cs : List Nat) (wr : World) : Prop :=
  ∃ a n c, Nv wr bo (.int .i64 W) (.int .i64 H) (.slice a n c) ∧ OC wr w0.heap.size E (.slice a n c) cs ∧ (Value.slice a n c).ownBlock ≠ some bo ∧ w0.heap.size ≤ bo ∧ Below w0.heap.size w0 wr
theorem Mk.drewN {E : TypeId} {w0 : World} {bo : Nat} {W H : Int} {cs : List Nat} {wr : World} (h : Mk E w0 bo W H cs wr) (k : Nat) : Mk E w0 bo W H cs (wr.drewN k) := by
  obtain ⟨a, n, c, h1, h2, h3, h4, h5⟩ := h
  exact ⟨a, n, c, h1.drewN k, h2.drewN k, h3, h4, below_drewN h5 k⟩
theorem ownsRow_set_other {w : World} {base : Nat} {e : TypeId} {v : Value} {n : Nat} {xs : List Value} (h : w.ownsRow base e 1 v n xs) {a : Addr} (ha : v.ownBlock ≠ some a.block) (u : Value) : (w.setCell a u).ownsRow base e 1 v n xs := ownsRow_setCell_other h ha u
theorem Mk.step {E : TypeId} {w0 : World} {bo : Nat} {W H : Int} {cs : List Nat} {wr w3 : World} {a : Option Addr} {n c : Nat} {zs : List Nat} {r cv g cap : Nat} {o : Obj} {m : Nat}
    (hN : Nv wr bo (.int .i64 W) (.int .i64 H) (.slice a n c)) (hrow : wr.ownsRow w0.heap.size E 1 (.slice a n c) zs.length (zs.map (.float .f32))) (hz : ∀ z ∈ zs, z < width .f32) (hm : zs.map (cn .f32) = cs)
    (hne : (Value.slice a n c).ownBlock ≠ some bo) (hbo : w0.heap.size ≤ bo) (hb : Below w0.heap.size w0 wr) (hr : Fl .f32 r cv)
    (hown : w3.ownsRow w0.heap.size E 1 (.slice (some ⟨g, 0, none⟩) (zs.length + 1) cap) (zs.length + 1) (zs.map (.float .f32) ++ [.float .f32 r]))
    (hgrow : ((wr.alloc o).drewN m).grownBy w3 (Value.slice a n c).ownBlock) (hat : (Value.slice a n c).ownBlock = some g ∨ g = wr.heap.size + 1) :
    Mk E w0 bo W H (cs ++ [cv]) (w3.setCell ⟨bo, 2, none⟩ (.slice (some ⟨g, 0, none⟩) (zs.length + 1) cap)) := by
  have hN3 := ((hN.alloc o).drewN m).kept hgrow hne
  have hg : (Value.slice (some ⟨g, 0, none⟩) (zs.length + 1) cap).ownBlock ≠ some bo := by
    simp only [Value.ownBlock, ne_eq, Option.some.injEq]
    rcases hat with h | h
    · intro e; rw [h, e] at hne; exact hne rfl
    · have := hN.1; omega
  obtain ⟨zs', k1, k2, k3⟩ := OC.push hz hm hr hown
  refine ⟨_, _, _, hN3.set2, ⟨zs', k1, k2, ownsRow_set_other k3 (by exact hg) _⟩, hg, hbo, ?_⟩
  have h1 : Below w0.heap.size w0 ((wr.alloc o).drewN m) := below_drewN (hb.alloc hb.size o) m
  exact (h1.grown hgrow (by have := hb.size; simp; omega) (fun k hk => (hrow.lt k hk).1)).setCell (by exact hbo) _
theorem Mk.nv3 {bo : Nat} {wr w3 : World} {x y z : Value} {o : Obj} {m : Nat} {row : Option Nat} (hN : Nv wr bo x y z) (hne : row ≠ some bo) (hgrow : ((wr.alloc o).drewN m).grownBy w3 row) : Nv w3 bo x y z := ((hN.alloc o).drewN m).kept hgrow hne
theorem Nv.set0 {w : World} {b : Nat} {x y z x' : Value} (h : Nv w b x y z) : Nv (w.setCell ⟨b, 0, none⟩ x') b x' y z := by
  obtain ⟨h0, h1, h2, h3, h4⟩ := h
  refine ⟨by simpa [World.setCell] using h0, ?_, ?_, ?_, fun o => ?_⟩
  · exact World.cell?_setCell_same _ _ _ h1
  · rw [World.cell?_setCell_other _ _ _ _ (by simp)]; exact h2
  · rw [World.cell?_setCell_other _ _ _ _ (by simp)]; exact h3
  · rw [World.frozen?_setCell]; exact h4 o
theorem Nv.set1 {w : World} {b : Nat} {x y z y' : Value} (h : Nv w b x y z) : Nv (w.setCell ⟨b, 1, none⟩ y') b x y' z := by
  obtain ⟨h0, h1, h2, h3, h4⟩ := h
  refine ⟨by simpa [World.setCell] using h0, ?_, ?_, ?_, fun o => ?_⟩
  · rw [World.cell?_setCell_other _ _ _ _ (by simp)]; exact h1
  · exact World.cell?_setCell_same _ _ _ h2
  · rw [World.cell?_setCell_other _ _ _ _ (by simp)]; exact h3
  · rw [World.frozen?_setCell]; exact h4 o
theorem undrew {n : Nat} {w w1 : World} (h : Below n w.drew w1) : Below n w w1 := ⟨h.os, h.tape, h.output, h.size, h.block⟩
theorem Mk.start1 {E T : TypeId} {w0 w1 : World} {W H : Int} {a : Option Addr} {n c : Nat} {cs : List Nat} (hb : Below w0.heap.size w0 w1) (ho : OC w1 w0.heap.size E (.slice a n c) cs) :
    Mk E w0 w1.heap.size W H cs (w1.alloc (.cells #[.int .i64 W, .int .i64 H, .slice a n c] T)) := by
  refine ⟨a, n, c, Nv.new _ _ _ _ _, ho.alloc _, fun e => ?_, hb.size, hb.alloc hb.size _⟩
  have := (ho.lt _ e).2
  omega
theorem Mk.start2 {E T : TypeId} {w0 w1 : World} {W H : Int} {x y z : Value} {a : Option Addr} {n c : Nat} {cs : List Nat} (hb : Below (w0.alloc (.cells #[x, y, z] T)).heap.size (w0.alloc (.cells #[x, y, z] T)) w1) (ho : OC w1 (w0.alloc (.cells #[x, y, z] T)).heap.size E (.slice a n c) cs) :
    Mk E w0 w0.heap.size W H cs (((w1.setCell ⟨w0.heap.size, 0, none⟩ (.int .i64 W)).setCell ⟨w0.heap.size, 1, none⟩ (.int .i64 H)).setCell ⟨w0.heap.size, 2, none⟩ (.slice a n c)) := by
  have hN := (Nv.new w0 x y z T).below hb
  simp only [World.size_alloc] at ho hb
  refine ⟨a, n, c, hN.set0.set1.set2, ?_, fun e => ?_, Nat.le_refl _, ?_⟩
  · exact OC.mono (((ho.set _ (Nat.lt_succ_self _)).set _ (Nat.lt_succ_self _)).set _ (Nat.lt_succ_self _)) (Nat.le_succ _)
  · have := (ho.lt _ e).1; omega
  · exact ((((below1 w0 _).trans (hb.mono (Nat.le_succ _))).setCell (by simp) _).setCell (by simp) _).setCell (by simp) _
/-- A step of a region that draws, its operation without a guard. -/
theorem step_plain {P : Program} {ops : Array Oper} {o : Oper} {a : Act} {w : World} {K : Act → World → Prop} {Q : Exit → Act → World → Prop} {E : Prop} (hg : o.guard = none) (h : Oper.wp P o a w K Q) :
    if Region.wanted o (yielded ops a.tmps) = true then Oper.wp P o a w K Q else E := by
  rw [if_pos (by simp [Region.wanted, hg])]; exact h
theorem Mk.pv3 {w0 wr w3 : World} {bp : Nat} {W H : Int} {v : Value} {o : Obj} {m : Nat} {row : Option Nat} (hp : Pv wr bp W H v) (hgrow : ((wr.alloc o).drewN m).grownBy w3 row) (hr : ∀ k, row = some k → w0.heap.size ≤ k) (hb : bp < w0.heap.size) : Pv w3 bp W H v :=
  ((hp.alloc o).drewN m).kept hgrow (fun e => by have := hr _ e; omega)
end Go.FX
namespace Go.Proofs.Ytmbohiebjgafoaa
open Go.FX Go.RowKit Go.WideShapes Go.ChangeShapes

theorem specNew_any (W H : Int) (w : World) : Calls Try.prog 81 #[.int .i64 W, .int .i64 H] w (RPic1 22 W H [] w) := by
  go_enter Try.func81, Try.ntmps81
  go_wp2
  refine bodyPost_ret (v := ?v) ?hr rfl ?post
  case hr => (simp [results, Try.results81, go_sem]; try rfl)
  case post =>
    have ho := World.ownsRow_lit (base := w.heap.size) (e := 22) (size := 1) (w.alloc (.cells #[.int .i64 W, .int .i64 H, .slice (some ⟨w.heap.size + 1, 0, none⟩) 0 0] 46)) #[] 0 (by simp) (by simp [maxLen]) (by simp)
    refine ⟨_, _, _, rfl, ?_, ?_⟩
    · ((repeat' (first | (refine bel_set ?_ ?_ _) | (refine bel_al ?_ ?_ _) | exact Below.refl _ _ | assumption | (refine below_drewN ?_ _) | (refine Below.drew ?_))) <;> (first | omega | (simp; done) | (simp; omega)))
    · exact ⟨[], by simp, rfl, by simpa using ho⟩


end Go.Proofs.Ytmbohiebjgafoaa
