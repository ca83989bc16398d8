import Derived.Test.YtaclgmafcakiiaaWu
set_option linter.unusedVariables false
set_option linter.unusedSimpArgs false
namespace Go.FX
open Go Go.RowKit
/-- A variable that holds the array of the first eight. -/
def A8 (w : World) (b : Nat) (bs : List Nat) : Prop := b < w.heap.size ∧ ∀ i, i < 8 → w.cell? ⟨b, i, none⟩ = some (.float .f32 (bs.getD i 0)) ∧ w.frozen? ⟨b, i, none⟩ = false
theorem A8.below {w w' : World} {b : Nat} {bs : List Nat} (h : A8 w b bs) (hb : Below w.heap.size w w') : A8 w' b bs :=
  ⟨Nat.lt_of_lt_of_le h.1 hb.size, fun i hi => ⟨((bcell hb).1 b i h.1).trans (h.2 i hi).1, ((bcell hb).2 b i h.1).trans (h.2 i hi).2⟩⟩
/-- What the winner beside the array before is: the winner of every row that is equal to it. -/
def WinOf (D : Nat) (bs : List Nat) (B : Int) : Prop := ∀ cs : List Nat, cs.length = D → (∀ d, d < D → feq (cs.getD d 0) (bs.getD d 0) = true) → winI cs (fun _ => true) = B
theorem winOf_self {D : Nat} {zs : List Nat} (hl : zs.length = D) : WinOf D zs (winI (zs.map (cn .f32)) (fun _ => true)) := fun cs hc h => by
  refine winI_feq (by rw [hc, List.length_map, hl]) (fun d hd => ?_) _
  have hd' : d < zs.length := by omega
  have := h d (by omega)
  rw [getD_map zs d hd']
  unfold feq at this ⊢
  rw [← this, ← order_cn _ (cs.getD d 0) (cn .f32 (zs.getD d 0)), cn_cn, order_cn]
theorem winOf_zero {D : Nat} (d1 : 1 ≤ D) : WinOf D [] 0 := fun cs hc h => by
  have hv : ∀ d, d < cs.length → validC cs (fun _ => true) d = true ∧ key .f32 (cs.getD d 0) = 0 := fun d hd => by
    obtain ⟨h1, _, h3⟩ := feq_key (h d (by omega))
    exact ⟨by unfold validC; rw [h1]; rfl, h3.trans (by rw [List.getD_nil]; decide)⟩
  have : (0 : Int) = ((0 : Nat) : Int) := rfl
  rw [this]
  refine winI_first (by omega) (hv 0 (by omega)).1 (fun e he => ?_) (fun e he => by omega)
  rw [less_key (hv e he).1 (hv 0 (by omega)).1, (hv e he).2, (hv 0 (by omega)).2]; rfl
theorem eq8_all {xs ys : List Nat} (h : eq8 xs ys = true) : ∀ d, d < 8 → feq (xs.getD d 0) (ys.getD d 0) = true := by
  unfold eq8 at h
  simp only [Bool.and_eq_true] at h
  obtain ⟨h0, h1, h2, h3, h4, h5, h6, h7⟩ := h
  intro d hd
  have : d = 0 ∨ d = 1 ∨ d = 2 ∨ d = 3 ∨ d = 4 ∨ d = 5 ∨ d = 6 ∨ d = 7 := by omega
  rcases this with rfl | rfl | rfl | rfl | rfl | rfl | rfl | rfl <;> assumption
theorem winOf_use {D : Nat} {bs zs : List Nat} {B : Int} (hw : WinOf D bs B) (hl : zs.length = D) (h8 : D ≤ 8) (h : eq8 zs bs = true) : winI (zs.map (cn .f32)) (fun _ => true) = B := by
  refine hw _ (by rw [List.length_map, hl]) fun d hd => ?_
  have := eq8_all h d (by omega)
  rw [getD_map zs d (by omega)]
  unfold feq at this ⊢
  rw [← this, ← order_cn _ (cn .f32 (zs.getD d 0)) (bs.getD d 0), cn_cn, order_cn]
end Go.FX
