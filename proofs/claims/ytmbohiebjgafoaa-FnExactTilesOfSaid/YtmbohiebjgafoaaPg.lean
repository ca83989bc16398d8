import Derived.Test.YtmbohiebjgafoaaFs
import Derived.Deep.AppendLies
import Derived.OneCell
set_option linter.unusedVariables false
set_option linter.unusedSimpArgs false
namespace Go.FX
open Go Go.RowKit

/-! Slices of 32-bit numbers up to the bits of not-a-numbers: as they read (FC), and as a row of the call's own (OC). -/
def FC (w : World) (v : Value) (cs : List Nat) : Prop := ∃ zs, FS w v zs ∧ zs.map (cn .f32) = cs
theorem FC.of {w : World} {v : Value} {zs : List Nat} (h : FS w v zs) : FC w v (zs.map (cn .f32)) := ⟨zs, h, rfl⟩
theorem FC.below {w w' : World} {v : Value} {cs : List Nat} (h : FC w v cs) (hb : Below w.heap.size w w') : FC w' v cs := by
  obtain ⟨zs, h1, h2⟩ := h; exact ⟨zs, h1.below hb, h2⟩
theorem FC.drewN {w : World} {v : Value} {cs : List Nat} (h : FC w v cs) (n : Nat) : FC (w.drewN n) v cs := h
theorem FC.alloc {w : World} {v : Value} {cs : List Nat} (h : FC w v cs) (o : Obj) : FC (w.alloc o) v cs := h.below (below1 w o)
theorem FC.shape {w : World} {v : Value} {cs : List Nat} (h : FC w v cs) : ∃ a cap, v = .slice a cs.length cap ∧ cs.length ≤ cap ∧ cap ≤ maxLen := by
  obtain ⟨zs, ⟨_, a, cap, hv, h1, h2, _⟩, rfl⟩ := h
  exact ⟨a, cap, by simpa using hv, by simpa using h1, h2⟩
theorem FC.sized {w : World} {a : Option Addr} {n c : Nat} {cs : List Nat} (h : FC w (.slice a n c) cs) : n = cs.length ∧ n ≤ c ∧ c ≤ maxLen := by
  obtain ⟨a', c', ev, h1, h2⟩ := h.shape
  simp only [Value.slice.injEq] at ev
  obtain ⟨_, e1, e2⟩ := ev
  exact ⟨e1, by rw [e1, e2]; exact h1, by rw [e2]; exact h2⟩
theorem getD_map (zs : List Nat) (k : Nat) (hk : k < zs.length) : (zs.map (cn .f32)).getD k 0 = cn .f32 (zs.getD k 0) := by
  simp [List.getD, hk]
theorem FC.cell {w : World} {v : Value} {cs : List Nat} (h : FC w v cs) {k : Nat} (hk : k < cs.length) :
    ∃ b off cap z, v = .slice (some ⟨b, off, none⟩) cs.length cap ∧ cs.length ≤ cap ∧ cap ≤ maxLen ∧ b < w.heap.size ∧ Fl .f32 z (cs.getD k 0) ∧ w.cell? ⟨b, off + k, none⟩ = some (.float .f32 z) := by
  obtain ⟨zs, hF, rfl⟩ := h
  have hk' : k < zs.length := by simpa using hk
  obtain ⟨b, off, cap, z, hv, h1, h2, hb, hz, lz, hc⟩ := hF.cell hk'
  exact ⟨b, off, cap, z, by simpa using hv, by simpa using h1, h2, hb, ⟨lz, by rw [hz, getD_map zs k hk']⟩, hc⟩

def OC (w : World) (base : Nat) (e : TypeId) (v : Value) (cs : List Nat) : Prop :=
  ∃ zs : List Nat, (∀ z ∈ zs, z < width .f32) ∧ zs.map (cn .f32) = cs ∧ w.ownsRow base e 1 v zs.length (zs.map (.float .f32))
theorem OC.nil (w : World) (base : Nat) (e : TypeId) : OC w base e (.slice none 0 0) [] := ⟨[], by simp, rfl, World.ownsRow_nil _ _ _ _⟩
theorem OC.lt {w : World} {base : Nat} {e : TypeId} {v : Value} {cs : List Nat} (h : OC w base e v cs) : ∀ k, v.ownBlock = some k → base ≤ k ∧ k < w.heap.size := by
  obtain ⟨zs, _, _, h3⟩ := h; exact h3.lt
theorem OC.kept {w w' : World} {base : Nat} {e : TypeId} {v : Value} {cs : List Nat} {row : Option Nat} (h : OC w base e v cs) (hg : w.grownBy w' row) (hne : v.ownBlock = none ∨ v.ownBlock ≠ row) : OC w' base e v cs := by
  obtain ⟨zs, h1, h2, h3⟩ := h; exact ⟨zs, h1, h2, h3.kept hg hne⟩
theorem grown_of_below {w w' : World} (h : Below w.heap.size w w') (row : Option Nat) : w.grownBy w' row := ⟨h.os, h.tape, h.output, h.size, fun k hk _ => h.block k hk⟩
theorem below_of_grown {w w' : World} {row : Option Nat} (h : w.grownBy w' row) {n : Nat} (hn : n ≤ w.heap.size) (hr : ∀ k, row = some k → n ≤ k) : Below n w w' :=
  (Below.refl _ _).grown h hn hr
theorem OC.below {w w' : World} {base : Nat} {e : TypeId} {v : Value} {cs : List Nat} (h : OC w base e v cs) (hb : Below w.heap.size w w') : OC w' base e v cs :=
  h.kept (grown_of_below hb none) (by cases hv : v.ownBlock <;> simp)
theorem OC.alloc {w : World} {base : Nat} {e : TypeId} {v : Value} {cs : List Nat} (h : OC w base e v cs) (o : Obj) : OC (w.alloc o) base e v cs := h.below (below1 w o)
theorem OC.drewN {w : World} {base : Nat} {e : TypeId} {v : Value} {cs : List Nat} (h : OC w base e v cs) (n : Nat) : OC (w.drewN n) base e v cs := h.below (below_drewN (Below.refl _ _) n)
theorem OC.mono {w : World} {base base' : Nat} {e : TypeId} {v : Value} {cs : List Nat} (h : OC w base e v cs) (hb : base' ≤ base) : OC w base' e v cs := by
  obtain ⟨zs, h1, h2, h3, h4⟩ := h
  refine ⟨zs, h1, h2, h3, ?_⟩
  rcases h4 with h4 | ⟨g, cap, cur, a, b, c⟩
  · exact .inl h4
  · exact .inr ⟨g, cap, cur, a, Nat.le_trans hb b, c⟩
theorem OC.fc {w : World} {base : Nat} {e : TypeId} {v : Value} {cs : List Nat} (h : OC w base e v cs) : FC w v cs := by
  obtain ⟨zs, h1, h2, h3⟩ := h
  refine ⟨zs, ⟨h1, ?_⟩, h2⟩
  rcases h3.2 with ⟨hv, h0⟩ | ⟨g, cap, cur, hv, _, hg, hn, hm, _⟩
  · refine ⟨none, 0, by rw [hv, h0], by omega, by simp [maxLen], .inl (List.length_eq_zero_iff.1 h0)⟩
  · refine ⟨some ⟨g, 0, none⟩, cap, hv, hn, hm, .inr ⟨g, 0, rfl, (Array.getElem?_eq_some_iff.1 hg).1, fun i hi => ?_⟩⟩
    subst hv
    rw [Nat.zero_add, h3.cellAt i (by omega)]; simp [List.getD, hi]
theorem OC.of {w : World} {base : Nat} {e : TypeId} {v : Value} {zs : List Nat} (hz : ∀ z ∈ zs, z < width .f32) (h : w.ownsRow base e 1 v zs.length (zs.map (.float .f32))) : OC w base e v (zs.map (cn .f32)) := ⟨zs, hz, rfl, h⟩
theorem OC.len {w : World} {base : Nat} {e : TypeId} {v : Value} {cs : List Nat} (h : OC w base e v cs) : ∃ a cap, v = .slice a cs.length cap ∧ cs.length ≤ cap ∧ cap ≤ maxLen := h.fc.shape
/-- One number more. -/
theorem OC.push {w' : World} {base : Nat} {e : TypeId} {v' : Value} {zs cs : List Nat} {r c : Nat} (hz : ∀ z ∈ zs, z < width .f32) (hm : zs.map (cn .f32) = cs) (hr : Fl .f32 r c)
    (h : w'.ownsRow base e 1 v' (zs.length + 1) (zs.map (.float .f32) ++ [.float .f32 r])) : OC w' base e v' (cs ++ [c]) := by
  refine ⟨zs ++ [r], ?_, by rw [List.map_append, hm]; simp [hr.eq], by simpa using h⟩
  intro z hz'
  rcases List.mem_append.1 hz' with h1 | h1
  · exact hz z h1
  · simp at h1; rw [h1]; exact hr.lt

theorem OC.set {w : World} {base : Nat} {e : TypeId} {v : Value} {cs : List Nat} (h : OC w base e v cs) {a : Addr} (u : Value) (ha : a.block < base) : OC (w.setCell a u) base e v cs := by
  obtain ⟨zs, h1, h2, h3⟩ := h; exact ⟨zs, h1, h2, ownsRow_setCell_below h3 ha u⟩

theorem own_none (v : Value) : v.ownBlock = none ∨ v.ownBlock ≠ none := Classical.em _
/-- A row of the call's own behind an append of one number to it. -/
theorem OC.appended {w w' : World} {base : Nat} {e : TypeId} {v v' : Value} {zs cs : List Nat} {r c : Nat} (hz : ∀ z ∈ zs, z < width .f32) (hm : zs.map (cn .f32) = cs) (hr : Fl .f32 r c)
    (h0 : w.ownsRow base e 1 v zs.length (zs.map (.float .f32))) (hg : w.grownBy w' v.ownBlock)
    (h : w'.ownsRow base e 1 v' (zs.length + 1) (zs.map (.float .f32) ++ [.float .f32 r])) :
    ∃ a n k, v' = .slice a n k ∧ OC w' base e (.slice a n k) (cs ++ [c]) ∧ ∀ b, b < base → some b ≠ v.ownBlock := by
  obtain ⟨g, cap, rfl, _, _⟩ := h.form (by omega)
  refine ⟨_, _, _, rfl, OC.push hz hm hr h, fun b hb hbe => ?_⟩
  have := (h0.lt b hbe.symm).1
  omega

/-! A variable (or a box) with a picture. -/
def Pv (w : World) (b : Nat) (W H : Int) (v : Value) : Prop := b < w.heap.size ∧ w.cell? ⟨b, 0, none⟩ = some (.int .i64 W) ∧ w.cell? ⟨b, 1, none⟩ = some (.int .i64 H) ∧ w.cell? ⟨b, 2, none⟩ = some v
theorem Pv.below {w w' : World} {b : Nat} {W H : Int} {v : Value} (h : Pv w b W H v) (hb : Below w.heap.size w w') : Pv w' b W H v := by
  obtain ⟨h0, h1, h2, h3⟩ := h
  have hc := (bcell hb).1
  exact ⟨Nat.lt_of_lt_of_le h0 hb.size, by rw [hc _ _ h0]; exact h1, by rw [hc _ _ h0]; exact h2, by rw [hc _ _ h0]; exact h3⟩
theorem Pv.kept {w w' : World} {b : Nat} {W H : Int} {v : Value} {row : Option Nat} (h : Pv w b W H v) (hg : w.grownBy w' row) (hne : row ≠ some b) : Pv w' b W H v := by
  obtain ⟨h0, h1, h2, h3⟩ := h
  have hc : ∀ o, w'.cell? ⟨b, o, none⟩ = w.cell? ⟨b, o, none⟩ := fun o => World.cell?_of_block (hg.block b h0 (fun e => hne e.symm))
  exact ⟨Nat.lt_of_lt_of_le h0 hg.size, by rw [hc]; exact h1, by rw [hc]; exact h2, by rw [hc]; exact h3⟩
theorem Pv.alloc {w : World} {b : Nat} {W H : Int} {v : Value} (h : Pv w b W H v) (o : Obj) : Pv (w.alloc o) b W H v := h.below (below1 w o)
theorem Pv.drewN {w : World} {b : Nat} {W H : Int} {v : Value} (h : Pv w b W H v) (n : Nat) : Pv (w.drewN n) b W H v := h
theorem Pv.new (w : World) (W H : Int) (v : Value) (T : TypeId) : Pv (w.alloc (.cells #[.int .i64 W, .int .i64 H, v] T)) w.heap.size W H v := by
  refine ⟨by simp, ?_, ?_, ?_⟩ <;> go_simp
/-! A block of three cells of the call's own. -/
def Nv (w : World) (b : Nat) (x y z : Value) : Prop := b < w.heap.size ∧ w.cell? ⟨b, 0, none⟩ = some x ∧ w.cell? ⟨b, 1, none⟩ = some y ∧ w.cell? ⟨b, 2, none⟩ = some z ∧ ∀ o, w.frozen? ⟨b, o, none⟩ = false
theorem Nv.below {w w' : World} {b : Nat} {x y z : Value} (h : Nv w b x y z) (hb : Below w.heap.size w w') : Nv w' b x y z := by
  obtain ⟨h0, h1, h2, h3, h4⟩ := h
  have hc := (bcell hb).1
  have hf := (bcell hb).2
  exact ⟨Nat.lt_of_lt_of_le h0 hb.size, by rw [hc _ _ h0]; exact h1, by rw [hc _ _ h0]; exact h2, by rw [hc _ _ h0]; exact h3, fun o => by rw [hf _ _ h0]; exact h4 o⟩
theorem Nv.kept {w w' : World} {b : Nat} {x y z : Value} {row : Option Nat} (h : Nv w b x y z) (hg : w.grownBy w' row) (hne : row ≠ some b) : Nv w' b x y z := by
  obtain ⟨h0, h1, h2, h3, h4⟩ := h
  have hc : ∀ o, w'.cell? ⟨b, o, none⟩ = w.cell? ⟨b, o, none⟩ := fun o => World.cell?_of_block (hg.block b h0 (fun e => hne e.symm))
  have hf : ∀ o, w'.frozen? ⟨b, o, none⟩ = w.frozen? ⟨b, o, none⟩ := fun o => World.frozen?_of_block (a := ⟨b, o, none⟩) (hg.block b h0 (fun e => hne e.symm))
  exact ⟨Nat.lt_of_lt_of_le h0 hg.size, by rw [hc]; exact h1, by rw [hc]; exact h2, by rw [hc]; exact h3, fun o => by rw [hf]; exact h4 o⟩
theorem Nv.new (w : World) (x y z : Value) (T : TypeId) : Nv (w.alloc (.cells #[x, y, z] T)) w.heap.size x y z := by
  refine ⟨by simp, ?_, ?_, ?_, fun o => ?_⟩ <;> go_simp
theorem Nv.alloc {w : World} {b : Nat} {x y z : Value} (h : Nv w b x y z) (o : Obj) : Nv (w.alloc o) b x y z := h.below (below1 w o)
theorem Nv.drewN {w : World} {b : Nat} {x y z : Value} (h : Nv w b x y z) (n : Nat) : Nv (w.drewN n) b x y z := h
theorem Nv.pv {w : World} {b : Nat} {W H : Int} {v : Value} (h : Nv w b (.int .i64 W) (.int .i64 H) v) : Pv w b W H v := ⟨h.1, h.2.1, h.2.2.1, h.2.2.2.1⟩
theorem Nv.set2 {w : World} {b : Nat} {x y z z' : Value} (h : Nv w b x y z) : Nv (w.setCell ⟨b, 2, none⟩ z') b x y z' := by
  obtain ⟨h0, h1, h2, h3, h4⟩ := h
  refine ⟨by simpa [World.setCell] using h0, ?_, ?_, ?_, fun o => ?_⟩
  · rw [World.cell?_setCell_other _ _ _ _ (by simp)]; exact h1
  · rw [World.cell?_setCell_other _ _ _ _ (by simp)]; exact h2
  · exact World.cell?_setCell_same _ _ _ h3
  · rw [World.frozen?_setCell]; exact h4 o
theorem Below.kept {n : Nat} {a w w' : World} {row : Option Nat} (h : Below n a w) (hg : w.grownBy w' row) (hn : n ≤ w.heap.size) (hr : ∀ k, row = some k → n ≤ k) : Below n a w' := h.grown hg hn hr
theorem bel_al {n : Nat} {a w : World} (h : Below n a w) (hn : n ≤ w.heap.size) (o : Obj) : Below n a (w.alloc o) := h.alloc hn o
theorem bel_set {n : Nat} {a w : World} {p : Addr} (h : Below n a w) (hp : n ≤ p.block) (u : Value) : Below n a (w.setCell p u) := h.setCell hp u

/-! What a call returns that gives a picture. -/
def RPic (E : TypeId) (W H : Int) (cs : List Nat) (ok : Bool) (w : World) (e : Ending) (w' : World) : Prop :=
  ∃ a n c, e = .returned (.tuple #[.agg #[.int .i64 W, .int .i64 H, .slice a n c], .bool ok]) ∧ Below w.heap.size w w' ∧ OC w' w.heap.size E (.slice a n c) cs
def RPic1 (E : TypeId) (W H : Int) (cs : List Nat) (w : World) (e : Ending) (w' : World) : Prop :=
  ∃ a n c, e = .returned (.agg #[.int .i64 W, .int .i64 H, .slice a n c]) ∧ Below w.heap.size w w' ∧ OC w' w.heap.size E (.slice a n c) cs

/-! Cells in rows. -/
def gridL (W : Nat) (G : Int → Int → Nat) (n : Nat) : List Nat := (List.range n).map fun i => G ((i % W : Nat) : Int) ((i / W : Nat) : Int)
theorem gridL_len (W : Nat) (G : Int → Int → Nat) (n : Nat) : (gridL W G n).length = n := by simp [gridL]
theorem gridL_zero (W : Nat) (G : Int → Int → Nat) : gridL W G 0 = [] := rfl
theorem gridL_succ (W : Nat) (G : Int → Int → Nat) (n : Nat) : gridL W G (n + 1) = gridL W G n ++ [G ((n % W : Nat) : Int) ((n / W : Nat) : Int)] := by
  simp [gridL, List.range_succ]
theorem place_mod {W x : Nat} (y : Nat) (hx : x < W) : (y * W + x) % W = x := by rw [Nat.mul_comm, Nat.mul_add_mod, Nat.mod_eq_of_lt hx]
theorem place_div {W x : Nat} (y : Nat) (hx : x < W) : (y * W + x) / W = y := by
  rw [Nat.mul_comm, Nat.mul_add_div (by omega), Nat.div_eq_of_lt hx, Nat.add_zero]
theorem gridL_step (W : Nat) (G : Int → Int → Nat) {x : Nat} (y : Nat) (hx : x < W) : gridL W G (y * W + (x + 1)) = gridL W G (y * W + x) ++ [G (x : Int) (y : Int)] := by
  rw [← Nat.add_assoc, gridL_succ, place_mod y hx, place_div y hx]
theorem gridL_row (W : Nat) (G : Int → Int → Nat) (y : Nat) : gridL W G (y * W + W) = gridL W G ((y + 1) * W + 0) := by rw [Nat.succ_mul, Nat.add_zero]
theorem gridL_congr {W H : Nat} {G G' : Int → Int → Nat} (h : ∀ x y : Nat, x < W → y < H → G x y = G' x y) : gridL W G (H * W) = gridL W G' (H * W) := by
  unfold gridL
  apply List.map_congr_left
  intro i hi
  have hi' : i < H * W := List.mem_range.1 hi
  have hW : 0 < W := by rcases Nat.eq_zero_or_pos W with h0 | h0; · subst h0; simp at hi'
                        · exact h0
  exact h _ _ (Nat.mod_lt _ hW) (Nat.div_lt_of_lt_mul (by rw [Nat.mul_comm]; exact hi'))
/-- The cells of a list themselves. -/
theorem gridL_self (W H : Nat) (cs : List Nat) (hl : cs.length = H * W) : gridL W (fun x y => cs.getD (x + W * y).toNat 0) (H * W) = cs := by
  unfold gridL
  apply List.ext_getElem
  · simp [hl]
  · intro i h1 h2
    have e : (((i % W : Nat) : Int) + (W : Int) * ((i / W : Nat) : Int)).toNat = i := by
      have := Nat.mod_add_div i W
      rw [show ((i % W : Nat) : Int) + (W : Int) * ((i / W : Nat) : Int) = ((i % W + W * (i / W) : Nat) : Int) by push_cast; rfl, this]; rfl
    simp only [List.getElem_map, List.getElem_range, e]
    simp [List.getD, h2]

/-- The nearest one from 0 to m. -/
def nearI (m x : Int) : Int := if x < 0 then 0 else if m < x then m else x
theorem nearI_ge (m x : Int) (hm : 0 ≤ m) : 0 ≤ nearI m x := by unfold nearI; split <;> (try split) <;> omega
theorem nearI_le (m x : Int) (hm : 0 ≤ m) : nearI m x ≤ m := by unfold nearI; split <;> (try split) <;> omega
theorem nearI_in (m x : Int) (h0 : 0 ≤ x) (h1 : x ≤ m) : nearI m x = x := by unfold nearI; rw [if_neg (by omega), if_neg (by omega)]
/-- The grey about a place. -/
def atC (W H : Nat) (cs : List Nat) (x y : Int) : Nat := cs.getD ((nearI (W - 1) x) + W * (nearI (H - 1) y)).toNat 0
theorem atC_in {W H : Nat} (cs : List Nat) {x y : Int} (h1 : 0 ≤ x) (h2 : x < W) (h3 : 0 ≤ y) (h4 : y < H) : atC W H cs x y = cs.getD (x + W * y).toNat 0 := by
  unfold atC; rw [nearI_in _ _ h1 (by omega), nearI_in _ _ h3 (by omega)]
theorem place_lt {W H : Nat} {u v : Int} (h1 : 0 ≤ u) (h2 : u ≤ W - 1) (h3 : 0 ≤ v) (h4 : v ≤ H - 1) : 0 ≤ u + W * v ∧ u + W * v < ((H * W : Nat) : Int) := by
  have a : 0 ≤ (W : Int) * v := Int.mul_nonneg (by omega) h3
  have b : (W : Int) * v ≤ (W : Int) * (H - 1) := Int.mul_le_mul_of_nonneg_left h4 (by omega)
  have c : (W : Int) * (H - 1) = ((H * W : Nat) : Int) - W := by push_cast; rw [Int.mul_sub, Int.mul_one, Int.mul_comm]
  omega

/-- May pictures have this size, and so many greys? -/
def sizeB (W H : Int) : Bool := decide (1 ≤ W ∧ W ≤ 24 ∧ 1 ≤ H ∧ H ≤ 24 ∧ W * H ≤ 256)
def validB (W H : Int) (n : Nat) : Bool := sizeB W H && decide ((n : Int) = W * H)
theorem sizeB_iff {W H : Int} : sizeB W H = true ↔ 1 ≤ W ∧ W ≤ 24 ∧ 1 ≤ H ∧ H ≤ 24 ∧ W * H ≤ 256 := by simp [sizeB]
theorem validB_parts {W H : Int} {n : Nat} (h : validB W H n = true) : ∃ wn hn : Nat, W = wn ∧ H = hn ∧ 1 ≤ wn ∧ wn ≤ 24 ∧ 1 ≤ hn ∧ hn ≤ 24 ∧ hn * wn ≤ 256 ∧ n = hn * wn := by
  unfold validB at h
  rw [Bool.and_eq_true, sizeB_iff, decide_eq_true_eq] at h
  obtain ⟨⟨h1, h2, h3, h4, h5⟩, h6⟩ := h
  obtain ⟨wn, rfl⟩ := Int.eq_ofNat_of_zero_le (show 0 ≤ W by omega)
  obtain ⟨hn, rfl⟩ := Int.eq_ofNat_of_zero_le (show 0 ≤ H by omega)
  refine ⟨wn, hn, rfl, rfl, by omega, by omega, by omega, by omega, ?_, ?_⟩
  · have e : ((wn * hn : Nat) : Int) ≤ 256 := by rw [Int.natCast_mul]; exact h5
    rw [Nat.mul_comm]; omega
  · have e : ((wn * hn : Nat) : Int) = n := by rw [Int.natCast_mul]; exact h6.symm
    rw [Nat.mul_comm]; omega
theorem validB_mk {wn hn n : Nat} (h1 : 1 ≤ wn) (h2 : wn ≤ 24) (h3 : 1 ≤ hn) (h4 : hn ≤ 24) (h5 : hn * wn ≤ 256) (h6 : n = hn * wn) : validB wn hn n = true := by
  unfold validB
  rw [Bool.and_eq_true, sizeB_iff, decide_eq_true_eq]
  refine ⟨⟨by omega, by omega, by omega, by omega, ?_⟩, ?_⟩
  · rw [Int.mul_comm, ← Int.natCast_mul]; omega
  · rw [Int.mul_comm, ← Int.natCast_mul, h6]
theorem area_lo {W H : Int} (h1 : 1 ≤ W) (h2 : 1 ≤ H) : 1 ≤ W * H := by
  have := Int.mul_le_mul h1 h2 (by omega) (by omega); simpa using this
theorem area_hi {W H : Int} (h1 : 1 ≤ W) (h2 : W ≤ 24) (h3 : 1 ≤ H) (h4 : H ≤ 24) : W * H ≤ 576 := by
  have := Int.mul_le_mul h2 h4 (by omega) (by omega); simpa using this

/-! Marks: whole numbers as floats. -/
def fi (k : Int) : Nat := floatOfInt .f32 k
theorem fi_lt (k : Int) : fi k < width .f32 := by have := floatOfInt_wf .f32 k; simpa [Lit.wf, width, fi] using this
theorem fi_not (k : Int) : isN .f32 (fi k) = false := write_not .f32 (.number (k < 0) k.natAbs 0) rfl
def marks (k : Int) (n : Nat) : List Nat := (List.range n).map fun i : Nat => fi (k + (i : Int))
theorem marks_len (k : Int) (n : Nat) : (marks k n).length = n := by simp [marks]
theorem marks_cn (k : Int) (n : Nat) : (marks k n).map (cn .f32) = marks k n := by
  simp only [marks, List.map_map]
  apply List.map_congr_left
  intro i _
  exact cn_of_not (fi_not _)
theorem marks_wf (k : Int) (n : Nat) : ∀ z ∈ marks k n, z < width .f32 := by
  intro z hz
  obtain ⟨i, _, rfl⟩ := List.mem_map.1 hz
  exact fi_lt _
theorem marks_succ (k : Int) (n : Nat) : marks k (n + 1) = marks k n ++ [fi (k + n)] := by simp [marks, List.range_succ]
/-- Marks so far, then what was there. -/
def mkAt (zs : List Nat) (k : Int) (j : Nat) : List Nat := marks k j ++ zs.drop j
theorem mkAt_zero (zs : List Nat) (k : Int) : mkAt zs k 0 = zs := by simp [mkAt, marks]
theorem mkAt_end (zs : List Nat) (k : Int) (j : Nat) (h : zs.length ≤ j) : mkAt zs k j = marks k j := by simp [mkAt, List.drop_eq_nil_of_le h]
theorem mkAt_len (zs : List Nat) (k : Int) (j : Nat) (h : j ≤ zs.length) : (mkAt zs k j).length = zs.length := by simp [mkAt, marks_len]; omega
theorem mkAt_set (zs : List Nat) (k : Int) (j : Nat) (h : j < zs.length) : (mkAt zs k j).set j (fi (k + j)) = mkAt zs k (j + 1) := by
  unfold mkAt
  rw [List.set_append_right _ _ (by rw [marks_len]; omega), marks_len, Nat.sub_self, marks_succ, List.append_assoc]
  congr 1
  rw [List.drop_eq_getElem_cons h, List.set_cons_zero]; rfl
theorem grown_trans {a b c : World} {row : Option Nat} (h : a.grownBy b row) (g : b.grownBy c row) : a.grownBy c row :=
  ⟨g.os.trans h.os, g.tape.trans h.tape, g.output.trans h.output, Nat.le_trans h.size g.size, fun k hk hr => (g.block k (Nat.lt_of_lt_of_le hk h.size) hr).trans (h.block k hk hr)⟩
theorem marks_get (k : Int) (n i : Nat) (h : i < n) : (marks k n).getD i 0 = fi (k + i) := by simp [marks, List.getD, h]
end Go.FX
namespace Go.FX
open Go Ieee
theorem product_comm (a b : Datum) : a.product b = b.product a := by
  cases a <;> cases b <;> simp [Datum.product, Bool.xor_comm, Nat.mul_comm, Int.add_comm]
theorem fop_mul_comm (k : FloatKind) (x y : Nat) : fop .mul k x y = fop .mul k y x := by
  unfold fop
  have : floatBits .mul k x y = floatBits .mul k y x := by
    simp only [floatBits, Format.mul]
    rw [product_comm]
  rw [this]
theorem fop_nan_left (op : BinOp) (k : FloatKind) {x : Nat} (y : Nat) (h : isN k x = true) : fop op k x y = qn k := by
  unfold fop; rw [bits_nan_left h]; rfl
theorem fop_nan_right (op : BinOp) (k : FloatKind) (x : Nat) {y : Nat} (h : isN k y = true) : fop op k x y = qn k := by
  unfold fop; rw [bits_nan_right h]; rfl
end Go.FX
