import Derived.Test.YtmbohiebjgafoaaPg
set_option linter.unusedVariables false
set_option linter.unusedSimpArgs false
namespace Go.FX
open Go Go.RowKit

/-! A variable (or a box) with a volume: three integers and a slice. -/
def Pw (w : World) (b : Nat) (W H D : Int) (v : Value) : Prop := b < w.heap.size ∧ w.cell? ⟨b, 0, none⟩ = some (.int .i64 W) ∧ w.cell? ⟨b, 1, none⟩ = some (.int .i64 H) ∧ w.cell? ⟨b, 2, none⟩ = some (.int .i64 D) ∧ w.cell? ⟨b, 3, none⟩ = some v
theorem Pw.below {w w' : World} {b : Nat} {W H D : Int} {v : Value} (h : Pw w b W H D v) (hb : Below w.heap.size w w') : Pw w' b W H D v := by
  obtain ⟨h0, h1, h2, h3, h4⟩ := h
  have hc := (bcell hb).1
  exact ⟨Nat.lt_of_lt_of_le h0 hb.size, by rw [hc _ _ h0]; exact h1, by rw [hc _ _ h0]; exact h2, by rw [hc _ _ h0]; exact h3, by rw [hc _ _ h0]; exact h4⟩
theorem Pw.kept {w w' : World} {b : Nat} {W H D : Int} {v : Value} {row : Option Nat} (h : Pw w b W H D v) (hg : w.grownBy w' row) (hne : row ≠ some b) : Pw w' b W H D v := by
  obtain ⟨h0, h1, h2, h3, h4⟩ := h
  have hc : ∀ o, w'.cell? ⟨b, o, none⟩ = w.cell? ⟨b, o, none⟩ := fun o => World.cell?_of_block (hg.block b h0 (fun e => hne e.symm))
  exact ⟨Nat.lt_of_lt_of_le h0 hg.size, by rw [hc]; exact h1, by rw [hc]; exact h2, by rw [hc]; exact h3, by rw [hc]; exact h4⟩
theorem Pw.alloc {w : World} {b : Nat} {W H D : Int} {v : Value} (h : Pw w b W H D v) (o : Obj) : Pw (w.alloc o) b W H D v := h.below (below1 w o)
theorem Pw.drewN {w : World} {b : Nat} {W H D : Int} {v : Value} (h : Pw w b W H D v) (n : Nat) : Pw (w.drewN n) b W H D v := h
theorem Pw.new (w : World) (W H D : Int) (v : Value) (T : TypeId) : Pw (w.alloc (.cells #[.int .i64 W, .int .i64 H, .int .i64 D, v] T)) w.heap.size W H D v := by
  refine ⟨by simp, ?_, ?_, ?_, ?_⟩ <;> go_simp
/-! A block of four cells of the call's own. -/
def Nw (w : World) (b : Nat) (x y z u : Value) : Prop := b < w.heap.size ∧ w.cell? ⟨b, 0, none⟩ = some x ∧ w.cell? ⟨b, 1, none⟩ = some y ∧ w.cell? ⟨b, 2, none⟩ = some z ∧ w.cell? ⟨b, 3, none⟩ = some u ∧ ∀ o, w.frozen? ⟨b, o, none⟩ = false
theorem Nw.below {w w' : World} {b : Nat} {x y z u : Value} (h : Nw w b x y z u) (hb : Below w.heap.size w w') : Nw w' b x y z u := by
  obtain ⟨h0, h1, h2, h3, h4, h5⟩ := h
  have hc := (bcell hb).1
  have hf := (bcell hb).2
  exact ⟨Nat.lt_of_lt_of_le h0 hb.size, by rw [hc _ _ h0]; exact h1, by rw [hc _ _ h0]; exact h2, by rw [hc _ _ h0]; exact h3, by rw [hc _ _ h0]; exact h4, fun o => by rw [hf _ _ h0]; exact h5 o⟩
theorem Nw.kept {w w' : World} {b : Nat} {x y z u : Value} {row : Option Nat} (h : Nw w b x y z u) (hg : w.grownBy w' row) (hne : row ≠ some b) : Nw w' b x y z u := by
  obtain ⟨h0, h1, h2, h3, h4, h5⟩ := h
  have hc : ∀ o, w'.cell? ⟨b, o, none⟩ = w.cell? ⟨b, o, none⟩ := fun o => World.cell?_of_block (hg.block b h0 (fun e => hne e.symm))
  have hf : ∀ o, w'.frozen? ⟨b, o, none⟩ = w.frozen? ⟨b, o, none⟩ := fun o => World.frozen?_of_block (a := ⟨b, o, none⟩) (hg.block b h0 (fun e => hne e.symm))
  exact ⟨Nat.lt_of_lt_of_le h0 hg.size, by rw [hc]; exact h1, by rw [hc]; exact h2, by rw [hc]; exact h3, by rw [hc]; exact h4, fun o => by rw [hf]; exact h5 o⟩
theorem Nw.new (w : World) (x y z u : Value) (T : TypeId) : Nw (w.alloc (.cells #[x, y, z, u] T)) w.heap.size x y z u := by
  refine ⟨by simp, ?_, ?_, ?_, ?_, fun o => ?_⟩ <;> go_simp
theorem Nw.alloc {w : World} {b : Nat} {x y z u : Value} (h : Nw w b x y z u) (o : Obj) : Nw (w.alloc o) b x y z u := h.below (below1 w o)
theorem Nw.drewN {w : World} {b : Nat} {x y z u : Value} (h : Nw w b x y z u) (n : Nat) : Nw (w.drewN n) b x y z u := h
theorem Nw.pw {w : World} {b : Nat} {W H D : Int} {v : Value} (h : Nw w b (.int .i64 W) (.int .i64 H) (.int .i64 D) v) : Pw w b W H D v := ⟨h.1, h.2.1, h.2.2.1, h.2.2.2.1, h.2.2.2.2.1⟩
theorem Nw.set3 {w : World} {b : Nat} {x y z u u' : Value} (h : Nw w b x y z u) : Nw (w.setCell ⟨b, 3, none⟩ u') b x y z u' := by
  obtain ⟨h0, h1, h2, h3, h4, h5⟩ := h
  refine ⟨by simpa [World.setCell] using h0, ?_, ?_, ?_, ?_, fun o => ?_⟩
  · rw [World.cell?_setCell_other _ _ _ _ (by simp)]; exact h1
  · rw [World.cell?_setCell_other _ _ _ _ (by simp)]; exact h2
  · rw [World.cell?_setCell_other _ _ _ _ (by simp)]; exact h3
  · exact World.cell?_setCell_same _ _ _ h4
  · rw [World.frozen?_setCell]; exact h5 o

/-! What a call returns that gives a volume. -/
def RVol (E : TypeId) (W H D : Int) (cs : List Nat) (ok : Bool) (w : World) (e : Ending) (w' : World) : Prop :=
  ∃ a n c, e = .returned (.tuple #[.agg #[.int .i64 W, .int .i64 H, .int .i64 D, .slice a n c], .bool ok]) ∧ Below w.heap.size w w' ∧ OC w' w.heap.size E (.slice a n c) cs
def RVol1 (E : TypeId) (W H D : Int) (cs : List Nat) (w : World) (e : Ending) (w' : World) : Prop :=
  ∃ a n c, e = .returned (.agg #[.int .i64 W, .int .i64 H, .int .i64 D, .slice a n c]) ∧ Below w.heap.size w w' ∧ OC w' w.heap.size E (.slice a n c) cs

/-! Lists by places. -/
def seqL (F : Nat → Nat) (n : Nat) : List Nat := (List.range n).map F
theorem seqL_len (F : Nat → Nat) (n : Nat) : (seqL F n).length = n := by simp [seqL]
theorem seqL_zero (F : Nat → Nat) : seqL F 0 = [] := rfl
theorem seqL_succ (F : Nat → Nat) (n : Nat) : seqL F (n + 1) = seqL F n ++ [F n] := by simp [seqL, List.range_succ]
theorem seqL_congr {F F' : Nat → Nat} {n : Nat} (h : ∀ i, i < n → F i = F' i) : seqL F n = seqL F' n := by
  unfold seqL; apply List.map_congr_left; intro i hi; exact h i (List.mem_range.1 hi)
theorem seqL_self (cs : List Nat) : seqL (fun i => cs.getD i 0) cs.length = cs := by
  unfold seqL
  apply List.ext_getElem
  · simp
  · intro i h1 h2; simp [List.getD, h2]
theorem seqL_get (F : Nat → Nat) (n i : Nat) (h : i < n) : (seqL F n).getD i 0 = F i := by simp [seqL, List.getD, h]
theorem gridL_seq (W : Nat) (G : Int → Int → Nat) (n : Nat) : gridL W G n = seqL (fun i => G ((i % W : Nat) : Int) ((i / W : Nat) : Int)) n := rfl
/-- Costs of cells in rows. -/
def cubeF (W D : Nat) (G : Nat → Nat → Nat → Nat) (i : Nat) : Nat := G (i / D % W) (i / D / W) (i % D)
def cubeL (W D : Nat) (G : Nat → Nat → Nat → Nat) (n : Nat) : List Nat := seqL (cubeF W D G) n
theorem cubeL_len (W D : Nat) (G : Nat → Nat → Nat → Nat) (n : Nat) : (cubeL W D G n).length = n := seqL_len _ _
theorem cubeF_at {W D : Nat} (G : Nat → Nat → Nat → Nat) {x d : Nat} (y : Nat) (hx : x < W) (hd : d < D) : cubeF W D G ((y * W + x) * D + d) = G x y d := by
  unfold cubeF
  rw [place_div _ hd, place_mod _ hd, place_mod _ hx, place_div _ hx]
theorem cubeL_step (W D : Nat) (G : Nat → Nat → Nat → Nat) {x d : Nat} (y : Nat) (hx : x < W) (hd : d < D) : cubeL W D G ((y * W + x) * D + (d + 1)) = cubeL W D G ((y * W + x) * D + d) ++ [G x y d] := by
  unfold cubeL
  rw [← Nat.add_assoc, seqL_succ, cubeF_at G y hx hd]
theorem cubeL_cell (W D : Nat) (G : Nat → Nat → Nat → Nat) (x y : Nat) : cubeL W D G ((y * W + x) * D + D) = cubeL W D G ((y * W + (x + 1)) * D + 0) := by
  rw [← Nat.add_assoc, Nat.succ_mul, Nat.add_zero]
theorem cubeL_row (W D : Nat) (G : Nat → Nat → Nat → Nat) (y : Nat) : cubeL W D G ((y * W + W) * D + 0) = cubeL W D G (((y + 1) * W + 0) * D + 0) := by
  rw [Nat.succ_mul, Nat.add_zero, Nat.add_zero, Nat.add_zero]
theorem cube_place {W H D i : Nat} (h : i < H * W * D) : i / D % W < W ∧ i / D / W < H ∧ i % D < D ∧ i = ((i / D / W) * W + i / D % W) * D + i % D := by
  have hD : 0 < D := by rcases Nat.eq_zero_or_pos D with h0 | h0; · subst h0; simp at h
                        · exact h0
  have hW : 0 < W := by rcases Nat.eq_zero_or_pos W with h0 | h0; · subst h0; simp at h
                        · exact h0
  have h1 : i / D < H * W := Nat.div_lt_of_lt_mul (by rw [Nat.mul_comm]; exact h)
  refine ⟨Nat.mod_lt _ hW, Nat.div_lt_of_lt_mul (by rw [Nat.mul_comm]; exact h1), Nat.mod_lt _ hD, ?_⟩
  have e1 : i / D / W * W + i / D % W = i / D := by rw [Nat.mul_comm]; exact Nat.div_add_mod _ _
  rw [e1, Nat.mul_comm]; exact (Nat.div_add_mod i D).symm
theorem cubeL_congr {W H D : Nat} {G G' : Nat → Nat → Nat → Nat} (h : ∀ x y d, x < W → y < H → d < D → G x y d = G' x y d) : cubeL W D G (H * W * D) = cubeL W D G' (H * W * D) := by
  refine seqL_congr fun i hi => ?_
  obtain ⟨h1, h2, h3, _⟩ := cube_place hi
  exact h _ _ _ h1 h2 h3
/-- A volume's own costs. -/
def costC (W D : Nat) (cs : List Nat) (x y d : Nat) : Nat := cs.getD ((y * W + x) * D + d) 0
theorem cubeL_self (W H D : Nat) (cs : List Nat) (hl : cs.length = H * W * D) : cubeL W D (costC W D cs) (H * W * D) = cs := by
  refine Eq.trans (seqL_congr (F' := fun i => cs.getD i 0) fun i hi => ?_) (by rw [← hl]; exact seqL_self cs)
  obtain ⟨_, _, _, h4⟩ := cube_place hi
  unfold cubeF costC
  rw [← h4]
theorem cost_lt {W H D x y d : Nat} (hx : x < W) (hy : y < H) (hd : d < D) : (y * W + x) * D + d < H * W * D ∧ y * W + x < H * W := by
  have h1 : y * W + x < H * W := by
    have : y * W + W ≤ H * W := by rw [← Nat.succ_mul]; exact Nat.mul_le_mul_right _ hy
    omega
  have h2 : (y * W + x) * D + D ≤ H * W * D := by rw [← Nat.succ_mul]; exact Nat.mul_le_mul_right _ h1
  exact ⟨by omega, h1⟩

/-- May volumes have this size, and so many costs? -/
def deepB (D : Int) : Bool := decide (1 ≤ D ∧ D ≤ 8)
theorem deepB_iff {D : Int} : deepB D = true ↔ 1 ≤ D ∧ D ≤ 8 := by simp [deepB]
def volB (W H D : Int) (n : Nat) : Bool := sizeB W H && deepB D && decide ((n : Int) = W * H * D)
theorem sizeB_parts {W H : Int} (h : sizeB W H = true) : ∃ wn hn : Nat, W = wn ∧ H = hn ∧ 1 ≤ wn ∧ wn ≤ 24 ∧ 1 ≤ hn ∧ hn ≤ 24 ∧ hn * wn ≤ 256 := by
  obtain ⟨h1, h2, h3, h4, h5⟩ := sizeB_iff.1 h
  obtain ⟨wn, rfl⟩ := Int.eq_ofNat_of_zero_le (show 0 ≤ W by omega)
  obtain ⟨hn, rfl⟩ := Int.eq_ofNat_of_zero_le (show 0 ≤ H by omega)
  refine ⟨wn, hn, rfl, rfl, by omega, by omega, by omega, by omega, ?_⟩
  have e : ((wn * hn : Nat) : Int) ≤ 256 := by rw [Int.natCast_mul]; exact h5
  rw [Nat.mul_comm]; omega
theorem volB_parts {W H D : Int} {n : Nat} (h : volB W H D n = true) : ∃ wn hn dn : Nat, W = wn ∧ H = hn ∧ D = dn ∧ 1 ≤ wn ∧ wn ≤ 24 ∧ 1 ≤ hn ∧ hn ≤ 24 ∧ hn * wn ≤ 256 ∧ 1 ≤ dn ∧ dn ≤ 8 ∧ n = hn * wn * dn := by
  unfold volB at h
  rw [Bool.and_eq_true, Bool.and_eq_true, decide_eq_true_eq, deepB_iff] at h
  obtain ⟨⟨h1, h2, h3⟩, h4⟩ := h
  obtain ⟨wn, hn, rfl, rfl, a1, a2, a3, a4, a5⟩ := sizeB_parts h1
  obtain ⟨dn, rfl⟩ := Int.eq_ofNat_of_zero_le (show 0 ≤ D by omega)
  refine ⟨wn, hn, dn, rfl, rfl, rfl, a1, a2, a3, a4, a5, by omega, by omega, ?_⟩
  have e : ((wn * hn * dn : Nat) : Int) = n := by rw [Int.natCast_mul, Int.natCast_mul]; exact h4.symm
  rw [Nat.mul_comm hn wn]; omega
theorem sizeB_mk' {W H : Nat} (b1 : 1 ≤ W) (b2 : W ≤ 24) (b3 : 1 ≤ H) (b4 : H ≤ 24) (b5 : H * W ≤ 256) : sizeB W H = true := by
  have := validB_mk (n := H * W) b1 b2 b3 b4 b5 rfl
  unfold validB at this
  simp only [Bool.and_eq_true] at this
  exact this.1
theorem volB_mk {wn hn dn n : Nat} (h1 : 1 ≤ wn) (h2 : wn ≤ 24) (h3 : 1 ≤ hn) (h4 : hn ≤ 24) (h5 : hn * wn ≤ 256) (d1 : 1 ≤ dn) (d2 : dn ≤ 8) (h6 : n = hn * wn * dn) : volB wn hn dn n = true := by
  unfold volB
  rw [Bool.and_eq_true, Bool.and_eq_true, decide_eq_true_eq, deepB_iff, sizeB_mk' h1 h2 h3 h4 h5]
  refine ⟨⟨rfl, by omega, by omega⟩, ?_⟩
  rw [h6, Nat.mul_comm hn wn, Int.natCast_mul, Int.natCast_mul]
end Go.FX
