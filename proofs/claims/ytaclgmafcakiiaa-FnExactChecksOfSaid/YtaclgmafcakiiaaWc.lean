import Derived.Test.YtaclgmafcakiiaaWb
import Derived.Deep.DeepCutAuto
set_option linter.unusedVariables false
set_option linter.unusedSimpArgs false
namespace Go.FX
open Go Go.RowKit
theorem A8.of {w : World} {b : Nat} {bs : List Nat} {z0 z1 z2 z3 z4 z5 z6 z7 : Nat} (hl : b < w.heap.size) (h : z0 = bs.getD 0 0 ∧ z1 = bs.getD 1 0 ∧ z2 = bs.getD 2 0 ∧ z3 = bs.getD 3 0 ∧ z4 = bs.getD 4 0 ∧ z5 = bs.getD 5 0 ∧ z6 = bs.getD 6 0 ∧ z7 = bs.getD 7 0) (hc : w.cell? ⟨b, 0, none⟩ = some (.float .f32 z0) ∧ w.cell? ⟨b, 1, none⟩ = some (.float .f32 z1) ∧ w.cell? ⟨b, 2, none⟩ = some (.float .f32 z2) ∧ w.cell? ⟨b, 3, none⟩ = some (.float .f32 z3) ∧ w.cell? ⟨b, 4, none⟩ = some (.float .f32 z4) ∧ w.cell? ⟨b, 5, none⟩ = some (.float .f32 z5) ∧ w.cell? ⟨b, 6, none⟩ = some (.float .f32 z6) ∧ w.cell? ⟨b, 7, none⟩ = some (.float .f32 z7)) (hf : w.frozen? ⟨b, 0, none⟩ = false ∧ w.frozen? ⟨b, 1, none⟩ = false ∧ w.frozen? ⟨b, 2, none⟩ = false ∧ w.frozen? ⟨b, 3, none⟩ = false ∧ w.frozen? ⟨b, 4, none⟩ = false ∧ w.frozen? ⟨b, 5, none⟩ = false ∧ w.frozen? ⟨b, 6, none⟩ = false ∧ w.frozen? ⟨b, 7, none⟩ = false) : A8 w b bs := by
  refine ⟨hl, fun i hi => ?_⟩
  have : i = 0 ∨ i = 1 ∨ i = 2 ∨ i = 3 ∨ i = 4 ∨ i = 5 ∨ i = 6 ∨ i = 7 := by omega
  obtain ⟨h0, h1, h2, h3, h4, h5, h6, h7⟩ := h
  obtain ⟨c0, c1, c2, c3, c4, c5, c6, c7⟩ := hc
  obtain ⟨f0, f1, f2, f3, f4, f5, f6, f7⟩ := hf
  rcases this with rfl | rfl | rfl | rfl | rfl | rfl | rfl | rfl
  · exact ⟨c0.trans (by rw [h0]), f0⟩
  · exact ⟨c1.trans (by rw [h1]), f1⟩
  · exact ⟨c2.trans (by rw [h2]), f2⟩
  · exact ⟨c3.trans (by rw [h3]), f3⟩
  · exact ⟨c4.trans (by rw [h4]), f4⟩
  · exact ⟨c5.trans (by rw [h5]), f5⟩
  · exact ⟨c6.trans (by rw [h6]), f6⟩
  · exact ⟨c7.trans (by rw [h7]), f7⟩
theorem A8.far {w : World} {b g k : Nat} {bs : List Nat} {v : Value} (h : A8 w b bs) (hg : g ≠ b) : A8 (w.setCell ⟨g, k, none⟩ v) b bs :=
  ⟨by simpa using h.1, fun i hi => ⟨(World.cell?_setCell_other _ _ _ _ (by intro e; exact hg (congrArg Addr.block e))).trans (h.2 i hi).1, by rw [World.frozen?_setCell]; exact (h.2 i hi).2⟩⟩
theorem A8.set8 {w : World} {b : Nat} {bs zs : List Nat} {z0 z1 z2 z3 z4 z5 z6 z7 : Nat} (h : A8 w b bs) (hz : z0 = zs.getD 0 0 ∧ z1 = zs.getD 1 0 ∧ z2 = zs.getD 2 0 ∧ z3 = zs.getD 3 0 ∧ z4 = zs.getD 4 0 ∧ z5 = zs.getD 5 0 ∧ z6 = zs.getD 6 0 ∧ z7 = zs.getD 7 0) : A8 (((((((((w.setCell ⟨b, 0, none⟩ (.float .f32 z0)).setCell ⟨b, 1, none⟩ (.float .f32 z1)).setCell ⟨b, 2, none⟩ (.float .f32 z2)).setCell ⟨b, 3, none⟩ (.float .f32 z3)).setCell ⟨b, 4, none⟩ (.float .f32 z4)).setCell ⟨b, 5, none⟩ (.float .f32 z5)).setCell ⟨b, 6, none⟩ (.float .f32 z6)).setCell ⟨b, 7, none⟩ (.float .f32 z7))) b zs := by
  obtain ⟨c0, c1, c2, c3, c4, c5, c6, c7⟩ : w.cell? ⟨b, 0, none⟩ = some (.float .f32 (bs.getD 0 0)) ∧ w.cell? ⟨b, 1, none⟩ = some (.float .f32 (bs.getD 1 0)) ∧ w.cell? ⟨b, 2, none⟩ = some (.float .f32 (bs.getD 2 0)) ∧ w.cell? ⟨b, 3, none⟩ = some (.float .f32 (bs.getD 3 0)) ∧ w.cell? ⟨b, 4, none⟩ = some (.float .f32 (bs.getD 4 0)) ∧ w.cell? ⟨b, 5, none⟩ = some (.float .f32 (bs.getD 5 0)) ∧ w.cell? ⟨b, 6, none⟩ = some (.float .f32 (bs.getD 6 0)) ∧ w.cell? ⟨b, 7, none⟩ = some (.float .f32 (bs.getD 7 0)) := ⟨(h.2 0 (by omega)).1, (h.2 1 (by omega)).1, (h.2 2 (by omega)).1, (h.2 3 (by omega)).1, (h.2 4 (by omega)).1, (h.2 5 (by omega)).1, (h.2 6 (by omega)).1, (h.2 7 (by omega)).1⟩
  obtain ⟨f0, f1, f2, f3, f4, f5, f6, f7⟩ : w.frozen? ⟨b, 0, none⟩ = false ∧ w.frozen? ⟨b, 1, none⟩ = false ∧ w.frozen? ⟨b, 2, none⟩ = false ∧ w.frozen? ⟨b, 3, none⟩ = false ∧ w.frozen? ⟨b, 4, none⟩ = false ∧ w.frozen? ⟨b, 5, none⟩ = false ∧ w.frozen? ⟨b, 6, none⟩ = false ∧ w.frozen? ⟨b, 7, none⟩ = false := ⟨(h.2 0 (by omega)).2, (h.2 1 (by omega)).2, (h.2 2 (by omega)).2, (h.2 3 (by omega)).2, (h.2 4 (by omega)).2, (h.2 5 (by omega)).2, (h.2 6 (by omega)).2, (h.2 7 (by omega)).2⟩
  refine A8.of (by simpa using h.1) hz ?_ ?_
  · refine ⟨?_, ?_, ?_, ?_, ?_, ?_, ?_, ?_⟩ <;> go_simp
  · refine ⟨?_, ?_, ?_, ?_, ?_, ?_, ?_, ?_⟩ <;> (simp only [World.frozen?_setCell]; assumption)
theorem ownsRow_drewN {w : World} {base : Nat} {e : TypeId} {size : Nat} {v : Value} {n : Nat} {xs : List Value} (h : w.ownsRow base e size v n xs) (m : Nat) : (w.drewN m).ownsRow base e size v n xs := h
theorem A8.drewN {w : World} {b : Nat} {bs : List Nat} (h : A8 w b bs) (n : Nat) : A8 (w.drewN n) b bs := h
theorem Pw.far {w : World} {b g k : Nat} {W H D : Int} {x v : Value} (h : Pw w b W H D v) (hg : g ≠ b) : Pw (w.setCell ⟨g, k, none⟩ x) b W H D v := by
  obtain ⟨h0, h1, h2, h3, h4⟩ := h
  have hc : ∀ o, (w.setCell ⟨g, k, none⟩ x).cell? ⟨b, o, none⟩ = w.cell? ⟨b, o, none⟩ := fun o => World.cell?_setCell_other _ _ _ _ (by intro e; exact hg (congrArg Addr.block e))
  exact ⟨by simpa using h0, by rw [hc]; exact h1, by rw [hc]; exact h2, by rw [hc]; exact h3, by rw [hc]; exact h4⟩
theorem A8.alloc {w : World} {b : Nat} {bs : List Nat} (h : A8 w b bs) (o : Obj) : A8 (w.alloc o) b bs := h.below (below1 w o)
theorem A8.kept {w w' : World} {b : Nat} {bs : List Nat} {row : Option Nat} (h : A8 w b bs) (hg : w.grownBy w' row) (hne : row ≠ some b) : A8 w' b bs :=
  ⟨Nat.lt_of_lt_of_le h.1 hg.size, fun i hi => ⟨(World.cell?_of_block (a := ⟨b, i, none⟩) (hg.block b h.1 (fun e => hne e.symm))).trans (h.2 i hi).1, (World.frozen?_of_block (a := ⟨b, i, none⟩) (hg.block b h.1 (fun e => hne e.symm))).trans (h.2 i hi).2⟩⟩
end Go.FX
namespace Go.Proofs.Ytaclgmafcakiiaa
open Go.FX Go.RowKit Go.WideShapes Go.ChangeShapes

def winV (D : Nat) (cs : List Nat) (k : Nat) : List Value := (List.range k).map fun i => .int .i64 (winI (rowC D cs i) fun _ => true)
/-- The costs of a cell, as one and the same part of the slice in each later world. -/
theorem costRowE_any (W H D : Nat) (a : Option Addr) (n c : Nat) (cs : List Nat) (cell : Nat) (w : World) (hv : FC w (.slice a n c) cs) (hc : cell < H * W) (h5 : H * W ≤ 256) (d1 : 1 ≤ D) (d2 : D ≤ 8) (hl : cs.length = H * W * D) :
    ∃ v, FC w v (rowC D cs cell) ∧ ∀ (w1 : World) (ci : Int), ci = ((cell : Nat) : Int) → Calls Try.prog 51 #[.agg #[.int .i64 W, .int .i64 H, .int .i64 D, .slice a n c], .int .i64 ci] w1 (fun e w' => e = .returned v ∧ Below w1.heap.size w1 w') := by
  have q1 : cell * D + D ≤ H * W * D := by rw [← Nat.succ_mul]; exact Nat.mul_le_mul_right _ hc
  obtain ⟨b, off, cc, z0, ev, hx1, hx2, _, _, _⟩ := hv.cell (k := cell * D + 0) (by omega)
  simp only [Value.slice.injEq] at ev
  obtain ⟨rfl, rfl, rfl⟩ := ev
  rw [hl] at hx1 hv ⊢
  exact ⟨_, hv.part d1 (by omega), fun w1 ci hci => costsOf_any W H D b off c cell ci hci w1 hc h5 d1 d2 hx1 hx2⟩
theorem winV_len (D : Nat) (cs : List Nat) (k : Nat) : (winV D cs k).length = k := by simp [winV]
theorem winV_step (D : Nat) (cs : List Nat) (k : Nat) : winV D cs (k + 1) = winV D cs k ++ [.int .i64 (winI (rowC D cs k) fun _ => true)] := by simp [winV, List.range_succ]
theorem info_int : (Try.prog.info? 3).map (fun i => (i.zero, i.size, i.bytes)) = some (some (.int .i64 0), 1, 8) := by kernel_rfl
set_option maxRecDepth 100000 in
set_option maxHeartbeats 8000000 in
theorem winners_any (W H D : Nat) (a : Option Addr) (n c : Nat) (cs : List Nat) (w : World) (hv : FC w (.slice a n c) cs) (b1 : 1 ≤ W) (b2 : W ≤ 24) (b3 : 1 ≤ H) (b4 : H ≤ 24) (b5 : H * W ≤ 256) (d1 : 1 ≤ D) (d2 : D ≤ 8) (hl : cs.length = H * W * D) :
    Calls Try.prog 47 #[.agg #[.int .i64 W, .int .i64 H, .int .i64 D, .slice a n c]] w (fun e w' => ∃ v, e = .returned v ∧ Below w.heap.size w w' ∧ w'.ownsRow w.heap.size 3 1 v (H * W) (winV D cs (H * W))) := by
  obtain ⟨rfl, hnc, hcm⟩ := hv.sized
  obtain ⟨i0, hi, hj0, hj1, hj2⟩ := info_parts info_int
  have hWH : (W : Int) * (H : Int) = ((H * W : Nat) : Int) := by push_cast; rw [Int.mul_comm]
  obtain ⟨i1, hif⟩ : ∃ i, Try.prog.info? 37 = some i := Option.isSome_iff_exists.1 (by kernel_rfl)
  have hcf : Try.prog.cellsOf 37 = 1 := by kernel_rfl
  have hP := (Pw.new w (W : Int) (H : Int) (D : Int) (.slice a cs.length c) 30).alloc (.cells #[.float .f32 0, .float .f32 0, .float .f32 0, .float .f32 0, .float .f32 0, .float .f32 0, .float .f32 0, .float .f32 0] 89)
  have hbz : Below w.heap.size w ((w.alloc (.cells #[.int .i64 W, .int .i64 H, .int .i64 D, .slice a cs.length c] 30)).alloc (.cells #[.float .f32 0, .float .f32 0, .float .f32 0, .float .f32 0, .float .f32 0, .float .f32 0, .float .f32 0, .float .f32 0] 89)) := below2 _ _ _
  have hA : A8 ((w.alloc (.cells #[.int .i64 W, .int .i64 H, .int .i64 D, .slice a cs.length c] 30)).alloc (.cells #[.float .f32 0, .float .f32 0, .float .f32 0, .float .f32 0, .float .f32 0, .float .f32 0, .float .f32 0, .float .f32 0] 89)) (w.heap.size + 1) [] := by
    refine ⟨by simp, fun i hi => ?_⟩
    have : i = 0 ∨ i = 1 ∨ i = 2 ∨ i = 3 ∨ i = 4 ∨ i = 5 ∨ i = 6 ∨ i = 7 := by omega
    rcases this with rfl | rfl | rfl | rfl | rfl | rfl | rfl | rfl <;> (constructor <;> go_simp)
  obtain ⟨w0, hw0⟩ : ∃ w0, w0 = ((w.alloc (.cells #[.int .i64 W, .int .i64 H, .int .i64 D, .slice a cs.length c] 30)).alloc (.cells #[.float .f32 0, .float .f32 0, .float .f32 0, .float .f32 0, .float .f32 0, .float .f32 0, .float .f32 0, .float .f32 0] 89)) := ⟨_, rfl⟩
  rw [← hw0] at hP hbz hA
  have hs0 : w0.heap.size = w.heap.size + 2 := by rw [hw0]; simp
  have hco := fun cell (hc : cell < H * W) => costRowE_any W H D a cs.length c cs cell w hv hc b5 d1 d2 hl
  obtain ⟨N, hN⟩ : ∃ N, N = H * W := ⟨_, rfl⟩
  rw [← hN] at hWH hco b5 ⊢
  have hrl : Hid (∀ i, (rowC D cs i).length = D) := Lib.hid fun i => rowC_len _ _ _
  obtain ⟨L, hL⟩ : ∃ L, L = cs.length := ⟨_, rfl⟩
  rw [← hL] at hP hco hw0 ⊢
  clear hv hl hN hL
  have hHP := Lib.hid hP
  have hHb := Lib.hid hbz
  have hHA := Lib.hid hA
  have hHs := Lib.hid hs0
  have hHw := Lib.hid hw0
  obtain ⟨lp, p0, p1, p2, p3⟩ := hP
  rw [hw0] at p0 p1
  clear hbz hA hs0 lp p2 p3 hw0
  go_enter Try.func47, Try.ntmps47
  go_wp2_with fail
  clear p0 p1
  rw [← hHw.out]
  go_loopw [3, 5, 14] (fun v B i wr => ∃ (k : Nat) (Bi : Int) (bs : List Nat), k ≤ N ∧ i = .int .i64 k ∧ B = .int .i64 Bi ∧ Hid (Below w.heap.size w wr ∧ Pw wr w.heap.size W H D (.slice a L c) ∧ A8 wr (w.heap.size + 1) bs ∧ WinOf D bs Bi ∧ wr.ownsRow (w.heap.size + 2) 3 1 v k (winV D cs k))) (fun _ _ i _ => N - (intOf i).toNat)
  case atStart => exact ⟨0, 0, [], Nat.zero_le _, rfl, rfl, Lib.hid ⟨hHb.out, hHP.out, hHA.out, winOf_zero d1, World.ownsRow_nil _ _ _ _⟩⟩
  case round =>
    clear hHP hHb hHA hHs hHw
    obtain ⟨k, Bi, bs, hk, rfl, rfl, hR⟩ := hrel
    by_cases hlt : k < N
    · obtain ⟨lp, p0, p1, p2, p3⟩ := hR.out.2.1
      obtain ⟨v1, hf1, hcc⟩ := hco k hlt
      go_wp2_with fail
      refine (hcc _ _ rfl).mono ?_
      rintro e w1 ⟨rfl, hb1⟩
      obtain ⟨zs, hfs0, hzm⟩ := id hf1
      have hfs := hfs0.below (hR.out.1.trans (hb1.mono hR.out.1.size))
      have hzl : zs.length = D := by have := congrArg List.length hzm; rw [List.length_map, hrl.out] at this; exact this
      have harr := arrayOf_any v1 zs w1 hfs (by omega) (by omega)
      unfold arr8 at harr
      obtain ⟨z0, hz0⟩ : ∃ z, z = zs.getD 0 0 := ⟨_, rfl⟩
      obtain ⟨z1, hz1⟩ : ∃ z, z = zs.getD 1 0 := ⟨_, rfl⟩
      obtain ⟨z2, hz2⟩ : ∃ z, z = zs.getD 2 0 := ⟨_, rfl⟩
      obtain ⟨z3, hz3⟩ : ∃ z, z = zs.getD 3 0 := ⟨_, rfl⟩
      obtain ⟨z4, hz4⟩ : ∃ z, z = zs.getD 4 0 := ⟨_, rfl⟩
      obtain ⟨z5, hz5⟩ : ∃ z, z = zs.getD 5 0 := ⟨_, rfl⟩
      obtain ⟨z6, hz6⟩ : ∃ z, z = zs.getD 6 0 := ⟨_, rfl⟩
      obtain ⟨z7, hz7⟩ : ∃ z, z = zs.getD 7 0 := ⟨_, rfl⟩
      obtain ⟨y0, hy0⟩ : ∃ z, z = bs.getD 0 0 := ⟨_, rfl⟩
      obtain ⟨y1, hy1⟩ : ∃ z, z = bs.getD 1 0 := ⟨_, rfl⟩
      obtain ⟨y2, hy2⟩ : ∃ z, z = bs.getD 2 0 := ⟨_, rfl⟩
      obtain ⟨y3, hy3⟩ : ∃ z, z = bs.getD 3 0 := ⟨_, rfl⟩
      obtain ⟨y4, hy4⟩ : ∃ z, z = bs.getD 4 0 := ⟨_, rfl⟩
      obtain ⟨y5, hy5⟩ : ∃ z, z = bs.getD 5 0 := ⟨_, rfl⟩
      obtain ⟨y6, hy6⟩ : ∃ z, z = bs.getD 6 0 := ⟨_, rfl⟩
      obtain ⟨y7, hy7⟩ : ∃ z, z = bs.getD 7 0 := ⟨_, rfl⟩
      have hE := fun (w : World) => run_eq8 (P := Try.prog) Try.underlying89 Try.underlying37 hif hcf zs bs w
      unfold arr8 at hE
      rw [← hz0, ← hz1, ← hz2, ← hz3, ← hz4, ← hz5, ← hz6, ← hz7, ← hy0, ← hy1, ← hy2, ← hy3, ← hy4, ← hy5, ← hy6, ← hy7] at hE
      rw [← hz0, ← hz1, ← hz2, ← hz3, ← hz4, ← hz5, ← hz6, ← hz7] at harr
      have hzs := Lib.hid (And.intro hz0 (And.intro hz1 (And.intro hz2 (And.intro hz3 (And.intro hz4 (And.intro hz5 (And.intro hz6 hz7)))))))
      have hys := Lib.hid (And.intro hy0 (And.intro hy1 (And.intro hy2 (And.intro hy3 (And.intro hy4 (And.intro hy5 (And.intro hy6 hy7)))))))
      clear hz0 hz1 hz2 hz3 hz4 hz5 hz6 hz7 hy0 hy1 hy2 hy3 hy4 hy5 hy6 hy7
      obtain ⟨E, hEv⟩ : ∃ E, E = eq8 zs bs := ⟨_, rfl⟩
      rw [← hEv] at hE
      have hEv' := Lib.hid hEv
      have hzm' := Lib.hid hzm
      have hzl' := Lib.hid hzl
      clear hEv hzm hzl
      have hFS := Lib.hid hf1
      go_wp2_with fail
      refine harr.mono ?_
      rintro e w2 ⟨rfl, hb2⟩
      obtain ⟨X, hX⟩ : ∃ X, X = w2.alloc (.cells #[.float .f32 z0, .float .f32 z1, .float .f32 z2, .float .f32 z3, .float .f32 z4, .float .f32 z5, .float .f32 z6, .float .f32 z7] 89) := ⟨_, rfl⟩
      have hbX : Below wr.heap.size wr X := by rw [hX]; exact (hb1.trans (hb2.mono hb1.size)).alloc (Nat.le_trans hb1.size hb2.size) _
      obtain ⟨x0, x1, x2, x3, x4, x5, x6, x7⟩ : X.cell? ⟨w2.heap.size, 0, none⟩ = some (.float .f32 z0) ∧ X.cell? ⟨w2.heap.size, 1, none⟩ = some (.float .f32 z1) ∧ X.cell? ⟨w2.heap.size, 2, none⟩ = some (.float .f32 z2) ∧ X.cell? ⟨w2.heap.size, 3, none⟩ = some (.float .f32 z3) ∧ X.cell? ⟨w2.heap.size, 4, none⟩ = some (.float .f32 z4) ∧ X.cell? ⟨w2.heap.size, 5, none⟩ = some (.float .f32 z5) ∧ X.cell? ⟨w2.heap.size, 6, none⟩ = some (.float .f32 z6) ∧ X.cell? ⟨w2.heap.size, 7, none⟩ = some (.float .f32 z7) := by rw [hX]; refine ⟨?_, ?_, ?_, ?_, ?_, ?_, ?_, ?_⟩ <;> go_simp
      have hsz : w.heap.size + 2 ≤ w2.heap.size ∧ w2.heap.size < X.heap.size := by
        refine ⟨?_, by rw [hX]; simp⟩
        have h1 := hb1.size; have h2 := hb2.size; have h3 := hR.out.2.2.1.1; omega
      obtain ⟨lX, p0, p1, p2, p3⟩ := hR.out.2.1.below hbX
      have hA8 := hR.out.2.2.1.below hbX
      obtain ⟨m0, m1, m2, m3, m4, m5, m6, m7⟩ : (X.cell? ⟨w.heap.size + 1, 0, none⟩ = some (.float .f32 y0) ∧ X.cell? ⟨w.heap.size + 1, 1, none⟩ = some (.float .f32 y1) ∧ X.cell? ⟨w.heap.size + 1, 2, none⟩ = some (.float .f32 y2) ∧ X.cell? ⟨w.heap.size + 1, 3, none⟩ = some (.float .f32 y3) ∧ X.cell? ⟨w.heap.size + 1, 4, none⟩ = some (.float .f32 y4) ∧ X.cell? ⟨w.heap.size + 1, 5, none⟩ = some (.float .f32 y5) ∧ X.cell? ⟨w.heap.size + 1, 6, none⟩ = some (.float .f32 y6) ∧ X.cell? ⟨w.heap.size + 1, 7, none⟩ = some (.float .f32 y7)) := by
        obtain ⟨g0, g1, g2, g3, g4, g5, g6, g7⟩ := hys.out
        refine ⟨by rw [g0]; exact (hA8.2 0 (by omega)).1, by rw [g1]; exact (hA8.2 1 (by omega)).1, by rw [g2]; exact (hA8.2 2 (by omega)).1, by rw [g3]; exact (hA8.2 3 (by omega)).1, by rw [g4]; exact (hA8.2 4 (by omega)).1, by rw [g5]; exact (hA8.2 5 (by omega)).1, by rw [g6]; exact (hA8.2 6 (by omega)).1, by rw [g7]; exact (hA8.2 7 (by omega)).1⟩
      obtain ⟨f0, f1, f2, f3, f4, f5, f6, f7⟩ : (X.frozen? ⟨w.heap.size + 1, 0, none⟩ = false ∧ X.frozen? ⟨w.heap.size + 1, 1, none⟩ = false ∧ X.frozen? ⟨w.heap.size + 1, 2, none⟩ = false ∧ X.frozen? ⟨w.heap.size + 1, 3, none⟩ = false ∧ X.frozen? ⟨w.heap.size + 1, 4, none⟩ = false ∧ X.frozen? ⟨w.heap.size + 1, 5, none⟩ = false ∧ X.frozen? ⟨w.heap.size + 1, 6, none⟩ = false ∧ X.frozen? ⟨w.heap.size + 1, 7, none⟩ = false) := ⟨(hA8.2 0 (by omega)).2, (hA8.2 1 (by omega)).2, (hA8.2 2 (by omega)).2, (hA8.2 3 (by omega)).2, (hA8.2 4 (by omega)).2, (hA8.2 5 (by omega)).2, (hA8.2 6 (by omega)).2, (hA8.2 7 (by omega)).2⟩
      have hRow := hR.out.2.2.2.2.kept (grown_of_below hbX none) (own_none _)
      have hBw : Below w.heap.size w X := hR.out.1.trans (hbX.mono hR.out.1.size)
      have hAll := Lib.hid (And.intro hBw (And.intro (hR.out.2.1.below hbX) (And.intro hA8 (And.intro hR.out.2.2.2.1 hRow))))
      go_upto_region 9 with fail
      rw [← hX]
      clear hX hbX harr hcc hb1 hb2 hA8 hRow hBw hfs hfs0 hf1 lX
      cases E with
      | true =>
        have hwin : winI (rowC D cs k) (fun _ => true) = Bi := by rw [← hzm'.out]; exact winOf_use hAll.out.2.2.2.1 hzl'.out d2 hEv'.out.symm
        have hwin := Lib.hid hwin
        clear hFS hR
        go_wp2_with (at_builtin; refine wpList_append_own _ rfl _ _ 64 rfl (w.heap.size + 2) 3 i0 (.int .i64 0) 1 8 Try.underlying64 hi hj0 hj1 hj2 rfl (by decide) _ _ _ rfl (hAll.out.2.2.2.2.alloc (.cells #[.int .i64 Bi] 3)) ⟨X.heap.size, 0, none⟩ 1 1 [.int .i64 Bi] rfl rfl ?c1 ?c2 ?c3 ?c4 ?c5 ?_)
        case c1 =>
          intro j u hj
          match j, hj with
          | 0, hj => simp at hj; subst hj; simp [Addr.add]
        case c2 => intro u hu; simp at hu; subst hu; rfl
        case c3 => unfold maxLen; omega
        case c4 => omega
        case c5 => have := hAll.out.2.2.1.1; simp; omega
        intro v' w4 hown' hgrow _
        have hlt2 := hAll.out.2.2.1.1
        have hbl4 : Below w.heap.size w w4 := ((hAll.out.1.alloc (by omega) (.cells #[.int .i64 Bi] 3)).grown hgrow (by simp; omega) (fun k hk => by have := (hAll.out.2.2.2.2.lt k hk).1; omega))
        have hne4 : ∀ q, q < w.heap.size + 2 → u3.ownBlock ≠ some q := fun q hq e => by have := (hAll.out.2.2.2.2.lt q e).1; omega
        have hp4 := (hAll.out.2.1.alloc (.cells #[.int .i64 Bi] 3)).kept hgrow (hne4 _ (by omega))
        have ha4 := (hAll.out.2.2.1.alloc (.cells #[.int .i64 Bi] 3)).kept hgrow (hne4 _ (by omega))
        have hw4 := hAll.out.2.2.2.1
        rw [← hwin.out, ← winV_step] at hown'
        have HS := Lib.hid (And.intro hbl4 (And.intro hp4 (And.intro ha4 (And.intro hw4 hown'))))
        clear hbl4 hp4 ha4 hw4 hown' hgrow hne4 hlt2
        go_wp2_with fail
        go_roundw
        case rel => exact ⟨k + 1, Bi, bs, by omega, by go_num, rfl, HS⟩
        case measure => simp [intOf]; omega
      | false =>
        obtain ⟨B, hB⟩ : ∃ B, B = winI (rowC D cs k) (fun _ => true) := ⟨_, rfl⟩
        have hwn := fun (w1 : World) (h1 : Below w.heap.size w w1) => winnerOf_any v1 (rowC D cs k) w1 (hFS.out.below h1) (by rw [hrl.out]; omega)
        rw [← hB] at hwn
        have hB' := Lib.hid hB
        clear hB
        have hbw0 := hAll.out.1
        clear hR
        go_upto_region 10 with fail
        go_cut [5] (fun sB wx => sB = .int .i64 B ∧ Hid (Below w.heap.size w wx ∧ Pw wx w.heap.size W H D (.slice a L c) ∧ A8 wx (w.heap.size + 1) zs ∧ wx.ownsRow (w.heap.size + 2) 3 1 u3 k (winV D cs k)))
        case first =>
          go_region_with (go_at_call 80; refine (hwn _ (by (repeat (first | (with_reducible refine Below.setCell ?_ (by first | omega | simp) _) | (with_reducible refine Below.drew ?_) | (with_reducible refine below_drewN ?_ _))); exact hbw0)).mono ?_; rintro e w' ⟨n1, rfl, rfl⟩)
          all_goals go_wp2_with fail
          all_goals go_meet
          all_goals refine ⟨rfl, Lib.hid ⟨?_, ?_, ?_, ?_⟩⟩
          all_goals first
            | (refine below_drewN ?_ _; (repeat (with_reducible refine Below.setCell ?_ (by first | omega | simp) _)); exact hbw0)
            | (refine Pw.drewN ?_ _; (repeat (with_reducible refine Pw.far ?_ (by omega))); exact hAll.out.2.1)
            | (refine A8.drewN (A8.set8 hAll.out.2.2.1 hzs.out) _)
            | (refine ownsRow_drewN ?_ _; (repeat (with_reducible refine ownsRow_setCell_below ?_ (by first | omega | simp) _)); exact hAll.out.2.2.2.2)
        obtain ⟨rfl, hcu⟩ := hcut
        obtain ⟨Y, hY⟩ : ∃ V, V = wc := ⟨_, rfl⟩
        subst hY
        have hwin := Lib.hid hB'.out.symm
        have hWO : WinOf D zs B := by rw [hB'.out, ← hzm'.out]; exact winOf_self hzl'.out
        have hAll := Lib.hid (And.intro hcu.out.1 (And.intro hcu.out.2.1 (And.intro hcu.out.2.2.1 (And.intro hWO hcu.out.2.2.2))))
        clear hcu hWO hwn hFS hbw0
        go_wp2_with (at_builtin; refine wpList_append_own _ rfl _ _ 64 rfl (w.heap.size + 2) 3 i0 (.int .i64 0) 1 8 Try.underlying64 hi hj0 hj1 hj2 rfl (by decide) _ _ _ rfl (hAll.out.2.2.2.2.alloc (.cells #[.int .i64 B] 3)) ⟨Y.heap.size, 0, none⟩ 1 1 [.int .i64 B] rfl rfl ?c1 ?c2 ?c3 ?c4 ?c5 ?_)
        case c1 =>
          intro j u hj
          match j, hj with
          | 0, hj => simp at hj; subst hj; simp [Addr.add]
        case c2 => intro u hu; simp at hu; subst hu; rfl
        case c3 => unfold maxLen; omega
        case c4 => omega
        case c5 => have := hAll.out.2.2.1.1; simp; omega
        intro v' w4 hown' hgrow _
        have hlt2 := hAll.out.2.2.1.1
        have hbl4 : Below w.heap.size w w4 := ((hAll.out.1.alloc (by omega) (.cells #[.int .i64 B] 3)).grown hgrow (by simp; omega) (fun k hk => by have := (hAll.out.2.2.2.2.lt k hk).1; omega))
        have hne4 : ∀ q, q < w.heap.size + 2 → u3.ownBlock ≠ some q := fun q hq e => by have := (hAll.out.2.2.2.2.lt q e).1; omega
        have hp4 := (hAll.out.2.1.alloc (.cells #[.int .i64 B] 3)).kept hgrow (hne4 _ (by omega))
        have ha4 := (hAll.out.2.2.1.alloc (.cells #[.int .i64 B] 3)).kept hgrow (hne4 _ (by omega))
        have hw4 := hAll.out.2.2.2.1
        rw [← hwin.out, ← winV_step] at hown'
        have HS := Lib.hid (And.intro hbl4 (And.intro hp4 (And.intro ha4 (And.intro hw4 hown'))))
        clear hbl4 hp4 ha4 hw4 hown' hgrow hne4 hlt2
        go_wp2_with fail
        go_roundw
        case rel => exact ⟨k + 1, B, zs, by omega, by go_num, rfl, HS⟩
        case measure => simp [intOf]; omega
    · obtain rfl : k = N := by omega
      go_wp2_with fail
      go_ret
      exact ⟨_, rfl, hR.out.1, ⟨hR.out.2.2.2.2.1, hR.out.2.2.2.2.2.imp id (fun ⟨g, cap, cur, h1, h2, h3⟩ => ⟨g, cap, cur, h1, by omega, h3⟩)⟩⟩
end Go.Proofs.Ytaclgmafcakiiaa
