import Derived.Test.YthnidpmolafmaaaWa
import Derived.Shelf.SlicesE.DeleteFunc
import Derived.Shelf.SlicesE.Clone
import Derived.Shelf.SlGeneric
import Derived.Ground.SlgfProg
import Derived.Ground.SlgnProg
set_option linter.unusedVariables false
set_option linter.unusedSimpArgs false
namespace Go.Proofs.Ythnidpmolafmaaa
open Go.FX Go.RowKit Go.WideShapes Go.ChangeShapes Go.Shelf Go.Sort
shelf_lay_g SlLaysE0.n41 Slgn 41 at Try 101 as Try.layClone
shelf_lay_g SlLaysH.n10 Slgf 10 at Try 100 as Try.layDel
/-- Values that are no holes, in order. -/
def knownL (cs : List Nat) : List Nat := cs.filter fun c => !holeB c
theorem below_putRow {n q g : Nat} {a w : World} (d : Array Nat) (h : Below n a w) (hg : n ≤ g) (hn : n ≤ w.heap.size) : Below n a (putRow (Value.float .f32) (Sort.ahead w q) g 0 d) := by
  refine ⟨h.os, h.tape, h.output, Nat.le_trans h.size (by simp [putRow, mapBlock, Sort.ahead]), fun k hk => ?_⟩
  rw [← h.block k hk]
  have : g ≠ k := by omega
  simp [putRow, mapBlock, Sort.ahead, Array.getElem?_modify, this]
theorem known_filter (zs : List Nat) (hz : ∀ z ∈ zs, z < width .f32) : (zs.filter fun z => !holeB z).map (cn .f32) = knownL (zs.map (cn .f32)) := by
  unfold knownL
  rw [List.filter_map]
  congr 1
  apply List.filter_congr
  intro z hzm
  show (!holeB z) = !holeB (cn .f32 z)
  rw [holeB_fl (Fl.of (hz z hzm))]
set_option maxRecDepth 100000 in
set_option maxHeartbeats 4000000 in
theorem known_any (v : Value) (cs : List Nat) (w : World) (hv : FC w v cs) (h0 : 0 < cs.length) (hmx : cs.length ≤ 1048576) :
    Calls Try.prog 79 #[v] w fun e w' => ∃ a n c, e = .returned (.slice a n c) ∧ Below w.heap.size w w' ∧ FC w' (.slice a n c) (knownL cs) := by
  obtain ⟨i0, hi, hz0, hz1, hz2⟩ := info_parts info_f32
  obtain ⟨zs, ⟨hz, a', cap', ev, k1, k2, k3⟩, rfl⟩ := hv
  rw [List.length_map] at h0 hmx
  subst ev
  rcases k3 with k3 | ⟨b, off, rfl, hb, hc⟩
  · subst k3; simp at h0
  have e3 : ∀ j, ((⟨b, off, none⟩ : Addr).add j) = ⟨b, off + j, none⟩ := fun j => by unfold Addr.add; split <;> simp_all
  have hcl := fun w1 (hb1 : Below w.heap.size w w1) => AnyE.slices_Clone Try.layClone i0 (.float .f32 0) 1 4 hi hz0 hz1 hz2 rfl (by omega) (Try.sizeOf35) b off zs.length cap' (zs.map (.float .f32)) w1 (by simp) (by unfold maxLen; omega) (by omega)
    (fun j u hj => by
      rw [List.getElem?_map, Option.map_eq_some_iff] at hj
      obtain ⟨z, hz, rfl⟩ := hj
      have hjl : j < zs.length := (List.getElem?_eq_some_iff.1 hz).1
      have e1 : zs.getD j 0 = z := by simp [List.getD, hz]
      have e2 := hc j hjl
      rw [e1] at e2
      rw [(bcell hb1).1 b _ hb]
      exact e2)
    (fun u hu => by obtain ⟨z, _, rfl⟩ := List.mem_map.1 hu; rfl)
  have hdl := fun (g cap : Nat) (w1 : World) (hrow : w1.ownsRow w.heap.size 35 1 (.slice (some ⟨g, 0, none⟩) zs.length cap) zs.length (zs.map (.float .f32))) (hcap : zs.length ≤ cap) =>
    AnyE.slices_DeleteFunc Try.layDel (Value.float .f32) (fun _ => rfl) holeB 63 #[] (enters_of Try.func63 (by kernel_rfl) rfl) 0 Try.zeroValue35 g 0 cap zs.toArray w1
      (fun W x _ => (isHole_any x W).mono fun e w' ⟨h1, h2⟩ => ⟨h1, 0, h2.symm⟩)
      (fun n os dk x _ => (isHole_any x _).mono fun e w' ⟨h1, h2⟩ => ⟨h1, 0, h2.symm⟩)
      (fun j hj => by
        have hj' : j < zs.length := by simpa using hj
        refine ⟨?_, hrow.frozenAt _⟩
        rw [Nat.zero_add, hrow.cellAt j (by omega)]
        simp [hj'])
      (by simp; omega) (by simpa using hcap)
  have hcl := Lib.hid hcl
  have hdl := Lib.hid hdl
  clear hc
  go_enter Try.func79, Try.ntmps79
  go_wp2_with fail
  refine (hcl.out _ (Below.refl _ _)).mono ?_
  rintro e w1 ⟨v1, rfl, hrow, _, hb1⟩
  obtain ⟨g, cap, rfl, hg0, hg1⟩ := hrow.form h0
  have hcap : zs.length ≤ cap ∧ cap ≤ maxLen := by
    obtain ⟨a2, c2, ev2, q1, q2⟩ := (OC.of hz hrow).fc.shape
    simp only [Value.slice.injEq, List.length_map] at ev2 q1
    obtain ⟨_, _, rfl⟩ := ev2
    exact ⟨q1, q2⟩
  have hD := hdl.out g cap w1 hrow hcap.1
  have hH := Lib.hid (fun j (hj : j < zs.length) => (⟨by rw [Nat.zero_add, hrow.cellAt j (by omega)]; simp [hj], hrow.frozenAt _⟩ : w1.cell? ⟨g, 0 + j, none⟩ = some (Value.float .f32 zs.toArray[j]!) ∧ w1.frozen? ⟨g, 0 + j, none⟩ = false))
  have hrow' := Lib.hid hrow
  have hcap' := Lib.hid hcap
  have hfl := List.length_filter_le (fun z => !holeB z) zs
  clear hrow hcap
  simp only [List.size_toArray] at hD
  obtain ⟨rs, hrs⟩ : ∃ rs, rs = zs.filter fun z => !holeB z := ⟨_, rfl⟩
  rw [← hrs] at hD hfl
  have hrs' := Lib.hid hrs
  clear hrs
  go_wp2_with fail
  refine hD.mono ?_
  rintro e w2 ⟨rfl, q, rfl⟩
  go_wp2_with fail
  go_ret
  have hbb : Below w.heap.size w (putRow (Value.float .f32) (Sort.ahead w1 q) g 0 (rs ++ List.replicate (zs.length - rs.length) 0).toArray) := below_putRow _ hb1 hg0 hb1.size
  refine ⟨_, _, _, rfl, hbb, rs, ⟨fun z hzm => hz z (List.mem_filter.1 (by rw [hrs'.out] at hzm; exact hzm)).1, some ⟨g, 0, none⟩, cap, rfl, by have := hcap'.out.1; omega, hcap'.out.2, .inr ⟨g, 0, rfl, by simpa using hg1, fun i hi => ?_⟩⟩, by rw [hrs'.out]; exact known_filter zs hz⟩
  have hs : (rs ++ List.replicate (zs.length - rs.length) 0).toArray.size = zs.toArray.size := by simp; omega
  rw [cell?_putRow (Value.float .f32) (Sort.ahead w1 q) g 0 zs.toArray _ (fun j hj => hH.out j (by simpa using hj)) hs i (by simp; omega)]
  simp [List.getElem?_append_left hi, List.getD, hi]
end Go.Proofs.Ythnidpmolafmaaa
