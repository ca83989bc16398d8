import Derived.Test.YtmgdofengamcmaaVt
import Derived.Test.YtmgdofengamcmaaRc
import Derived.Deep.DrawnRows
import Derived.BigRegion
import Derived.IntWalk
set_option linter.unusedVariables false
set_option linter.unusedSimpArgs false
namespace Go.FX
open Go Go.RowKit
/-- A row of the call's own that is not empty, as it lies. -/
def RRow (E : TypeId) (cs : List Nat) (w : World) (e : Ending) (w' : World) : Prop :=
  ∃ (g c : Nat) (zs : List Nat), e = .returned (.slice (some ⟨g, 0, none⟩) zs.length c) ∧ (∀ z ∈ zs, z < width .f32) ∧ zs.map (cn .f32) = cs ∧ w'.ownsRow w.heap.size E 1 (.slice (some ⟨g, 0, none⟩) zs.length c) zs.length (zs.map (.float .f32)) ∧ Below w.heap.size w w'
theorem news_own {w : World} {base : Nat} {E : TypeId} {g n c : Nat} {xs : List Value} (h : w.ownsRow base E 1 (.slice (some ⟨g, 0, none⟩) n c) n xs) : ∀ j u, xs[j]? = some u → w.cell? ((⟨g, 0, none⟩ : Addr).add j) = some u := fun j u hu => by
  have hl : xs.length = n := by have := h.1; omega
  have hadd : (⟨g, 0, none⟩ : Addr).add j = ⟨g, j, none⟩ := by unfold Addr.add; split <;> simp_all
  rw [hadd, h.cellAt j (by have := (List.getElem?_eq_some_iff.1 hu).1; omega)]
  exact hu
/-- The costs of a cell. -/
def cellL (W D : Nat) (cs : List Nat) (x y : Nat) : List Nat := seqL (fun d => costC W D cs x y d) D
theorem cellL_len (W D : Nat) (cs : List Nat) (x y : Nat) : (cellL W D cs x y).length = D := seqL_len _ _
theorem cellL_drop {W H D : Nat} {cs : List Nat} {x y : Nat} (hl : cs.length = H * W * D) (hx : x < W) (hy : y < H) (hd : 0 < D) : (cs.drop ((y * W + x) * D)).take D = cellL W D cs x y := by
  have h0 := (cost_lt (W := W) (H := H) (D := D) hx hy (d := D - 1) (by omega)).1
  apply List.ext_getElem
  · rw [cellL_len, List.length_take, List.length_drop]; omega
  · intro i h1 h2
    rw [cellL_len] at h2
    have e : (cellL W D cs x y)[i] = costC W D cs x y i := by simp [cellL, seqL]
    have hb : (y * W + x) * D + i < cs.length := by omega
    rw [e, List.getElem_take, List.getElem_drop]
    unfold costC
    simp [List.getD, hb]
theorem cubeL_cells (W D : Nat) (G : Nat → Nat → Nat → Nat) {x : Nat} (y : Nat) (hx : x < W) : ∀ d, d ≤ D → cubeL W D G ((y * W + x) * D + 0) ++ seqL (G x y) d = cubeL W D G ((y * W + x) * D + d)
  | 0, _ => by rw [seqL_zero, List.append_nil]
  | d + 1, h => by
    rw [seqL_succ, ← List.append_assoc, cubeL_cells W D G y hx d (by omega), cubeL_step W D G y hx (by omega)]
theorem Mv.stepL {E : TypeId} {w0 : World} {bo : Nat} {W H D : Int} {cs cs2 : List Nat} {wr w2 w3 : World} {a : Option Addr} {n c : Nat} {zs news : List Nat} {g cap : Nat}
    (hN : Nw wr bo (.int .i64 W) (.int .i64 H) (.int .i64 D) (.slice a n c)) (hrow : wr.ownsRow w0.heap.size E 1 (.slice a n c) zs.length (zs.map (.float .f32))) (hz : ∀ z ∈ zs, z < width .f32) (hm : zs.map (cn .f32) = cs)
    (hne : (Value.slice a n c).ownBlock ≠ some bo) (hbo : w0.heap.size ≤ bo) (hb : Below w0.heap.size w0 wr) (hb2 : Below wr.heap.size wr w2) (hnz : ∀ z ∈ news, z < width .f32) (hnm : news.map (cn .f32) = cs2)
    (hown : w3.ownsRow w0.heap.size E 1 (.slice (some ⟨g, 0, none⟩) (zs.length + news.length) cap) (zs.length + news.length) (zs.map (.float .f32) ++ news.map (.float .f32)))
    (hgrow : w2.grownBy w3 (Value.slice a n c).ownBlock) (hat : (Value.slice a n c).ownBlock = some g ∨ g = w2.heap.size) :
    Mv E w0 bo W H D (cs ++ cs2) (w3.setCell ⟨bo, 3, none⟩ (.slice (some ⟨g, 0, none⟩) (zs.length + news.length) cap)) := by
  have hN3 := (hN.below hb2).kept hgrow hne
  have hg : (Value.slice (some ⟨g, 0, none⟩) (zs.length + news.length) cap).ownBlock ≠ some bo := by
    simp only [Value.ownBlock, ne_eq, Option.some.injEq]
    rcases hat with h | h
    · intro e; rw [h, e] at hne; exact hne rfl
    · have := hN.1; have := hb2.size; omega
  have hoc : OC w3 w0.heap.size E (.slice (some ⟨g, 0, none⟩) (zs.length + news.length) cap) (cs ++ cs2) := by
    refine ⟨zs ++ news, ?_, by rw [List.map_append, hm, hnm], by rw [List.length_append, List.map_append]; exact hown⟩
    intro z hzz
    rcases List.mem_append.1 hzz with h | h
    · exact hz z h
    · exact hnz z h
  obtain ⟨zs', k1, k2, k3⟩ := hoc
  refine ⟨_, _, _, hN3.set3, ⟨zs', k1, k2, ownsRow_set_other k3 (by exact hg) _⟩, hg, hbo, ?_⟩
  have h1 : Below w0.heap.size w0 w2 := hb.trans (hb2.mono hb.size)
  exact (h1.grown hgrow (by have := hb.size; have := hb2.size; omega) (fun k hk => (hrow.lt k hk).1)).setCell (by exact hbo) _
theorem Nw.set0 {w : World} {b : Nat} {x y z u x' : Value} (h : Nw w b x y z u) : Nw (w.setCell ⟨b, 0, none⟩ x') b x' y z u := by
  obtain ⟨h0, h1, h2, h3, h4, h5⟩ := h
  refine ⟨by simpa [World.setCell] using h0, ?_, ?_, ?_, ?_, fun o => ?_⟩
  · exact World.cell?_setCell_same _ _ _ h1
  · rw [World.cell?_setCell_other _ _ _ _ (by simp)]; exact h2
  · rw [World.cell?_setCell_other _ _ _ _ (by simp)]; exact h3
  · rw [World.cell?_setCell_other _ _ _ _ (by simp)]; exact h4
  · rw [World.frozen?_setCell]; exact h5 o
theorem Nw.set1 {w : World} {b : Nat} {x y z u y' : Value} (h : Nw w b x y z u) : Nw (w.setCell ⟨b, 1, none⟩ y') b x y' z u := by
  obtain ⟨h0, h1, h2, h3, h4, h5⟩ := h
  refine ⟨by simpa [World.setCell] using h0, ?_, ?_, ?_, ?_, fun o => ?_⟩
  · rw [World.cell?_setCell_other _ _ _ _ (by simp)]; exact h1
  · exact World.cell?_setCell_same _ _ _ h2
  · rw [World.cell?_setCell_other _ _ _ _ (by simp)]; exact h3
  · rw [World.cell?_setCell_other _ _ _ _ (by simp)]; exact h4
  · rw [World.frozen?_setCell]; exact h5 o
theorem Nw.set2 {w : World} {b : Nat} {x y z u z' : Value} (h : Nw w b x y z u) : Nw (w.setCell ⟨b, 2, none⟩ z') b x y z' u := by
  obtain ⟨h0, h1, h2, h3, h4, h5⟩ := h
  refine ⟨by simpa [World.setCell] using h0, ?_, ?_, ?_, ?_, fun o => ?_⟩
  · rw [World.cell?_setCell_other _ _ _ _ (by simp)]; exact h1
  · rw [World.cell?_setCell_other _ _ _ _ (by simp)]; exact h2
  · exact World.cell?_setCell_same _ _ _ h3
  · rw [World.cell?_setCell_other _ _ _ _ (by simp)]; exact h4
  · rw [World.frozen?_setCell]; exact h5 o
/-- A size of a volume in the making is stored anew. -/
theorem Mv.size0 {E : TypeId} {w0 : World} {bo : Nat} {W H D W' : Int} {cs : List Nat} {wr : World} (h : Mv E w0 bo W H D cs wr) : Mv E w0 bo W' H D cs (wr.setCell ⟨bo, 0, none⟩ (.int .i64 W')) := by
  obtain ⟨a, n, c, h1, ⟨zs, k1, k2, k3⟩, h3, h4, h5⟩ := h
  exact ⟨a, n, c, h1.set0, ⟨zs, k1, k2, ownsRow_set_other k3 (by exact h3) _⟩, h3, h4, h5.setCell (by exact h4) _⟩
theorem Mv.size1 {E : TypeId} {w0 : World} {bo : Nat} {W H D H' : Int} {cs : List Nat} {wr : World} (h : Mv E w0 bo W H D cs wr) : Mv E w0 bo W H' D cs (wr.setCell ⟨bo, 1, none⟩ (.int .i64 H')) := by
  obtain ⟨a, n, c, h1, ⟨zs, k1, k2, k3⟩, h3, h4, h5⟩ := h
  exact ⟨a, n, c, h1.set1, ⟨zs, k1, k2, ownsRow_set_other k3 (by exact h3) _⟩, h3, h4, h5.setCell (by exact h4) _⟩
theorem Mv.start2 {E T : TypeId} {w0 w1 : World} {W H D : Int} {x y z u : Value} {a : Option Addr} {n c : Nat} {cs : List Nat} (hb : Below (w0.alloc (.cells #[x, y, z, u] T)).heap.size (w0.alloc (.cells #[x, y, z, u] T)) w1) (ho : OC w1 (w0.alloc (.cells #[x, y, z, u] T)).heap.size E (.slice a n c) cs) :
    Mv E w0 w0.heap.size W H D cs ((((w1.setCell ⟨w0.heap.size, 0, none⟩ (.int .i64 W)).setCell ⟨w0.heap.size, 1, none⟩ (.int .i64 H)).setCell ⟨w0.heap.size, 2, none⟩ (.int .i64 D)).setCell ⟨w0.heap.size, 3, none⟩ (.slice a n c)) := by
  have hN := (Nw.new w0 x y z u T).below hb
  simp only [World.size_alloc] at ho hb
  refine ⟨a, n, c, hN.set0.set1.set2.set3, ?_, fun e => ?_, Nat.le_refl _, ?_⟩
  · exact OC.mono ((((ho.set _ (Nat.lt_succ_self _)).set _ (Nat.lt_succ_self _)).set _ (Nat.lt_succ_self _)).set _ (Nat.lt_succ_self _)) (Nat.le_succ _)
  · have := (ho.lt _ e).1; omega
  · exact (((((below1 w0 _).trans (hb.mono (Nat.le_succ _))).setCell (by simp) _).setCell (by simp) _).setCell (by simp) _).setCell (by simp) _
theorem OC.lit0 (w : World) (E : TypeId) : OC (w.alloc (.cells #[] E)) w.heap.size E (.slice (some ⟨w.heap.size, 0, none⟩) 0 0) [] := by
  have ho := World.ownsRow_lit (base := w.heap.size) (e := E) (size := 1) w #[] 0 (Nat.le_refl _) (by simp [maxLen]) (by simp)
  exact ⟨[], by simp, rfl, by simpa using ho⟩
end Go.FX
namespace Go.Proofs.Ytmgdofengamcmaa
open Go.FX Go.RowKit Go.WideShapes Go.ChangeShapes
attribute [local go_sem ↓] Go.wp_at_zero Go.wp_at_succ

set_option maxRecDepth 100000 in
set_option maxHeartbeats 4000000 in
theorem specCosts_any (W H D : Nat) (a0 : Option Addr) (n0 c0 bp : Nat) (cs : List Nat) (x y : Nat) (w : World) (hp : Pw w bp W H D (.slice a0 n0 c0)) (hv : FC w (.slice a0 n0 c0) cs) (b2 : W ≤ 24) (b4 : H ≤ 24) (b5 : H * W ≤ 256) (d1 : 1 ≤ D) (d2 : D ≤ 8) (hl : cs.length = H * W * D) (hx : x < W) (hy : y < H) :
    Calls Try.prog 100 #[.pointer (some ⟨bp, 0, none⟩), .int .i64 x, .int .i64 y] w (RRow 22 (cellL W D cs x y) w) := by
  obtain ⟨i0, hi, hz0, hz1, hz2⟩ := info_parts info_f32
  rw [← cellL_drop hl hx hy (by omega)]
  obtain ⟨zs, ⟨hz, a', cap', ev, k1, k2, k3⟩, rfl⟩ := hv
  rw [List.length_map] at hl
  simp only [Value.slice.injEq] at ev
  obtain ⟨rfl, rfl, rfl⟩ := ev
  have hend := (cost_lt (W := W) (H := H) (D := D) hx hy (d := D - 1) (by omega)).1
  have hmax : H * W * D ≤ 256 * 8 := Nat.mul_le_mul b5 d2
  have hWy : (W : Int) * (y : Int) = ((W * y : Nat) : Int) := by rw [Int.natCast_mul]
  have hWy2 : W * y ≤ 24 * 24 := Nat.mul_le_mul b2 (by omega)
  have hpl : ((x : Int) + ((W * y : Nat) : Int)) = ((y * W + x : Nat) : Int) := by rw [Nat.mul_comm W y]; push_cast; omega
  have hcell := (cost_lt (W := W) (H := H) (D := D) hx hy (d := D - 1) (by omega)).2
  have hpD : ((y * W + x : Nat) : Int) * (D : Int) = (((y * W + x) * D : Nat) : Int) := by rw [Int.natCast_mul]
  obtain ⟨p, hpp⟩ : ∃ p, p = (y * W + x) * D := ⟨_, rfl⟩
  rw [← hpp] at hend hpD ⊢
  rcases k3 with k3 | ⟨b, off, rfl, hb, hc⟩
  · subst k3; simp at hl; omega
  · have hnl : ((zs.drop p).take D).length = D := by rw [List.length_take, List.length_drop]; omega
    have hmap : ((zs.map (cn .f32)).drop p).take D = ((zs.drop p).take D).map (cn .f32) := by rw [List.map_take, List.map_drop]
    rw [hmap]
    obtain ⟨ns, hns⟩ : ∃ ns, ns = (zs.drop p).take D := ⟨_, rfl⟩
    rw [← hns] at hnl ⊢
    have hnz : ∀ z ∈ ns, z < width .f32 := fun z hzz => hz z (List.mem_of_mem_drop (List.mem_of_mem_take (hns ▸ hzz)))
    have hcn : ∀ j, j < D → w.cell? ⟨b, off + p + j, none⟩ = some (.float .f32 (ns.getD j 0)) := fun j hj => by
      have h1 := hc (p + j) (by omega)
      rw [← Nat.add_assoc] at h1
      rw [h1]
      have : ns.getD j 0 = zs.getD (p + j) 0 := by rw [hns]; simp [List.getD, List.getElem?_take, hj]
      rw [this]
    have hz' := Lib.hid hnz
    have hc' := Lib.hid hcn
    have hn' := Lib.hid hnl
    have s1 : IntKind.i64.wrap ((W : Int) * (y : Int)) = ((W * y : Nat) : Int) := by rw [hWy]; exact IntWalk.i64_in _ (by omega)
    have s2 : IntKind.i64.wrap ((x : Int) + ((W * y : Nat) : Int)) = ((y * W + x : Nat) : Int) := by rw [hpl]; exact IntWalk.i64_in _ (by omega)
    have s3 : IntKind.i64.wrap (((y * W + x : Nat) : Int) * (D : Int)) = (p : Int) := by rw [hpD]; exact IntWalk.i64_in _ (by omega)
    have s4 : IntKind.i64.wrap ((p : Int) + (D : Int)) = (p : Int) + (D : Int) := IntWalk.i64_in _ (by omega)
    have t1 : (0 : Int) ≤ (p : Int) := by omega
    have t2 : (p : Int) ≤ (p : Int) + (D : Int) := by omega
    have t3 : (p : Int) + (D : Int) ≤ (zs.length : Int) := by omega
    have t4 : (p : Int) + (D : Int) ≤ (c0 : Int) := by omega
    have t5 : ((p : Int) + (D : Int)).toNat = p + D := by omega
    have t6 : ((p : Int) + (D : Int) - (p : Int)).toNat = D := by omega
    have hmx : zs.length ≤ 2048 := by omega
    generalize hgw : W * y = wy at *
    generalize hgq : y * W + x = q at *
    have HH := Lib.hid (And.intro hpp (And.intro hl (And.intro hend (And.intro hpl (And.intro hns hcell)))))
    clear hpp hl hend hpl hpD hWy hgw hgq hcn hnz hz hc hnl hns hmap hcell hWy2 hmax
    obtain ⟨hp1, p0, p1, p2, p3⟩ := id hp
    go_enter Try.func100, Try.ntmps100
    go_wp2_with fail
    go_quiet (fail)
    go_upto_region 2 with fail
    obtain ⟨w0, hw0⟩ : ∃ w0, w0 = w.drewN nq := ⟨_, rfl⟩
    rw [← hw0]
    have hb0 : Below w.heap.size w w0 := by rw [hw0]; exact below_drewN (Below.refl _ _) _
    have hs0 : w0.heap.size = w.heap.size := by rw [hw0]; rfl
    have hp0 : Pw w0 bp W H D (.slice (some ⟨b, off, none⟩) zs.length c0) := by rw [hw0]; exact hp.drewN _
    have hcc : ∀ j, j < D → w0.cell? ⟨b, off + p + j, none⟩ = some (.float .f32 (ns.getD j 0)) := by rw [hw0]; exact hc'.out
    clear hw0
    obtain ⟨hq1, q0, q1, q2, q3⟩ := id hp0
    have hbz : b < w0.heap.size := by omega
    have hnews : ∀ m j u, (ns.map (Value.float .f32))[j]? = some u → ((w0.alloc (.cells #[] 22)).drewN m).cell? ((⟨b, off + p, none⟩ : Addr).add j) = some u := fun m j u hj => by
      rw [List.getElem?_map, Option.map_eq_some_iff] at hj
      obtain ⟨z, hz, rfl⟩ := hj
      have hjl : j < ns.length := (List.getElem?_eq_some_iff.1 hz).1
      have e1 : ns.getD j 0 = z := by simp [List.getD, hz]
      have e2 := hcc j (by rw [← hn'.out]; exact hjl)
      rw [e1] at e2
      have e3 : ((⟨b, off + p, none⟩ : Addr).add j) = ⟨b, off + p + j, none⟩ := by unfold Addr.add; split <;> simp_all
      rw [e3, World.cell?_drewN, World.cell?_alloc_lt _ _ _ (by show b < _; omega)]
      exact e2
    have hnews := Lib.hid hnews
    have hnl2 := hn'.out
    have hlen3 : (ns.map (Value.float .f32)).length = D * 1 := by rw [List.length_map, hnl2]; omega
    have hlen4 := Lib.hid hlen3
    have hnl3 := Lib.hid hnl2
    have hpv := Lib.hid (And.intro hp0 hb0)
    have hcc' := Lib.hid hcc
    have hs0' := Lib.hid hs0
    have t7 : (c0 = p) = False := eq_false (by omega)
    clear hp0 hb0 hcc hlen3 hnl2 hp p0 p1 p2 p3 hs0
    go_region_held3 (fun w' => Below (w0.heap.size) w0 w' ∧ (w0.heap.size) ≤ w'.heap.size ∧ (∀ b o, b < (w0.heap.size) → w'.cell? ⟨b, o, none⟩ = w0.cell? ⟨b, o, none⟩)) (first | assumption | (refine keepOfN (by omega) ?_; ((repeat' (first | (refine bel_set ?_ ?_ _) | (refine bel_al ?_ ?_ _) | exact Below.refl _ _ | assumption | exact And.left (by assumption) | (refine below_drewN ?_ _) | (refine Below.drew ?_))) <;> (first | omega | (simp; done) | (simp; omega)))))
      ((refine step_append_lies _ (by rfl) _ _ _ (by rfl) w0.heap.size 22 i0 _ 1 4 Try.underlying37 hi hz0 hz1 hz2 rfl (by omega) (.slice (some ⟨w0.heap.size, 0, none⟩) 0 0) 0 [] (by rfl) (by first | exact World.ownsRow_lit w0 #[] 0 (Nat.le_refl _) (by simp [maxLen]) (by simp))
            ⟨b, off + p, none⟩ D (c0 - p) (ns.map (.float .f32)) (by rfl) hlen4.out (hnews.out _) (by intro u hu; obtain ⟨z, _, rfl⟩ := List.mem_map.1 hu; rfl) (by omega) (by unfold maxLen; omega) (by omega) (by simp) (w0.heap.size + 1) (by simp) ?_; intro gg cap3 w3 hown3 hgrow hat3 hlt3; have hbA : Below w0.heap.size w0 w3 := Below.grown (by ((repeat' (first | (refine bel_set ?_ ?_ _) | (refine bel_al ?_ ?_ _) | exact Below.refl _ _ | assumption | (refine below_drewN ?_ _) | (refine Below.drew ?_))) <;> (first | omega | (simp; done) | (simp; omega)))) hgrow (by simp) (fun k hk => by simp [Value.ownBlock] at hk; omega)))
    have hb3 := Lib.hid hbA
    have ho3 := Lib.hid hown3
    clear hbA hown3 hgrow hat3 hnews
    go_wp2_with fail
    go_ret
    have ho := ho3.out
    have hb := hb3.out
    simp only [Nat.zero_add, List.nil_append] at ho
    rw [← hnl3.out] at ho ⊢
    exact ⟨_, _, ns, by first | rfl | simp, hz'.out, rfl, by rw [← hs0'.out]; exact ho, hpv.out.2.trans (hb.mono (Nat.le_of_eq hs0'.out.symm))⟩
end Go.Proofs.Ytmgdofengamcmaa
