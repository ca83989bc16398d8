import Derived.Test.YtbiobmdibiplfaaPl
import Derived.Test.YtbiobmdibiplfaaPi
import Derived.Test.YtbiobmdibiplfaaPq
import Derived.Deep.DrawnRows
import Derived.IntWalk
set_option linter.unusedVariables false
set_option linter.unusedSimpArgs false
namespace Go.FX
open Go Go.RowKit
theorem keepOfN {n : Nat} {W w' : World} (hn : n ≤ W.heap.size) (h : Below n W w') : Below n W w' ∧ n ≤ w'.heap.size ∧ (∀ b o, b < n → w'.cell? ⟨b, o, none⟩ = W.cell? ⟨b, o, none⟩) := ⟨h, Nat.le_trans hn h.size, (bcell2 h).1⟩
/-- What a row with numbers looks like. -/
theorem OC.own_form {w : World} {base : Nat} {E : TypeId} {a : Option Addr} {n c : Nat} {cs : List Nat} (h : OC w base E (.slice a n c) cs) (hp : 0 < cs.length) : ∃ g cap, (Value.slice a n c) = .slice (some ⟨g, 0, none⟩) n cap ∧ n = cs.length ∧ ∀ k, w.frozen? ⟨g, k, none⟩ = false := by
  have hn := h.fc.sized.1
  obtain ⟨zs, h1, h2, h3⟩ := h
  have hz : zs.length = cs.length := by rw [← h2]; simp
  obtain ⟨g, cap, e, _, _⟩ := h3.form (by omega)
  obtain ⟨rfl, rfl, rfl⟩ := Value.slice.inj e
  exact ⟨g, c, by rw [hn, ← hz], hn, fun k => h3.frozenAt k⟩
theorem OC.row_at {w : World} {base : Nat} {E : TypeId} {g n c : Nat} {cs : List Nat} (h : OC w base E (.slice (some ⟨g, 0, none⟩) n c) cs) {k : Nat} (hk : k < cs.length) : ∃ z, Fl .f32 z (cs.getD k 0) ∧ w.cell? ⟨g, k, none⟩ = some (.float .f32 z) := by
  obtain ⟨b, off, cap, z, ev, _, _, _, hz, hc⟩ := h.fc.cell hk
  simp only [Value.slice.injEq, Option.some.injEq, Addr.mk.injEq, and_true] at ev
  obtain ⟨⟨rfl, rfl⟩, _⟩ := ev
  exact ⟨z, hz, by rwa [Nat.zero_add] at hc⟩
theorem OC.put {w : World} {base : Nat} {E : TypeId} {g n cap : Nat} {cs : List Nat} {k r c : Nat} (h : OC w base E (.slice (some ⟨g, 0, none⟩) n cap) cs) (hk : k < cs.length) (hr : Fl .f32 r c) :
    OC (w.setCell ⟨g, k, none⟩ (.float .f32 r)) base E (.slice (some ⟨g, 0, none⟩) n cap) (cs.set k c) ∧ w.grownBy (w.setCell ⟨g, k, none⟩ (.float .f32 r)) (some g) := by
  obtain ⟨zs, h1, rfl, h3⟩ := h
  obtain ⟨a', c', ev, _, _⟩ := (OC.of h1 h3).fc.shape
  simp only [Value.slice.injEq, List.length_map] at ev
  obtain ⟨_, rfl, _⟩ := ev
  have hst := h3.stored k (.float .f32 r)
  rw [← List.map_set] at hst
  refine ⟨⟨zs.set k r, ?_, by rw [List.map_set, hr.eq], by rw [List.length_set]; exact hst.1⟩, hst.2⟩
  intro z hz
  rcases List.mem_or_eq_of_mem_set hz with h | h
  · exact h1 z h
  · rw [h]; exact hr.lt
theorem gridL_at (W H : Nat) (cs : List Nat) (hl : cs.length = H * W) : gridL W (atC W H cs) (H * W) = cs := by
  refine Eq.trans (gridL_congr fun x y hx hy => ?_) (gridL_self W H cs hl)
  exact atC_in cs (Int.natCast_nonneg _) (Int.ofNat_lt.2 hx) (Int.natCast_nonneg _) (Int.ofNat_lt.2 hy)
end Go.FX
namespace Go.Proofs.Ytbiobmdibiplfaa
open Go.FX Go.RowKit Go.WideShapes Go.ChangeShapes
attribute [local go_sem ↓] Go.wp_at_zero Go.wp_at_succ

set_option maxRecDepth 100000 in
set_option maxHeartbeats 4000000 in
theorem specOwn_any (W H : Int) (a0 : Option Addr) (n0 c0 bp : Nat) (cs : List Nat) (w : World) (hp : Pv w bp W H (.slice a0 n0 c0)) (hv : FC w (.slice a0 n0 c0) cs) (hpos : 0 < cs.length) (hmx : cs.length ≤ 1048576) :
    Calls Try.prog 103 #[.pointer (some ⟨bp, 0, none⟩)] w (RPic1 49 W H cs w) := by
  obtain ⟨i0, hi, hz0, hz1, hz2⟩ := info_parts info_f32
  obtain ⟨zs, ⟨hz, a', cap', ev, k1, k2, k3⟩, rfl⟩ := hv
  rw [List.length_map] at hpos hmx
  simp only [Value.slice.injEq] at ev
  obtain ⟨rfl, rfl, rfl⟩ := ev
  rcases k3 with k3 | ⟨b, off, rfl, hb, hc⟩
  · subst k3; simp at hpos
  · have hz' := Lib.hid hz
    have hc' := Lib.hid hc
    clear hz hc
    go_enter Try.func103, Try.ntmps103
    go_upto_region 1 with fail
    obtain ⟨w0, hw0⟩ : ∃ w0, w0 = w.alloc (.cells #[.int .i64 0, .int .i64 0, .slice none 0 0] 27) := ⟨_, rfl⟩
    rw [← hw0]
    have hp0 : Pv w0 bp W H (.slice (some ⟨b, off, none⟩) zs.length c0) := by rw [hw0]; exact hp.alloc _
    have hn0 : Nv w0 w.heap.size (.int .i64 0) (.int .i64 0) (.slice none 0 0) := by rw [hw0]; exact Nv.new _ _ _ _ _
    have hb0 : Below w.heap.size w w0 := by rw [hw0]; exact below1 _ _
    have hs0 : w0.heap.size = w.heap.size + 1 := by rw [hw0]; simp
    have hl0 : bp < w.heap.size := hp.1
    clear hw0 hp
    obtain ⟨hp1, p0, p1, p2⟩ := id hp0
    have hs1 : w.heap.size < w0.heap.size := by omega
    have hs2 : w0.heap.size ≤ w.heap.size + 1 := by omega
    clear hs0
    have hpv := Lib.hid (And.intro hp0 (And.intro hn0 hb0))
    clear hp0 hn0 hb0
    have hnews : ∀ m j u, (zs.map (Value.float .f32))[j]? = some u → ((w0.alloc (.cells #[] 49)).drewN m).cell? ((⟨b, off, none⟩ : Addr).add j) = some u := fun m j u hj => by
      rw [List.getElem?_map, Option.map_eq_some_iff] at hj
      obtain ⟨z, hz, rfl⟩ := hj
      have hjl : j < zs.length := (List.getElem?_eq_some_iff.1 hz).1
      have e1 : zs.getD j 0 = z := by simp [List.getD, hz]
      have e2 := hc'.out j hjl
      rw [e1] at e2
      have e3 : ((⟨b, off, none⟩ : Addr).add j) = ⟨b, off + j, none⟩ := by unfold Addr.add; split <;> simp_all
      rw [e3, World.cell?_drewN, World.cell?_alloc_lt _ _ _ (by show b < _; omega), (bcell hpv.out.2.2).1 b _ hb]
      exact e2
    have hnews := Lib.hid hnews
    go_region_held3 (fun w' => Below (w.heap.size) w0 w' ∧ (w.heap.size) ≤ w'.heap.size ∧ (∀ b o, b < (w.heap.size) → w'.cell? ⟨b, o, none⟩ = w0.cell? ⟨b, o, none⟩)) (first | assumption | (refine keepOfN (by omega) ?_; ((repeat' (first | (refine bel_set ?_ ?_ _) | (refine bel_al ?_ ?_ _) | exact Below.refl _ _ | assumption | exact And.left (by assumption) | (refine below_drewN ?_ _) | (refine Below.drew ?_))) <;> (first | omega | (simp; done) | (simp; omega)))))
      ((refine step_append_lies _ (by rfl) _ _ _ (by rfl) w0.heap.size 49 i0 _ 1 4 Try.underlying22 hi hz0 hz1 hz2 rfl (by omega) (.slice (some ⟨w0.heap.size, 0, none⟩) 0 0) 0 [] (by rfl) (by first | exact World.ownsRow_lit w0 #[] 0 (Nat.le_refl _) (by simp [maxLen]) (by simp))
            ⟨b, off, none⟩ zs.length c0 (zs.map (.float .f32)) (by rfl) (by simp) (hnews.out _) (by intro u hu; obtain ⟨z, _, rfl⟩ := List.mem_map.1 hu; rfl) hpos (by unfold maxLen; omega) (by omega) (by simp) (w0.heap.size + 1) (by simp) ?_; intro gg cap3 w3 hown3 hgrow hat3 hlt3; have hbA : Below w.heap.size w0 w3 := Below.grown (by ((repeat' (first | (refine bel_set ?_ ?_ _) | (refine bel_al ?_ ?_ _) | exact Below.refl _ _ | assumption | (refine below_drewN ?_ _) | (refine Below.drew ?_))) <;> (first | omega | (simp; done) | (simp; omega)))) hgrow (by simp; omega) (fun k hk => by simp [Value.ownBlock] at hk; omega); have hN3 := (hpv.out.2.1.alloc (.cells #[] 49)).drewN 1 |>.kept hgrow (by simp [Value.ownBlock]; omega); obtain ⟨_, r0, r1, r2, rf⟩ := hN3))
    have hb3 := Lib.hid hbA
    have ho3 := Lib.hid hown3
    clear hbA hown3 hgrow hat3 hnews
    go_wp2_with fail
    refine bodyPost_ret (v := ?v) ?hr rfl ?post
    case hr => (simp [results, Try.results103, go_sem, r0, r1, r2, rf]; try rfl)
    case post =>
      have h0 := hpv.out.2.2
      have h1 := hb3.out
      have ho := ho3.out
      simp only [Nat.zero_add, List.nil_append] at ho
      have hoc := OC.of hz'.out (by first | exact ho | (rw [List.length_map] at ho; exact ho))
      refine ⟨_, _, _, rfl, ?_, ?_⟩
      · ((repeat' (first | (refine bel_set ?_ ?_ _) | (refine bel_al ?_ ?_ _) | exact Below.refl _ _ | assumption | (refine below_drewN ?_ _) | (refine Below.drew ?_) | (refine Below.trans ?_ (Below.mono h1 ?_)))) <;> (first | omega | (simp; done) | (simp; omega)))
      · (refine OC.mono (base := ?bb) ?hh ?hl; (case hh => ((repeat' (first | (refine OC.set ?_ _ ?_) | (refine OC.alloc ?_ _) | exact hoc | (refine OC.drewN ?_ _))) <;> (first | omega | (simp; done) | (simp; omega)))); (case hl => (first | omega | (simp; done) | (simp; omega))))
end Go.Proofs.Ytbiobmdibiplfaa
