import Derived.Test.YtaclgmafcakiiaaWs
import Derived.Laws.CopyOwn
set_option linter.unusedVariables false
set_option linter.unusedSimpArgs false
namespace Go.FX
open Go Go.RowKit
/-- The array of the first eight. -/
def arr8 (zs : List Nat) : Value := .agg #[.float .f32 (zs.getD 0 0), .float .f32 (zs.getD 1 0), .float .f32 (zs.getD 2 0), .float .f32 (zs.getD 3 0), .float .f32 (zs.getD 4 0), .float .f32 (zs.getD 5 0), .float .f32 (zs.getD 6 0), .float .f32 (zs.getD 7 0)]
theorem splice8 (zs : List Nat) (h : zs.length ≤ 8) : splice [.float .f32 0, .float .f32 0, .float .f32 0, .float .f32 0, .float .f32 0, .float .f32 0, .float .f32 0, .float .f32 0] 0 (zs.map (Value.float .f32)) = [.float .f32 (zs.getD 0 0), .float .f32 (zs.getD 1 0), .float .f32 (zs.getD 2 0), .float .f32 (zs.getD 3 0), .float .f32 (zs.getD 4 0), .float .f32 (zs.getD 5 0), .float .f32 (zs.getD 6 0), .float .f32 (zs.getD 7 0)] := by
  match zs, h with
  | [], _ => rfl
  | [a], _ => rfl
  | [a, b], _ => rfl
  | [a, b, c], _ => rfl
  | [a, b, c, d], _ => rfl
  | [a, b, c, d, e], _ => rfl
  | [a, b, c, d, e, f], _ => rfl
  | [a, b, c, d, e, f, g], _ => rfl
  | [a, b, c, d, e, f, g, i], _ => rfl
theorem arr_cells {w : World} {g : Nat} {t : TypeId} {z0 z1 z2 z3 z4 z5 z6 z7 : Value} (h : w.heap[g]? = some (.cells ([z0, z1, z2, z3, z4, z5, z6, z7] : List Value).toArray t (0, 0))) :
    w.cell? ⟨g, 0, none⟩ = some z0 ∧ w.cell? ⟨g, 1, none⟩ = some z1 ∧ w.cell? ⟨g, 2, none⟩ = some z2 ∧ w.cell? ⟨g, 3, none⟩ = some z3 ∧ w.cell? ⟨g, 4, none⟩ = some z4 ∧ w.cell? ⟨g, 5, none⟩ = some z5 ∧ w.cell? ⟨g, 6, none⟩ = some z6 ∧ w.cell? ⟨g, 7, none⟩ = some z7 := by
  simp [World.cell?, h]
theorem zero_cells {w w' : World} {g : Nat} (hZ : ∀ i, i < 8 → w.cell? ⟨g, i, none⟩ = some (.float .f32 0) ∧ w.frozen? ⟨g, i, none⟩ = false) (hb : Below w.heap.size w w') (hg : g < w.heap.size) :
    (w'.cell? ⟨g, 0, none⟩ = some (.float .f32 0) ∧ w'.frozen? ⟨g, 0, none⟩ = false) ∧ (w'.cell? ⟨g, 1, none⟩ = some (.float .f32 0) ∧ w'.frozen? ⟨g, 1, none⟩ = false) ∧ (w'.cell? ⟨g, 2, none⟩ = some (.float .f32 0) ∧ w'.frozen? ⟨g, 2, none⟩ = false) ∧ (w'.cell? ⟨g, 3, none⟩ = some (.float .f32 0) ∧ w'.frozen? ⟨g, 3, none⟩ = false) ∧ (w'.cell? ⟨g, 4, none⟩ = some (.float .f32 0) ∧ w'.frozen? ⟨g, 4, none⟩ = false) ∧ (w'.cell? ⟨g, 5, none⟩ = some (.float .f32 0) ∧ w'.frozen? ⟨g, 5, none⟩ = false) ∧ (w'.cell? ⟨g, 6, none⟩ = some (.float .f32 0) ∧ w'.frozen? ⟨g, 6, none⟩ = false) ∧ (w'.cell? ⟨g, 7, none⟩ = some (.float .f32 0) ∧ w'.frozen? ⟨g, 7, none⟩ = false) := by
  have h := fun i (hi : i < 8) => (⟨((bcell hb).1 g i hg).trans (hZ i hi).1, ((bcell hb).2 g i hg).trans (hZ i hi).2⟩ : w'.cell? ⟨g, i, none⟩ = some (.float .f32 0) ∧ w'.frozen? ⟨g, i, none⟩ = false)
  exact ⟨h 0 (by omega), h 1 (by omega), h 2 (by omega), h 3 (by omega), h 4 (by omega), h 5 (by omega), h 6 (by omega), h 7 (by omega)⟩
end Go.FX
namespace Go.Proofs.Ytaclgmafcakiiaa
open Go.FX Go.RowKit Go.WideShapes Go.ChangeShapes

set_option maxRecDepth 100000 in
set_option maxHeartbeats 4000000 in
theorem arrayOf_any (v : Value) (zs : List Nat) (w : World) (hv : FS w v zs) (h1 : 1 ≤ zs.length) (h8 : zs.length ≤ 8) :
    Calls Try.prog 79 #[v] w (fun e w' => e = .returned (arr8 zs) ∧ Below w.heap.size w w') := by
  obtain ⟨_, a0, cap, rfl, hnc, hcm, hor⟩ := hv
  obtain ⟨b, off, rfl, hbb, hcell⟩ : ∃ b off, a0 = some ⟨b, off, none⟩ ∧ b < w.heap.size ∧ ∀ i, i < zs.length → w.cell? ⟨b, off + i, none⟩ = some (.float .f32 (zs.getD i 0)) := by
    rcases hor with h | ⟨b, off, h2, h3, h4⟩
    · rw [h] at h1; simp at h1
    · exact ⟨b, off, h2, h3, h4⟩
  have hsrc : Hid (∀ (w1 : World), Below w.heap.size w w1 → ∀ (j : Nat) (u : Value), (zs.map (Value.float .f32))[j]? = some u → w1.cell? ((⟨b, off, none⟩ : Addr).add j) = some u) := Lib.hid fun w1 hb1 j u hj => by
    obtain ⟨hj', hu⟩ := List.getElem?_eq_some_iff.1 hj
    have hj2 : j < zs.length := by simpa using hj'
    have hadd : (⟨b, off, none⟩ : Addr).add j = ⟨b, off + j, none⟩ := by unfold Addr.add; split <;> simp_all
    rw [hadd, (bcell hb1).1 b (off + j) hbb, hcell j hj2, ← hu]
    simp [List.getD, hj2]
  have hlen : (zs.map (Value.float .f32)).length = zs.length := by simp
  have hone : ∀ u ∈ zs.map (Value.float .f32), u.oneCell' = true := by
    intro u hu
    obtain ⟨z, _, rfl⟩ := List.mem_map.1 hu
    rfl
  have hb0 : Below w.heap.size w ((w.alloc (.cells #[.float .f32 0, .float .f32 0, .float .f32 0, .float .f32 0, .float .f32 0, .float .f32 0, .float .f32 0, .float .f32 0] 89)).alloc (.cells #[.float .f32 0, .float .f32 0, .float .f32 0, .float .f32 0, .float .f32 0, .float .f32 0, .float .f32 0, .float .f32 0] 89)) := below2 _ _ _
  clear hor hcell
  go_enter Try.func79, Try.ntmps79
  go_upto_region 2 with fail
  have hheap : ((w.alloc (.cells #[.float .f32 0, .float .f32 0, .float .f32 0, .float .f32 0, .float .f32 0, .float .f32 0, .float .f32 0, .float .f32 0] 89)).alloc (.cells #[.float .f32 0, .float .f32 0, .float .f32 0, .float .f32 0, .float .f32 0, .float .f32 0, .float .f32 0, .float .f32 0] 89)).heap[w.heap.size + 1]? = some (.cells ([.float .f32 0, .float .f32 0, .float .f32 0, .float .f32 0, .float .f32 0, .float .f32 0, .float .f32 0, .float .f32 0] : List Value).toArray 89 (0, 0)) := by
    have := heap_alloc_new (w.alloc (.cells #[.float .f32 0, .float .f32 0, .float .f32 0, .float .f32 0, .float .f32 0, .float .f32 0, .float .f32 0, .float .f32 0] 89)) (.cells #[.float .f32 0, .float .f32 0, .float .f32 0, .float .f32 0, .float .f32 0, .float .f32 0, .float .f32 0, .float .f32 0] 89)
    simpa using this
  have hszz : (Try.prog.info? 37).map (·.size) = some 1 := by
    obtain ⟨i0, hi, hz0, hz1, hz2⟩ := info_parts info_f32
    rw [hi, Option.map_some, hz1]
  have hmin : (zs.map (Value.float .f32)).length = Nat.min zs.length 8 := by rw [hlen]; exact (Nat.min_eq_left h8).symm
  have hpos : 0 < (zs.map (Value.float .f32)).length → (some ⟨w.heap.size + 1, 0, none⟩ : Option Addr) = some ⟨w.heap.size + 1, 0, none⟩ ∧ ∃ ad : Addr, (some ⟨b, off, none⟩ : Option Addr) = some ad ∧ ∀ j u, (zs.map (Value.float .f32))[j]? = some u → ((w.alloc (.cells #[.float .f32 0, .float .f32 0, .float .f32 0, .float .f32 0, .float .f32 0, .float .f32 0, .float .f32 0, .float .f32 0] 89)).alloc (.cells #[.float .f32 0, .float .f32 0, .float .f32 0, .float .f32 0, .float .f32 0, .float .f32 0, .float .f32 0, .float .f32 0] 89)).cell? (ad.add j) = some u := fun _ => ⟨rfl, _, rfl, fun j u hj => hsrc.out _ hb0 j u hj⟩
  have hbz : Below (w.alloc (.cells #[.float .f32 0, .float .f32 0, .float .f32 0, .float .f32 0, .float .f32 0, .float .f32 0, .float .f32 0, .float .f32 0] 89)).heap.size (w.alloc (.cells #[.float .f32 0, .float .f32 0, .float .f32 0, .float .f32 0, .float .f32 0, .float .f32 0, .float .f32 0, .float .f32 0] 89)) ((w.alloc (.cells #[.float .f32 0, .float .f32 0, .float .f32 0, .float .f32 0, .float .f32 0, .float .f32 0, .float .f32 0, .float .f32 0] 89)).alloc (.cells #[.float .f32 0, .float .f32 0, .float .f32 0, .float .f32 0, .float .f32 0, .float .f32 0, .float .f32 0, .float .f32 0] 89)) := below1 _ _
  have hZ : ∀ i, i < 8 → (w.alloc (.cells #[.float .f32 0, .float .f32 0, .float .f32 0, .float .f32 0, .float .f32 0, .float .f32 0, .float .f32 0, .float .f32 0] 89)).cell? ⟨w.heap.size, i, none⟩ = some (.float .f32 0) ∧ (w.alloc (.cells #[.float .f32 0, .float .f32 0, .float .f32 0, .float .f32 0, .float .f32 0, .float .f32 0, .float .f32 0, .float .f32 0] 89)).frozen? ⟨w.heap.size, i, none⟩ = false := by
    intro i hi
    have : i = 0 ∨ i = 1 ∨ i = 2 ∨ i = 3 ∨ i = 4 ∨ i = 5 ∨ i = 6 ∨ i = 7 := by omega
    rcases this with rfl | rfl | rfl | rfl | rfl | rfl | rfl | rfl <;> (constructor <;> go_simp)
  have hZ := Lib.hid hZ
  have hsp := splice8 zs h8
  go_wp2_with (refine wpList_copy_splice rfl _ _ _ _ rfl 37 Try.underlying22 hszz _ _ _ _ _ _ rfl rfl (w.heap.size + 1) 0 [.float .f32 0, .float .f32 0, .float .f32 0, .float .f32 0, .float .f32 0, .float .f32 0, .float .f32 0, .float .f32 0] 89 hheap (zs.map (Value.float .f32)) hmin hpos (by simp; omega) hone (w.alloc (.cells #[.float .f32 0, .float .f32 0, .float .f32 0, .float .f32 0, .float .f32 0, .float .f32 0, .float .f32 0, .float .f32 0] 89)).heap.size (w.alloc (.cells #[.float .f32 0, .float .f32 0, .float .f32 0, .float .f32 0, .float .f32 0, .float .f32 0, .float .f32 0, .float .f32 0] 89)) hbz (by simp) ?_; intro w' hhp hbel; rw [hsp] at hhp; have hcs := arr_cells hhp.out; obtain ⟨c0, c1, c2, c3, c4, c5, c6, c7⟩ := hcs; obtain ⟨d0, d1, d2, d3, d4, d5, d6, d7⟩ := zero_cells hZ.out hbel (by simp))
  refine bodyPost_ret (v := ?v) ?hr rfl ?post
  case hr => (simp [results, Try.results79, go_sem, d0.1, d0.2, d1.1, d1.2, d2.1, d2.2, d3.1, d3.2, d4.1, d4.2, d5.1, d5.2, d6.1, d6.2, d7.1, d7.2]; try rfl)
  case post =>
    have hbw : Below w.heap.size w w' := (below1 w _).trans (hbel.mono (by simp))
    exact ⟨by simp [arr8], by ((repeat' (first | (refine bel_set ?_ ?_ _) | (refine bel_al ?_ ?_ _) | exact Below.refl _ _ | assumption | (refine below_drewN ?_ _) | (refine Below.drew ?_))) <;> (first | omega | (simp; done) | (simp; omega)))⟩
end Go.Proofs.Ytaclgmafcakiiaa
