import Derived.Test.YtbiobmdibiplfaaVm
import Derived.Test.YtbiobmdibiplfaaPj
import Derived.ChangeKeysEq
import Derived.Laws.CopyOwn
set_option linter.unusedVariables false
set_option linter.unusedSimpArgs false
namespace Go.FX
open Go Go.RowKit
/-- A row of 24 integers in memory. -/
def arrI (f : Nat → Int) : Array Value := ((List.range 24).map fun j => Value.int .i64 (f j)).toArray
theorem arrI_size (f : Nat → Int) : (arrI f).size = 24 := by simp [arrI]
theorem arrI_get (f : Nat → Int) {j : Nat} (hj : j < 24) : (arrI f)[j]? = some (.int .i64 (f j)) := by simp [arrI, hj]
theorem arrI_ext {f g : Nat → Int} (h : ∀ j, j < 24 → f j = g j) : arrI f = arrI g := by
  unfold arrI
  congr 1
  exact List.map_congr_left fun j hj => by rw [h j (List.mem_range.1 hj)]
theorem arrI_one (f : Nat → Int) : (arrI f).all (·.oneCell') = true := by
  rw [Array.all_eq_true_iff_forall_mem]
  intro x hx
  simp only [arrI, List.mem_toArray, List.mem_map] at hx
  obtain ⟨j, _, rfl⟩ := hx
  rfl
theorem arrI_set (f : Nat → Int) (k : Nat) (v : Int) : (arrI f).setIfInBounds k (.int .i64 v) = arrI (fun j => if j = k then v else f j) := by
  apply Array.ext_getElem?
  intro i
  rw [Array.getElem?_setIfInBounds]
  by_cases hi : i < 24
  · by_cases e : k = i
    · subst e
      rw [if_pos rfl, arrI_size, if_pos hi, arrI_get _ hi, if_pos rfl]
    · rw [if_neg e, arrI_get _ hi, arrI_get _ hi, if_neg (fun h => e h.symm)]
  · have h1 : (arrI f)[i]? = none := by rw [Array.getElem?_eq_none]; rw [arrI_size]; omega
    have h2 : (arrI fun j => if j = k then v else f j)[i]? = none := by rw [Array.getElem?_eq_none]; rw [arrI_size]; omega
    rw [h1, h2]
    split
    · rw [if_neg (by rw [arrI_size]; omega)]
    · rfl
def eq24 (f g : Nat → Int) : Bool := (List.range 24).all fun i => decide (f i = g i)
theorem run_part_int {P : Program} {e : TypeId} {k : IntKind} (hu : P.underlying e = some (.int k)) (xs : Array Value) (off : Nat) (v : Value) (hx : xs[off]? = some v) (w : World) : (part e xs off).run P w = .ok v w := by
  simp [part, isAgg, run_underlying hu, hx]
theorem run_equal_int {P : Program} {e : TypeId} {k : IntKind} (hu : P.underlying e = some (.int k)) (d : Nat) (a b : Int) (w : World) : (Op.equalIn (d + 1) e (.int k a) (.int k b)).run P w = .ok (decide (a = b)) w := by
  simp [Op.equalIn, run_underlying hu]
  try rfl
theorem run_eqItems_int {P : Program} {e : TypeId} {k : IntKind} (hu : P.underlying e = some (.int k)) (d : Nat) (X Y : Array Value) (f g : Nat → Int) (w : World) : ∀ is : List Nat, (∀ i ∈ is, X[i * 1]? = some (.int k (f i)) ∧ Y[i * 1]? = some (.int k (g i))) →
    (Op.eqItems (d + 1) e 1 X Y is).run P w = .ok (is.all fun i => decide (f i = g i)) w
  | [], _ => by simp [Op.eqItems]
  | i :: is, h => by
    have ih := run_eqItems_int hu d X Y f g w is (fun j hj => h j (List.mem_cons_of_mem _ hj))
    obtain ⟨hx, hy⟩ := h i (List.mem_cons_self ..)
    simp only [Op.eqItems, Sem.run_bind, run_part_int hu X _ _ hx, run_part_int hu Y _ _ hy, run_equal_int hu, Result.andThen_ok, List.all_cons]
    cases decide (f i = g i) with
    | true => simpa using ih
    | false => simp
theorem run_eq24 {P : Program} {t e : TypeId} {i : TypeInfo} (ht : P.underlying t = some (.array 24 e)) (hu : P.underlying e = some (.int .i64)) (hi : P.info? e = some i) (hc : P.cellsOf e = 1) (f g : Nat → Int) (w : World) :
    (Op.equalIn 10000 t (.agg (arrI f)) (.agg (arrI g))).run P w = .ok (eq24 f g) w := by
  rw [run_equalIn_array w 9999 _ _ ht hi, hc]
  refine run_eqItems_int hu 9998 _ _ f g w (List.range 24) fun j hj => ?_
  have hj := List.mem_range.1 hj
  rw [Nat.mul_one]
  exact ⟨arrI_get f hj, arrI_get g hj⟩
def bitF (xs : List Nat) (j : Nat) : Int := (xs.getD j 0 : Nat)
theorem eq24_same {xs ys : List Nat} (hl : xs.length = ys.length) (h24 : xs.length ≤ 24) : eq24 (bitF xs) (bitF ys) = decide (xs = ys) := by
  by_cases h : xs = ys
  · subst h
    rw [decide_eq_true rfl]
    unfold eq24
    rw [List.all_eq_true]
    intro i _; simp
  · rw [decide_eq_false h]
    rw [Bool.eq_false_iff]
    intro hc
    refine h (List.ext_getElem hl fun i h1 h2 => ?_)
    unfold eq24 at hc
    rw [List.all_eq_true] at hc
    have := of_decide_eq_true (hc i (List.mem_range.2 (by omega)))
    unfold bitF at this
    have e1 : xs.getD i 0 = xs[i] := by simp [List.getD, h1]
    have e2 : ys.getD i 0 = ys[i] := by simp [List.getD, h2]
    rw [e1, e2] at this
    exact Int.ofNat.inj this
/-- What stands in the making of such a row: the first k are there. -/
def bAt (cs : List Nat) (k j : Nat) : Int := if j < k then (cs.getD j 0 : Nat) else 0
theorem bAt_all {cs : List Nat} {j : Nat} : bAt cs cs.length j = bitF cs j := by
  unfold bAt bitF
  split
  · rfl
  · rename_i h
    simp [List.getD, Nat.not_lt.1 h]
def R24 (w : World) (b : Nat) (t : TypeId) (f : Nat → Int) : Prop := w.heap[b]? = some (.cells (arrI f) t (0, 0))
theorem R24.lt {w : World} {b : Nat} {t : TypeId} {f : Nat → Int} (h : R24 w b t f) : b < w.heap.size := (Array.getElem?_eq_some_iff.1 h).1
theorem R24.below {w w' : World} {b : Nat} {t : TypeId} {f : Nat → Int} (h : R24 w b t f) (hb : Below w.heap.size w w') : R24 w' b t f := (hb.block b h.lt).trans h
theorem R24.cell {w : World} {b : Nat} {t : TypeId} {f : Nat → Int} (h : R24 w b t f) (j : Nat) (hj : j < 24) : w.cell? ⟨b, j, none⟩ = some (.int .i64 (f j)) := (cell_of_row w b j _ t _ h).trans (arrI_get f hj)
theorem R24.fz {w : World} {b : Nat} {t : TypeId} {f : Nat → Int} (h : R24 w b t f) (j : Nat) : w.frozen? ⟨b, j, none⟩ = false := by
  unfold R24 at h
  simp [World.frozen?, h]
theorem R24.far {w : World} {b g k : Nat} {t : TypeId} {f : Nat → Int} {v : Value} (h : R24 w b t f) (hg : g ≠ b) : R24 (w.setCell ⟨g, k, none⟩ v) b t f := by
  unfold R24 at h ⊢
  unfold World.setCell
  rw [Array.getElem?_modify, if_neg hg]; exact h
theorem R24.put {w : World} {b k c : Nat} {t : TypeId} {cs : List Nat} (h : R24 w b t (bAt cs k)) (hc : cs.getD k 0 = c) : R24 (w.setCell ⟨b, k, none⟩ (.int .i64 (c : Nat))) b t (bAt cs (k + 1)) := by
  unfold R24 at h ⊢
  unfold World.setCell
  rw [Array.getElem?_modify, if_pos rfl, h]
  simp only [Option.map_some, Option.isSome_none, Bool.false_eq_true, if_false, arrI_set]
  congr 2
  refine arrI_ext fun j _ => ?_
  unfold bAt
  by_cases e : j = k
  · rw [if_pos e, if_pos (by omega), e, hc]
  · rw [if_neg e]
    by_cases hlt : j < k
    · rw [if_pos hlt, if_pos (by omega)]
    · rw [if_neg hlt, if_neg (by omega)]
theorem arrI_zero (cs : List Nat) : #[Value.int .i64 0, .int .i64 0, .int .i64 0, .int .i64 0, .int .i64 0, .int .i64 0, .int .i64 0, .int .i64 0, .int .i64 0, .int .i64 0, .int .i64 0, .int .i64 0, .int .i64 0, .int .i64 0, .int .i64 0, .int .i64 0, .int .i64 0, .int .i64 0, .int .i64 0, .int .i64 0, .int .i64 0, .int .i64 0, .int .i64 0, .int .i64 0] = arrI (bAt cs 0) := rfl
theorem R24.new (w : World) (t : TypeId) (cs : List Nat) : R24 (w.alloc (.cells #[Value.int .i64 0, .int .i64 0, .int .i64 0, .int .i64 0, .int .i64 0, .int .i64 0, .int .i64 0, .int .i64 0, .int .i64 0, .int .i64 0, .int .i64 0, .int .i64 0, .int .i64 0, .int .i64 0, .int .i64 0, .int .i64 0, .int .i64 0, .int .i64 0, .int .i64 0, .int .i64 0, .int .i64 0, .int .i64 0, .int .i64 0, .int .i64 0] t)) w.heap.size t (bAt cs 0) := by
  unfold R24
  rw [arrI_zero cs]
  exact heap_alloc_new w _
end Go.FX
namespace Go.Proofs.Ytbiobmdibiplfaa
open Go.FX Go.RowKit Go.WideShapes Go.ChangeShapes

theorem bitsOf_row (z : Nat) (w : World) (hz : z < 4294967296) : Calls Try.prog 153 #[.float .f32 z] w (fun e w' => e = .returned (.int .i64 (cn .f32 z : Nat)) ∧ w = w') := by
  by_cases h1 : isN .f32 z = true
  all_goals
    try simp only [Bool.not_eq_true] at h1
    first
      | (have e1 : Hid (cn .f32 z = qn .f32) := Lib.hid (cn_of_nan h1))
      | (have e1 : Hid (cn .f32 z = z) := Lib.hid (cn_of_not h1))
    go_enter Try.func153, Try.ntmps153
    go_wp2
    go_ret
    refine ⟨congrArg (fun b => Ending.returned (.int .i64 b)) ?_, rfl⟩
    rw [e1.out]
    try (first | rfl | (simp [qn]; done) | (simp [qn]; omega))
theorem info_a24 : (Try.prog.info? 134).map (·.size) = some 24 := by kernel_rfl

set_option maxRecDepth 100000 in
set_option maxHeartbeats 4000000 in
theorem bitsOfRow_any (v : Value) (cs : List Nat) (w : World) (hv : FC w v cs) (h24 : cs.length ≤ 24) :
    Calls Try.prog 123 #[v] w (fun e w' => e = .returned (.agg (arrI (bitF cs))) ∧ Below w.heap.size w w') := by
  have hv0 := hv
  obtain ⟨a0, cap, rfl, hnc, hcm⟩ := hv.shape
  unfold maxLen at hcm
  obtain ⟨L, hL⟩ : ∃ L, L = cs.length := ⟨_, rfl⟩
  have hc : Hid (∀ k, k < L → ∃ b off z, a0 = some ⟨b, off, none⟩ ∧ b < w.heap.size ∧ Fl .f32 z (cs.getD k 0) ∧ w.cell? ⟨b, off + k, none⟩ = some (.float .f32 z)) := Lib.hid fun k hk => by
    obtain ⟨b, off, c', z, ev, _, _, hb, h1, h2⟩ := hv0.cell (k := k) (by omega)
    simp only [Value.slice.injEq] at ev
    exact ⟨b, off, z, ev.1, hb, h1, h2⟩
  have hG2 := Lib.hid ((R24.new w 134 cs).below (below1 _ (.cells #[Value.int .i64 0, .int .i64 0, .int .i64 0, .int .i64 0, .int .i64 0, .int .i64 0, .int .i64 0, .int .i64 0, .int .i64 0, .int .i64 0, .int .i64 0, .int .i64 0, .int .i64 0, .int .i64 0, .int .i64 0, .int .i64 0, .int .i64 0, .int .i64 0, .int .i64 0, .int .i64 0, .int .i64 0, .int .i64 0, .int .i64 0, .int .i64 0] 134)))
  have hG3 := Lib.hid (R24.new (w.alloc (.cells #[Value.int .i64 0, .int .i64 0, .int .i64 0, .int .i64 0, .int .i64 0, .int .i64 0, .int .i64 0, .int .i64 0, .int .i64 0, .int .i64 0, .int .i64 0, .int .i64 0, .int .i64 0, .int .i64 0, .int .i64 0, .int .i64 0, .int .i64 0, .int .i64 0, .int .i64 0, .int .i64 0, .int .i64 0, .int .i64 0, .int .i64 0, .int .i64 0] 134)) 134 cs)
  have hb0 := Lib.hid (below2 w (.cells #[Value.int .i64 0, .int .i64 0, .int .i64 0, .int .i64 0, .int .i64 0, .int .i64 0, .int .i64 0, .int .i64 0, .int .i64 0, .int .i64 0, .int .i64 0, .int .i64 0, .int .i64 0, .int .i64 0, .int .i64 0, .int .i64 0, .int .i64 0, .int .i64 0, .int .i64 0, .int .i64 0, .int .i64 0, .int .i64 0, .int .i64 0, .int .i64 0] 134) (.cells #[Value.int .i64 0, .int .i64 0, .int .i64 0, .int .i64 0, .int .i64 0, .int .i64 0, .int .i64 0, .int .i64 0, .int .i64 0, .int .i64 0, .int .i64 0, .int .i64 0, .int .i64 0, .int .i64 0, .int .i64 0, .int .i64 0, .int .i64 0, .int .i64 0, .int .i64 0, .int .i64 0, .int .i64 0, .int .i64 0, .int .i64 0, .int .i64 0] 134))
  rw [← hL] at hnc h24 ⊢
  have hL' := Lib.hid hL
  clear hL hv hv0
  go_enter Try.func123, Try.ntmps123
  go_wp2_with fail
  go_loopw [8] (fun i wr => ∃ k : Nat, k ≤ L ∧ i = .int .i64 k ∧ Hid (R24 wr w.heap.size 134 (bAt cs 0)) ∧ Hid (R24 wr (w.heap.size + 1) 134 (bAt cs k)) ∧ Hid (Below w.heap.size w wr)) (fun i _ => L - (intOf i).toNat)
  case atStart => exact ⟨0, Nat.zero_le _, rfl, hG2, Lib.hid (by have h := hG3.out; simp only [World.size_alloc] at h; exact h), hb0⟩
  case round =>
    clear hG2 hG3 hb0
    obtain ⟨k, hk, rfl, hA, hB, hbel⟩ := hrel
    by_cases hlt : k < L
    · obtain ⟨b, off, z, rfl, hb, hz, hcell⟩ := hc.out k hlt
      have hcell : wr.cell? ⟨b, off + k, none⟩ = some (.float .f32 z) := by rw [(bcell hbel.out).1 b _ hb]; exact hcell
      have hold := hB.out.cell k (by omega)
      have hfz := hB.out.fz k
      have hsz := hbel.out.size
      have hcn := hz.eq
      have HS := Lib.hid (And.intro (hA.out.far (g := w.heap.size + 1) (k := k) (v := .int .i64 (cn .f32 z : Nat)) (by omega)) (And.intro (hB.out.put hcn.symm) (hbel.out.setCell (p := ⟨w.heap.size + 1, k, none⟩) (by simp) (.int .i64 (cn .f32 z : Nat)))))
      have hzl := hz.lt
      clear hA hB hbel hcn hz
      have k24 : (k : Int) < 24 := by omega
      go_wp2_with fail
      refine (bitsOf_row _ _ hzl).mono ?_
      rintro e w' ⟨rfl, rfl⟩
      go_wp2_with fail
      go_roundw
      case rel => exact ⟨k + 1, by omega, by go_num, Lib.hid HS.out.1, Lib.hid HS.out.2.1, Lib.hid HS.out.2.2⟩
      case measure => simp [intOf]; omega
    · obtain rfl : k = L := by omega
      have hall : bAt cs k = bitF cs := by funext j; rw [hL'.out]; exact bAt_all
      rw [hall] at hB
      clear hall hc
      have hld := hB.out
      have hst := hA.out
      unfold R24 at hld hst
      have hld' := Lib.hid hld
      have hst' := Lib.hid hst
      clear hld hst hA hB
      go_upto_region 7 with fail
      refine wp_region_lit ?_
      refine wpList_load_row rfl _ _ rfl (w.heap.size + 1) rfl _ _ _ _ hld'.out Try.underlying134 rfl (by rw [info_a24, arrI_size]) ?_
      refine wpList_store_row rfl _ _ _ rfl (w.heap.size) (arrI (bitF cs)) rfl rfl _ _ hst'.out (by rw [info_a24, arrI_size]) (by rw [arrI_size, arrI_size]) (arrI_one _) ?_
      go_wp2_with fail
      refine bodyPost_ret (v := .agg (arrI (bitF cs))) ?hr rfl ?post
      case hr => exact results_cell_row rfl _ _ _ _ _ _ _ rfl (setRow_heap _ _ _ _ _ _ hst'.out) Try.underlying134 rfl (by rw [info_a24, arrI_size])
      case post => exact ⟨rfl, below_setRow hbel.out (Nat.le_refl _) _⟩
/-- A part of a slice, as a slice. -/
theorem FC.seg {w : World} {b off n cap : Nat} {cs : List Nat} (h : FC w (.slice (some ⟨b, off, none⟩) n cap) cs) {p D : Nat} (hD : 0 < D) (hp : p + D ≤ cs.length) : FC w (.slice (some ⟨b, off + p, none⟩) D D) ((cs.drop p).take D) := by
  obtain ⟨zs, ⟨hz, a, cap', hv, h1, h2, h3⟩, rfl⟩ := h
  obtain ⟨ea0, rfl, rfl⟩ := Value.slice.inj hv
  have hp' : p + D ≤ zs.length := by simpa using hp
  rcases h3 with h3 | ⟨b', off', ea, hlt, hc⟩
  · rw [h3] at hp'; simp at hp'; omega
  · have e1 := Option.some.inj (ea0.trans ea)
    have e2 : b = b' := congrArg Addr.block e1
    have e3 : off = off' := congrArg Addr.off e1
    subst e2; subst e3
    have hlen : ((zs.drop p).take D).length = D := by simp; omega
    refine ⟨(zs.drop p).take D, ⟨?_, some ⟨b, off + p, none⟩, D, by rw [hlen], by rw [hlen]; exact Nat.le_refl _, by omega, .inr ⟨b, off + p, rfl, hlt, fun i hi => ?_⟩⟩, ?_⟩
    · intro z hzm
      exact hz _ (List.mem_of_mem_drop (List.mem_of_mem_take hzm))
    · rw [hlen] at hi
      have e : ((zs.drop p).take D).getD i 0 = zs.getD (p + i) 0 := by simp [List.getD, List.getElem?_take, hi]
      rw [e, Nat.add_assoc]
      exact hc (p + i) (by omega)
    · rw [List.map_take, List.map_drop]
theorem take_seg_eq {xs ys : List Nat} {p D : Nat} (h1 : xs.take p = ys.take p) : xs.take (p + D) = ys.take (p + D) ↔ (xs.drop p).take D = (ys.drop p).take D := by
  rw [List.take_add, List.take_add, h1]
  exact List.append_right_inj _
set_option maxRecDepth 100000 in
set_option maxHeartbeats 8000000 in
theorem sameNumbers_any (v v' : Value) (xs ys : List Nat) (w : World) (hv : FC w v xs) (hv' : FC w v' ys) (hn : xs.length ≤ 1048576) :
    Calls Try.prog 64 #[v, v'] w (RBb (decide (xs = ys)) w) := by
  obtain ⟨a0, cap, rfl, hnc, hcm⟩ := hv.shape
  obtain ⟨a1, cap', rfl, hnc', hcm'⟩ := hv'.shape
  unfold maxLen at hcm hcm'
  by_cases hne : xs.length = ys.length
  case neg =>
    have t0 : decide (xs = ys) = false := decide_eq_false (fun e => hne (by rw [e]))
    rw [t0]
    have h1 : ((xs.length : Int) == (ys.length : Int)) = false := by simp only [beq_eq_false_iff_ne, ne_eq]; omega
    clear t0 hv hv'
    generalize xs.length = na at *
    generalize ys.length = nb at *
    go_enter Try.func64, Try.ntmps64
    go_wp2_with fail
    go_ret
    exact ⟨rfl, Below.refl _ _⟩
  obtain ⟨L, hL⟩ : ∃ L, L = xs.length := ⟨_, rfl⟩
  have hLy : L = ys.length := hL.trans hne
  rw [← hL] at hnc hn hv ⊢
  rw [← hLy] at hnc' hv' ⊢
  have hL' := Lib.hid hL
  have hLy' := Lib.hid hLy
  have hV := Lib.hid hv
  have hV' := Lib.hid hv'
  clear hL hLy hne hv hv'
  go_enter Try.func64, Try.ntmps64
  go_wp2_with fail
  go_loopw [5, 6] (fun i _ wr => ∃ k : Nat, 24 * k ≤ L + 24 ∧ i = .int .i64 ((24 * k : Nat) : Int) ∧ Hid (xs.take (24 * k) = ys.take (24 * k)) ∧ Hid (Below w.heap.size w wr)) (fun i _ _ => L + 48 - (intOf i).toNat)
  case atStart => exact ⟨0, by omega, rfl, Lib.hid (by simp), Lib.hid (Below.refl _ _)⟩
  case round =>
    obtain ⟨k, hk, rfl, hP, hbel⟩ := hrel
    obtain ⟨p, hp⟩ : ∃ p, p = 24 * k := ⟨_, rfl⟩
    rw [← hp] at hk hP ⊢
    have hp' := Lib.hid hp
    clear hp
    by_cases hlt : p < L
    · obtain ⟨D, hD⟩ : ∃ D, D = min 24 (L - p) := ⟨_, rfl⟩
      have hD0 : 0 < D := by omega
      have hD1 : D ≤ 24 := by omega
      have hD2 : p + D ≤ L := by omega
      have hmin : (if (L : Int) < (p : Int) + 24 then (L : Int) else (p : Int) + 24) = ((p + D : Nat) : Int) := by split <;> omega
      have hD3 := Lib.hid hD
      clear hD
      obtain ⟨b, off, _, _, ev, _, _, hb, _, _⟩ := hV.out.cell (k := p) (by have := hL'.out; omega)
      obtain ⟨b', off', _, _, ev', _, _, hb', _, _⟩ := hV'.out.cell (k := p) (by have := hLy'.out; omega)
      obtain rfl : a0 = some ⟨b, off, none⟩ := (Value.slice.inj ev).1
      obtain rfl : a1 = some ⟨b', off', none⟩ := (Value.slice.inj ev').1
      clear ev ev'
      have hB := fun (w1 : World) (h1 : Below wr.heap.size wr w1) => bitsOfRow_any _ _ w1 (FC.seg (hV.out.below (hbel.out.trans (h1.mono hbel.out.size))) (p := p) (D := D) hD0 (by have := hL'.out; omega)) (by simp; omega)
      have hB' := fun (w1 : World) (h1 : Below wr.heap.size wr w1) => bitsOfRow_any _ _ w1 (FC.seg (hV'.out.below (hbel.out.trans (h1.mono hbel.out.size))) (p := p) (D := D) hD0 (by have := hLy'.out; omega)) (by simp; omega)
      obtain ⟨X, hX⟩ : ∃ X, X = (xs.drop p).take D := ⟨_, rfl⟩
      obtain ⟨Y, hY⟩ : ∃ Y, Y = (ys.drop p).take D := ⟨_, rfl⟩
      rw [← hX] at hB
      rw [← hY] at hB'
      have hXl : X.length = D := by rw [hX]; have := hL'.out; simp; omega
      have hYl : Y.length = D := by rw [hY]; have := hLy'.out; simp; omega
      have hXY := Lib.hid (And.intro hX (And.intro hY (eq24_same (hXl.trans hYl.symm) (by omega))))
      clear hX hY hXl hYl hV hV'
      obtain ⟨i0, hi0⟩ : ∃ i, Try.prog.info? 2 = some i := Option.isSome_iff_exists.1 (by kernel_rfl)
      have hcO : Try.prog.cellsOf 2 = 1 := by kernel_rfl
      have t1 : ((p : Int) + (D : Int)).toNat = p + D := by omega
      have t2 : (p : Int) + (D : Int) ≤ (cap : Int) := by omega
      have t2' : (p : Int) + (D : Int) ≤ (cap' : Int) := by omega
      have t3 : (0 : Int) ≤ (p : Int) + (D : Int) := by omega
      have t4 : max ((p : Int) + (D : Int)) 0 = (p : Int) + (D : Int) := by omega
      have t5 : ¬ D = 0 := by omega
      go_upto_region 7 with fail
      refine wp_region_cls (by kernel_rfl) (by kernel_rfl) (by kernel_rfl) (by kernel_rfl) (fun w' => Below wr.heap.size wr w') (below_drewN (Below.refl _ _) 1) [Eq1 ?q1647u0, Eq1 ?q1647u1, Eq1 ?q1647u2, Eq1 ?q1647u3, Eq1 (.slice (some ⟨b, off + p, none⟩) D D), Eq1 (.agg (arrI (bitF X))), Eq1 ?q1647u6, Eq1 ?q1647u7, Eq1 ?q1647u8, Eq1 ?q1647u9, Eq1 (.slice (some ⟨b', off' + p, none⟩) D D), Eq1 (.agg (arrI (bitF Y))), Eq1 (.bool (!eq24 (bitF X) (bitF Y)))] ?q1647main
      case q1647main =>
        (refine wpR_pure ?_ (fun w hw => ?_) ?_; rfl; (obtain ⟨hwc, hwf⟩ := bcell2 hw; go_simp; (try with_reducible rfl)); (try simp only [Act.put, List.setIfInBounds_toArray, List.set_cons_zero, List.set_cons_succ]))
        (refine wpR_pure ?_ (fun w hw => ?_) ?_; rfl; (obtain ⟨hwc, hwf⟩ := bcell2 hw; go_simp; (try with_reducible rfl)); (try simp only [Act.put, List.setIfInBounds_toArray, List.set_cons_zero, List.set_cons_succ]))
        (refine wpR_pure ?_ (fun w hw => ?_) ?_; rfl; (obtain ⟨hwc, hwf⟩ := bcell2 hw; go_simp; (try with_reducible rfl)); (try simp only [Act.put, List.setIfInBounds_toArray, List.set_cons_zero, List.set_cons_succ]))
        (refine wpR_pure ?_ (fun w hw => ?_) ?_; rfl; (obtain ⟨hwc, hwf⟩ := bcell2 hw; go_simp; (try with_reducible rfl)); (try simp only [Act.put, List.setIfInBounds_toArray, List.set_cons_zero, List.set_cons_succ]))
        (refine wpR_pure ?_ (fun w hw => ?_) ?_; rfl; (obtain ⟨hwc, hwf⟩ := bcell2 hw; skip; go_simp; (try with_reducible rfl)); (try simp only [Act.put, List.setIfInBounds_toArray, List.set_cons_zero, List.set_cons_succ]))
        (refine wpR_cls ?_ (fun w hw => ?_) ?_; rfl; (go_simp; refine (hB _ hw).mono ?_; rintro _ _ ⟨rfl, hcb⟩; exact ⟨_, rfl, rfl, Below.trans hw (hcb.mono hw.size)⟩); (rintro _ rfl; (try simp only [Act.put, List.setIfInBounds_toArray, List.set_cons_zero, List.set_cons_succ])))
        (refine wpR_pure ?_ (fun w hw => ?_) ?_; rfl; (obtain ⟨hwc, hwf⟩ := bcell2 hw; go_simp; (try with_reducible rfl)); (try simp only [Act.put, List.setIfInBounds_toArray, List.set_cons_zero, List.set_cons_succ]))
        (refine wpR_pure ?_ (fun w hw => ?_) ?_; rfl; (obtain ⟨hwc, hwf⟩ := bcell2 hw; go_simp; (try with_reducible rfl)); (try simp only [Act.put, List.setIfInBounds_toArray, List.set_cons_zero, List.set_cons_succ]))
        (refine wpR_pure ?_ (fun w hw => ?_) ?_; rfl; (obtain ⟨hwc, hwf⟩ := bcell2 hw; go_simp; (try with_reducible rfl)); (try simp only [Act.put, List.setIfInBounds_toArray, List.set_cons_zero, List.set_cons_succ]))
        (refine wpR_pure ?_ (fun w hw => ?_) ?_; rfl; (obtain ⟨hwc, hwf⟩ := bcell2 hw; go_simp; (try with_reducible rfl)); (try simp only [Act.put, List.setIfInBounds_toArray, List.set_cons_zero, List.set_cons_succ]))
        (refine wpR_pure ?_ (fun w hw => ?_) ?_; rfl; (obtain ⟨hwc, hwf⟩ := bcell2 hw; skip; go_simp; (try with_reducible rfl)); (try simp only [Act.put, List.setIfInBounds_toArray, List.set_cons_zero, List.set_cons_succ]))
        (refine wpR_cls ?_ (fun w hw => ?_) ?_; rfl; (go_simp; refine (hB' _ hw).mono ?_; rintro _ _ ⟨rfl, hcb⟩; exact ⟨_, rfl, rfl, Below.trans hw (hcb.mono hw.size)⟩); (rintro _ rfl; (try simp only [Act.put, List.setIfInBounds_toArray, List.set_cons_zero, List.set_cons_succ])))
        (refine wpR_pure ?_ (fun w hw => ?_) ?_; rfl; (obtain ⟨hwc, hwf⟩ := bcell2 hw; have hE := fun (w : World) => run_eq24 Try.underlying134 Try.underlying2 hi0 hcO (bitF X) (bitF Y) w; go_simp; (try with_reducible rfl)); (try simp only [Act.put, List.setIfInBounds_toArray, List.set_cons_zero, List.set_cons_succ]))
        refine wpR_nil ?_
        intro w' hw'
        cases hq : eq24 (bitF X) (bitF Y) with
        | true =>
          have hnext : Hid (xs.take (24 * (k + 1)) = ys.take (24 * (k + 1))) := Lib.hid (by
            obtain ⟨hX, hY, he⟩ := hXY.out
            rw [hq] at he
            have he := (of_decide_eq_true he.symm)
            rw [hX, hY] at he
            have hs := (take_seg_eq hP.out).2 he
            have e1 := hp'.out
            have e2 := hL'.out
            have e3 := hLy'.out
            by_cases h24 : p + 24 ≤ L
            · have e4 : D = 24 := by have := hD3.out; omega
              have e5 : 24 * (k + 1) = p + D := by omega
              rw [e5]; exact hs
            · have e4 : p + D = L := by have := hD3.out; omega
              rw [e4] at hs
              rw [List.take_of_length_le (by omega), List.take_of_length_le (by omega)] at hs
              rw [hs])
          have hval : Hid ((p : Int) + 24 = ((24 * (k + 1) : Nat) : Int)) := Lib.hid (by have := hp'.out; omega)
          have hb1 := hbel.out.trans (hw'.mono hbel.out.size)
          have HB := Lib.hid hb1
          clear hq hXY hP hb1 hB hB'
          go_wp2_with fail
          go_roundw
          case rel => exact ⟨k + 1, by have := hp'.out; omega, by rw [← hval.out], hnext, HB⟩
          case measure => have := hp'.out; simp [intOf]; omega
        | false =>
          have hfin : Hid (decide (xs = ys) = false) := Lib.hid (by
            obtain ⟨hX, hY, he⟩ := hXY.out
            rw [hq] at he
            have he := of_decide_eq_false he.symm
            refine decide_eq_false (fun e => he ?_)
            rw [hX, hY, e])
          have hb1 := hbel.out.trans (hw'.mono hbel.out.size)
          have HB := Lib.hid hb1
          clear hq hXY hP hb1 hB hB'
          go_wp2_with fail
          go_ret
          exact ⟨(congrArg (fun b => Ending.returned (.bool b)) hfin.out).symm, HB.out⟩
    · have hfin0 : decide (xs = ys) = true := decide_eq_true (by
        have h := hP.out
        have e2 := hL'.out
        have e3 := hLy'.out
        rwa [List.take_of_length_le (by omega), List.take_of_length_le (by omega)] at h)
      have hfin := Lib.hid hfin0
      clear hfin0
      go_wp2_with fail
      go_ret
      exact ⟨(congrArg (fun b => Ending.returned (.bool b)) hfin.out).symm, hbel.out⟩
end Go.Proofs.Ytbiobmdibiplfaa
