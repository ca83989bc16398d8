import Derived.Test.YtbiobmdibiplfaaVf
import Derived.Test.YtbiobmdibiplfaaPj
import Derived.Test.YtbiobmdibiplfaaPp
import Derived.Test.YtbiobmdibiplfaaPc
import Derived.IntWalk
set_option linter.unusedVariables false
set_option linter.unusedSimpArgs false
namespace Go.FX
open Go Go.RowKit
/-! Holes: values that are less than 0, or not-a-numbers. -/
def holeB (c : Nat) : Bool := !(FloatKind.f32.format.order c 0 == some Ordering.gt) && !(FloatKind.f32.format.order c 0 == some Ordering.eq)
theorem fl0 : Fl .f32 0 0 := ⟨by decide, by decide⟩
theorem flM1 : Fl .f32 3212836864 3212836864 := ⟨by decide, by decide⟩
theorem holeB_fl {z c : Nat} (h : Fl .f32 z c) : holeB z = holeB c := by unfold holeB; rw [h.order fl0]
theorem hole_nan {z : Nat} (h : isN .f32 z = true) : holeB z = true := by unfold holeB; rw [order_nan_left h]; rfl
theorem hole_num {z : Nat} (h : isN .f32 z = false) : holeB z = (FloatKind.f32.format.order z 0 == some Ordering.lt) := by
  have h0 : isN .f32 0 = false := by decide
  unfold holeB
  rw [gt_key h h0, eq_key h h0, lt_key h h0, Bool.eq_iff_iff]
  simp
  omega
theorem atC_nat {W H : Nat} (cs : List Nat) {x y : Nat} (hx : x < W) (hy : y < H) : atC W H cs (x : Int) (y : Int) = cs.getD (y * W + x) 0 := by
  rw [atC_in cs (Int.natCast_nonneg _) (Int.ofNat_lt.2 hx) (Int.natCast_nonneg _) (Int.ofNat_lt.2 hy)]
  congr 1
  rw [show (x : Int) + (W : Int) * (y : Int) = ((y * W + x : Nat) : Int) by push_cast; rw [Int.mul_comm, Int.add_comm]]; rfl
/-- A number of a map in the making is stored anew. -/
theorem Mk.put {E : TypeId} {w0 : World} {bo : Nat} {W H : Int} {cs : List Nat} {wr : World} {g n cap k r c : Nat}
    (hN : Nv wr bo (.int .i64 W) (.int .i64 H) (.slice (some ⟨g, 0, none⟩) n cap)) (ho : OC wr w0.heap.size E (.slice (some ⟨g, 0, none⟩) n cap) cs) (hne : (Value.slice (some ⟨g, 0, none⟩) n cap).ownBlock ≠ some bo) (hbo : w0.heap.size ≤ bo) (hb : Below w0.heap.size w0 wr)
    (hk : k < cs.length) (hr : Fl .f32 r c) : Mk E w0 bo W H (cs.set k c) (wr.setCell ⟨g, k, none⟩ (.float .f32 r)) := by
  obtain ⟨h1, h2⟩ := ho.put hk hr
  have hg := (ho.lt g rfl).1
  exact ⟨_, _, _, hN.kept h2 hne, h1, hne, hbo, hb.setCell (by exact hg) _⟩
/-- A row that is filled anew from the left. -/
def part2 (F : Nat → Nat) (cs : List Nat) (k : Nat) : List Nat := seqL F k ++ cs.drop k
theorem part2_zero (F : Nat → Nat) (cs : List Nat) : part2 F cs 0 = cs := by simp [part2, seqL]
theorem part2_len (F : Nat → Nat) (cs : List Nat) (k : Nat) (h : k ≤ cs.length) : (part2 F cs k).length = cs.length := by simp [part2, seqL_len]; omega
theorem part2_end (F : Nat → Nat) (cs : List Nat) : part2 F cs cs.length = seqL F cs.length := by simp [part2]
theorem part2_set (F : Nat → Nat) (cs : List Nat) (k : Nat) (h : k < cs.length) : (part2 F cs k).set k (F k) = part2 F cs (k + 1) := by
  unfold part2
  rw [List.set_append_right _ _ (by rw [seqL_len]; omega), seqL_len, Nat.sub_self, seqL_succ, List.append_assoc]
  congr 1
  rw [List.drop_eq_getElem_cons h, List.set_cons_zero]; rfl
theorem part2_get (F : Nat → Nat) (cs : List Nat) (k : Nat) (h : k < cs.length) : (part2 F cs k).getD k 0 = cs.getD k 0 := by
  simp [part2, List.getD, List.getElem?_append_right, seqL_len, h]
theorem part2_keep (F : Nat → Nat) (cs : List Nat) (k : Nat) (h : k < cs.length) (he : F k = cs.getD k 0) : part2 F cs k = part2 F cs (k + 1) := by
  rw [← part2_set F cs k h, he]
  unfold part2
  rw [List.set_append_right _ _ (by rw [seqL_len]; omega), seqL_len, Nat.sub_self]
  congr 1
  rw [List.drop_eq_getElem_cons h, List.set_cons_zero]
  simp [List.getD, h]
end Go.FX
namespace Go.Proofs.Ytbiobmdibiplfaa
open Go.FX Go.RowKit Go.WideShapes Go.ChangeShapes
attribute [local go_sem ↓] Go.wp_at_zero Go.wp_at_succ

theorem pairM_self {W H : Int} {n n' : Nat} (h : validB W H n = true) (h' : validB W H n' = true) : pairB W H n W H n' = true := by simp [pairB, h, h']
set_option maxHeartbeats 1000000 in
theorem mapAt_any (W H : Nat) (v : Value) (cs : List Nat) (x y : Nat) (w : World) (hv : FC w v cs) (b1 : 1 ≤ W) (b2 : W ≤ 24) (b4 : H ≤ 24) (hl : cs.length = H * W) (hx : x < W) (hy : y < H) :
    Calls Try.prog 99 #[.agg #[.int .i64 W, .int .i64 H, v], .int .i64 x, .int .i64 y] w (RFb .f32 (atC W H cs x y) w) := by
  rw [atC_nat cs hx hy]
  have hlt : W * y + x < cs.length := by
    have h1 : y * W + W ≤ H * W := by rw [← Nat.succ_mul]; exact Nat.mul_le_mul_right _ hy
    rw [hl, Nat.mul_comm]; omega
  rw [Nat.mul_comm y W]
  obtain ⟨b, off, c, z, rfl, hnc, hcm, hb, hz, hcell⟩ := hv.cell hlt
  have hwy : (W : Int) * (y : Int) = ((W * y : Nat) : Int) := by rw [Int.natCast_mul]
  have hwy2 : W * y ≤ 24 * 24 := Nat.mul_le_mul b2 (by omega)
  generalize W * y = wy at *
  have Hz := Lib.hid hz
  have h3 : (x : Int) + (wy : Int) < (cs.length : Int) := by omega
  have h4 : ((x : Int) + (wy : Int)).toNat = wy + x := by omega
  clear hz hv hl
  go_enter Try.func99, Try.ntmps99
  go_wp2
  go_ret
  exact ⟨_, rfl, by ((repeat' (first | (refine bel_set ?_ ?_ _) | (refine bel_al ?_ ?_ _) | exact Below.refl _ _ | assumption | (refine below_drewN ?_ _) | (refine Below.drew ?_))) <;> (first | omega | (simp; done) | (simp; omega))), Hz.out⟩
set_option maxHeartbeats 1000000 in
theorem redrawAs_of (W H : Int) (a : Option Addr) (n c : Nat) (x y : Int) (f : Fn) (first cap : Array Value) (W' H' : Int) (cs' : List Nat) (ok : Bool) (w : World)
    (h : ∀ w1, Below w.heap.size w w1 → Calls Try.prog 149 #[.agg #[.int .i64 W, .int .i64 H, .slice a n c], .int .i64 x, .int .i64 y, .func f first cap] w1 (RPic 49 W' H' cs' ok w1)) :
    Calls Try.prog 141 #[.agg #[.int .i64 W, .int .i64 H, .slice a n c], .int .i64 x, .int .i64 y, .func f first cap] w (RPic 49 W' H' cs' ok w) := by
  go_enter Try.func141, Try.ntmps141
  go_wp2_with fail
  refine (mapPic_any _ _ _ _ _ _).mono ?_
  rintro e w0 ⟨rfl, hb0⟩
  have hn0 := (Nv.new _ _ _ _ _).below hb0
  have s0 := hb0.size
  simp only [World.size_alloc] at hn0 s0
  obtain ⟨l0, r0, r1, r2, rf⟩ := id hn0
  go_wp2_with fail
  refine (h _ (by ((repeat' (first | (refine bel_set ?_ ?_ _) | (refine bel_al ?_ ?_ _) | exact Below.refl _ _ | assumption | (refine below_drewN ?_ _) | (refine Below.drew ?_) | (refine Below.trans ?_ (Below.mono hb0 ?_)))) <;> (first | omega | (simp; done) | (simp; omega))))).mono ?_
  rintro e w1 ⟨a1, n1, c1, rfl, hb1, ho1⟩
  have hn := hn0.below hb1
  have s1 := hb1.size
  obtain ⟨l1, q0, q1, q2, qf⟩ := id hn
  go_wp2_with fail
  refine (mapOf_any _ _ _ _ _ _).mono ?_
  rintro e w2 ⟨rfl, hb2⟩
  obtain ⟨l2, p0, p1, p2, pf⟩ := (hn.alloc _).below hb2
  have s2 := hb2.size
  simp only [World.size_alloc] at s2
  go_wp2_with fail
  refine bodyPost_ret (v := ?v) ?hr rfl ?post
  case hr => (simp [results, Try.results141, go_sem, p0, p1, p2, pf]; try rfl)
  case post =>
    refine ⟨_, _, _, rfl, ?_, ?_⟩
    · ((repeat' (first | (refine bel_set ?_ ?_ _) | (refine bel_al ?_ ?_ _) | exact Below.refl _ _ | assumption | (refine below_drewN ?_ _) | (refine Below.drew ?_) | (refine Below.trans ?_ (Below.mono hb2 ?_)) | (refine Below.trans ?_ (Below.mono hb1 ?_)) | (refine Below.trans ?_ (Below.mono hb0 ?_)))) <;> (first | omega | (simp; done) | (simp; omega)))
    · (refine OC.mono (base := ?bb) ?hh ?hl; (case hh => ((repeat' (first | (refine OC.set ?_ _ ?_) | (refine OC.alloc ?_ _) | exact ho1 | (refine OC.drewN ?_ _) | (refine OC.below ?_ hb2))) <;> (first | omega | (simp; done) | (simp; omega)))); (case hl => (first | omega | (simp; done) | (simp; omega))))
set_option maxHeartbeats 1000000 in
theorem redraw_of (W H : Int) (a : Option Addr) (n c : Nat) (f : Fn) (first cap : Array Value) (W' H' : Int) (cs' : List Nat) (ok : Bool) (w : World)
    (h : ∀ w1, Below w.heap.size w w1 → Calls Try.prog 141 #[.agg #[.int .i64 W, .int .i64 H, .slice a n c], .int .i64 W, .int .i64 H, .func f first cap] w1 (RPic 49 W' H' cs' ok w1)) :
    Calls Try.prog 96 #[.agg #[.int .i64 W, .int .i64 H, .slice a n c], .func f first cap] w (RPic 49 W' H' cs' ok w) := by
  go_enter Try.func96, Try.ntmps96
  go_wp2_with fail
  refine (h _ (by ((repeat' (first | (refine bel_set ?_ ?_ _) | (refine bel_al ?_ ?_ _) | exact Below.refl _ _ | assumption | (refine below_drewN ?_ _) | (refine Below.drew ?_))) <;> (first | omega | (simp; done) | (simp; omega))))).mono ?_
  rintro e w1 ⟨a1, n1, c1, rfl, hb1, ho1⟩
  have hn := (Nv.new _ _ _ _ _).below hb1
  have s1 := hb1.size
  simp only [World.size_alloc] at hn s1
  obtain ⟨l1, q0, q1, q2, qf⟩ := id hn
  go_wp2_with fail
  refine bodyPost_ret (v := ?v) ?hr rfl ?post
  case hr => (simp [results, Try.results96, go_sem, q0, q1, q2, qf]; try rfl)
  case post =>
    refine ⟨_, _, _, rfl, ?_, ?_⟩
    · ((repeat' (first | (refine bel_set ?_ ?_ _) | (refine bel_al ?_ ?_ _) | exact Below.refl _ _ | assumption | (refine below_drewN ?_ _) | (refine Below.drew ?_) | (refine Below.trans ?_ (Below.mono hb1 ?_)))) <;> (first | omega | (simp; done) | (simp; omega)))
    · (refine OC.mono (base := ?bb) ?hh ?hl; (case hh => ((repeat' (first | (refine OC.set ?_ _ ?_) | (refine OC.alloc ?_ _) | exact ho1 | (refine OC.drewN ?_ _))) <;> (first | omega | (simp; done) | (simp; omega)))); (case hl => (first | omega | (simp; done) | (simp; omega))))
end Go.Proofs.Ytbiobmdibiplfaa
