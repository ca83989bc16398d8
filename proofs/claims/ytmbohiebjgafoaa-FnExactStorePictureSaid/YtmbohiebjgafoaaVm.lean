import Derived.Test.YtmbohiebjgafoaaPm
import Derived.Test.YtmbohiebjgafoaaVg
import Derived.Test.YtmbohiebjgafoaaPo
import Derived.Deep.DeepCutAuto
set_option linter.unusedVariables false
set_option linter.unusedSimpArgs false
namespace Go.FX
open Go Go.RowKit
theorem OC.at3 {w : World} {b K bo : Nat} {E : TypeId} {v x0 x1 x2 : Value} {cs : List Nat} (h : OC w b E v cs) (hb : bo < b) (hK : K ≤ b) : OC (((w.setCell ⟨bo, 0, none⟩ x0).setCell ⟨bo, 1, none⟩ x1).setCell ⟨bo, 2, none⟩ x2) K E v cs :=
  (((h.set _ hb).set _ hb).set _ hb).mono hK
theorem OC.at4 {w : World} {b K bo : Nat} {E : TypeId} {v x0 x1 x2 x3 : Value} {cs : List Nat} (h : OC w b E v cs) (hb : bo < b) (hK : K ≤ b) : OC ((((w.setCell ⟨bo, 0, none⟩ x0).setCell ⟨bo, 1, none⟩ x1).setCell ⟨bo, 2, none⟩ x2).setCell ⟨bo, 3, none⟩ x3) K E v cs :=
  ((((h.set _ hb).set _ hb).set _ hb).set _ hb).mono hK
theorem OC.atNew {w : World} {b K : Nat} {E : TypeId} {v : Value} {cs : List Nat} {o : Obj} (h : OC w b E v cs) (hK : K ≤ b) : OC (w.alloc o) K E v cs := (h.alloc o).mono hK
/-- What is left of a call that gives a picture or a map (a volume), its result in a variable of its own. -/
def PicAt (E : TypeId) (K : World) (W H : Int) (cs : List Nat) (ok : Bool) (sA sB : Value) (wx : World) : Prop := ∃ bo a n c, sA = .pointer (some ⟨bo, 0, none⟩) ∧ sB = .bool ok ∧ Pv wx bo W H (.slice a n c) ∧ OC wx K.heap.size E (.slice a n c) cs ∧ (Value.slice a n c).ownBlock ≠ some bo ∧ K.heap.size ≤ bo
def VolAt (E : TypeId) (K : World) (W H D : Int) (cs : List Nat) (ok : Bool) (sA sB : Value) (wx : World) : Prop := ∃ bo a n c, sA = .pointer (some ⟨bo, 0, none⟩) ∧ sB = .bool ok ∧ Pw wx bo W H D (.slice a n c) ∧ OC wx K.heap.size E (.slice a n c) cs ∧ (Value.slice a n c).ownBlock ≠ some bo ∧ K.heap.size ≤ bo
end Go.FX
namespace Go.Proofs.Ytmbohiebjgafoaa
open Go.FX Go.RowKit Go.WideShapes Go.ChangeShapes

/-- A struct of three integers and a slice of 32-bit numbers by value, opened. -/
theorem vol_of {H : Type} {enc : TypeId × Value → H} {P : Program} {w : World} {base : Nat} {spare : Nat → Bool} {held : Bool} {r : Reach} {b0 : Nat} {t e : TypeId} {f0 f1 f2 f3 : Field} {v : Value} {d : DataW H} {p : List MemPlace}
    (hs : P.underlying t = some (.struct #[f0, f1, f2, f3])) (hone : Deep.oneCellFields P #[f0, f1, f2, f3] = true) (hC : P.cellsOf t = 4) (e0 : P.underlying f0.type = some (.int .i64)) (e1 : P.underlying f1.type = some (.int .i64)) (e2 : P.underlying f2.type = some (.int .i64)) (e3 : P.underlying f3.type = some (.slice e))
    (he : P.underlying e = some (.float .f32)) (hc : P.cellsOf e = 1) (hv : Value.okWide P w r b0 t v) (h : DataW.Trod enc P w base spare held t v d p) :
    ∃ (x y z : Int) (a : Option Addr) (n c : Nat) (zs : List Nat), v = .agg #[.int .i64 x, .int .i64 y, .int .i64 z, .slice a n c] ∧ (Lit.int .i64 x).wf = true ∧ (Lit.int .i64 y).wf = true ∧ (Lit.int .i64 z).wf = true ∧ FS w (.slice a n c) zs := by
  obtain ⟨v0, v1, v2, v3, y0, y1, y2, y3, m, rfl, _, _, t0, t1, t2, t3⟩ := Joins.open_agg4 hs hone hC hv h
  obtain ⟨x, ex, _, wx⟩ := DataW.trod_int e0 t0
  obtain ⟨y, ey, _, wy⟩ := DataW.trod_int e1 t1
  obtain ⟨z, ez, _, wz⟩ := DataW.trod_int e2 t2
  simp only [List.cons.injEq, and_true] at ex ey ez
  subst ex; subst ey; subst ez
  obtain ⟨a, n, c, rfl⟩ := slice_field e3 t3
  obtain ⟨zs, hz⟩ := fs_of (d := y3.1) (ps := y3.2) e3 he hc ⟨m, t3⟩
  exact ⟨x, y, z, a, n, c, zs, rfl, wx, wy, wz, hz⟩
set_option maxHeartbeats 1000000 in
theorem toMap_any (W H : Int) (v : Value) (cs : List Nat) (w : World) (hv : FC w v cs) (hn : cs.length ≤ 1048576) :
    Calls Try.prog 42 #[.agg #[.int .i64 W, .int .i64 H, v]] w (RPic1 22 W H cs w) := by
  have hc0 := fun w' (hb : Below w.heap.size w w') => toFC_any v cs w' (hv.below hb) hn
  go_enter Try.func42, Try.ntmps42
  go_wp2_with (go_at_call 70; refine (hc0 _ (below3 _ _ _ _)).mono ?_; rintro e w1 ⟨a', n', c', rfl, hb1, ho1⟩; obtain ⟨l1, c10, c11, c12, f1⟩ := ((Nv.new _ _ _ _ _).alloc _).below hb1; obtain ⟨l2, c20, c21, c22, f2⟩ := (Nv.new _ _ _ _ _).below hb1; simp only [World.size_alloc] at l1 c10 c11 c12 f1 l2 c20 c21 c22 f2)
  refine bodyPost_ret (v := ?v) ?hr rfl ?post
  case hr => (simp [results, Try.results42, go_sem, c10, c11, c12, c20, c21, c22, f1, f2]; rfl)
  case post =>
    refine ⟨_, _, _, rfl, ?_, ?_⟩
    · ((repeat' (first | (refine bel_set ?_ ?_ _) | (refine bel_al ?_ ?_ _) | exact Below.refl _ _ | assumption | (refine below_drewN ?_ _) | (refine Below.drew ?_) | (refine Below.trans ?_ (Below.mono hb1 ?_)))) <;> (first | omega | (simp; done) | (simp; omega)))
    · (refine OC.mono (base := ?bb) ?hh ?hl; (case hh => ((repeat' (first | (refine OC.set ?_ _ ?_) | (refine OC.alloc ?_ _) | exact ho1 | (refine OC.drewN ?_ _))) <;> (first | omega | (simp; done) | (simp; omega)))); (case hl => (first | omega | (simp; done) | (simp; omega))))
set_option maxHeartbeats 1000000 in
theorem eqMap_any (W H : Int) (va vb : Value) (cs : List Nat) (w : World) (ha : FC w va cs) (hb : FC w vb cs) (hn : cs.length ≤ 1048576) :
    Calls Try.prog 44 #[.agg #[.int .i64 W, .int .i64 H, va], .agg #[.int .i64 W, .int .i64 H, vb]] w (RBb true w) := by
  have hc0 := fun w' (hb' : Below w.heap.size w w') => eqFC_any va vb cs w' (ha.below hb') (hb.below hb') hn
  obtain ⟨a1, c1, rfl, _, _⟩ := ha.shape
  obtain ⟨a2, c2, rfl, _, _⟩ := hb.shape
  go_enter Try.func44, Try.ntmps44
  go_wp2_with (go_at_call 72; refine (hc0 _ (below2 _ _ _)).mono ?_; rintro e w1 ⟨n, rfl, rfl⟩)
  go_ret
  exact ⟨rfl, by ((repeat' (first | (refine bel_set ?_ ?_ _) | (refine bel_al ?_ ?_ _) | exact Below.refl _ _ | assumption | (refine below_drewN ?_ _) | (refine Below.drew ?_))) <;> (first | omega | (simp; done) | (simp; omega)))⟩
theorem szMap_any (W H : Int) (a : Option Addr) (n c : Nat) (k : Int) (w : World) (hn : (n : Int) ≤ k) (hk : k ≤ 1048576) :
    Calls Try.prog 40 #[.agg #[.int .i64 W, .int .i64 H, .slice a n c], .int .i64 k] w fun e w' => e = .returned (.int .i64 (k - n)) ∧ Below w.heap.size w w' := by
  go_enter Try.func40, Try.ntmps40
  go_wp2
  go_ret
  exact ⟨rfl, below1 _ _⟩
theorem szMap_no (W H : Int) (a : Option Addr) (n c : Nat) (k : Int) (w : World) (hn : k < (n : Int)) (hk : 0 ≤ k) (h64 : (n : Int) ≤ 9223372036854775807) :
    Calls Try.prog 40 #[.agg #[.int .i64 W, .int .i64 H, .slice a n c], .int .i64 k] w fun e w' => e = .returned (.int .i64 (-1)) ∧ Below w.heap.size w w' := by
  go_enter Try.func40, Try.ntmps40
  go_wp2
  go_ret
  exact ⟨rfl, below1 _ _⟩
theorem markMap_any (W H : Int) (v : Value) (cs : List Nat) (k : Int) (base : Nat) (w : World) (hv : OC w base 22 v cs) (hk : 0 ≤ k) (hk2 : k + cs.length ≤ 1000000000) :
    Calls Try.prog 47 #[.agg #[.int .i64 W, .int .i64 H, v], .int .i64 k] w fun e w' => e = .returned (.int .i64 (k + cs.length)) ∧ w.grownBy w' v.ownBlock ∧ OC w' base 22 v (marks k cs.length) := by
  have hc0 := fun w' (hb' : Below w.heap.size w w') => markF_any v cs k base w' (hv.below hb') hk hk2
  obtain ⟨a, cap, rfl, _, _⟩ := hv.len
  go_enter Try.func47, Try.ntmps47
  go_wp2_with (go_at_call 76; refine (hc0 _ (below1 _ _)).mono ?_; rintro e w1 ⟨rfl, hg, ho⟩)
  go_ret
  exact ⟨rfl, grown_trans (grown_of_below (below1 _ _) _) hg, ho⟩
theorem heldMap_any (W H : Int) (v : Value) (n : Nat) (k : Int) (w : World) (hv : FC w v (marks k n)) (hk : 0 ≤ k) (hk2 : k + n ≤ 1000000000) :
    Calls Try.prog 48 #[.agg #[.int .i64 W, .int .i64 H, v], .int .i64 k] w fun e w' => e = .returned (.int .i64 (k + n)) ∧ Below w.heap.size w w' := by
  have hc0 := fun w' (hb' : Below w.heap.size w w') => heldF_any v n k w' (hv.below hb') hk hk2
  obtain ⟨a, cap, rfl, _, _⟩ := hv.shape
  go_enter Try.func48, Try.ntmps48
  go_wp2_with (go_at_call 77; refine (hc0 _ (below1 _ _)).mono ?_; rintro e w1 ⟨rfl, rfl⟩)
  go_ret
  exact ⟨rfl, below1 _ _⟩

end Go.Proofs.Ytmbohiebjgafoaa
