import Derived.Test.YtmbohiebjgafoaaPq
import Derived.Test.YtmbohiebjgafoaaVg
import Derived.IntWalk
set_option linter.unusedVariables false
set_option linter.unusedSimpArgs false
namespace Go.FX
open Go Go.RowKit
def idxB (n m : Int) : Bool := decide (0 ≤ n ∧ n < m)
def inB (x lo hi : Int) : Bool := decide (lo ≤ x ∧ x ≤ hi)
theorem inB_idx (x m : Int) : inB x 0 (m - 1) = idxB x m := by unfold inB idxB; congr 1; simp; omega
theorem inB_deep (D : Int) : inB D 1 8 = deepB D := rfl
theorem quiet_add_same {P : Program} {f : FuncId} {args : Array Value} {w : World} {a n : Nat} {v : Value}
    (h : Calls P f args (w.drewN (a + n)) fun e w' => e = .returned v ∧ w' = w.drewN (a + n)) :
    Calls P f args (w.drewN (a + n)) fun e w'' => e = .returned v ∧ ∃ m, w'' = w.drewN (a + m) :=
  h.mono fun _ _ ⟨he, hm⟩ => ⟨he, n, hm⟩
end Go.FX
namespace Go.Proofs.Ytmbohiebjgafoaa
open Go.FX Go.RowKit Go.WideShapes Go.ChangeShapes

theorem isDeep_any (D : Int) (w : World) : Calls Try.prog 61 #[.int .i64 D] w fun e w' => e = .returned (.bool (deepB D)) ∧ w = w' := by
  by_cases h1 : 1 ≤ D
  · by_cases h2 : D ≤ 8
    all_goals
      go_enter Try.func61, Try.ntmps61
      go_wp2
      go_ret
      exact ⟨by simp [deepB, h1, h2], rfl⟩
  · go_enter Try.func61, Try.ntmps61
    go_wp2
    go_ret
    exact ⟨by simp [deepB]; intros; omega, rfl⟩
theorem specIn_any (x lo hi : Int) (w : World) : Calls Try.prog 63 #[.int .i64 x, .int .i64 lo, .int .i64 hi] w fun e w' => e = .returned (.bool (inB x lo hi)) ∧ w' = w := by
  by_cases h1 : lo ≤ x
  · by_cases h2 : x ≤ hi
    all_goals
      go_enter Try.func63, Try.ntmps63
      go_wp2
      go_ret
      exact ⟨by simp [inB, h1, h2], rfl⟩
  · go_enter Try.func63, Try.ntmps63
    go_wp2
    go_ret
    exact ⟨by simp [inB]; intros; omega, rfl⟩
set_option maxHeartbeats 1000000 in
theorem specMIs_any (W H : Int) (a : Option Addr) (n c b : Nat) (w : World) (hp : Pv w b W H (.slice a n c)) (hn : n ≤ 9223372036854775807) :
    Calls Try.prog 85 #[.pointer (some ⟨b, 0, none⟩)] w (RB (validB W H n) w) := by
  obtain ⟨hb, q0, q1, q2⟩ := hp
  cases hs : sizeB W H with
  | true =>
    obtain ⟨g1, g2, g3, g4, g5⟩ := sizeB_iff.1 hs
    have a1 := area_lo g1 g3
    by_cases h5 : (n : Int) = W * H
    all_goals
      go_enter Try.func85, Try.ntmps85
      go_wp2_with fail
      go_quiet ((go_at_call 80; exact Calls.quiet_of_same ((specSize_any _ _ _).mono fun _ _ ⟨he, hw⟩ => ⟨he.trans (by rw [hs]), hw.symm⟩)))
      go_wp2
      go_ret
      exact ⟨_, by simp [validB, hs, h5], rfl⟩
  | false =>
    go_enter Try.func85, Try.ntmps85
    go_wp2_with fail
    go_quiet ((go_at_call 80; exact Calls.quiet_of_same ((specSize_any _ _ _).mono fun _ _ ⟨he, hw⟩ => ⟨he.trans (by rw [hs]), hw.symm⟩)))
    go_wp2
    go_ret
    exact ⟨_, by simp [validB, hs], rfl⟩
/-- A map's picture. -/
theorem mapPic_any (W H : Int) (a : Option Addr) (n c : Nat) (w : World) :
    Calls Try.prog 91 #[.agg #[.int .i64 W, .int .i64 H, .slice a n c]] w fun e w' => e = .returned (.agg #[.int .i64 W, .int .i64 H, .slice a n c]) ∧ Below w.heap.size w w' := by
  go_enter Try.func91, Try.ntmps91
  go_wp2
  refine bodyPost_ret (v := ?v) ?hr rfl ?post
  case hr => (simp [results, Try.results91, go_sem]; try rfl)
  case post => exact ⟨rfl, by ((repeat' (first | (refine bel_set ?_ ?_ _) | (refine bel_al ?_ ?_ _) | exact Below.refl _ _ | assumption | (refine below_drewN ?_ _) | (refine Below.drew ?_))) <;> (first | omega | (simp; done) | (simp; omega)))⟩

end Go.Proofs.Ytmbohiebjgafoaa
