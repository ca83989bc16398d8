import Derived.Test.YtblaojflcemfdaaPq
import Derived.Test.YtblaojflcemfdaaVg
import Derived.IntWalk
set_option linter.unusedVariables false
set_option linter.unusedSimpArgs false
namespace Go.FX
open Go Go.RowKit
def idxB (n m : Int) : Bool := decide (0 ≤ n ∧ n < m)
def inB (x lo hi : Int) : Bool := decide (lo ≤ x ∧ x ≤ hi)
theorem inB_idx (x m : Int) : inB x 0 (m - 1) = idxB x m := by unfold inB idxB; congr 1; simp; omega
theorem inB_deep (D : Int) : inB D 1 8 = deepB D := rfl
theorem quiet_add_same {P : Program} {f : FuncId} {args : Array Value} {w : World} {a n : Nat} {v : Value}
    (h : Calls P f args (w.drewN (a + n)) fun e w' => e = .returned v ∧ w' = w.drewN (a + n)) :
    Calls P f args (w.drewN (a + n)) fun e w'' => e = .returned v ∧ ∃ m, w'' = w.drewN (a + m) :=
  h.mono fun _ _ ⟨he, hm⟩ => ⟨he, n, hm⟩
end Go.FX
namespace Go.Proofs.Ytblaojflcemfdaa
open Go.FX Go.RowKit Go.WideShapes Go.ChangeShapes

theorem isDeep_any (D : Int) (w : World) : Calls Try.prog 61 #[.int .i64 D] w fun e w' => e = .returned (.bool (deepB D)) ∧ w = w' := by
  by_cases h1 : 1 ≤ D
  · by_cases h2 : D ≤ 8
    all_goals
      go_enter Try.func61, Try.ntmps61
      go_wp2
      go_ret
      exact ⟨by simp [deepB, h1, h2], rfl⟩
  · go_enter Try.func61, Try.ntmps61
    go_wp2
    go_ret
    exact ⟨by simp [deepB]; intros; omega, rfl⟩
theorem specIn_any (x lo hi : Int) (w : World) : Calls Try.prog 15 #[.int .i64 x, .int .i64 lo, .int .i64 hi] w fun e w' => e = .returned (.bool (inB x lo hi)) ∧ w' = w := by
  by_cases h1 : lo ≤ x
  · by_cases h2 : x ≤ hi
    all_goals
      go_enter Try.func15, Try.ntmps15
      go_wp2
      go_ret
      exact ⟨by simp [inB, h1, h2], rfl⟩
  · go_enter Try.func15, Try.ntmps15
    go_wp2
    go_ret
    exact ⟨by simp [inB]; intros; omega, rfl⟩
theorem validVol_any (W H D : Int) (v : Value) (n : Nat) (w : World) (hs : ∃ a cap, v = .slice a n cap ∧ n ≤ cap ∧ cap ≤ maxLen) :
    Calls Try.prog 65 #[.agg #[.int .i64 W, .int .i64 H, .int .i64 D, v]] w (RBb (volB W H D n) w) := by
  obtain ⟨a, cap, rfl, h1, h2⟩ := hs
  unfold maxLen at h2
  cases hb : sizeB W H with
  | true =>
    obtain ⟨g1, g2, g3, g4, g5⟩ := sizeB_iff.1 hb
    have a1 := area_lo g1 g3
    cases hd : deepB D with
    | true =>
      obtain ⟨d1, d2⟩ := deepB_iff.1 hd
      have a2 := area_lo a1 d1
      have a3 : W * H * D ≤ 2048 := Int.mul_le_mul g5 d2 (by omega) (by omega)
      by_cases h5 : (n : Int) = W * H * D
      all_goals
        go_enter Try.func65, Try.ntmps65
        go_wp2_with (first
          | (go_at_call 71; refine (isSize_any _ _ _).mono ?_; rintro e w' ⟨rfl, rfl⟩; rw [hb])
          | (go_at_call 61; refine (isDeep_any _ _).mono ?_; rintro e w' ⟨rfl, rfl⟩; rw [hd]))
        go_ret
        exact ⟨by simp [volB, hb, hd, h5], below1 _ _⟩
    | false =>
      go_enter Try.func65, Try.ntmps65
      go_wp2_with (first
        | (go_at_call 71; refine (isSize_any _ _ _).mono ?_; rintro e w' ⟨rfl, rfl⟩; rw [hb])
        | (go_at_call 61; refine (isDeep_any _ _).mono ?_; rintro e w' ⟨rfl, rfl⟩; rw [hd]))
      go_ret
      exact ⟨by simp [volB, hb, hd], below1 _ _⟩
  | false =>
    go_enter Try.func65, Try.ntmps65
    go_wp2_with (go_at_call 71; refine (isSize_any _ _ _).mono ?_; rintro e w' ⟨rfl, rfl⟩; rw [hb])
    go_ret
    exact ⟨by simp [volB, hb], below1 _ _⟩
/-- A map's picture. -/
theorem mapPic_any (W H : Int) (a : Option Addr) (n c : Nat) (w : World) :
    Calls Try.prog 41 #[.agg #[.int .i64 W, .int .i64 H, .slice a n c]] w fun e w' => e = .returned (.agg #[.int .i64 W, .int .i64 H, .slice a n c]) ∧ Below w.heap.size w w' := by
  go_enter Try.func41, Try.ntmps41
  go_wp2
  refine bodyPost_ret (v := ?v) ?hr rfl ?post
  case hr => (simp [results, Try.results41, go_sem]; try rfl)
  case post => exact ⟨rfl, by ((repeat' (first | (refine bel_set ?_ ?_ _) | (refine bel_al ?_ ?_ _) | exact Below.refl _ _ | assumption | (refine below_drewN ?_ _) | (refine Below.drew ?_))) <;> (first | omega | (simp; done) | (simp; omega)))⟩
theorem mapOf_any (W H : Int) (a : Option Addr) (n c : Nat) (w : World) :
    Calls Try.prog 67 #[.agg #[.int .i64 W, .int .i64 H, .slice a n c]] w fun e w' => e = .returned (.agg #[.int .i64 W, .int .i64 H, .slice a n c]) ∧ Below w.heap.size w w' := by
  go_enter Try.func67, Try.ntmps67
  go_wp2
  refine bodyPost_ret (v := ?v) ?hr rfl ?post
  case hr => (simp [results, Try.results67, go_sem]; try rfl)
  case post => exact ⟨rfl, by ((repeat' (first | (refine bel_set ?_ ?_ _) | (refine bel_al ?_ ?_ _) | exact Below.refl _ _ | assumption | (refine below_drewN ?_ _) | (refine Below.drew ?_))) <;> (first | omega | (simp; done) | (simp; omega)))⟩
/-- The costs of a cell. -/
theorem costsOf_any (W H D : Nat) (b off c : Nat) (cell : Nat) (ci : Int) (hci : ci = cell) (w : World) (hc : cell < H * W) (h5 : H * W ≤ 256) (d1 : 1 ≤ D) (d2 : D ≤ 8) (hcc : H * W * D ≤ c) (hcm : c ≤ maxLen) :
    Calls Try.prog 47 #[.agg #[.int .i64 W, .int .i64 H, .int .i64 D, .slice (some ⟨b, off, none⟩) (H * W * D) c], .int .i64 ci] w
      fun e w' => e = .returned (.slice (some ⟨b, off + cell * D, none⟩) D D) ∧ Below w.heap.size w w' := by
  subst hci
  unfold maxLen at hcm
  have h1 : cell * D + D ≤ H * W * D := by rw [← Nat.succ_mul]; exact Nat.mul_le_mul_right _ hc
  have h2 : (cell : Int) * (D : Int) = ((cell * D : Nat) : Int) := by rw [Int.natCast_mul]
  have h3 : cell * D ≤ 256 * 8 := Nat.mul_le_mul (by omega) d2
  generalize cell * D = cd at h1 h2 h3 ⊢
  generalize H * W * D = hw at h1 hcc ⊢
  clear hc h5
  go_enter Try.func47, Try.ntmps47
  go_wp2
  go_ret
  exact ⟨by rw [Nat.add_sub_cancel_left]; rfl, below1 _ _⟩

end Go.Proofs.Ytblaojflcemfdaa
