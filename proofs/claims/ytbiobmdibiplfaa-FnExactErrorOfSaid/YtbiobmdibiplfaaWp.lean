import Derived.Test.YtbiobmdibiplfaaRt
import Derived.Test.YtbiobmdibiplfaaRp
set_option linter.unusedVariables false
set_option linter.unusedSimpArgs false
namespace Go.FX
open Go Go.RowKit
theorem placeI_not {x : Nat} (h : isF .f32 x = false) : placeI x = -1 := by unfold placeI; rw [if_neg (by rw [h]; simp)]
theorem placeI_fl {z c : Nat} (h : Fl .f32 z c) : placeI z = placeI c := by
  cases hn : isN .f32 z
  · have e := h.eq
    rw [cn_of_not hn] at e
    rw [e]
  · have h1 : isF .f32 z = false := by
      cases hf : isF .f32 z
      · rfl
      · rw [isF_not hf] at hn; cases hn
    have h2 : isF .f32 c = false := by
      cases hf : isF .f32 c
      · rfl
      · have := isF_not hf; rw [← h.eq, isN_cn, hn] at this; cases this
    rw [placeI_not h1, placeI_not h2]
theorem cv_wide {x : Nat} (hn : isN .f32 x = false) (w : World) : cvR .f32 x .f64 w = wide x ∧ cvN .f32 x .f64 = 0 := by
  obtain ⟨y, hy, _⟩ := wide_of x hn
  have e := wide_of_word hn hy
  unfold cvR cvN
  rw [hy]
  exact ⟨e.symm, rfl⟩
theorem place_at25 {x : Nat} (hx : isF .f32 x = true) (h : key .f32 x = 1103626240) : placeI x = 25 := by
  unfold placeI
  rw [if_pos hx, if_neg (by omega), if_neg (by omega)]
  have hr : rng FloatKind.f32.format x = 1103626240 := by
    rw [key_sgn] at h
    cases hs : sgn FloatKind.f32.format x with
    | true => rw [hs, if_pos rfl] at h; omega
    | false => rw [hs, if_neg (by simp)] at h; omega
  have h1 := rteN_le x 25 hx (by omega) (by rw [hr, rmag25]; exact Nat.le_refl _)
  have h2 := rteN_ge x 25 hx (by omega) (by rw [hr, rmag25]; exact Nat.le_refl _)
  omega
theorem order_some {k : FloatKind} {x y : Nat} {o : Ordering} (h : (k.format.order x y == some o) = true) : k.format.order x y = some o := by simpa using h
end Go.FX
namespace Go.Proofs.Ytbiobmdibiplfaa
open Go.FX Go.RowKit Go.WideShapes Go.ChangeShapes

theorem run_rte {b : Nat} {s : Bool} {m : Nat} {p : Int} (h : FloatKind.f64.format.read b = .number s m p) (w : World) :
    (callFunc 142 #[.float .f64 b]).run Try.prog w = .ok (.value (.float .f64 (FloatKind.f64.encode ((FloatKind.f64.format.read b).integral .even)))) w := by
  have h' : FloatKind.f64.decode b = .number s m p := h
  have key : ∀ (A : Bool → Nat → Sem Value) (d : Ieee.Datum), d = .number s m p → (match d with
      | .nan u t => A u t
      | d => pure (.float .f64 (FloatKind.f64.encode (d.integral .even)))).run Try.prog w = .ok (.float .f64 (FloatKind.f64.encode (d.integral .even))) w := fun A d hd => by subst hd; rfl
  have e : (Extern.MathFloor.toIntegral "math.RoundToEven" .even #[.float .f64 b]).run Try.prog w = .ok (.float .f64 (FloatKind.f64.encode ((FloatKind.f64.decode b).integral .even))) w := key _ (FloatKind.f64.decode b) h'
  rw [run_callFunc_extern (e := Extern.MathFloor.toIntegral "math.RoundToEven" .even) Try.func142 (by kernel_rfl) (by kernel_rfl) (by kernel_rfl) (by kernel_rfl), e]
  rfl
set_option maxHeartbeats 1000000 in
theorem placeOf_any (x : Nat) (w : World) : Calls Try.prog 98 #[.float .f32 x] w (RI .i64 (placeI x) w) := by
  cases hx : isF .f32 x with
  | false =>
    have hp := Lib.hid (placeI_not hx)
    have hx' := Lib.hid hx
    clear hx
    go_enter Try.func98, Try.ntmps98
    go_wp2_with fail
    refine (isFinite_any _ _).mono ?_
    rintro e w' ⟨n, rfl, rfl⟩
    rw [hx'.out]
    go_wp2_with fail
    go_ret
    exact ⟨n, by rw [hp.out]; rfl, rfl⟩
  | true =>
    have hn := isF_not hx
    have l1 : (FloatKind.f32.format.order x 3204448256 == some Ordering.lt) = decide (key .f32 x < -1056964608) := by
      rw [lt_key hn (by decide)]; congr 1
    have l2 : (FloatKind.f32.format.order x 1103626240 == some Ordering.lt) = decide (key .f32 x < 1103626240) := by
      rw [lt_key hn (by decide)]; congr 1
    have l3 : (FloatKind.f32.format.order x 1103626240 == some Ordering.gt) = decide (1103626240 < key .f32 x) := by
      rw [gt_key hn (by decide)]; congr 1
    have l4 : (FloatKind.f32.format.order x 1103626240 == some Ordering.eq) = decide (key .f32 x = 1103626240) := by
      rw [eq_key hn (by decide)]; congr 1
    have hx' := Lib.hid hx
    by_cases h1 : key .f32 x < -1056964608
    · have hp : Hid (placeI x = -1) := Lib.hid (by unfold placeI; rw [if_pos hx, if_pos h1])
      have t1 : (FloatKind.f32.format.order x 3204448256 == some Ordering.lt) = true := by rw [l1]; exact decide_eq_true h1
      clear hx l1 l2 l3 l4 h1 hn
      go_enter Try.func98, Try.ntmps98
      go_wp2_with fail
      refine (isFinite_any _ _).mono ?_
      rintro e w' ⟨n, rfl, rfl⟩
      rw [hx'.out]
      go_wp2_with fail
      go_ret
      exact ⟨n, by rw [hp.out]; rfl, rfl⟩
    · have t1 : (FloatKind.f32.format.order x 3204448256 == some Ordering.lt) = false := by rw [l1]; exact decide_eq_false h1
      by_cases h2 : key .f32 x < 1103626240
      · obtain ⟨s, m, p, hr, he, hN, hs⟩ := place_mid x hx (by omega) (by omega)
        have hp : Hid (placeI x = (rteN (wide x) : Int)) := Lib.hid (by unfold placeI; rw [if_pos hx, if_neg h1, if_neg (by omega)])
        have ho : FloatKind.f32.format.order x 1103626240 = some Ordering.lt := order_some (by rw [l2]; exact decide_eq_true h2)
        have hmin : ∀ ts t w, (Builtin.min_ ts t #[.float .f32 x, .float .f32 1103626240]).run Try.prog w = .ok (.float .f32 x) w := fun ts t w => by simp [Builtin.min_, Builtin.min2, ho]
        have hcv := fun w => (cv_wide hn w).1
        have hcn := (cv_wide hn w).2
        have hR : ∀ w, (callFunc 142 #[.float .f64 (wide x)]).run Try.prog w = .ok (.value (.float .f64 (rteB s (rteN (wide x))))) w := fun w => by rw [run_rte hr, he]
        have hC : ∀ w, (convert 53 2 (.float .f64 (rteB s (rteN (wide x))))).run Try.prog w = .ok (.int .i64 (rteN (wide x))) w := fun w => run_convert_float_int w 53 2 .f64 .i64 _ _ (by rw [Try.underlying53]; rfl) Try.underlying2 (place_int hN hs)
        clear hx l1 l2 l3 l4 h1 h2 hn ho he hr hN hs
        generalize rteN (wide x) = N at *
        generalize rteB s N = rb at *
        generalize wide x = y at *
        go_enter Try.func98, Try.ntmps98
        go_wp2_with fail
        refine (isFinite_any _ _).mono ?_
        rintro e w' ⟨n, rfl, rfl⟩
        rw [hx'.out]
        go_wp2_with (simp only [hmin, hcv, hcn, hR, hC])
        go_ret
        exact ⟨_, by rw [hp.out]; rfl, rfl⟩
      · have hp : Hid (placeI x = 25) := Lib.hid (by
          by_cases h3 : key .f32 x = 1103626240
          · exact place_at25 hx h3
          · unfold placeI; rw [if_pos hx, if_neg h1, if_pos (by omega)])
        have hmin : ∀ ts t w, (Builtin.min_ ts t #[.float .f32 x, .float .f32 1103626240]).run Try.prog w = .ok (.float .f32 1103626240) w := fun ts t w => by
          by_cases h3 : key .f32 x = 1103626240
          · have ho : FloatKind.f32.format.order x 1103626240 = some Ordering.eq := order_some (by rw [l4]; exact decide_eq_true h3)
            have hx25 : x % 4294967296 = x % 4294967296 := rfl
            have hneg : (FloatKind.f32.decode x).neg = false := by
              obtain ⟨m, p, er, _⟩ := read_fin FloatKind.f32.format 149 (by decide) x (by simpa [isF] using hx)
              have hsg : sgn FloatKind.f32.format x = false := by
                rw [key_sgn] at h3
                cases hs : sgn FloatKind.f32.format x with
                | true => rw [hs, if_pos rfl] at h3; omega
                | false => rfl
              show (FloatKind.f32.format.read x).neg = false
              rw [er, hsg]; rfl
            simp [Builtin.min_, Builtin.min2, ho, hneg]
          · have ho : FloatKind.f32.format.order x 1103626240 = some Ordering.gt := order_some (by rw [l3]; exact decide_eq_true (by omega))
            simp [Builtin.min_, Builtin.min2, ho]
        obtain ⟨s, m, p, hr, he, hN, hs⟩ := place_mid 1103626240 (by decide) (by decide) (by decide)
        rw [place_25] at he hN hs
        have hcv := fun w => (cv_wide (x := 1103626240) (by decide) w).1
        have hcn := (cv_wide (x := 1103626240) (by decide) w).2
        have hR : ∀ w, (callFunc 142 #[.float .f64 (wide 1103626240)]).run Try.prog w = .ok (.value (.float .f64 (rteB s 25))) w := fun w => by rw [run_rte hr, he]
        have hC : ∀ w, (convert 53 2 (.float .f64 (rteB s 25))).run Try.prog w = .ok (.int .i64 25) w := fun w => run_convert_float_int w 53 2 .f64 .i64 _ _ (by rw [Try.underlying53]; rfl) Try.underlying2 (place_int hN hs)
        clear hx l1 l2 l3 l4 h1 h2 hn he hr hN hs
        generalize rteB s 25 = rb at *
        generalize wide 1103626240 = y at *
        go_enter Try.func98, Try.ntmps98
        go_wp2_with fail
        refine (isFinite_any _ _).mono ?_
        rintro e w' ⟨n, rfl, rfl⟩
        rw [hx'.out]
        go_wp2_with (simp only [hmin, hcv, hcn, hR, hC])
        go_ret
        exact ⟨_, by rw [hp.out]; rfl, rfl⟩
set_option maxHeartbeats 1000000 in
theorem specPlace_any (x : Nat) (w : World) : Calls Try.prog 117 #[.float .f32 x] w (RI .i64 (placeI x) w) := by
  cases hx : isF .f32 x with
  | false =>
    have hp := Lib.hid (placeI_not hx)
    have hx' := Lib.hid hx
    clear hx
    cases t1 : (FloatKind.f32.format.order x 3204448256 == some Ordering.lt) with
    | true =>
      go_enter Try.func117, Try.ntmps117
      go_wp2_with fail
      go_ret
      exact ⟨0, by rw [hp.out]; rfl, rfl⟩
    | false =>
      go_enter Try.func117, Try.ntmps117
      go_wp2_with fail
      refine (specFinite_any _ _).mono ?_
      rintro e w' ⟨n, rfl, rfl⟩
      rw [hx'.out]
      go_wp2_with fail
      go_ret
      exact ⟨n, by rw [hp.out]; rfl, rfl⟩
  | true =>
    have hn := isF_not hx
    have l1 : (FloatKind.f32.format.order x 3204448256 == some Ordering.lt) = decide (key .f32 x < -1056964608) := by
      rw [lt_key hn (by decide)]; congr 1
    have hx' := Lib.hid hx
    by_cases h1 : key .f32 x < -1056964608
    · have hp : Hid (placeI x = -1) := Lib.hid (by unfold placeI; rw [if_pos hx, if_pos h1])
      have t1 : (FloatKind.f32.format.order x 3204448256 == some Ordering.lt) = true := by rw [l1]; exact decide_eq_true h1
      clear hx l1 h1 hn
      go_enter Try.func117, Try.ntmps117
      go_wp2_with fail
      go_ret
      exact ⟨0, by rw [hp.out]; rfl, rfl⟩
    · have t1 : (FloatKind.f32.format.order x 3204448256 == some Ordering.lt) = false := by rw [l1]; exact decide_eq_false h1
      by_cases h2 : key .f32 x ≤ 1103626240
      · obtain ⟨s, m, p, hr, he, hN, hs⟩ := place_mid x hx (by omega) h2
        have hp : Hid (placeI x = (rteN (wide x) : Int)) := Lib.hid (by unfold placeI; rw [if_pos hx, if_neg h1, if_neg (by omega)])
        have hcv := fun w => (cv_wide hn w).1
        have hcn := (cv_wide hn w).2
        have hR : ∀ w, (callFunc 142 #[.float .f64 (wide x)]).run Try.prog w = .ok (.value (.float .f64 (rteB s (rteN (wide x))))) w := fun w => by rw [run_rte hr, he]
        have hC : ∀ w, (convert 53 2 (.float .f64 (rteB s (rteN (wide x))))).run Try.prog w = .ok (.int .i64 (rteN (wide x))) w := fun w => run_convert_float_int w 53 2 .f64 .i64 _ _ (by rw [Try.underlying53]; rfl) Try.underlying2 (place_int hN hs)
        have hG := place_gt hN hs
        by_cases h24 : 24 < rteN (wide x)
        · have hG' : (FloatKind.f64.format.order (rteB s (rteN (wide x))) 4627448617123184640 == some Ordering.gt) = true := by rw [hG]; exact decide_eq_true h24
          have hp25 : Hid (placeI x = 25) := Lib.hid (by rw [hp.out]; omega)
          clear hx l1 h1 h2 hn he hr hN hs hG h24 hp hC
          generalize rteN (wide x) = N at *
          generalize rteB s N = rb at *
          generalize wide x = y at *
          go_enter Try.func117, Try.ntmps117
          go_wp2_with fail
          refine (specFinite_any _ _).mono ?_
          rintro e w' ⟨n, rfl, rfl⟩
          rw [hx'.out]
          go_wp2_with (simp only [hcv, hcn, hR])
          go_ret
          exact ⟨_, by rw [hp25.out]; rfl, rfl⟩
        · have hG' : (FloatKind.f64.format.order (rteB s (rteN (wide x))) 4627448617123184640 == some Ordering.gt) = false := by rw [hG]; exact decide_eq_false h24
          clear hx l1 h1 h2 hn he hr hN hs hG h24
          generalize rteN (wide x) = N at *
          generalize rteB s N = rb at *
          generalize wide x = y at *
          go_enter Try.func117, Try.ntmps117
          go_wp2_with fail
          refine (specFinite_any _ _).mono ?_
          rintro e w' ⟨n, rfl, rfl⟩
          rw [hx'.out]
          go_wp2_with (simp only [hcv, hcn, hR, hC])
          go_ret
          exact ⟨_, by rw [hp.out]; rfl, rfl⟩
      · obtain ⟨m, p, hr, he, hN⟩ := place_big x hx (by omega)
        have hp : Hid (placeI x = 25) := Lib.hid (by unfold placeI; rw [if_pos hx, if_neg h1, if_pos (by omega)])
        have hcv := fun w => (cv_wide hn w).1
        have hcn := (cv_wide hn w).2
        have hR : ∀ w, (callFunc 142 #[.float .f64 (wide x)]).run Try.prog w = .ok (.value (.float .f64 (rteB false (rteN (wide x))))) w := fun w => by rw [run_rte hr, he]
        have hG := rte_gt_big _ hN
        clear hx l1 h1 h2 hn he hr hN
        generalize rteN (wide x) = N at *
        generalize rteB false N = rb at *
        generalize wide x = y at *
        go_enter Try.func117, Try.ntmps117
        go_wp2_with fail
        refine (specFinite_any _ _).mono ?_
        rintro e w' ⟨n, rfl, rfl⟩
        rw [hx'.out]
        go_wp2_with (simp only [hcv, hcn, hR])
        go_ret
        exact ⟨_, by rw [hp.out]; rfl, rfl⟩
end Go.Proofs.Ytbiobmdibiplfaa
