import Derived.Test.YtgfmcehgecbbaabCRoot
import Derived.Test.YtgfmcehgecbbaabLe
set_option linter.unusedVariables false
set_option linter.unusedSimpArgs false
namespace Go.FX
open Go Go.RowKit Ieee
def one : Nat := 4607182418800017408
def stepsAt (t : Nat) : Nat → Nat
  | 0 => t
  | k + 1 => step (stepsAt t k)
/-- The bits of 15, 13, .. 1, -1. -/
def kf : Nat → Nat
  | 0 => 4624633867356078080 | 1 => 4623507967449235456 | 2 => 4622382067542392832 | 3 => 4621256167635550208 | 4 => 4619567317775286272 | 5 => 4617315517961601024 | 6 => 4613937818241073152 | 7 => 4607182418800017408 | _ => 13830554455654793216
def pAt (u : Nat) : Nat → Nat
  | 0 => 0
  | k + 1 => fop .sub .f64 (fop .quo .f64 4607182418800017408 (kf k)) (fop .mul .f64 u (pAt u k))
/-- The angle of a quotient. -/
def turn (t : Nat) : Nat := fop .quo .f64 (fop .mul .f64 4620693217682128896 (fop .mul .f64 t (pAt (fop .mul .f64 t t) 8))) 4618760256179416344
theorem kf_sub : ∀ k < 8, floatBits .sub .f64 (kf k) 4611686018427387904 = some (kf (k + 1)) := by decide +kernel
theorem kf_gt : ∀ k < 7, FloatKind.f64.format.order (kf k) 4607182418800017408 = some .gt := by decide +kernel
theorem kf_eq : FloatKind.f64.format.order (kf 7) 4607182418800017408 = some .eq := by decide +kernel
theorem kf_lt : FloatKind.f64.format.order (kf 8) 4607182418800017408 = some .lt := by decide +kernel
theorem kf_of : ∀ k : Nat, k < 8 → floatOfInt .f64 (15 - 2 * (k : Int)) = kf k := by decide +kernel
theorem kf_width : ∀ k < 8, kf k < width .f64 ∧ cn .f64 (kf k) = kf k := by decide +kernel
theorem flR_some {op : BinOp} {k : FloatKind} {x y r : Nat} (h : floatBits op k x y = some r) (w : World) : flR op k x y w = r := by unfold flR; rw [h]
theorem fl_lit {x : Nat} (h : x < width .f64 ∧ cn .f64 x = x) : Fl .f64 x x := ⟨h.1, h.2⟩
theorem fl_stepped {t c : Nat} (h : Fl .f64 t c) (w1 w2 w3 w4 w5 : World) :
    Fl .f64 (flR .quo .f64 t (flR .add .f64 4607182418800017408 (sqR (flR .add .f64 4607182418800017408 (flR .mul .f64 t t w1) w2) w3) w4) w5) (step c) :=
  h.flR ((fl_lit (by decide)).flR (((fl_lit (by decide)).flR (h.flR h w1) w2).sq w3) w4) w5
theorem fl_next {u cu p k : Nat} (hu : Fl .f64 u cu) (hk : k < 8) (hp : Fl .f64 p (pAt cu k)) (w1 w2 w3 : World) :
    Fl .f64 (flR .sub .f64 (flR .quo .f64 4607182418800017408 (kf k) w1) (flR .mul .f64 u p w2) w3) (pAt cu (k + 1)) :=
  (((fl_lit (by decide)).flR (fl_lit (kf_width k hk)) w1).flR (hu.flR hp w2) w3)
theorem fl_turned {t c p : Nat} (h : Fl .f64 t c) (hp : Fl .f64 p (pAt (fop .mul .f64 c c) 8)) (w1 w2 w3 : World) :
    Fl .f64 (flR .quo .f64 (flR .mul .f64 4620693217682128896 (flR .mul .f64 t p w1) w2) 4618760256179416344 w3) (turn c) :=
  ((fl_lit (by decide)).flR (h.flR hp w1) w2).flR (fl_lit (by decide)) w3
def kidx (x : Nat) : Nat := ((List.range 9).find? (fun j => kf j == x)).getD 0
def fOf : Value → Nat | .float _ x => kidx x | _ => 0
theorem kidx_kf : ∀ k < 9, kidx (kf k) = k := by decide +kernel
/-- The angle of two numbers without sign. -/
def angQ (a b : Nat) : Nat := if (FloatKind.f64.format.order a b == some Ordering.gt) = true then fop .sub .f64 4598175219545276416 (turn (stepsAt (fop .quo .f64 b a) 3)) else turn (stepsAt (fop .quo .f64 a b) 3)
/-- The angle of a point, in 64 bits. -/
def angS (a b : Nat) : Nat :=
  let c := angQ (a % 9223372036854775808) (b % 9223372036854775808)
  let d := if (FloatKind.f64.format.order b 0 == some Ordering.lt) = true then fop .sub .f64 4602678819172646912 c else c
  if (FloatKind.f64.format.order a 0 == some Ordering.lt) = true then neg .f64 d else d
theorem key64 (x : Nat) : key .f64 x = if x / 9223372036854775808 % 2 = 1 then -((x % 9223372036854775808 : Nat) : Int) else ((x % 9223372036854775808 : Nat) : Int) := by
  unfold key; rw [sgn64, rng64]; simp only [beq_iff_eq]
theorem eq064 {x : Nat} (hx : isN .f64 x = false) : (FloatKind.f64.format.order x 0 == some Ordering.eq) = decide (x % 9223372036854775808 = 0) := by
  rw [eq_key hx (by decide)]; congr 1; apply propext
  rw [key64, key64]; simp; split <;> omega
end Go.FX
namespace Go.Proofs.Ytgfmcehgecbbaab
open Go.FX Go.RowKit

set_option maxHeartbeats 1000000 in
theorem implQ_any (a b : Nat) (w : World) (ha : Fl .f64 a a) (hb : Fl .f64 b b) :
    Calls Try.prog 70 #[.float .f64 a, .float .f64 b] w (RF .f64 (angQ a b) w) := by
  by_cases ho : (FloatKind.f64.format.order a b == some Ordering.gt) = true
  · have hres : Hid (angQ a b = _) := Lib.hid (by unfold angQ; simp only [ho, if_true, if_false, Bool.false_eq_true]; rfl)
    go_enter Try.func70, Try.ntmps70
    have hT : Hid (∀ w1, Fl .f64 (flR .quo .f64 b a w1) (fop .quo .f64 b a)) := Lib.hid (hb.flR ha)
    go_wp2
    go_loopw [6, 20] (fun s i wr => ∃ (k r n : Nat), k ≤ 3 ∧ i = .int .i64 k ∧ s = .float .f64 r ∧ wr = w.drewN n ∧ Fl .f64 r (stepsAt (fop .quo .f64 b a) k)) (fun _ i _ => 3 - (intOf i).toNat)
    case atStart => exact ⟨0, _, _, Nat.zero_le _, rfl, rfl, rfl, hT.out _⟩
    case round =>
      obtain ⟨k, r, n, hk, rfl, rfl, rfl, hr⟩ := hrel
      by_cases hlt : k < 3
      · have HS : Hid (∀ w1 w2 w3 w4 w5 : World, Fl .f64 (flR .quo .f64 r (flR .add .f64 4607182418800017408 (sqR (flR .add .f64 4607182418800017408 (flR .mul .f64 r r w1) w2) w3) w4) w5) (stepsAt (fop .quo .f64 b a) (k + 1))) := Lib.hid (fl_stepped hr)
        clear hr
        go_wp2
        go_roundw
        case rel => exact ⟨k + 1, _, _, by omega, by go_num, rfl, rfl, HS.out _ _ _ _ _⟩
        case measure => simp [intOf]; omega
      · obtain rfl : k = 3 := by omega
        have hu : Hid (∀ w1, Fl .f64 (flR .mul .f64 r r w1) (fop .mul .f64 (stepsAt (fop .quo .f64 b a) 3) (stepsAt (fop .quo .f64 b a) 3))) := Lib.hid (hr.flR hr)
        have hr' := Lib.hid hr
        clear hr
        go_wp2
        go_loopw [8, 9] (fun s i wr => ∃ (j q m : Nat), j ≤ 8 ∧ i = .float .f64 (kf j) ∧ s = .float .f64 q ∧ wr = w.drewN m ∧ Fl .f64 q (pAt (fop .mul .f64 (stepsAt (fop .quo .f64 b a) 3) (stepsAt (fop .quo .f64 b a) 3)) j)) (fun _ i _ => 8 - fOf i)
        case atStart => exact ⟨0, 0, _, Nat.zero_le _, rfl, rfl, by first | rfl | simp, ⟨by decide, by show cn .f64 0 = 0; decide⟩⟩
        case round =>
          obtain ⟨j, q, m, hj, rfl, rfl, rfl, hq⟩ := hrel
          by_cases hj8 : j < 8
          · have HS : Hid (∀ w0 w1 w2 w3 : World, Fl .f64 (flR .sub .f64 (flR .quo .f64 4607182418800017408 (kf j) w1) (flR .mul .f64 (flR .mul .f64 r r w0) q w2) w3) (pAt (fop .mul .f64 (stepsAt (fop .quo .f64 b a) 3) (stepsAt (fop .quo .f64 b a) 3)) (j + 1))) := Lib.hid (fun w0 => fl_next (hu.out w0) hj8 hq)
            have HK : Hid (∀ w0 : World, flR .sub .f64 (kf j) 4611686018427387904 w0 = kf (j + 1)) := Lib.hid (flR_some (kf_sub j hj8))
            have HM : Hid (kidx (kf j) = j ∧ kidx (kf (j + 1)) = j + 1) := Lib.hid ⟨kidx_kf j (by omega), kidx_kf (j + 1) (by omega)⟩
            clear hq
            have hcmp : (FloatKind.f64.format.order (kf j) 4607182418800017408 == some Ordering.gt || FloatKind.f64.format.order (kf j) 4607182418800017408 == some Ordering.eq) = true := by
              by_cases h7 : j < 7
              · rw [kf_gt j h7]; rfl
              · obtain rfl : j = 7 := by omega
                rw [kf_eq]; rfl
            go_wp2
            go_roundw
            case rel => exact ⟨j + 1, _, _, by omega, by rw [HK.out], rfl, rfl, HS.out _ _ _ _⟩
            case measure => simp only [fOf, HK.out, HM.out.1, HM.out.2]; omega
          · obtain rfl : j = 8 := by omega
            have hq' := Lib.hid hq
            clear hq
            have hcmp : (FloatKind.f64.format.order (kf 8) 4607182418800017408 == some Ordering.gt || FloatKind.f64.format.order (kf 8) 4607182418800017408 == some Ordering.eq) = false := by rw [kf_lt]; rfl
            go_wp2
            go_ret
            exact ⟨_, _, rfl, rfl, by rw [hres.out]; exact (fl_lit (by decide)).flR (fl_turned hr'.out hq'.out _ _ _) _⟩
  · replace ho : (FloatKind.f64.format.order a b == some Ordering.gt) = false := by simpa using ho
    have hres : Hid (angQ a b = _) := Lib.hid (by unfold angQ; simp only [ho, if_true, if_false, Bool.false_eq_true]; rfl)
    go_enter Try.func70, Try.ntmps70
    have hT : Hid (∀ w1, Fl .f64 (flR .quo .f64 a b w1) (fop .quo .f64 a b)) := Lib.hid (ha.flR hb)
    go_wp2
    go_loopw [6, 20] (fun s i wr => ∃ (k r n : Nat), k ≤ 3 ∧ i = .int .i64 k ∧ s = .float .f64 r ∧ wr = w.drewN n ∧ Fl .f64 r (stepsAt (fop .quo .f64 a b) k)) (fun _ i _ => 3 - (intOf i).toNat)
    case atStart => exact ⟨0, _, _, Nat.zero_le _, rfl, rfl, rfl, hT.out _⟩
    case round =>
      obtain ⟨k, r, n, hk, rfl, rfl, rfl, hr⟩ := hrel
      by_cases hlt : k < 3
      · have HS : Hid (∀ w1 w2 w3 w4 w5 : World, Fl .f64 (flR .quo .f64 r (flR .add .f64 4607182418800017408 (sqR (flR .add .f64 4607182418800017408 (flR .mul .f64 r r w1) w2) w3) w4) w5) (stepsAt (fop .quo .f64 a b) (k + 1))) := Lib.hid (fl_stepped hr)
        clear hr
        go_wp2
        go_roundw
        case rel => exact ⟨k + 1, _, _, by omega, by go_num, rfl, rfl, HS.out _ _ _ _ _⟩
        case measure => simp [intOf]; omega
      · obtain rfl : k = 3 := by omega
        have hu : Hid (∀ w1, Fl .f64 (flR .mul .f64 r r w1) (fop .mul .f64 (stepsAt (fop .quo .f64 a b) 3) (stepsAt (fop .quo .f64 a b) 3))) := Lib.hid (hr.flR hr)
        have hr' := Lib.hid hr
        clear hr
        go_wp2
        go_loopw [8, 9] (fun s i wr => ∃ (j q m : Nat), j ≤ 8 ∧ i = .float .f64 (kf j) ∧ s = .float .f64 q ∧ wr = w.drewN m ∧ Fl .f64 q (pAt (fop .mul .f64 (stepsAt (fop .quo .f64 a b) 3) (stepsAt (fop .quo .f64 a b) 3)) j)) (fun _ i _ => 8 - fOf i)
        case atStart => exact ⟨0, 0, _, Nat.zero_le _, rfl, rfl, by first | rfl | simp, ⟨by decide, by show cn .f64 0 = 0; decide⟩⟩
        case round =>
          obtain ⟨j, q, m, hj, rfl, rfl, rfl, hq⟩ := hrel
          by_cases hj8 : j < 8
          · have HS : Hid (∀ w0 w1 w2 w3 : World, Fl .f64 (flR .sub .f64 (flR .quo .f64 4607182418800017408 (kf j) w1) (flR .mul .f64 (flR .mul .f64 r r w0) q w2) w3) (pAt (fop .mul .f64 (stepsAt (fop .quo .f64 a b) 3) (stepsAt (fop .quo .f64 a b) 3)) (j + 1))) := Lib.hid (fun w0 => fl_next (hu.out w0) hj8 hq)
            have HK : Hid (∀ w0 : World, flR .sub .f64 (kf j) 4611686018427387904 w0 = kf (j + 1)) := Lib.hid (flR_some (kf_sub j hj8))
            have HM : Hid (kidx (kf j) = j ∧ kidx (kf (j + 1)) = j + 1) := Lib.hid ⟨kidx_kf j (by omega), kidx_kf (j + 1) (by omega)⟩
            clear hq
            have hcmp : (FloatKind.f64.format.order (kf j) 4607182418800017408 == some Ordering.gt || FloatKind.f64.format.order (kf j) 4607182418800017408 == some Ordering.eq) = true := by
              by_cases h7 : j < 7
              · rw [kf_gt j h7]; rfl
              · obtain rfl : j = 7 := by omega
                rw [kf_eq]; rfl
            go_wp2
            go_roundw
            case rel => exact ⟨j + 1, _, _, by omega, by rw [HK.out], rfl, rfl, HS.out _ _ _ _⟩
            case measure => simp only [fOf, HK.out, HM.out.1, HM.out.2]; omega
          · obtain rfl : j = 8 := by omega
            have hq' := Lib.hid hq
            clear hq
            have hcmp : (FloatKind.f64.format.order (kf 8) 4607182418800017408 == some Ordering.gt || FloatKind.f64.format.order (kf 8) 4607182418800017408 == some Ordering.eq) = false := by rw [kf_lt]; rfl
            go_wp2
            go_ret
            exact ⟨_, _, rfl, rfl, by rw [hres.out]; exact fl_turned hr'.out hq'.out _ _ _⟩

set_option maxHeartbeats 2000000 in
theorem specW1_any (a b : Nat) (w : World) (ha : a < width .f64) (hb : b < width .f64) (fa : isF .f64 a = true) (fb : isF .f64 b = true) (zb : (FloatKind.f64.format.order b 0 == some Ordering.eq) = false) :
    Calls Try.prog 80 #[.float .f64 a, .float .f64 b] w (RF .f64 (angS a b) w) := by
  have aa := andNot_abs a ha
  have ab := andNot_abs b hb
  have na := isF_not fa
  have nb := isF_not fb
  have ha' : Fl .f64 (a % 9223372036854775808) (a % 9223372036854775808) := ⟨Nat.lt_of_le_of_lt (Nat.mod_le _ _) ha, cn_of_not (by rw [isN_abs]; exact na)⟩
  have hb' : Fl .f64 (b % 9223372036854775808) (b % 9223372036854775808) := ⟨Nat.lt_of_le_of_lt (Nat.mod_le _ _) hb, cn_of_not (by rw [isN_abs]; exact nb)⟩
  by_cases ho : (FloatKind.f64.format.order (a % 9223372036854775808) (b % 9223372036854775808) == some Ordering.gt) = true
  · have hres : Hid (angQ (a % 9223372036854775808) (b % 9223372036854775808) = _) := Lib.hid (by unfold angQ; simp only [ho, if_true, if_false, Bool.false_eq_true]; rfl)
    have hT : Hid (∀ w1, Fl .f64 (flR .quo .f64 (b % 9223372036854775808) (a % 9223372036854775808) w1) (fop .quo .f64 (b % 9223372036854775808) (a % 9223372036854775808))) := Lib.hid (hb'.flR ha')
    go_enter Try.func80, Try.ntmps80
    go_wp2
    go_loopw [8, 9] (fun s i wr => ∃ (k r n : Nat), k ≤ 3 ∧ i = .int .i64 k ∧ s = .float .f64 r ∧ wr = w.drewN n ∧ Fl .f64 r (stepsAt (fop .quo .f64 (b % 9223372036854775808) (a % 9223372036854775808)) k)) (fun _ i _ => 3 - (intOf i).toNat)
    case atStart => exact ⟨0, _, _, Nat.zero_le _, rfl, rfl, by first | rfl | simp, hT.out _⟩
    case round =>
      obtain ⟨k, r, n, hk, rfl, rfl, rfl, hr⟩ := hrel
      by_cases hlt : k < 3
      · have HS : Hid (∀ w1 w2 w3 w4 w5 : World, Fl .f64 (flR .quo .f64 r (flR .add .f64 4607182418800017408 (sqR (flR .add .f64 4607182418800017408 (flR .mul .f64 r r w1) w2) w3) w4) w5) (stepsAt (fop .quo .f64 (b % 9223372036854775808) (a % 9223372036854775808)) (k + 1))) := Lib.hid (fl_stepped hr)
        clear hr
        go_wp2
        go_roundw
        case rel => exact ⟨k + 1, _, _, by omega, by go_num, rfl, rfl, HS.out _ _ _ _ _⟩
        case measure => simp [intOf]; omega
      · obtain rfl : k = 3 := by omega
        have hu : Hid (∀ w1, Fl .f64 (flR .mul .f64 r r w1) (fop .mul .f64 (stepsAt (fop .quo .f64 (b % 9223372036854775808) (a % 9223372036854775808)) 3) (stepsAt (fop .quo .f64 (b % 9223372036854775808) (a % 9223372036854775808)) 3))) := Lib.hid (hr.flR hr)
        have hr' := Lib.hid hr
        clear hr
        go_wp2
        go_loopw [11, 12] (fun s i wr => ∃ (j q m : Nat), j ≤ 8 ∧ i = .int .i64 (15 - 2 * (j : Int)) ∧ s = .float .f64 q ∧ wr = w.drewN m ∧ Fl .f64 q (pAt (fop .mul .f64 (stepsAt (fop .quo .f64 (b % 9223372036854775808) (a % 9223372036854775808)) 3) (stepsAt (fop .quo .f64 (b % 9223372036854775808) (a % 9223372036854775808)) 3)) j)) (fun _ i _ => (intOf i + 1).toNat)
        case atStart => exact ⟨0, 0, _, Nat.zero_le _, rfl, rfl, by first | rfl | simp, ⟨by decide, by show cn .f64 0 = 0; decide⟩⟩
        case round =>
          obtain ⟨j, q, m, hj, rfl, rfl, rfl, hq⟩ := hrel
          by_cases hj8 : j < 8
          · have HS : Hid (∀ w0 w1 w2 w3 : World, Fl .f64 (flR .sub .f64 (flR .quo .f64 4607182418800017408 (kf j) w1) (flR .mul .f64 (flR .mul .f64 r r w0) q w2) w3) (pAt (fop .mul .f64 (stepsAt (fop .quo .f64 (b % 9223372036854775808) (a % 9223372036854775808)) 3) (stepsAt (fop .quo .f64 (b % 9223372036854775808) (a % 9223372036854775808)) 3)) (j + 1))) := Lib.hid (fun w0 => fl_next (hu.out w0) hj8 hq)
            clear hq
            have hof := kf_of j hj8
            go_wp2
            go_roundw
            case rel => exact ⟨j + 1, _, _, by omega, by go_num, rfl, rfl, HS.out _ _ _ _⟩
            case measure => simp [intOf]; omega
          · obtain rfl : j = 8 := by omega
            have hq' := Lib.hid hq
            clear hq
            by_cases hx : (FloatKind.f64.format.order b 0 == some Ordering.lt) = true
            all_goals by_cases hy : (FloatKind.f64.format.order a 0 == some Ordering.lt) = true
            all_goals
              have hang : Hid (angS a b = _) := Lib.hid (by unfold angS; simp only [hx, hy, if_true, if_false, Bool.false_eq_true]; rfl)
              go_wp2
              go_ret
              refine ⟨_, _, rfl, rfl, ?_⟩
              rw [hang.out, hres.out]
              first
                | exact ((fl_lit (by decide)).flR (fl_turned hr'.out hq'.out _ _ _) _)
                | exact Fl.neg ((fl_lit (by decide)).flR (fl_turned hr'.out hq'.out _ _ _) _)
                | exact (fl_lit (by decide)).flR ((fl_lit (by decide)).flR (fl_turned hr'.out hq'.out _ _ _) _) _
                | exact Fl.neg ((fl_lit (by decide)).flR ((fl_lit (by decide)).flR (fl_turned hr'.out hq'.out _ _ _) _) _)
  · replace ho : (FloatKind.f64.format.order (a % 9223372036854775808) (b % 9223372036854775808) == some Ordering.gt) = false := by simpa using ho
    have hres : Hid (angQ (a % 9223372036854775808) (b % 9223372036854775808) = _) := Lib.hid (by unfold angQ; simp only [ho, if_true, if_false, Bool.false_eq_true]; rfl)
    have hT : Hid (∀ w1, Fl .f64 (flR .quo .f64 (a % 9223372036854775808) (b % 9223372036854775808) w1) (fop .quo .f64 (a % 9223372036854775808) (b % 9223372036854775808))) := Lib.hid (ha'.flR hb')
    go_enter Try.func80, Try.ntmps80
    go_wp2
    go_loopw [8, 9] (fun s i wr => ∃ (k r n : Nat), k ≤ 3 ∧ i = .int .i64 k ∧ s = .float .f64 r ∧ wr = w.drewN n ∧ Fl .f64 r (stepsAt (fop .quo .f64 (a % 9223372036854775808) (b % 9223372036854775808)) k)) (fun _ i _ => 3 - (intOf i).toNat)
    case atStart => exact ⟨0, _, _, Nat.zero_le _, rfl, rfl, by first | rfl | simp, hT.out _⟩
    case round =>
      obtain ⟨k, r, n, hk, rfl, rfl, rfl, hr⟩ := hrel
      by_cases hlt : k < 3
      · have HS : Hid (∀ w1 w2 w3 w4 w5 : World, Fl .f64 (flR .quo .f64 r (flR .add .f64 4607182418800017408 (sqR (flR .add .f64 4607182418800017408 (flR .mul .f64 r r w1) w2) w3) w4) w5) (stepsAt (fop .quo .f64 (a % 9223372036854775808) (b % 9223372036854775808)) (k + 1))) := Lib.hid (fl_stepped hr)
        clear hr
        go_wp2
        go_roundw
        case rel => exact ⟨k + 1, _, _, by omega, by go_num, rfl, rfl, HS.out _ _ _ _ _⟩
        case measure => simp [intOf]; omega
      · obtain rfl : k = 3 := by omega
        have hu : Hid (∀ w1, Fl .f64 (flR .mul .f64 r r w1) (fop .mul .f64 (stepsAt (fop .quo .f64 (a % 9223372036854775808) (b % 9223372036854775808)) 3) (stepsAt (fop .quo .f64 (a % 9223372036854775808) (b % 9223372036854775808)) 3))) := Lib.hid (hr.flR hr)
        have hr' := Lib.hid hr
        clear hr
        go_wp2
        go_loopw [11, 12] (fun s i wr => ∃ (j q m : Nat), j ≤ 8 ∧ i = .int .i64 (15 - 2 * (j : Int)) ∧ s = .float .f64 q ∧ wr = w.drewN m ∧ Fl .f64 q (pAt (fop .mul .f64 (stepsAt (fop .quo .f64 (a % 9223372036854775808) (b % 9223372036854775808)) 3) (stepsAt (fop .quo .f64 (a % 9223372036854775808) (b % 9223372036854775808)) 3)) j)) (fun _ i _ => (intOf i + 1).toNat)
        case atStart => exact ⟨0, 0, _, Nat.zero_le _, rfl, rfl, by first | rfl | simp, ⟨by decide, by show cn .f64 0 = 0; decide⟩⟩
        case round =>
          obtain ⟨j, q, m, hj, rfl, rfl, rfl, hq⟩ := hrel
          by_cases hj8 : j < 8
          · have HS : Hid (∀ w0 w1 w2 w3 : World, Fl .f64 (flR .sub .f64 (flR .quo .f64 4607182418800017408 (kf j) w1) (flR .mul .f64 (flR .mul .f64 r r w0) q w2) w3) (pAt (fop .mul .f64 (stepsAt (fop .quo .f64 (a % 9223372036854775808) (b % 9223372036854775808)) 3) (stepsAt (fop .quo .f64 (a % 9223372036854775808) (b % 9223372036854775808)) 3)) (j + 1))) := Lib.hid (fun w0 => fl_next (hu.out w0) hj8 hq)
            clear hq
            have hof := kf_of j hj8
            go_wp2
            go_roundw
            case rel => exact ⟨j + 1, _, _, by omega, by go_num, rfl, rfl, HS.out _ _ _ _⟩
            case measure => simp [intOf]; omega
          · obtain rfl : j = 8 := by omega
            have hq' := Lib.hid hq
            clear hq
            by_cases hx : (FloatKind.f64.format.order b 0 == some Ordering.lt) = true
            all_goals by_cases hy : (FloatKind.f64.format.order a 0 == some Ordering.lt) = true
            all_goals
              have hang : Hid (angS a b = _) := Lib.hid (by unfold angS; simp only [hx, hy, if_true, if_false, Bool.false_eq_true]; rfl)
              go_wp2
              go_ret
              refine ⟨_, _, rfl, rfl, ?_⟩
              rw [hang.out, hres.out]
              first
                | exact (fl_turned hr'.out hq'.out _ _ _)
                | exact Fl.neg (fl_turned hr'.out hq'.out _ _ _)
                | exact (fl_lit (by decide)).flR (fl_turned hr'.out hq'.out _ _ _) _
                | exact Fl.neg ((fl_lit (by decide)).flR (fl_turned hr'.out hq'.out _ _ _) _)
set_option maxHeartbeats 2000000 in
theorem specW2_any (a b : Nat) (w : World) (ha : a < width .f64) (hb : b < width .f64) (fa : isF .f64 a = true) (fb : isF .f64 b = true) (zb : (FloatKind.f64.format.order b 0 == some Ordering.eq) = true) (za : (FloatKind.f64.format.order a 0 == some Ordering.eq) = false) :
    Calls Try.prog 80 #[.float .f64 a, .float .f64 b] w (RF .f64 (angS a b) w) := by
  have aa := andNot_abs a ha
  have ab := andNot_abs b hb
  have na := isF_not fa
  have nb := isF_not fb
  have ha' : Fl .f64 (a % 9223372036854775808) (a % 9223372036854775808) := ⟨Nat.lt_of_le_of_lt (Nat.mod_le _ _) ha, cn_of_not (by rw [isN_abs]; exact na)⟩
  have hb' : Fl .f64 (b % 9223372036854775808) (b % 9223372036854775808) := ⟨Nat.lt_of_le_of_lt (Nat.mod_le _ _) hb, cn_of_not (by rw [isN_abs]; exact nb)⟩
  by_cases ho : (FloatKind.f64.format.order (a % 9223372036854775808) (b % 9223372036854775808) == some Ordering.gt) = true
  · have hres : Hid (angQ (a % 9223372036854775808) (b % 9223372036854775808) = _) := Lib.hid (by unfold angQ; simp only [ho, if_true, if_false, Bool.false_eq_true]; rfl)
    have hT : Hid (∀ w1, Fl .f64 (flR .quo .f64 (b % 9223372036854775808) (a % 9223372036854775808) w1) (fop .quo .f64 (b % 9223372036854775808) (a % 9223372036854775808))) := Lib.hid (hb'.flR ha')
    go_enter Try.func80, Try.ntmps80
    go_wp2
    go_loopw [8, 9] (fun s i wr => ∃ (k r n : Nat), k ≤ 3 ∧ i = .int .i64 k ∧ s = .float .f64 r ∧ wr = w.drewN n ∧ Fl .f64 r (stepsAt (fop .quo .f64 (b % 9223372036854775808) (a % 9223372036854775808)) k)) (fun _ i _ => 3 - (intOf i).toNat)
    case atStart => exact ⟨0, _, _, Nat.zero_le _, rfl, rfl, by first | rfl | simp, hT.out _⟩
    case round =>
      obtain ⟨k, r, n, hk, rfl, rfl, rfl, hr⟩ := hrel
      by_cases hlt : k < 3
      · have HS : Hid (∀ w1 w2 w3 w4 w5 : World, Fl .f64 (flR .quo .f64 r (flR .add .f64 4607182418800017408 (sqR (flR .add .f64 4607182418800017408 (flR .mul .f64 r r w1) w2) w3) w4) w5) (stepsAt (fop .quo .f64 (b % 9223372036854775808) (a % 9223372036854775808)) (k + 1))) := Lib.hid (fl_stepped hr)
        clear hr
        go_wp2
        go_roundw
        case rel => exact ⟨k + 1, _, _, by omega, by go_num, rfl, rfl, HS.out _ _ _ _ _⟩
        case measure => simp [intOf]; omega
      · obtain rfl : k = 3 := by omega
        have hu : Hid (∀ w1, Fl .f64 (flR .mul .f64 r r w1) (fop .mul .f64 (stepsAt (fop .quo .f64 (b % 9223372036854775808) (a % 9223372036854775808)) 3) (stepsAt (fop .quo .f64 (b % 9223372036854775808) (a % 9223372036854775808)) 3))) := Lib.hid (hr.flR hr)
        have hr' := Lib.hid hr
        clear hr
        go_wp2
        go_loopw [11, 12] (fun s i wr => ∃ (j q m : Nat), j ≤ 8 ∧ i = .int .i64 (15 - 2 * (j : Int)) ∧ s = .float .f64 q ∧ wr = w.drewN m ∧ Fl .f64 q (pAt (fop .mul .f64 (stepsAt (fop .quo .f64 (b % 9223372036854775808) (a % 9223372036854775808)) 3) (stepsAt (fop .quo .f64 (b % 9223372036854775808) (a % 9223372036854775808)) 3)) j)) (fun _ i _ => (intOf i + 1).toNat)
        case atStart => exact ⟨0, 0, _, Nat.zero_le _, rfl, rfl, by first | rfl | simp, ⟨by decide, by show cn .f64 0 = 0; decide⟩⟩
        case round =>
          obtain ⟨j, q, m, hj, rfl, rfl, rfl, hq⟩ := hrel
          by_cases hj8 : j < 8
          · have HS : Hid (∀ w0 w1 w2 w3 : World, Fl .f64 (flR .sub .f64 (flR .quo .f64 4607182418800017408 (kf j) w1) (flR .mul .f64 (flR .mul .f64 r r w0) q w2) w3) (pAt (fop .mul .f64 (stepsAt (fop .quo .f64 (b % 9223372036854775808) (a % 9223372036854775808)) 3) (stepsAt (fop .quo .f64 (b % 9223372036854775808) (a % 9223372036854775808)) 3)) (j + 1))) := Lib.hid (fun w0 => fl_next (hu.out w0) hj8 hq)
            clear hq
            have hof := kf_of j hj8
            go_wp2
            go_roundw
            case rel => exact ⟨j + 1, _, _, by omega, by go_num, rfl, rfl, HS.out _ _ _ _⟩
            case measure => simp [intOf]; omega
          · obtain rfl : j = 8 := by omega
            have hq' := Lib.hid hq
            clear hq
            by_cases hx : (FloatKind.f64.format.order b 0 == some Ordering.lt) = true
            all_goals by_cases hy : (FloatKind.f64.format.order a 0 == some Ordering.lt) = true
            all_goals
              have hang : Hid (angS a b = _) := Lib.hid (by unfold angS; simp only [hx, hy, if_true, if_false, Bool.false_eq_true]; rfl)
              go_wp2
              go_ret
              refine ⟨_, _, rfl, rfl, ?_⟩
              rw [hang.out, hres.out]
              first
                | exact ((fl_lit (by decide)).flR (fl_turned hr'.out hq'.out _ _ _) _)
                | exact Fl.neg ((fl_lit (by decide)).flR (fl_turned hr'.out hq'.out _ _ _) _)
                | exact (fl_lit (by decide)).flR ((fl_lit (by decide)).flR (fl_turned hr'.out hq'.out _ _ _) _) _
                | exact Fl.neg ((fl_lit (by decide)).flR ((fl_lit (by decide)).flR (fl_turned hr'.out hq'.out _ _ _) _) _)
  · replace ho : (FloatKind.f64.format.order (a % 9223372036854775808) (b % 9223372036854775808) == some Ordering.gt) = false := by simpa using ho
    have hres : Hid (angQ (a % 9223372036854775808) (b % 9223372036854775808) = _) := Lib.hid (by unfold angQ; simp only [ho, if_true, if_false, Bool.false_eq_true]; rfl)
    have hT : Hid (∀ w1, Fl .f64 (flR .quo .f64 (a % 9223372036854775808) (b % 9223372036854775808) w1) (fop .quo .f64 (a % 9223372036854775808) (b % 9223372036854775808))) := Lib.hid (ha'.flR hb')
    go_enter Try.func80, Try.ntmps80
    go_wp2
    go_loopw [8, 9] (fun s i wr => ∃ (k r n : Nat), k ≤ 3 ∧ i = .int .i64 k ∧ s = .float .f64 r ∧ wr = w.drewN n ∧ Fl .f64 r (stepsAt (fop .quo .f64 (a % 9223372036854775808) (b % 9223372036854775808)) k)) (fun _ i _ => 3 - (intOf i).toNat)
    case atStart => exact ⟨0, _, _, Nat.zero_le _, rfl, rfl, by first | rfl | simp, hT.out _⟩
    case round =>
      obtain ⟨k, r, n, hk, rfl, rfl, rfl, hr⟩ := hrel
      by_cases hlt : k < 3
      · have HS : Hid (∀ w1 w2 w3 w4 w5 : World, Fl .f64 (flR .quo .f64 r (flR .add .f64 4607182418800017408 (sqR (flR .add .f64 4607182418800017408 (flR .mul .f64 r r w1) w2) w3) w4) w5) (stepsAt (fop .quo .f64 (a % 9223372036854775808) (b % 9223372036854775808)) (k + 1))) := Lib.hid (fl_stepped hr)
        clear hr
        go_wp2
        go_roundw
        case rel => exact ⟨k + 1, _, _, by omega, by go_num, rfl, rfl, HS.out _ _ _ _ _⟩
        case measure => simp [intOf]; omega
      · obtain rfl : k = 3 := by omega
        have hu : Hid (∀ w1, Fl .f64 (flR .mul .f64 r r w1) (fop .mul .f64 (stepsAt (fop .quo .f64 (a % 9223372036854775808) (b % 9223372036854775808)) 3) (stepsAt (fop .quo .f64 (a % 9223372036854775808) (b % 9223372036854775808)) 3))) := Lib.hid (hr.flR hr)
        have hr' := Lib.hid hr
        clear hr
        go_wp2
        go_loopw [11, 12] (fun s i wr => ∃ (j q m : Nat), j ≤ 8 ∧ i = .int .i64 (15 - 2 * (j : Int)) ∧ s = .float .f64 q ∧ wr = w.drewN m ∧ Fl .f64 q (pAt (fop .mul .f64 (stepsAt (fop .quo .f64 (a % 9223372036854775808) (b % 9223372036854775808)) 3) (stepsAt (fop .quo .f64 (a % 9223372036854775808) (b % 9223372036854775808)) 3)) j)) (fun _ i _ => (intOf i + 1).toNat)
        case atStart => exact ⟨0, 0, _, Nat.zero_le _, rfl, rfl, by first | rfl | simp, ⟨by decide, by show cn .f64 0 = 0; decide⟩⟩
        case round =>
          obtain ⟨j, q, m, hj, rfl, rfl, rfl, hq⟩ := hrel
          by_cases hj8 : j < 8
          · have HS : Hid (∀ w0 w1 w2 w3 : World, Fl .f64 (flR .sub .f64 (flR .quo .f64 4607182418800017408 (kf j) w1) (flR .mul .f64 (flR .mul .f64 r r w0) q w2) w3) (pAt (fop .mul .f64 (stepsAt (fop .quo .f64 (a % 9223372036854775808) (b % 9223372036854775808)) 3) (stepsAt (fop .quo .f64 (a % 9223372036854775808) (b % 9223372036854775808)) 3)) (j + 1))) := Lib.hid (fun w0 => fl_next (hu.out w0) hj8 hq)
            clear hq
            have hof := kf_of j hj8
            go_wp2
            go_roundw
            case rel => exact ⟨j + 1, _, _, by omega, by go_num, rfl, rfl, HS.out _ _ _ _⟩
            case measure => simp [intOf]; omega
          · obtain rfl : j = 8 := by omega
            have hq' := Lib.hid hq
            clear hq
            by_cases hx : (FloatKind.f64.format.order b 0 == some Ordering.lt) = true
            all_goals by_cases hy : (FloatKind.f64.format.order a 0 == some Ordering.lt) = true
            all_goals
              have hang : Hid (angS a b = _) := Lib.hid (by unfold angS; simp only [hx, hy, if_true, if_false, Bool.false_eq_true]; rfl)
              go_wp2
              go_ret
              refine ⟨_, _, rfl, rfl, ?_⟩
              rw [hang.out, hres.out]
              first
                | exact (fl_turned hr'.out hq'.out _ _ _)
                | exact Fl.neg (fl_turned hr'.out hq'.out _ _ _)
                | exact (fl_lit (by decide)).flR (fl_turned hr'.out hq'.out _ _ _) _
                | exact Fl.neg ((fl_lit (by decide)).flR (fl_turned hr'.out hq'.out _ _ _) _)

theorem specW_any (a b : Nat) (w : World) (ha : a < width .f64) (hb : b < width .f64) (fa : isF .f64 a = true) (fb : isF .f64 b = true) (hz : ¬ (a % 9223372036854775808 = 0 ∧ b % 9223372036854775808 = 0)) :
    Calls Try.prog 80 #[.float .f64 a, .float .f64 b] w (RF .f64 (angS a b) w) := by
  have za := eq064 (isF_not fa)
  have zb := eq064 (isF_not fb)
  by_cases h : b % 9223372036854775808 = 0
  · exact specW2_any a b w ha hb fa fb (by rw [zb]; simpa using h) (by rw [za]; simp; intro h'; exact hz ⟨h', h⟩)
  · exact specW1_any a b w ha hb fa fb (by rw [zb]; simpa using h)
theorem specW_zero (a b : Nat) (w : World) (fa : isF .f64 a = true) (fb : isF .f64 b = true) (h1 : a % 9223372036854775808 = 0) (h2 : b % 9223372036854775808 = 0) :
    Calls Try.prog 80 #[.float .f64 a, .float .f64 b] w (RF .f64 0 w) := by
  have za : (FloatKind.f64.format.order a 0 == some Ordering.eq) = true := by rw [eq064 (isF_not fa)]; simpa using h1
  have zb : (FloatKind.f64.format.order b 0 == some Ordering.eq) = true := by rw [eq064 (isF_not fb)]; simpa using h2
  go_enter Try.func80, Try.ntmps80
  go_wp2
  go_ret
  exact ⟨_, _, rfl, rfl, fl_lit (by decide)⟩
theorem specW_nan (a b : Nat) (w : World) (h : isF .f64 a = false ∨ isF .f64 a = true ∧ isF .f64 b = false) :
    Calls Try.prog 80 #[.float .f64 a, .float .f64 b] w (RF .f64 (qn .f64) w) := by
  rcases h with h | ⟨h, h'⟩
  all_goals
    go_enter Try.func80, Try.ntmps80
    go_wp2
    go_ret
    exact ⟨_, _, rfl, rfl, ⟨by decide, by decide⟩⟩
end Go.Proofs.Ytgfmcehgecbbaab
namespace Go.FX
open Go Go.RowKit Ieee
theorem le_zero (q : Nat) : Le q 0 := fun _ => by rw [rng64]; simp
theorem le_lit {q x : Nat} (h : rng FloatKind.f64.format x ≤ q * 4503599627370496) : Le q x := fun _ => h
theorem kf_quo : ∀ k < 8, rng FloatKind.f64.format (fop .quo .f64 4607182418800017408 (kf k)) ≤ 1024 * 4503599627370496 := by decide +kernel
theorem pAt_le {u : Nat} (hu : Le 1033 u) : ∀ k, k ≤ 8 → Le (1012 + 14 * k) (pAt u k)
  | 0, _ => le_zero _
  | k + 1, h => by
    have ih := pAt_le hu k (by omega)
    have h1 : Le (1024 + 14 * k) (fop .mul .f64 u (pAt u k)) := FX.mul_le hu ih (by omega) (by omega) (by omega) (by omega) (by omega) (by omega) (by omega)
    have h2 : Le 1024 (fop .quo .f64 4607182418800017408 (kf k)) := le_lit (kf_quo k (by omega))
    exact FX.sub_le h2 h1 (by omega) (by omega) (by omega) (by omega) (by omega)
theorem turn_le {t : Nat} (h : Le 1027 t) : Le 1134 (turn t) := by
  have hu : Le 1033 (fop .mul .f64 t t) := FX.mul_le h h (by omega) (by omega) (by omega) (by omega) (by omega) (by omega) (by omega)
  have hp := pAt_le hu 8 (by omega)
  have h1 : Le 1130 (fop .mul .f64 t (pAt (fop .mul .f64 t t) 8)) := FX.mul_le h hp (by omega) (by omega) (by omega) (by omega) (by omega) (by omega) (by omega)
  have h2 : Le 1135 (fop .mul .f64 4620693217682128896 (fop .mul .f64 t (pAt (fop .mul .f64 t t) 8))) := FX.mul_le (a := 1026) (le_lit (by decide)) h1 (by omega) (by omega) (by omega) (by omega) (by omega) (by omega) (by omega)
  exact FX.div_le (g := 1025) h2 (fun _ => by decide) (by omega) (by omega) (by omega) (by omega) (by omega) (by omega)
theorem steps3_le {t : Nat} (h : Le 1024 t) : Le 1027 (stepsAt t 3) :=
  step_le (q := 1026) (step_le (q := 1025) (step_le (q := 1024) h (by omega) (by omega)) (by omega) (by omega)) (by omega) (by omega)
theorem neg_le {q x : Nat} (h : Le q x) : Le q (neg .f64 x) := by
  unfold neg
  by_cases hn : isN .f64 x = true
  · rw [if_pos hn]; intro hf; rw [isF_qn] at hf; cases hf
  · rw [if_neg hn]
    intro hf
    have e : isF .f64 (opp .f64 x) = isF .f64 x := by unfold isF; rw [(opp_parts .f64 x).2]
    rw [e] at hf; rw [(opp_parts .f64 x).2]; exact h hf
theorem angQ_le {a b : Nat} (fa : isF .f64 a = true) (fb : isF .f64 b = true) (sa : sgn FloatKind.f64.format a = false) (sb : sgn FloatKind.f64.format b = false) : Le 1136 (angQ a b) := by
  have ka : key .f64 a = rng FloatKind.f64.format a := by unfold key; rw [sa]; rfl
  have kb : key .f64 b = rng FloatKind.f64.format b := by unfold key; rw [sb]; rfl
  have hg := gt_key (isF_not fa) (isF_not fb)
  rw [ka, kb] at hg
  unfold angQ
  split
  · next h =>
    rw [hg] at h
    have : rng FloatKind.f64.format b ≤ rng FloatKind.f64.format a := by simp at h; omega
    exact FX.sub_le (a := 1022) (le_lit (by decide)) (turn_le (steps3_le (div_one this fa (by omega) (by omega)))) (by omega) (by omega) (by omega) (by omega) (by omega)
  · next h =>
    rw [hg] at h
    have : rng FloatKind.f64.format a ≤ rng FloatKind.f64.format b := by simp at h; omega
    exact (turn_le (steps3_le (div_one this fb (by omega) (by omega)))).mono (by omega)
theorem angS_le {a b : Nat} (fa : isF .f64 a = true) (fb : isF .f64 b = true) : Le 1138 (angS a b) := by
  have h : Le 1136 (angQ (a % 9223372036854775808) (b % 9223372036854775808)) :=
    angQ_le (by unfold isF at fa ⊢; rw [(abs_parts a).2]; exact fa) (by unfold isF at fb ⊢; rw [(abs_parts b).2]; exact fb) (abs_parts a).1 (abs_parts b).1
  have h2 : Le 1138 (if (FloatKind.f64.format.order b 0 == some Ordering.lt) = true then fop .sub .f64 4602678819172646912 (angQ (a % 9223372036854775808) (b % 9223372036854775808)) else angQ (a % 9223372036854775808) (b % 9223372036854775808)) := by
    split
    · exact FX.sub_le (a := 1023) (le_lit (by decide)) h (by omega) (by omega) (by omega) (by omega) (by omega)
    · exact h.mono (by omega)
  unfold angS
  simp only
  split
  · exact neg_le h2
  · exact h2
theorem wide_fin {x : Nat} (h : isF .f32 x = true) : isF .f64 (wide x) = true := by
  obtain ⟨_, _, _, hw⟩ := wide_spec (isF_not h)
  rcases hw with ⟨h1, _⟩ | ⟨_, h1, _⟩
  · unfold isF at h; simp at h; omega
  · unfold isF; simpa using h1
theorem wide_not_fin {x : Nat} (h : isF .f32 x = false) : isF .f64 (wide x) = false := by
  by_cases hn : isN .f32 x = true
  · rw [wide_nan hn]; decide
  · obtain ⟨_, _, _, hw⟩ := wide_spec (x := x) (by simpa using hn)
    rcases hw with ⟨_, h1⟩ | ⟨h1, _, _⟩
    · unfold isF; rw [h1]; simp
    · unfold isF at h; simp at h; omega
theorem wide_zero : wide 0 = 0 := wide_of_word (by decide) (by decide)
theorem order_wide0 (x : Nat) : FloatKind.f64.format.order (wide x) 0 = FloatKind.f32.format.order x 0 := by
  have := order_wide x 0; rwa [wide_zero] at this
theorem wide_zero_iff {x : Nat} (h : isF .f32 x = true) : wide x % 9223372036854775808 = 0 ↔ x % 2147483648 = 0 := by
  have h1 := eq064 (x := wide x) (by rw [isN_wide]; exact isF_not h)
  have h2 := eq0 (isF_not h)
  rw [order_wide0] at h1
  rw [h1] at h2
  simpa using h2
theorem cvR_fin {x : Nat} (h : isF .f32 x = true) (w : World) : cvR .f32 x .f64 w = wide x := by
  have h1 : isN .f64 (cvR .f32 x .f64 w) = false := by rw [← isN_cn, cn_wideR, isN_wide]; exact isF_not h
  have := cn_wideR x w
  rwa [cn_of_not h1] at this
end Go.FX
namespace Go.Proofs.Ytgfmcehgecbbaab
open Go.FX Go.RowKit
end Go.Proofs.Ytgfmcehgecbbaab
