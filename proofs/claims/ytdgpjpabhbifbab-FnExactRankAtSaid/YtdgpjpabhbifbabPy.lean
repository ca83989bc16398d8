import Derived.Test.YtdgpjpabhbifbabPq
set_option linter.unusedVariables false
set_option linter.unusedSimpArgs false
namespace Go.FX
open Go Go.RowKit
/-! Ranks: a digit for each cell of the window but its middle. -/
def rkStep (B : Int → Int → Bool) (x y : Int) (r : Nat) (acc i : Nat) : Nat :=
  if i % (2 * r + 1) = r ∧ i / (2 * r + 1) = r then acc else acc * 2 + (if B (x - r + ((i % (2 * r + 1) : Nat) : Int)) (y - r + ((i / (2 * r + 1) : Nat) : Int)) then 1 else 0)
def rk (B : Int → Int → Bool) (x y : Int) (r k : Nat) : Nat := (List.range k).foldl (rkStep B x y r) 0
theorem rk_zero (B : Int → Int → Bool) (x y : Int) (r : Nat) : rk B x y r 0 = 0 := rfl
theorem rk_succ (B : Int → Int → Bool) (x y : Int) (r k : Nat) : rk B x y r (k + 1) = rkStep B x y r (rk B x y r k) k := by
  unfold rk; rw [List.range_succ, List.foldl_append]; rfl
theorem rk_lt (B : Int → Int → Bool) (x y : Int) (r : Nat) : ∀ k, rk B x y r k < 2 ^ k := by
  intro k
  induction k with
  | zero => simp [rk]
  | succ k ih =>
    rw [rk_succ, Nat.pow_succ]
    unfold rkStep
    split
    · omega
    · split <;> omega
theorem rk_bound (B : Int → Int → Bool) (x y : Int) (r k : Nat) (h : k ≤ 25) : rk B x y r k < 33554432 :=
  Nat.lt_of_lt_of_le (rk_lt B x y r k) (Nat.le_trans (Nat.pow_le_pow_right (by decide) h) (by decide))
theorem rk_at (B : Int → Int → Bool) (x y : Int) (r : Nat) {i j : Nat} (hi : i < 2 * r + 1) :
    rk B x y r (j * (2 * r + 1) + (i + 1)) = if i = r ∧ j = r then rk B x y r (j * (2 * r + 1) + i) else rk B x y r (j * (2 * r + 1) + i) * 2 + (if B (x - r + (i : Int)) (y - r + (j : Int)) then 1 else 0) := by
  rw [← Nat.add_assoc, rk_succ]
  unfold rkStep
  rw [place_mod j hi, place_div j hi]
def RIb (i : Int) (w : World) (e : Ending) (w' : World) : Prop := e = .returned (.int .i64 i) ∧ Below w.heap.size w w'
def RIBb (i : Int) (ok : Bool) (w : World) (e : Ending) (w' : World) : Prop := e = .returned (.tuple #[.int .i64 i, .bool ok]) ∧ Below w.heap.size w w'
theorem int_eq {a b : Int} (h : a = b) : Value.int .i64 a = .int .i64 b := by rw [h]
/-- Is the grey about a place less than that of the cell? -/
def lessC (W H : Nat) (cs : List Nat) (x y u v : Int) : Bool := FloatKind.f32.format.order (atC W H cs u v) (atC W H cs x y) == some Ordering.lt
end Go.FX
namespace Go.Proofs.Ytdgpjpabhbifbab
open Go.FX Go.RowKit Go.WideShapes Go.ChangeShapes

set_option maxRecDepth 100000 in
set_option maxHeartbeats 4000000 in
theorem rank_any (W H : Nat) (a : Option Addr) (n c : Nat) (cs : List Nat) (w : World) (hv : FC w (.slice a n c) cs) (b1 : 1 ≤ W) (b2 : W ≤ 24) (b3 : 1 ≤ H) (b4 : H ≤ 24) (hl : cs.length = H * W) (x y : Int) (r : Nat) (x1 : 0 ≤ x) (x2 : x ≤ 24) (y1 : 0 ≤ y) (y2 : y ≤ 24) (r1 : 1 ≤ r) (r2 : r ≤ 2) :
    Calls Try.prog 80 #[.agg #[.int .i64 W, .int .i64 H, .slice a n c], .int .i64 x, .int .i64 y, .int .i64 r] w (RIb (rk (lessC W H cs x y) x y r ((2 * r + 1) * (2 * r + 1))) w) := by
  have hab := fun u v (h1 : -1000 ≤ u) (h2 : u ≤ 1000) (h3 : -1000 ≤ v) (h4 : v ≤ 1000) w2 (h : Below w.heap.size w w2) => about_any W H (.slice a n c) cs u v w2 (hv.below h) b1 b2 b3 b4 hl h1 h2 h3 h4
  clear hl hv
  go_enter Try.func80, Try.ntmps80
  go_wp2_with fail
  refine (hab x y (by omega) (by omega) (by omega) (by omega) _ (below1 _ _)).mono ?_
  rintro e w1 ⟨g, rfl, hb1, hg⟩
  have hP := Lib.hid ((Pv.new _ _ _ _ _).below hb1)
  have q1 : Below w.heap.size w w1 := (below1 w _).trans (hb1.mono (by simp))
  clear hb1
  go_wp2_with fail
  go_loopw [10, 11] (fun q v wr => ∃ (j R : Nat), j ≤ 2 * r + 1 ∧ v = .int .i64 (y - r + j) ∧ q = .int .i64 R ∧ Hid (R = rk (lessC W H cs x y) x y r (j * (2 * r + 1) + 0)) ∧ Below w1.heap.size w1 wr) (fun _ v _ => (2 * r + 1) - (intOf v - (y - r)).toNat)
  case atStart => exact ⟨0, 0, by omega, int_eq (by omega), rfl, by simp [Hid, rk], Below.refl _ _⟩
  case round =>
    obtain ⟨j, R, hj, rfl, rfl, hR, hbl⟩ := hrel
    obtain ⟨wo, rfl⟩ : ∃ wo : World, wo = wr := ⟨_, rfl⟩
    by_cases hlj : j < 2 * r + 1
    · have d1 : decide (y - (r : Int) + (j : Int) ≤ y + (r : Int)) = true := by simp; omega
      go_wp2_with fail
      clear d1
      go_loopw [10, 12] (fun q u wr => ∃ (i R : Nat), i ≤ 2 * r + 1 ∧ u = .int .i64 (x - r + i) ∧ q = .int .i64 R ∧ Hid (R = rk (lessC W H cs x y) x y r (j * (2 * r + 1) + i)) ∧ Below w1.heap.size w1 wr) (fun _ u _ => (2 * r + 1) - (intOf u - (x - r)).toNat)
      case atStart => exact ⟨0, R, by omega, int_eq (by omega), rfl, hR, hbl⟩
      case round =>
        clear hR hbl
        obtain ⟨i, R, hi, rfl, rfl, hR, hbl⟩ := hrel
        by_cases hli : i < 2 * r + 1
        · have hk : j * (2 * r + 1) + i ≤ 24 := by
            have : j * (2 * r + 1) ≤ 4 * 5 := Nat.mul_le_mul (by omega) (by omega)
            omega
          have hRb : R < 33554432 := by rw [hR.out]; exact rk_bound _ _ _ _ _ (by omega)
          have hst := rk_at (lessC W H cs x y) x y r (j := j) hli
          rw [← hR.out] at hst
          by_cases hc : i = r ∧ j = r
          · rw [if_pos hc] at hst
            have hs := Lib.hid hst
            have k1 : i ≤ r := by omega
            have k2 : r ≤ i := by omega
            have k3 : j ≤ r := by omega
            have k4 : r ≤ j := by omega
            clear hc hst
            go_wp2_with fail
            go_roundw
            case rel => exact ⟨i + 1, R, by omega, int_eq (by omega), rfl, Lib.hid hs.out.symm, hbl⟩
            case measure => simp [intOf]; omega
          · rw [if_neg hc] at hst
            have hs := Lib.hid hst
            have hab2 := Lib.hid (hab (x - r + i) (y - r + j) (by omega) (by omega) (by omega) (by omega))
            have hcs : (i < r) ∨ (r < i) ∨ (i ≤ r ∧ r ≤ i ∧ j < r) ∨ (i ≤ r ∧ r ≤ i ∧ r < j) := by omega
            obtain ⟨_, p0, p1, p2⟩ := hP.out.below hbl
            clear hst hc
            have hcs2 : (((x - (r : Int) + (i : Int)) == x) = false ∧ decide (x - (r : Int) + (i : Int) = x) = false) ∨ (((x - (r : Int) + (i : Int)) == x) = true ∧ decide (x - (r : Int) + (i : Int) = x) = true ∧ ((y - (r : Int) + (j : Int)) == y) = false ∧ decide (y - (r : Int) + (j : Int) = y) = false) := by
              rcases hcs with h1 | h1 | ⟨h1, h2, h3⟩ | ⟨h1, h2, h3⟩
              · exact .inl ⟨by simp; omega, by simp; omega⟩
              · exact .inl ⟨by simp; omega, by simp; omega⟩
              · exact .inr ⟨by simp; omega, by simp; omega, by simp; omega, by simp; omega⟩
              · exact .inr ⟨by simp; omega, by simp; omega, by simp; omega, by simp; omega⟩
            clear hcs
            rcases hcs2 with ⟨h1, h2⟩ | ⟨h1, h2, h3, h4⟩
            all_goals
              go_wp2_with fail
              refine (hab2.out _ (q1.trans (hbl.mono q1.size))).mono ?_
              rintro e w2 ⟨g2, rfl, hb2, hg2⟩
              have ht : lessC W H cs x y (x - r + i) (y - r + j) = (FloatKind.f32.format.order g2 g == some Ordering.lt) := by unfold lessC; rw [hg2.order hg]
              have hs2 := hs.out
              rw [ht] at hs2
              have hbl2 := hbl.trans (hb2.mono hbl.size)
              clear ht hab2 hs
              cases t : (FloatKind.f32.format.order g2 g == some Ordering.lt)
              all_goals
                rw [t] at hs2
                simp only [if_true, Bool.false_eq_true, if_false, Nat.add_zero] at hs2
                have hs3 := Lib.hid hs2
                clear hs2
                go_wp2_with fail
                go_roundw
                case rel => exact ⟨i + 1, _, by omega, int_eq (by omega), int_eq (by first | omega | (push_cast; rfl)), Lib.hid hs3.out.symm, hbl2⟩
                case measure => simp [intOf]; omega
        · obtain rfl : i = 2 * r + 1 := by omega
          go_wp2_with fail
          go_roundw
          case rel => exact ⟨j + 1, R, by omega, int_eq (by omega), rfl, Lib.hid (by rw [hR.out, show j * (2 * r + 1) + (2 * r + 1) = (j + 1) * (2 * r + 1) + 0 from (Nat.succ_mul j (2 * r + 1)).symm]), hbl⟩
          case measure => simp [intOf]; omega
    · obtain rfl : j = 2 * r + 1 := by omega
      go_wp2_with fail
      go_ret
      refine ⟨?_, q1.trans (hbl.mono q1.size)⟩
      rw [hR.out]; rfl
set_option maxRecDepth 100000 in
set_option maxHeartbeats 4000000 in
theorem specRank_any (W H : Nat) (a : Option Addr) (n c bp : Nat) (cs : List Nat) (w : World) (hp : Pv w bp W H (.slice a n c)) (hv : FC w (.slice a n c) cs) (b1 : 1 ≤ W) (b2 : W ≤ 24) (b3 : 1 ≤ H) (b4 : H ≤ 24) (hl : cs.length = H * W) (x y : Int) (r : Nat) (x1 : 0 ≤ x) (x2 : x ≤ 24) (y1 : 0 ≤ y) (y2 : y ≤ 24) (r1 : 1 ≤ r) (r2 : r ≤ 2) :
    Calls Try.prog 77 #[.pointer (some ⟨bp, 0, none⟩), .int .i64 x, .int .i64 y, .int .i64 r] w (RI .i64 (rk (lessC W H cs x y) x y r ((2 * r + 1) * (2 * r + 1))) w) := by
  have hab := fun u v k => specAt_any W H a n c bp cs u v (w.drewN k) (hp.drewN k) (hv.drewN k) b1 b2 b3 b4 hl
  clear hl hv hp
  go_enter Try.func77, Try.ntmps77
  go_wp2_with fail
  go_loopw [9, 10] (fun q v wr => ∃ (j R k : Nat), j ≤ 2 * r + 1 ∧ v = .int .i64 (y - r + j) ∧ q = .int .i64 R ∧ Hid (R = rk (lessC W H cs x y) x y r (j * (2 * r + 1) + 0)) ∧ wr = w.drewN k) (fun _ v _ => (2 * r + 1) - (intOf v - (y - r)).toNat)
  case atStart => exact ⟨0, 0, 0, by omega, int_eq (by omega), rfl, by simp [Hid, rk], rfl⟩
  case round =>
    obtain ⟨j, R, k0, hj, rfl, rfl, hR, rfl⟩ := hrel
    by_cases hlj : j < 2 * r + 1
    · have d1 : decide (y - (r : Int) + (j : Int) ≤ y + (r : Int)) = true := by simp; omega
      go_wp2_with fail
      clear d1
      go_loopw [9, 11] (fun q u wr => ∃ (i R k : Nat), i ≤ 2 * r + 1 ∧ u = .int .i64 (x - r + i) ∧ q = .int .i64 R ∧ Hid (R = rk (lessC W H cs x y) x y r (j * (2 * r + 1) + i)) ∧ wr = w.drewN k) (fun _ u _ => (2 * r + 1) - (intOf u - (x - r)).toNat)
      case atStart => exact ⟨0, R, _, by omega, int_eq (by omega), rfl, hR, rfl⟩
      case round =>
        clear hR
        obtain ⟨i, R, k1, hi, rfl, rfl, hR, rfl⟩ := hrel
        by_cases hli : i < 2 * r + 1
        · have hk : j * (2 * r + 1) + i ≤ 24 := by
            have : j * (2 * r + 1) ≤ 4 * 5 := Nat.mul_le_mul (by omega) (by omega)
            omega
          have hRb : R < 33554432 := by rw [hR.out]; exact rk_bound _ _ _ _ _ (by omega)
          have hst := rk_at (lessC W H cs x y) x y r (j := j) hli
          rw [← hR.out] at hst
          by_cases hc : i = r ∧ j = r
          · rw [if_pos hc] at hst
            have hs := Lib.hid hst
            have k1 : i ≤ r := by omega
            have k2 : r ≤ i := by omega
            have k3 : j ≤ r := by omega
            have k4 : r ≤ j := by omega
            clear hc hst
            go_wp2_with fail
            go_roundw
            case rel => exact ⟨i + 1, R, _, by omega, int_eq (by omega), rfl, Lib.hid hs.out.symm, rfl⟩
            case measure => simp [intOf]; omega
          · rw [if_neg hc] at hst
            have hs := Lib.hid hst
            have hab2 := Lib.hid (hab (x - r + i) (y - r + j))
            have hab3 := Lib.hid (hab x y)
            have hcs : (i < r) ∨ (r < i) ∨ (i ≤ r ∧ r ≤ i ∧ j < r) ∨ (i ≤ r ∧ r ≤ i ∧ r < j) := by omega
            clear hst hc
            have hcs2 : (((x - (r : Int) + (i : Int)) == x) = false ∧ decide (x - (r : Int) + (i : Int) = x) = false) ∨ (((x - (r : Int) + (i : Int)) == x) = true ∧ decide (x - (r : Int) + (i : Int) = x) = true ∧ ((y - (r : Int) + (j : Int)) == y) = false ∧ decide (y - (r : Int) + (j : Int) = y) = false) := by
              rcases hcs with h1 | h1 | ⟨h1, h2, h3⟩ | ⟨h1, h2, h3⟩
              · exact .inl ⟨by simp; omega, by simp; omega⟩
              · exact .inl ⟨by simp; omega, by simp; omega⟩
              · exact .inr ⟨by simp; omega, by simp; omega, by simp; omega, by simp; omega⟩
              · exact .inr ⟨by simp; omega, by simp; omega, by simp; omega, by simp; omega⟩
            clear hcs
            rcases hcs2 with ⟨h1, h2⟩ | ⟨h1, h2, h3, h4⟩
            all_goals
              go_wp2_with fail
              refine (hab2.out _).mono ?_
              rintro e w2 ⟨g2, k2, rfl, rfl, hg2⟩
              go_wp2_with fail
              refine (hab3.out _).mono ?_
              rintro e w3 ⟨g, k3, rfl, rfl, hg⟩
              have ht : lessC W H cs x y (x - r + i) (y - r + j) = (FloatKind.f32.format.order g2 g == some Ordering.lt) := by unfold lessC; rw [hg2.order hg]
              have hs2 := hs.out
              rw [ht] at hs2
              clear ht hab2 hab3 hs
              cases t : (FloatKind.f32.format.order g2 g == some Ordering.lt)
              all_goals
                rw [t] at hs2
                simp only [if_true, Bool.false_eq_true, if_false, Nat.add_zero] at hs2
                have hs3 := Lib.hid hs2
                clear hs2
                go_wp2_with fail
                go_roundw
                case rel => exact ⟨i + 1, _, _, by omega, int_eq (by omega), int_eq (by first | omega | (push_cast; rfl)), Lib.hid hs3.out.symm, rfl⟩
                case measure => simp [intOf]; omega
        · obtain rfl : i = 2 * r + 1 := by omega
          go_wp2_with fail
          go_roundw
          case rel => exact ⟨j + 1, R, _, by omega, int_eq (by omega), rfl, Lib.hid (by rw [hR.out, show j * (2 * r + 1) + (2 * r + 1) = (j + 1) * (2 * r + 1) + 0 from (Nat.succ_mul j (2 * r + 1)).symm]), rfl⟩
          case measure => simp [intOf]; omega
    · obtain rfl : j = 2 * r + 1 := by omega
      go_wp2_with fail
      go_ret
      refine ⟨_, ?_, rfl⟩
      rw [hR.out]; rfl
theorem isReach_any (n : Int) (w : World) : Calls Try.prog 79 #[.int .i64 n] w fun e w' => e = .returned (.bool (decide (1 ≤ n ∧ n ≤ 2))) ∧ w = w' := by
  by_cases h1 : 1 ≤ n
  · by_cases h2 : n ≤ 2
    all_goals
      go_enter Try.func79, Try.ntmps79
      go_wp2
      go_ret
      exact ⟨by simp [h1, h2], rfl⟩
  · go_enter Try.func79, Try.ntmps79
    go_wp2
    go_ret
    exact ⟨by simp; intros; omega, rfl⟩
theorem specIn2_any (n lo hi : Int) (w : World) : Calls Try.prog 53 #[.int .i64 n, .int .i64 lo, .int .i64 hi] w fun e w' => e = .returned (.bool (decide (lo ≤ n ∧ n ≤ hi))) ∧ w = w' := by
  by_cases h1 : lo ≤ n
  · by_cases h2 : n ≤ hi
    all_goals
      go_enter Try.func53, Try.ntmps53
      go_wp2
      go_ret
      exact ⟨by simp [h1, h2], rfl⟩
  · go_enter Try.func53, Try.ntmps53
    go_wp2
    go_ret
    exact ⟨by simp; intros; omega, rfl⟩
theorem implRankAt_no1 (W H : Int) (a : Option Addr) (n c : Nat) (w : World) (hnc : n ≤ c) (hcm : c ≤ maxLen) (x y q : Int) (hval : validB W H n = false) :
    Calls Try.prog 36 #[.agg #[.int .i64 W, .int .i64 H, .slice a n c], .int .i64 x, .int .i64 y, .int .i64 q] w (RIBb 0 false w) := by
  have h1 := fun w1 => validPic_any W H (.slice a n c) n w1 ⟨a, c, rfl, hnc, hcm⟩
  have hv1 := Lib.hid hval
  clear hval
  go_enter Try.func36, Try.ntmps36
  go_wp2_with fail
  refine (h1 _).mono ?_
  rintro e w1 ⟨rfl, hb1⟩
  rw [hv1.out]
  go_wp2_with fail
  go_ret2
  exact ⟨rfl, by ((repeat' (first | exact Below.refl _ _ | assumption | (refine bel_set ?_ ?_ _) | (refine bel_al ?_ ?_ _) | (refine below_drewN ?_ _) | (refine Below.drew ?_) | (refine Below.trans ?_ (Below.mono hb1 ?_)))) <;> (first | omega | (simp; done) | (simp; omega)))⟩
theorem implRankAt_no2 (W H : Nat) (a : Option Addr) (n c : Nat) (cs : List Nat) (w : World) (hv : FC w (.slice a n c) cs) (b1 : 1 ≤ W) (b2 : W ≤ 24) (b3 : 1 ≤ H) (b4 : H ≤ 24) (b5 : H * W ≤ 256) (hl : cs.length = H * W) (x y q : Int) (hc : cellB W H x y = false) :
    Calls Try.prog 36 #[.agg #[.int .i64 W, .int .i64 H, .slice a n c], .int .i64 x, .int .i64 y, .int .i64 q] w (RIBb 0 false w) := by
  obtain ⟨rfl, hnc, hcm⟩ := hv.sized
  have hval := validB_mk b1 b2 b3 b4 b5 hl
  have h1 := fun w1 => validPic_any W H (.slice a cs.length c) cs.length w1 ⟨a, c, rfl, hnc, hcm⟩
  have hc0 := Lib.hid hc
  clear hc hl
  have hv1 := Lib.hid hval
  clear hval
  go_enter Try.func36, Try.ntmps36
  go_wp2_with fail
  refine (h1 _).mono ?_
  rintro e w1 ⟨rfl, hb1⟩
  rw [hv1.out]
  have hP := (Pv.new _ _ _ _ _).below hb1
  obtain ⟨l1, q0, q1, q2⟩ := id hP
  have s1 := hb1.size
  simp only [World.size_alloc] at s1
  go_wp2_with fail
  refine (hasCell_any _ _ _ _ _ _ _ _).mono ?_
  rintro e w2 ⟨rfl, hb2⟩
  rw [hc0.out]
  go_wp2_with fail
  go_ret2
  exact ⟨rfl, by ((repeat' (first | exact Below.refl _ _ | assumption | (refine bel_set ?_ ?_ _) | (refine bel_al ?_ ?_ _) | (refine below_drewN ?_ _) | (refine Below.drew ?_) | (refine Below.trans ?_ (Below.mono hb2 ?_)) | (refine Below.trans ?_ (Below.mono hb1 ?_)))) <;> (first | omega | (simp; done) | (simp; omega)))⟩
theorem implRankAt_no3 (W H : Nat) (a : Option Addr) (n c : Nat) (cs : List Nat) (w : World) (hv : FC w (.slice a n c) cs) (b1 : 1 ≤ W) (b2 : W ≤ 24) (b3 : 1 ≤ H) (b4 : H ≤ 24) (b5 : H * W ≤ 256) (hl : cs.length = H * W) (x y q : Int) (hc : cellB W H x y = true) (hr : ¬ (1 ≤ q ∧ q ≤ 2)) :
    Calls Try.prog 36 #[.agg #[.int .i64 W, .int .i64 H, .slice a n c], .int .i64 x, .int .i64 y, .int .i64 q] w (RIBb 0 false w) := by
  obtain ⟨rfl, hnc, hcm⟩ := hv.sized
  have hval := validB_mk b1 b2 b3 b4 b5 hl
  have h1 := fun w1 => validPic_any W H (.slice a cs.length c) cs.length w1 ⟨a, c, rfl, hnc, hcm⟩
  have hr0 : decide (1 ≤ q ∧ q ≤ 2) = false := decide_eq_false hr
  have hc0 := Lib.hid hc
  have hr1 := Lib.hid hr0
  clear hc hl hr0 hr
  have hv1 := Lib.hid hval
  clear hval
  go_enter Try.func36, Try.ntmps36
  go_wp2_with fail
  refine (h1 _).mono ?_
  rintro e w1 ⟨rfl, hb1⟩
  rw [hv1.out]
  have hP := (Pv.new _ _ _ _ _).below hb1
  obtain ⟨l1, q0, q1, q2⟩ := id hP
  have s1 := hb1.size
  simp only [World.size_alloc] at s1
  go_wp2_with fail
  refine (hasCell_any _ _ _ _ _ _ _ _).mono ?_
  rintro e w2 ⟨rfl, hb2⟩
  rw [hc0.out]
  obtain ⟨l2, q3, q4, q5⟩ := hP.below hb2
  have s2 := hb2.size
  go_wp2_with fail
  refine (isReach_any _ _).mono ?_
  rintro e w3 ⟨rfl, rfl⟩
  rw [hr1.out]
  go_wp2_with fail
  go_ret2
  exact ⟨rfl, by ((repeat' (first | exact Below.refl _ _ | assumption | (refine bel_set ?_ ?_ _) | (refine bel_al ?_ ?_ _) | (refine below_drewN ?_ _) | (refine Below.drew ?_) | (refine Below.trans ?_ (Below.mono hb2 ?_)) | (refine Below.trans ?_ (Below.mono hb1 ?_)))) <;> (first | omega | (simp; done) | (simp; omega)))⟩
theorem implRankAt_any (W H : Nat) (a : Option Addr) (n c : Nat) (cs : List Nat) (w : World) (hv : FC w (.slice a n c) cs) (b1 : 1 ≤ W) (b2 : W ≤ 24) (b3 : 1 ≤ H) (b4 : H ≤ 24) (b5 : H * W ≤ 256) (hl : cs.length = H * W) (x y q : Int) (hc : cellB W H x y = true) (r : Nat) (hq : q = r) (r1 : 1 ≤ r) (r2 : r ≤ 2) :
    Calls Try.prog 36 #[.agg #[.int .i64 W, .int .i64 H, .slice a n c], .int .i64 x, .int .i64 y, .int .i64 q] w (RIBb (rk (lessC W H cs x y) x y r ((2 * r + 1) * (2 * r + 1))) true w) := by
  obtain ⟨rfl, hnc, hcm⟩ := hv.sized
  have hval := validB_mk b1 b2 b3 b4 b5 hl
  have h1 := fun w1 => validPic_any W H (.slice a cs.length c) cs.length w1 ⟨a, c, rfl, hnc, hcm⟩
  subst hq
  have hxy : 0 ≤ x ∧ x < W ∧ 0 ≤ y ∧ y < H := by simpa [cellB] using hc
  have h4 := fun w1 (hb : Below w.heap.size w w1) => rank_any W H a cs.length c cs w1 (hv.below hb) b1 b2 b3 b4 hl x y r hxy.1 (by omega) hxy.2.2.1 (by omega) r1 r2
  have hr0 : decide (1 ≤ (r : Int) ∧ (r : Int) ≤ 2) = true := by simp; omega
  have hc0 := Lib.hid hc
  have hr1 := Lib.hid hr0
  clear hc hl hr0
  have hv1 := Lib.hid hval
  clear hval
  go_enter Try.func36, Try.ntmps36
  go_wp2_with fail
  refine (h1 _).mono ?_
  rintro e w1 ⟨rfl, hb1⟩
  rw [hv1.out]
  have hP := (Pv.new _ _ _ _ _).below hb1
  obtain ⟨l1, q0, q1, q2⟩ := id hP
  have s1 := hb1.size
  simp only [World.size_alloc] at s1
  go_wp2_with fail
  refine (hasCell_any _ _ _ _ _ _ _ _).mono ?_
  rintro e w2 ⟨rfl, hb2⟩
  rw [hc0.out]
  obtain ⟨l2, q3, q4, q5⟩ := hP.below hb2
  have s2 := hb2.size
  go_wp2_with fail
  refine (isReach_any _ _).mono ?_
  rintro e w3 ⟨rfl, rfl⟩
  rw [hr1.out]
  go_wp2_with fail
  refine (h4 _ (by ((repeat' (first | exact Below.refl _ _ | assumption | (refine bel_set ?_ ?_ _) | (refine bel_al ?_ ?_ _) | (refine below_drewN ?_ _) | (refine Below.drew ?_) | (refine Below.trans ?_ (Below.mono hb2 ?_)) | (refine Below.trans ?_ (Below.mono hb1 ?_)))) <;> (first | omega | (simp; done) | (simp; omega))))).mono ?_
  rintro e w4 ⟨rfl, hb4⟩
  go_wp2_with fail
  go_ret2
  exact ⟨rfl, by ((repeat' (first | exact Below.refl _ _ | assumption | (refine bel_set ?_ ?_ _) | (refine bel_al ?_ ?_ _) | (refine below_drewN ?_ _) | (refine Below.drew ?_) | (refine Below.trans ?_ (Below.mono hb4 ?_)) | (refine Below.trans ?_ (Below.mono hb2 ?_)) | (refine Below.trans ?_ (Below.mono hb1 ?_)))) <;> (first | omega | (simp; done) | (simp; omega)))⟩
theorem specRankAt_no1 (W H : Int) (a : Option Addr) (n c : Nat) (w : World) (hnc : n ≤ c) (hcm : c ≤ maxLen) (x y q : Int) (hval : validB W H n = false) :
    Calls Try.prog 35 #[.agg #[.int .i64 W, .int .i64 H, .slice a n c], .int .i64 x, .int .i64 y, .int .i64 q] w (RIBb 0 false w) := by
  have h1 := fun w1 hp => specIs_any W H a n c w.heap.size w1 hp (by unfold maxLen at hcm; omega)
  have hv1 := Lib.hid hval
  clear hval
  go_enter Try.func35, Try.ntmps35
  go_wp2_with fail
  refine (h1 _ (Pv.new _ _ _ _ _)).mono ?_
  rintro e w1 ⟨k, rfl, rfl⟩
  rw [hv1.out]
  go_wp2_with fail
  go_ret2
  exact ⟨rfl, by ((repeat' (first | exact Below.refl _ _ | assumption | (refine bel_set ?_ ?_ _) | (refine bel_al ?_ ?_ _) | (refine below_drewN ?_ _) | (refine Below.drew ?_))) <;> (first | omega | (simp; done) | (simp; omega)))⟩
theorem specRankAt_no2 (W H : Nat) (a : Option Addr) (n c : Nat) (cs : List Nat) (w : World) (hv : FC w (.slice a n c) cs) (b1 : 1 ≤ W) (b2 : W ≤ 24) (b3 : 1 ≤ H) (b4 : H ≤ 24) (b5 : H * W ≤ 256) (hl : cs.length = H * W) (x y q : Int) (hc : cellB W H x y = false) :
    Calls Try.prog 35 #[.agg #[.int .i64 W, .int .i64 H, .slice a n c], .int .i64 x, .int .i64 y, .int .i64 q] w (RIBb 0 false w) := by
  obtain ⟨rfl, hnc, hcm⟩ := hv.sized
  have hval := validB_mk b1 b2 b3 b4 b5 hl
  have h1 := fun w1 hp => specIs_any W H a cs.length c w.heap.size w1 hp (by unfold maxLen at hcm; omega)
  have hc0 := Lib.hid hc
  clear hc hl
  have hv1 := Lib.hid hval
  clear hval
  go_enter Try.func35, Try.ntmps35
  go_wp2_with fail
  refine (h1 _ (Pv.new _ _ _ _ _)).mono ?_
  rintro e w1 ⟨k, rfl, rfl⟩
  rw [hv1.out]
  go_wp2_with fail
  refine (specCell_any W H b1 b2 b3 b4 _ _ _ _ _ ((Pv.new _ _ _ _ _).drewN _)).mono ?_
  rintro e w1 ⟨rfl, rfl⟩
  rw [hc0.out]
  go_wp2_with fail
  go_ret2
  exact ⟨rfl, by ((repeat' (first | exact Below.refl _ _ | assumption | (refine bel_set ?_ ?_ _) | (refine bel_al ?_ ?_ _) | (refine below_drewN ?_ _) | (refine Below.drew ?_))) <;> (first | omega | (simp; done) | (simp; omega)))⟩
theorem specRankAt_no3 (W H : Nat) (a : Option Addr) (n c : Nat) (cs : List Nat) (w : World) (hv : FC w (.slice a n c) cs) (b1 : 1 ≤ W) (b2 : W ≤ 24) (b3 : 1 ≤ H) (b4 : H ≤ 24) (b5 : H * W ≤ 256) (hl : cs.length = H * W) (x y q : Int) (hc : cellB W H x y = true) (hr : ¬ (1 ≤ q ∧ q ≤ 2)) :
    Calls Try.prog 35 #[.agg #[.int .i64 W, .int .i64 H, .slice a n c], .int .i64 x, .int .i64 y, .int .i64 q] w (RIBb 0 false w) := by
  obtain ⟨rfl, hnc, hcm⟩ := hv.sized
  have hval := validB_mk b1 b2 b3 b4 b5 hl
  have h1 := fun w1 hp => specIs_any W H a cs.length c w.heap.size w1 hp (by unfold maxLen at hcm; omega)
  have hr0 : decide (1 ≤ q ∧ q ≤ 2) = false := decide_eq_false hr
  have hc0 := Lib.hid hc
  have hr1 := Lib.hid hr0
  clear hc hl hr0 hr
  have hv1 := Lib.hid hval
  clear hval
  go_enter Try.func35, Try.ntmps35
  go_wp2_with fail
  refine (h1 _ (Pv.new _ _ _ _ _)).mono ?_
  rintro e w1 ⟨k, rfl, rfl⟩
  rw [hv1.out]
  go_wp2_with fail
  refine (specCell_any W H b1 b2 b3 b4 _ _ _ _ _ ((Pv.new _ _ _ _ _).drewN _)).mono ?_
  rintro e w1 ⟨rfl, rfl⟩
  rw [hc0.out]
  go_wp2_with fail
  refine (specIn2_any _ _ _ _).mono ?_
  rintro e w1 ⟨rfl, rfl⟩
  rw [hr1.out]
  go_wp2_with fail
  go_ret2
  exact ⟨rfl, by ((repeat' (first | exact Below.refl _ _ | assumption | (refine bel_set ?_ ?_ _) | (refine bel_al ?_ ?_ _) | (refine below_drewN ?_ _) | (refine Below.drew ?_))) <;> (first | omega | (simp; done) | (simp; omega)))⟩
theorem specRankAt_any (W H : Nat) (a : Option Addr) (n c : Nat) (cs : List Nat) (w : World) (hv : FC w (.slice a n c) cs) (b1 : 1 ≤ W) (b2 : W ≤ 24) (b3 : 1 ≤ H) (b4 : H ≤ 24) (b5 : H * W ≤ 256) (hl : cs.length = H * W) (x y q : Int) (hc : cellB W H x y = true) (r : Nat) (hq : q = r) (r1 : 1 ≤ r) (r2 : r ≤ 2) :
    Calls Try.prog 35 #[.agg #[.int .i64 W, .int .i64 H, .slice a n c], .int .i64 x, .int .i64 y, .int .i64 q] w (RIBb (rk (lessC W H cs x y) x y r ((2 * r + 1) * (2 * r + 1))) true w) := by
  obtain ⟨rfl, hnc, hcm⟩ := hv.sized
  have hval := validB_mk b1 b2 b3 b4 b5 hl
  have h1 := fun w1 hp => specIs_any W H a cs.length c w.heap.size w1 hp (by unfold maxLen at hcm; omega)
  subst hq
  have hxy : 0 ≤ x ∧ x < W ∧ 0 ≤ y ∧ y < H := by simpa [cellB] using hc
  have h4 := fun w1 (hb : Below w.heap.size w w1) hp => specRank_any W H a cs.length c w.heap.size cs w1 hp (hv.below hb) b1 b2 b3 b4 hl x y r hxy.1 (by omega) hxy.2.2.1 (by omega) r1 r2
  have hr0 : decide (1 ≤ (r : Int) ∧ (r : Int) ≤ 2) = true := by simp; omega
  have hc0 := Lib.hid hc
  have hr1 := Lib.hid hr0
  clear hc hl hr0
  have hv1 := Lib.hid hval
  clear hval
  go_enter Try.func35, Try.ntmps35
  go_wp2_with fail
  refine (h1 _ (Pv.new _ _ _ _ _)).mono ?_
  rintro e w1 ⟨k, rfl, rfl⟩
  rw [hv1.out]
  go_wp2_with fail
  refine (specCell_any W H b1 b2 b3 b4 _ _ _ _ _ ((Pv.new _ _ _ _ _).drewN _)).mono ?_
  rintro e w1 ⟨rfl, rfl⟩
  rw [hc0.out]
  go_wp2_with fail
  refine (specIn2_any _ _ _ _).mono ?_
  rintro e w1 ⟨rfl, rfl⟩
  rw [hr1.out]
  go_wp2_with fail
  refine (h4 _ (by ((repeat' (first | exact Below.refl _ _ | assumption | (refine bel_set ?_ ?_ _) | (refine bel_al ?_ ?_ _) | (refine below_drewN ?_ _) | (refine Below.drew ?_))) <;> (first | omega | (simp; done) | (simp; omega)))) ((Pv.new _ _ _ _ _).drewN _)).mono ?_
  rintro e w4 ⟨k4, rfl, rfl⟩
  go_wp2_with fail
  go_ret2
  exact ⟨rfl, by ((repeat' (first | exact Below.refl _ _ | assumption | (refine bel_set ?_ ?_ _) | (refine bel_al ?_ ?_ _) | (refine below_drewN ?_ _) | (refine Below.drew ?_))) <;> (first | omega | (simp; done) | (simp; omega)))⟩
theorem pairRankAt (W H : Int) (cs : List Nat) (x y q : Int) :
    ∃ (g : Int) (ok : Bool),
      (∀ a n c w, FC w (.slice a n c) cs → Calls Try.prog 35 #[.agg #[.int .i64 W, .int .i64 H, .slice a n c], .int .i64 x, .int .i64 y, .int .i64 q] w (RIBb g ok w)) ∧
      (∀ a n c w, FC w (.slice a n c) cs → Calls Try.prog 36 #[.agg #[.int .i64 W, .int .i64 H, .slice a n c], .int .i64 x, .int .i64 y, .int .i64 q] w (RIBb g ok w)) := by
  cases hval : validB W H cs.length with
  | true =>
    obtain ⟨wn, hn, rfl, rfl, b1, b2, b3, b4, b5, hl⟩ := validB_parts hval
    cases hc : cellB wn hn x y with
    | true =>
      by_cases hr : 1 ≤ q ∧ q ≤ 2
      · obtain ⟨r, rfl⟩ := Int.eq_ofNat_of_zero_le (show 0 ≤ q by omega)
        exact ⟨_, _, fun a n c w hv => specRankAt_any wn hn a n c cs w hv b1 b2 b3 b4 b5 hl x y _ hc r rfl (by omega) (by omega), fun a n c w hv => implRankAt_any wn hn a n c cs w hv b1 b2 b3 b4 b5 hl x y _ hc r rfl (by omega) (by omega)⟩
      · exact ⟨0, false, fun a n c w hv => specRankAt_no3 wn hn a n c cs w hv b1 b2 b3 b4 b5 hl x y _ hc hr, fun a n c w hv => implRankAt_no3 wn hn a n c cs w hv b1 b2 b3 b4 b5 hl x y _ hc hr⟩
    | false => exact ⟨0, false, fun a n c w hv => specRankAt_no2 wn hn a n c cs w hv b1 b2 b3 b4 b5 hl x y _ hc, fun a n c w hv => implRankAt_no2 wn hn a n c cs w hv b1 b2 b3 b4 b5 hl x y _ hc⟩
  | false =>
    refine ⟨0, false, fun a n c w hv => ?_, fun a n c w hv => ?_⟩
    · obtain ⟨rfl, h1, h2⟩ := hv.sized
      exact specRankAt_no1 W H a _ c w h1 h2 x y q hval
    · obtain ⟨rfl, h1, h2⟩ := hv.sized
      exact implRankAt_no1 W H a _ c w h1 h2 x y q hval
end Go.Proofs.Ytdgpjpabhbifbab
