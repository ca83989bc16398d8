import Derived.Test.YtljfpepfidgjaaaPq
import Derived.Test.YtljfpepfidgjaaaVg
import Derived.IntWalk
set_option linter.unusedVariables false
set_option linter.unusedSimpArgs false
namespace Go.FX
open Go Go.RowKit
def idxB (n m : Int) : Bool := decide (0 ≤ n ∧ n < m)
def inB (x lo hi : Int) : Bool := decide (lo ≤ x ∧ x ≤ hi)
theorem inB_idx (x m : Int) : inB x 0 (m - 1) = idxB x m := by unfold inB idxB; congr 1; simp; omega
theorem inB_deep (D : Int) : inB D 1 8 = deepB D := rfl
theorem quiet_add_same {P : Program} {f : FuncId} {args : Array Value} {w : World} {a n : Nat} {v : Value}
    (h : Calls P f args (w.drewN (a + n)) fun e w' => e = .returned v ∧ w' = w.drewN (a + n)) :
    Calls P f args (w.drewN (a + n)) fun e w'' => e = .returned v ∧ ∃ m, w'' = w.drewN (a + m) :=
  h.mono fun _ _ ⟨he, hm⟩ => ⟨he, n, hm⟩
end Go.FX
namespace Go.Proofs.Ytljfpepfidgjaaa
open Go.FX Go.RowKit Go.WideShapes Go.ChangeShapes

theorem isDeep_any (D : Int) (w : World) : Calls Try.prog 78 #[.int .i64 D] w fun e w' => e = .returned (.bool (deepB D)) ∧ w = w' := by
  by_cases h1 : 1 ≤ D
  · by_cases h2 : D ≤ 8
    all_goals
      go_enter Try.func78, Try.ntmps78
      go_wp2
      go_ret
      exact ⟨by simp [deepB, h1, h2], rfl⟩
  · go_enter Try.func78, Try.ntmps78
    go_wp2
    go_ret
    exact ⟨by simp [deepB]; intros; omega, rfl⟩
theorem isIndex_any (n m : Int) (w : World) : Calls Try.prog 66 #[.int .i64 n, .int .i64 m] w fun e w' => e = .returned (.bool (idxB n m)) ∧ w = w' := by
  by_cases h1 : 0 ≤ n
  · by_cases h2 : n < m
    all_goals
      go_enter Try.func66, Try.ntmps66
      go_wp2
      go_ret
      exact ⟨by simp [idxB, h1, h2], rfl⟩
  · go_enter Try.func66, Try.ntmps66
    go_wp2
    go_ret
    exact ⟨by simp [idxB]; intros; omega, rfl⟩
theorem specIn_any (x lo hi : Int) (w : World) : Calls Try.prog 62 #[.int .i64 x, .int .i64 lo, .int .i64 hi] w fun e w' => e = .returned (.bool (inB x lo hi)) ∧ w' = w := by
  by_cases h1 : lo ≤ x
  · by_cases h2 : x ≤ hi
    all_goals
      go_enter Try.func62, Try.ntmps62
      go_wp2
      go_ret
      exact ⟨by simp [inB, h1, h2], rfl⟩
  · go_enter Try.func62, Try.ntmps62
    go_wp2
    go_ret
    exact ⟨by simp [inB]; intros; omega, rfl⟩
theorem validVol_any (W H D : Int) (v : Value) (n : Nat) (w : World) (hs : ∃ a cap, v = .slice a n cap ∧ n ≤ cap ∧ cap ≤ maxLen) :
    Calls Try.prog 64 #[.agg #[.int .i64 W, .int .i64 H, .int .i64 D, v]] w (RBb (volB W H D n) w) := by
  obtain ⟨a, cap, rfl, h1, h2⟩ := hs
  unfold maxLen at h2
  cases hb : sizeB W H with
  | true =>
    obtain ⟨g1, g2, g3, g4, g5⟩ := sizeB_iff.1 hb
    have a1 := area_lo g1 g3
    cases hd : deepB D with
    | true =>
      obtain ⟨d1, d2⟩ := deepB_iff.1 hd
      have a2 := area_lo a1 d1
      have a3 : W * H * D ≤ 2048 := Int.mul_le_mul g5 d2 (by omega) (by omega)
      by_cases h5 : (n : Int) = W * H * D
      all_goals
        go_enter Try.func64, Try.ntmps64
        go_wp2_with (first
          | (go_at_call 108; refine (isSize_any _ _ _).mono ?_; rintro e w' ⟨rfl, rfl⟩; rw [hb])
          | (go_at_call 78; refine (isDeep_any _ _).mono ?_; rintro e w' ⟨rfl, rfl⟩; rw [hd]))
        go_ret
        exact ⟨by simp [volB, hb, hd, h5], below1 _ _⟩
    | false =>
      go_enter Try.func64, Try.ntmps64
      go_wp2_with (first
        | (go_at_call 108; refine (isSize_any _ _ _).mono ?_; rintro e w' ⟨rfl, rfl⟩; rw [hb])
        | (go_at_call 78; refine (isDeep_any _ _).mono ?_; rintro e w' ⟨rfl, rfl⟩; rw [hd]))
      go_ret
      exact ⟨by simp [volB, hb, hd], below1 _ _⟩
  | false =>
    go_enter Try.func64, Try.ntmps64
    go_wp2_with (go_at_call 108; refine (isSize_any _ _ _).mono ?_; rintro e w' ⟨rfl, rfl⟩; rw [hb])
    go_ret
    exact ⟨by simp [volB, hb], below1 _ _⟩
set_option maxHeartbeats 1000000 in
theorem specVIs_any (W H D : Int) (a : Option Addr) (n c b : Nat) (w : World) (hp : Pw w b W H D (.slice a n c)) (hn : n ≤ 9223372036854775807) :
    Calls Try.prog 61 #[.pointer (some ⟨b, 0, none⟩)] w (RB (volB W H D n) w) := by
  obtain ⟨hb, q0, q1, q2, q3⟩ := hp
  cases hs : sizeB W H with
  | true =>
    obtain ⟨g1, g2, g3, g4, g5⟩ := sizeB_iff.1 hs
    have a1 := area_lo g1 g3
    cases hd : deepB D with
    | true =>
      obtain ⟨d1, d2⟩ := deepB_iff.1 hd
      have a2 := area_lo a1 d1
      have a3 : W * H * D ≤ 2048 := Int.mul_le_mul g5 d2 (by omega) (by omega)
      by_cases h5 : (n : Int) = W * H * D
      all_goals
        go_enter Try.func61, Try.ntmps61
        go_wp2_with fail
        go_quiet ((first
          | (go_at_call 107; exact Calls.quiet_of_same ((specSize_any _ _ _).mono fun _ _ ⟨he, hw⟩ => ⟨he.trans (by rw [hs]), hw.symm⟩))
          | (go_at_call 62; exact Calls.quiet_of_same ((specIn_any _ _ _ _).mono fun _ _ ⟨he, hw⟩ => ⟨he.trans (by rw [inB_deep, hd]), hw⟩))))
        go_wp2
        go_ret
        exact ⟨_, by simp [volB, hs, hd, h5], rfl⟩
    | false =>
      go_enter Try.func61, Try.ntmps61
      go_wp2_with fail
      go_quiet ((first
        | (go_at_call 107; exact Calls.quiet_of_same ((specSize_any _ _ _).mono fun _ _ ⟨he, hw⟩ => ⟨he.trans (by rw [hs]), hw.symm⟩))
        | (go_at_call 62; exact Calls.quiet_of_same ((specIn_any _ _ _ _).mono fun _ _ ⟨he, hw⟩ => ⟨he.trans (by rw [inB_deep, hd]), hw⟩))))
      go_wp2
      go_ret
      exact ⟨_, by simp [volB, hs, hd], rfl⟩
  | false =>
    go_enter Try.func61, Try.ntmps61
    go_wp2_with fail
    go_quiet ((go_at_call 107; exact Calls.quiet_of_same ((specSize_any _ _ _).mono fun _ _ ⟨he, hw⟩ => ⟨he.trans (by rw [hs]), hw.symm⟩)))
    go_wp2
    go_ret
    exact ⟨_, by simp [volB, hs], rfl⟩
set_option maxHeartbeats 1000000 in
theorem specMIs_any (W H : Int) (a : Option Addr) (n c b : Nat) (w : World) (hp : Pv w b W H (.slice a n c)) (hn : n ≤ 9223372036854775807) :
    Calls Try.prog 100 #[.pointer (some ⟨b, 0, none⟩)] w (RB (validB W H n) w) := by
  obtain ⟨hb, q0, q1, q2⟩ := hp
  cases hs : sizeB W H with
  | true =>
    obtain ⟨g1, g2, g3, g4, g5⟩ := sizeB_iff.1 hs
    have a1 := area_lo g1 g3
    by_cases h5 : (n : Int) = W * H
    all_goals
      go_enter Try.func100, Try.ntmps100
      go_wp2_with fail
      go_quiet ((go_at_call 107; exact Calls.quiet_of_same ((specSize_any _ _ _).mono fun _ _ ⟨he, hw⟩ => ⟨he.trans (by rw [hs]), hw.symm⟩)))
      go_wp2
      go_ret
      exact ⟨_, by simp [validB, hs, h5], rfl⟩
  | false =>
    go_enter Try.func100, Try.ntmps100
    go_wp2_with fail
    go_quiet ((go_at_call 107; exact Calls.quiet_of_same ((specSize_any _ _ _).mono fun _ _ ⟨he, hw⟩ => ⟨he.trans (by rw [hs]), hw.symm⟩)))
    go_wp2
    go_ret
    exact ⟨_, by simp [validB, hs], rfl⟩
/-- A map's picture. -/
theorem mapPic_any (W H : Int) (a : Option Addr) (n c : Nat) (w : World) :
    Calls Try.prog 102 #[.agg #[.int .i64 W, .int .i64 H, .slice a n c]] w fun e w' => e = .returned (.agg #[.int .i64 W, .int .i64 H, .slice a n c]) ∧ Below w.heap.size w w' := by
  go_enter Try.func102, Try.ntmps102
  go_wp2
  refine bodyPost_ret (v := ?v) ?hr rfl ?post
  case hr => (simp [results, Try.results102, go_sem]; try rfl)
  case post => exact ⟨rfl, by ((repeat' (first | (refine bel_set ?_ ?_ _) | (refine bel_al ?_ ?_ _) | exact Below.refl _ _ | assumption | (refine below_drewN ?_ _) | (refine Below.drew ?_))) <;> (first | omega | (simp; done) | (simp; omega)))⟩
/-- The costs of a cell. -/
theorem costsOf_any (W H D : Nat) (b off c : Nat) (cell : Nat) (ci : Int) (hci : ci = cell) (w : World) (hc : cell < H * W) (h5 : H * W ≤ 256) (d1 : 1 ≤ D) (d2 : D ≤ 8) (hcc : H * W * D ≤ c) (hcm : c ≤ maxLen) :
    Calls Try.prog 106 #[.agg #[.int .i64 W, .int .i64 H, .int .i64 D, .slice (some ⟨b, off, none⟩) (H * W * D) c], .int .i64 ci] w
      fun e w' => e = .returned (.slice (some ⟨b, off + cell * D, none⟩) D D) ∧ Below w.heap.size w w' := by
  subst hci
  unfold maxLen at hcm
  have h1 : cell * D + D ≤ H * W * D := by rw [← Nat.succ_mul]; exact Nat.mul_le_mul_right _ hc
  have h2 : (cell : Int) * (D : Int) = ((cell * D : Nat) : Int) := by rw [Int.natCast_mul]
  have h3 : cell * D ≤ 256 * 8 := Nat.mul_le_mul (by omega) d2
  generalize cell * D = cd at h1 h2 h3 ⊢
  generalize H * W * D = hw at h1 hcc ⊢
  clear hc h5
  go_enter Try.func106, Try.ntmps106
  go_wp2
  go_ret
  exact ⟨by rw [Nat.add_sub_cancel_left]; rfl, below1 _ _⟩
set_option maxHeartbeats 1000000 in
/-- The cost of a cell and a disparity. -/
theorem at_any (W H D : Nat) (v : Value) (cs : List Nat) (x y d : Nat) (w : World) (hv : FC w v cs) (b1 : 1 ≤ W) (b2 : W ≤ 24) (b4 : H ≤ 24) (b5 : H * W ≤ 256) (d1 : 1 ≤ D) (d2 : D ≤ 8) (hl : cs.length = H * W * D) (hx : x < W) (hy : y < H) (hd : d < D) :
    Calls Try.prog 67 #[.agg #[.int .i64 W, .int .i64 H, .int .i64 D, v], .int .i64 x, .int .i64 y, .int .i64 d] w (RFb .f32 (costC W D cs x y d) w) := by
  obtain ⟨hlt, hcell0⟩ := cost_lt hx hy hd
  rw [← hl] at hlt
  obtain ⟨b, off, c, z, rfl, hnc, hcm, hb, hz, hcell⟩ := hv.cell hlt
  rw [hl] at hnc ⊢
  have hco := fun w1 ci hci => costsOf_any W H D b off c (y * W + x) ci hci w1 hcell0 b5 d1 d2 hnc hcm
  have hcl := fun w1 (hb1 : Below w.heap.size w w1) => ((bcell hb1).1 b (off + ((y * W + x) * D + d)) hb).trans hcell
  rw [← Nat.add_assoc] at hcl
  have hwy : (W : Int) * (y : Int) = ((W * y : Nat) : Int) := by rw [Int.natCast_mul]
  have hwy2 : W * y ≤ 24 * 24 := Nat.mul_le_mul b2 (by omega)
  have hci : ((x : Int) + ((W * y : Nat) : Int)) = ((y * W + x : Nat) : Int) := by rw [Nat.mul_comm W y]; push_cast; omega
  have Hz := Lib.hid hz
  have Hci := Lib.hid hci
  have Hcl := Lib.hid hcl
  clear hz hci hcl hcell hlt hl hv
  generalize hq : W * y = wy at hwy hwy2 Hci
  clear hq
  go_enter Try.func67, Try.ntmps67
  go_wp2_with fail
  refine (hco _ _ Hci.out).mono ?_
  rintro e w1 ⟨rfl, hb1⟩
  have s1 := hb1.size; simp only [World.size_alloc] at s1
  have hc1 := Hcl.out w1 (by ((repeat' (first | (refine bel_set ?_ ?_ _) | (refine bel_al ?_ ?_ _) | exact Below.refl _ _ | assumption | (refine below_drewN ?_ _) | (refine Below.drew ?_) | (refine Below.trans ?_ (Below.mono hb1 ?_)))) <;> (first | omega | (simp; done) | (simp; omega))))
  go_wp2_with fail
  go_ret
  exact ⟨_, rfl, by ((repeat' (first | (refine bel_set ?_ ?_ _) | (refine bel_al ?_ ?_ _) | exact Below.refl _ _ | assumption | (refine below_drewN ?_ _) | (refine Below.drew ?_) | (refine Below.trans ?_ (Below.mono hb1 ?_)))) <;> (first | omega | (simp; done) | (simp; omega))), Hz.out⟩
theorem at_of (W H D : Nat) (v : Value) (cs : List Nat) (x y d : Nat) (xi yi di : Int) (hxi : xi = x) (hyi : yi = y) (hdi : di = d) (w : World) (hv : FC w v cs) (b1 : 1 ≤ W) (b2 : W ≤ 24) (b4 : H ≤ 24) (b5 : H * W ≤ 256) (d1 : 1 ≤ D) (d2 : D ≤ 8) (hl : cs.length = H * W * D) (hx : x < W) (hy : y < H) (hd : d < D) :
    Calls Try.prog 67 #[.agg #[.int .i64 W, .int .i64 H, .int .i64 D, v], .int .i64 xi, .int .i64 yi, .int .i64 di] w (RFb .f32 (costC W D cs x y d) w) := by
  subst hxi; subst hyi; subst hdi
  exact at_any W H D v cs x y d w hv b1 b2 b4 b5 d1 d2 hl hx hy hd

theorem volHasCell_any (W H D : Int) (a : Option Addr) (n c : Nat) (x y : Int) (w : World) :
    Calls Try.prog 65 #[.agg #[.int .i64 W, .int .i64 H, .int .i64 D, .slice a n c], .int .i64 x, .int .i64 y] w (RBb (idxB x W && idxB y H) w) := by
  cases hx : idxB x W with
  | false =>
    have hx' := Lib.hid hx
    clear hx
    go_enter Try.func65, Try.ntmps65
    go_wp2_with fail
    refine (isIndex_any _ _ _).mono ?_
    rintro e w' ⟨rfl, rfl⟩
    rw [hx'.out]
    go_wp2_with fail
    go_ret
    exact ⟨rfl, below1 _ _⟩
  | true =>
    have hx' := Lib.hid hx
    clear hx
    go_enter Try.func65, Try.ntmps65
    go_wp2_with fail
    refine (isIndex_any _ _ _).mono ?_
    rintro e w' ⟨rfl, rfl⟩
    rw [hx'.out]
    go_wp2_with fail
    refine (isIndex_any _ _ _).mono ?_
    rintro e w' ⟨rfl, rfl⟩
    go_wp2_with fail
    go_ret
    exact ⟨rfl, below1 _ _⟩
set_option maxHeartbeats 2000000 in
theorem implCostAt_any (W H D : Nat) (a : Option Addr) (n c : Nat) (cs : List Nat) (x y d : Int) (w : World) (hv : FC w (.slice a n c) cs) (b1 : 1 ≤ W) (b2 : W ≤ 24) (b3 : 1 ≤ H) (b4 : H ≤ 24) (b5 : H * W ≤ 256) (d1 : 1 ≤ D) (d2 : D ≤ 8) (hl : cs.length = H * W * D) :
    Calls Try.prog 18 #[.agg #[.int .i64 W, .int .i64 H, .int .i64 D, .slice a n c], .int .i64 x, .int .i64 y, .int .i64 d] w (RFBb (if (idxB x W && idxB y H && idxB d D) then costC W D cs x.toNat y.toNat d.toNat else 0) (idxB x W && idxB y H && idxB d D) w) := by
  obtain ⟨rfl, hnc, hcm⟩ := hv.sized
  have hval := Lib.hid (volB_mk b1 b2 b3 b4 b5 d1 d2 hl)
  have h1 := fun w1 => validVol_any W H D (.slice a cs.length c) cs.length w1 ⟨a, c, rfl, hnc, hcm⟩
  cases hxy : (idxB x W && idxB y H) with
  | false =>
    simp only [Bool.false_and, Bool.false_eq_true, if_false]
    have hxy' := Lib.hid hxy
    clear hxy hl
    go_enter Try.func18, Try.ntmps18
    go_wp2_with fail
    refine (h1 _).mono ?_
    rintro e w1 ⟨rfl, hb1⟩
    rw [hval.out]
    have hP1 := (Pw.new _ _ _ _ _ _).below hb1
    obtain ⟨l1, q0, q1, q2, q3⟩ := id hP1
    have s1 := hb1.size
    simp only [World.size_alloc] at s1
    go_wp2_with fail
    refine (volHasCell_any _ _ _ _ _ _ _ _ _).mono ?_
    rintro e w2 ⟨rfl, hb2⟩
    rw [hxy'.out]
    go_wp2_with fail
    go_ret2
    exact ⟨_, rfl, by ((repeat' (first | (refine bel_set ?_ ?_ _) | (refine bel_al ?_ ?_ _) | exact Below.refl _ _ | assumption | (refine below_drewN ?_ _) | (refine Below.drew ?_) | (refine Below.trans ?_ (Below.mono hb2 ?_)) | (refine Below.trans ?_ (Below.mono hb1 ?_)))) <;> (first | omega | (simp; done) | (simp; omega))), zeroFl⟩
  | true =>
    cases hd : idxB d D with
    | false =>
      simp only [Bool.true_and, Bool.false_eq_true, if_false]
      have hxy' := Lib.hid hxy
      have hd' := Lib.hid hd
      clear hxy hd hl
      go_enter Try.func18, Try.ntmps18
      go_wp2_with fail
      refine (h1 _).mono ?_
      rintro e w1 ⟨rfl, hb1⟩
      rw [hval.out]
      have hP1 := (Pw.new _ _ _ _ _ _).below hb1
      obtain ⟨l1, q0, q1, q2, q3⟩ := id hP1
      have s1 := hb1.size
      simp only [World.size_alloc] at s1
      go_wp2_with fail
      refine (volHasCell_any _ _ _ _ _ _ _ _ _).mono ?_
      rintro e w2 ⟨rfl, hb2⟩
      rw [hxy'.out]
      have s2 := hb2.size
      obtain ⟨l2, r0, r1, r2, r3⟩ := hP1.below hb2
      go_wp2_with fail
      refine (isIndex_any _ _ _).mono ?_
      rintro e w' ⟨rfl, rfl⟩
      rw [hd'.out]
      go_wp2_with fail
      go_ret2
      exact ⟨_, rfl, by ((repeat' (first | (refine bel_set ?_ ?_ _) | (refine bel_al ?_ ?_ _) | exact Below.refl _ _ | assumption | (refine below_drewN ?_ _) | (refine Below.drew ?_) | (refine Below.trans ?_ (Below.mono hb2 ?_)) | (refine Below.trans ?_ (Below.mono hb1 ?_)))) <;> (first | omega | (simp; done) | (simp; omega))), zeroFl⟩
    | true =>
      simp only [Bool.true_and, if_true]
      have hx : idxB x W = true := (Bool.and_eq_true_iff.1 hxy).1
      have hy : idxB y H = true := (Bool.and_eq_true_iff.1 hxy).2
      have hxy' := Lib.hid hxy
      have hd' := Lib.hid hd
      have rx : 0 ≤ x ∧ x < W := by simpa [idxB] using hx
      have ry : 0 ≤ y ∧ y < H := by simpa [idxB] using hy
      have rd : 0 ≤ d ∧ d < D := by simpa [idxB] using hd
      obtain ⟨xn, rfl⟩ := Int.eq_ofNat_of_zero_le rx.1
      obtain ⟨yn, rfl⟩ := Int.eq_ofNat_of_zero_le ry.1
      obtain ⟨dn, rfl⟩ := Int.eq_ofNat_of_zero_le rd.1
      have tx : (xn : Int).toNat = xn := rfl
      have ty : (yn : Int).toNat = yn := rfl
      have td : (dn : Int).toNat = dn := rfl
      rw [tx, ty, td]
      clear tx ty td
      have hat := fun w1 (hb : Below w.heap.size w w1) => at_any W H D (.slice a cs.length c) cs xn yn dn w1 (hv.below hb) b1 b2 b4 b5 d1 d2 hl (by omega) (by omega) (by omega)
      clear hx hy hd hl hv hxy
      go_enter Try.func18, Try.ntmps18
      go_wp2_with fail
      refine (h1 _).mono ?_
      rintro e w1 ⟨rfl, hb1⟩
      rw [hval.out]
      have hP1 := (Pw.new _ _ _ _ _ _).below hb1
      obtain ⟨l1, q0, q1, q2, q3⟩ := id hP1
      have s1 := hb1.size
      simp only [World.size_alloc] at s1
      go_wp2_with fail
      refine (volHasCell_any _ _ _ _ _ _ _ _ _).mono ?_
      rintro e w2 ⟨rfl, hb2⟩
      rw [hxy'.out]
      have s2 := hb2.size
      have hP2 := hP1.below hb2
      obtain ⟨l2, r0, r1, r2, r3⟩ := id hP2
      go_wp2_with fail
      refine (isIndex_any _ _ _).mono ?_
      rintro e w' ⟨rfl, rfl⟩
      rw [hd'.out]
      go_wp2_with fail
      refine (hat _ (by ((repeat' (first | (refine bel_set ?_ ?_ _) | (refine bel_al ?_ ?_ _) | exact Below.refl _ _ | assumption | (refine below_drewN ?_ _) | (refine Below.drew ?_) | (refine Below.trans ?_ (Below.mono hb2 ?_)) | (refine Below.trans ?_ (Below.mono hb1 ?_)))) <;> (first | omega | (simp; done) | (simp; omega))))).mono ?_
      rintro e w3 ⟨r, rfl, hb3, hr⟩
      go_wp2_with fail
      go_ret2
      exact ⟨_, rfl, by ((repeat' (first | (refine bel_set ?_ ?_ _) | (refine bel_al ?_ ?_ _) | exact Below.refl _ _ | assumption | (refine below_drewN ?_ _) | (refine Below.drew ?_) | (refine Below.trans ?_ (Below.mono hb3 ?_)) | (refine Below.trans ?_ (Below.mono hb2 ?_)) | (refine Below.trans ?_ (Below.mono hb1 ?_)))) <;> (first | omega | (simp; done) | (simp; omega))), hr⟩
set_option maxHeartbeats 2000000 in
theorem specCostAt_any (W H D : Nat) (a : Option Addr) (n c : Nat) (cs : List Nat) (x y d : Int) (w : World) (hv : FC w (.slice a n c) cs) (b1 : 1 ≤ W) (b2 : W ≤ 24) (b3 : 1 ≤ H) (b4 : H ≤ 24) (b5 : H * W ≤ 256) (d1 : 1 ≤ D) (d2 : D ≤ 8) (hl : cs.length = H * W * D) :
    Calls Try.prog 16 #[.agg #[.int .i64 W, .int .i64 H, .int .i64 D, .slice a n c], .int .i64 x, .int .i64 y, .int .i64 d] w (RFBb (if (idxB x W && idxB y H && idxB d D) then costC W D cs x.toNat y.toNat d.toNat else 0) (idxB x W && idxB y H && idxB d D) w) := by
  obtain ⟨rfl, hnc, hcm⟩ := hv.sized
  have hval := Lib.hid (volB_mk b1 b2 b3 b4 b5 d1 d2 hl)
  have h1 := fun w1 hp => specVIs_any W H D a cs.length c w.heap.size w1 hp (by unfold maxLen at hcm; omega)
  cases hx : idxB x W with
  | false =>
    simp only [Bool.false_and, Bool.false_eq_true, if_false]
    have hx' := Lib.hid hx
    clear hx hl
    go_enter Try.func16, Try.ntmps16
    go_wp2_with fail
    refine (h1 _ (Pw.new _ _ _ _ _ _)).mono ?_
    rintro e w1 ⟨k, rfl, rfl⟩
    rw [hval.out]
    go_wp2_with fail
    refine (specIn_any _ _ _ _).mono ?_
    rintro e w' ⟨rfl, rfl⟩
    rw [inB_idx, hx'.out]
    go_wp2_with fail
    go_ret2
    exact ⟨_, rfl, by ((repeat' (first | (refine bel_set ?_ ?_ _) | (refine bel_al ?_ ?_ _) | exact Below.refl _ _ | assumption | (refine below_drewN ?_ _) | (refine Below.drew ?_))) <;> (first | omega | (simp; done) | (simp; omega))), zeroFl⟩
  | true =>
    cases hy : idxB y H with
    | false =>
      simp only [Bool.true_and, Bool.false_and, Bool.false_eq_true, if_false]
      have hx' := Lib.hid hx
      have hy' := Lib.hid hy
      clear hx hy hl
      go_enter Try.func16, Try.ntmps16
      go_wp2_with fail
      refine (h1 _ (Pw.new _ _ _ _ _ _)).mono ?_
      rintro e w1 ⟨k, rfl, rfl⟩
      rw [hval.out]
      go_wp2_with fail
      refine (specIn_any _ _ _ _).mono ?_
      rintro e w' ⟨rfl, rfl⟩
      rw [inB_idx, hx'.out]
      go_wp2_with fail
      refine (specIn_any _ _ _ _).mono ?_
      rintro e w' ⟨rfl, rfl⟩
      rw [inB_idx, hy'.out]
      go_wp2_with fail
      go_ret2
      exact ⟨_, rfl, by ((repeat' (first | (refine bel_set ?_ ?_ _) | (refine bel_al ?_ ?_ _) | exact Below.refl _ _ | assumption | (refine below_drewN ?_ _) | (refine Below.drew ?_))) <;> (first | omega | (simp; done) | (simp; omega))), zeroFl⟩
    | true =>
      cases hd : idxB d D with
      | false =>
        simp only [Bool.true_and, Bool.false_eq_true, if_false]
        have hx' := Lib.hid hx
        have hy' := Lib.hid hy
        have hd' := Lib.hid hd
        clear hx hy hd hl
        go_enter Try.func16, Try.ntmps16
        go_wp2_with fail
        refine (h1 _ (Pw.new _ _ _ _ _ _)).mono ?_
        rintro e w1 ⟨k, rfl, rfl⟩
        rw [hval.out]
        go_wp2_with fail
        refine (specIn_any _ _ _ _).mono ?_
        rintro e w' ⟨rfl, rfl⟩
        rw [inB_idx, hx'.out]
        go_wp2_with fail
        refine (specIn_any _ _ _ _).mono ?_
        rintro e w' ⟨rfl, rfl⟩
        rw [inB_idx, hy'.out]
        go_wp2_with fail
        refine (specIn_any _ _ _ _).mono ?_
        rintro e w' ⟨rfl, rfl⟩
        rw [inB_idx, hd'.out]
        go_wp2_with fail
        go_ret2
        exact ⟨_, rfl, by ((repeat' (first | (refine bel_set ?_ ?_ _) | (refine bel_al ?_ ?_ _) | exact Below.refl _ _ | assumption | (refine below_drewN ?_ _) | (refine Below.drew ?_))) <;> (first | omega | (simp; done) | (simp; omega))), zeroFl⟩
      | true =>
        simp only [Bool.true_and, if_true]
        have hx' := Lib.hid hx
        have hy' := Lib.hid hy
        have hd' := Lib.hid hd
        have rx : 0 ≤ x ∧ x < W := by simpa [idxB] using hx
        have ry : 0 ≤ y ∧ y < H := by simpa [idxB] using hy
        have rd : 0 ≤ d ∧ d < D := by simpa [idxB] using hd
        obtain ⟨xn, rfl⟩ := Int.eq_ofNat_of_zero_le rx.1
        obtain ⟨yn, rfl⟩ := Int.eq_ofNat_of_zero_le ry.1
        obtain ⟨dn, rfl⟩ := Int.eq_ofNat_of_zero_le rd.1
        have tx : (xn : Int).toNat = xn := rfl
        have ty : (yn : Int).toNat = yn := rfl
        have td : (dn : Int).toNat = dn := rfl
        rw [tx, ty, td]
        clear tx ty td
        obtain ⟨hlt, hc0⟩ := cost_lt (W := W) (H := H) (D := D) (x := xn) (y := yn) (d := dn) (by omega) (by omega) (by omega)
        rw [← hl] at hlt
        obtain ⟨b, off, cc, z, ev, _, _, hb, hz, hcell⟩ := hv.cell hlt
        simp only [Value.slice.injEq, true_and] at ev
        obtain ⟨rfl, rfl⟩ := ev
        have Hcl := Lib.hid (fun w1 (hb1 : Below w.heap.size w w1) => ((bcell hb1).1 b (off + ((yn * W + xn) * D + dn)) hb).trans hcell)
        have hwy : (W : Int) * (yn : Int) = ((W * yn : Nat) : Int) := by rw [Int.natCast_mul]
        have hwy2 : W * yn ≤ 24 * 24 := Nat.mul_le_mul b2 (by omega)
        have hp : ((xn : Int) + ((W * yn : Nat) : Int)) * (D : Int) = (((yn * W + xn) * D : Nat) : Int) := by rw [Nat.mul_comm W yn, Int.natCast_mul (yn * W + xn) D]; congr 1; push_cast; omega
        have hp2 : (yn * W + xn) * D ≤ 2048 := Nat.mul_le_mul (Nat.le_trans (Nat.le_of_lt hc0) b5) d2
        generalize hq : W * yn = wy at hwy hwy2 hp
        generalize hq2 : (yn * W + xn) * D = pd at hp hp2 hlt Hcl
        have Hg := Lib.hid (And.intro (show IntKind.i64.wrap ((pd : Int) + (dn : Int)) = (pd : Int) + (dn : Int) from IntWalk.i64_in _ (by omega)) (And.intro (show (0 : Int) ≤ (pd : Int) + (dn : Int) by omega) (And.intro (show (pd : Int) + (dn : Int) < (cs.length : Int) by omega) (show ((pd : Int) + (dn : Int)).toNat = pd + dn by omega))))
        have Hz : Hid (Fl .f32 z (costC W D cs xn yn dn)) := by unfold costC; exact hz
        clear hx hy hd hl hv hq hq2 hz hcell hc0 hlt hb
        go_enter Try.func16, Try.ntmps16
        go_wp2_with fail
        refine (h1 _ (Pw.new _ _ _ _ _ _)).mono ?_
        rintro e w1 ⟨k, rfl, rfl⟩
        rw [hval.out]
        go_wp2_with fail
        refine (specIn_any _ _ _ _).mono ?_
        rintro e w' ⟨rfl, rfl⟩
        rw [inB_idx, hx'.out]
        go_wp2_with fail
        refine (specIn_any _ _ _ _).mono ?_
        rintro e w' ⟨rfl, rfl⟩
        rw [inB_idx, hy'.out]
        go_wp2_with fail
        refine (specIn_any _ _ _ _).mono ?_
        rintro e w' ⟨rfl, rfl⟩
        rw [inB_idx, hd'.out]
        have hc1 := Hcl.out _ ((below_drewN (below1 w (.cells #[.int .i64 W, .int .i64 H, .int .i64 D, .slice (some ⟨b, off, none⟩) cs.length c] 29)) k))
        simp only [World.cell?_drewN] at hc1
        have g1 := Hg.out.1
        have g2 := Hg.out.2.1
        have g3 := Hg.out.2.2.1
        have g4 := Hg.out.2.2.2
        go_wp2_with fail
        go_ret2
        exact ⟨_, rfl, by ((repeat' (first | (refine bel_set ?_ ?_ _) | (refine bel_al ?_ ?_ _) | exact Below.refl _ _ | assumption | (refine below_drewN ?_ _) | (refine Below.drew ?_))) <;> (first | omega | (simp; done) | (simp; omega))), Hz.out⟩
theorem implCostAt_no (W H D : Int) (a : Option Addr) (n c : Nat) (x y d : Int) (w : World) (hnc : n ≤ c) (hcm : c ≤ maxLen) (hval : volB W H D n = false) :
    Calls Try.prog 18 #[.agg #[.int .i64 W, .int .i64 H, .int .i64 D, .slice a n c], .int .i64 x, .int .i64 y, .int .i64 d] w (RFBb 0 false w) := by
  have h1 := fun w1 => validVol_any W H D (.slice a n c) n w1 ⟨a, c, rfl, hnc, hcm⟩
  have hval := Lib.hid hval
  go_enter Try.func18, Try.ntmps18
  go_wp2_with fail
  refine (h1 _).mono ?_
  rintro e w1 ⟨rfl, hb1⟩
  rw [hval.out]
  go_wp2_with fail
  go_ret2
  exact ⟨_, rfl, by ((repeat' (first | (refine bel_set ?_ ?_ _) | (refine bel_al ?_ ?_ _) | exact Below.refl _ _ | assumption | (refine below_drewN ?_ _) | (refine Below.drew ?_) | (refine Below.trans ?_ (Below.mono hb1 ?_)))) <;> (first | omega | (simp; done) | (simp; omega))), zeroFl⟩
theorem specCostAt_no (W H D : Int) (a : Option Addr) (n c : Nat) (x y d : Int) (w : World) (hnc : n ≤ c) (hcm : c ≤ maxLen) (hval : volB W H D n = false) :
    Calls Try.prog 16 #[.agg #[.int .i64 W, .int .i64 H, .int .i64 D, .slice a n c], .int .i64 x, .int .i64 y, .int .i64 d] w (RFBb 0 false w) := by
  have h1 := fun w1 hp => specVIs_any W H D a n c w.heap.size w1 hp (by unfold maxLen at hcm; omega)
  have hval := Lib.hid hval
  go_enter Try.func16, Try.ntmps16
  go_wp2_with fail
  refine (h1 _ (Pw.new _ _ _ _ _ _)).mono ?_
  rintro e w1 ⟨k, rfl, rfl⟩
  rw [hval.out]
  go_wp2_with fail
  go_ret2
  exact ⟨_, rfl, by ((repeat' (first | (refine bel_set ?_ ?_ _) | (refine bel_al ?_ ?_ _) | exact Below.refl _ _ | assumption | (refine below_drewN ?_ _) | (refine Below.drew ?_))) <;> (first | omega | (simp; done) | (simp; omega))), zeroFl⟩
theorem pairCostAt (W H D : Int) (cs : List Nat) (x y d : Int) :
    ∃ (g : Nat) (ok : Bool),
      (∀ a n c w, FC w (.slice a n c) cs → Calls Try.prog 16 #[.agg #[.int .i64 W, .int .i64 H, .int .i64 D, .slice a n c], .int .i64 x, .int .i64 y, .int .i64 d] w (RFBb g ok w)) ∧
      (∀ a n c w, FC w (.slice a n c) cs → Calls Try.prog 18 #[.agg #[.int .i64 W, .int .i64 H, .int .i64 D, .slice a n c], .int .i64 x, .int .i64 y, .int .i64 d] w (RFBb g ok w)) := by
  cases hval : volB W H D cs.length with
  | true =>
    obtain ⟨wn, hn, dn, rfl, rfl, rfl, b1, b2, b3, b4, b5, d1, d2, hl⟩ := volB_parts hval
    exact ⟨_, _, fun a n c w hv => specCostAt_any wn hn dn a n c cs x y d w hv b1 b2 b3 b4 b5 d1 d2 hl, fun a n c w hv => implCostAt_any wn hn dn a n c cs x y d w hv b1 b2 b3 b4 b5 d1 d2 hl⟩
  | false =>
    refine ⟨0, false, fun a n c w hv => ?_, fun a n c w hv => ?_⟩
    · obtain ⟨rfl, h1, h2⟩ := hv.sized
      exact specCostAt_no W H D a _ c x y d w h1 h2 hval
    · obtain ⟨rfl, h1, h2⟩ := hv.sized
      exact implCostAt_no W H D a _ c x y d w h1 h2 hval
end Go.Proofs.Ytljfpepfidgjaaa
