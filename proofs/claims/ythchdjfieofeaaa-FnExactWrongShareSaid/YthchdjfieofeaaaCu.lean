import Derived.Test.YthchdjfieofeaaaPj
import Derived.Test.YthchdjfieofeaaaRp
import Derived.IntWalk
set_option linter.unusedVariables false
set_option linter.unusedSimpArgs false
namespace Go.FX
open Go Go.RowKit Ieee
theorem le2_key {x y : Nat} (hx : isN .f32 x = false) (hy : isN .f32 y = false) : le2 x y = decide (key .f32 x ≤ key .f32 y) := by
  unfold le2
  rw [lt_key hx hy, eq_key hx hy, ← Bool.decide_or, decide_eq_decide]
  omega
theorem le2_nan_l {x y : Nat} (h : isN .f32 x = true) : le2 x y = false := by unfold le2; rw [order_nan_left h]; rfl
theorem le2_nan_r {x y : Nat} (h : isN .f32 y = true) : le2 x y = false := by unfold le2; rw [order_nan_right h]; rfl
theorem key_opp (x : Nat) : key .f32 (opp .f32 x) = - key .f32 x := by
  have h := opp_parts .f32 x
  unfold key
  rw [h.1, h.2]
  cases sgn FloatKind.f32.format x <;> simp
theorem key_abs (x : Nat) : key .f32 (x % 2147483648) = if key .f32 x < 0 then - key .f32 x else key .f32 x := by
  have h := abs_parts32 x
  unfold key
  rw [h.1, h.2]
  cases sgn FloatKind.f32.format x <;> simp <;> omega
/-- An absolute value is at most n just if the number and its opposite are. -/
theorem le2_abs (x n : Nat) : le2 (x % 2147483648) n = (le2 x n && le2 (neg .f32 x) n) := by
  by_cases hx : isN .f32 x = true
  · rw [le2_nan_l hx, le2_nan_l (by rw [isN_abs32]; exact hx)]; rfl
  · have hx : isN .f32 x = false := by simpa using hx
    by_cases hn : isN .f32 n = true
    · rw [le2_nan_r hn, le2_nan_r hn, le2_nan_r hn]; rfl
    · have hn : isN .f32 n = false := by simpa using hn
      have hg : neg .f32 x = opp .f32 x := by unfold neg; rw [hx]; rfl
      rw [hg, le2_key (by rw [isN_abs32]; exact hx) hn, le2_key hx hn, le2_key (by rw [isN_opp]; exact hx) hn, key_opp, key_abs, ← Bool.decide_and, decide_eq_decide]
      split <;> omega
/-- Is the absolute value of d at most n? -/
def nearB (d n : Nat) : Bool := le2 d n && le2 (neg .f32 d) n
theorem nearB_fl {d n dc nc : Nat} (hd : Fl .f32 d dc) (hn : Fl .f32 n nc) : nearB d n = nearB dc nc := by
  have e : neg .f32 d = neg .f32 dc := by rw [← hd.eq, neg_cn]
  unfold nearB le2
  rw [e, hd.order hn, show FloatKind.f32.format.order (neg .f32 dc) n = FloatKind.f32.format.order (neg .f32 dc) nc by rw [← hn.eq, ← order_cn _ (neg .f32 dc) n, ← order_cn _ (neg .f32 dc) (cn .f32 n), cn_cn]]
theorem near64 {d n : Nat} (w : World) :
    (FloatKind.f64.format.order (cvR .f32 d .f64 w % 9223372036854775808) (FX.wide n) == some Ordering.lt || FloatKind.f64.format.order (cvR .f32 d .f64 w % 9223372036854775808) (FX.wide n) == some Ordering.eq) = nearB d n := by
  unfold nearB
  rw [← le2_abs]
  unfold le2
  by_cases hn : isN .f32 n = true
  · rw [order_nan_right (by rw [isN_wide]; exact hn), order_nan_right hn]
  · rw [order_abs (cn_wideR d w) (by simpa using hn)]
/-- How many of the first are not near. -/
def cntN (F : Nat → Bool) : Nat → Nat
  | 0 => 0
  | k + 1 => cntN F k + (if F k then 0 else 1)
theorem cntN_le (F : Nat → Bool) : ∀ k, cntN F k ≤ k
  | 0 => Nat.le_refl _
  | k + 1 => by unfold cntN; have := cntN_le F k; split <;> omega
theorem cntN_yes {F : Nat → Bool} {k : Nat} (h : F k = true) : cntN F (k + 1) = cntN F k := by show cntN F k + (if F k then 0 else 1) = _; rw [h]; rfl
theorem cntN_no {F : Nat → Bool} {k : Nat} (h : F k = false) : cntN F (k + 1) = cntN F k + 1 := by show cntN F k + (if F k then 0 else 1) = _; rw [h]; rfl
def unF (cs cs' : List Nat) (nc : Nat) (k : Nat) : Bool := nearB (fop .sub .f32 (cs.getD k 0) (cs'.getD k 0)) nc
end Go.FX
namespace Go.Proofs.Ythchdjfieofeaaa
open Go.FX Go.RowKit Go.WideShapes Go.ChangeShapes

set_option maxHeartbeats 1000000 in
theorem isNear_any (a b n ca cb nc : Nat) (ha : Fl .f32 a ca) (hb : Fl .f32 b cb) (hn : Fl .f32 n nc) (w : World) :
    Calls Try.prog 95 #[.float .f32 a, .float .f32 b, .float .f32 n] w (RB (nearB (fop .sub .f32 ca cb) nc) w) := by
  have han : ∀ (w1 w2 : World), (bits BinOp.andNot IntKind.u64 (cvR .f32 (flR .sub .f32 a b w1) .f64 w2 : Int) 9223372036854775808).toNat = cvR .f32 (flR .sub .f32 a b w1) .f64 w2 % 9223372036854775808 := fun w1 w2 => andNot_abs _ (cvR_lt' _ _)
  go_enter Try.func95, Try.ntmps95
  go_wp2
  go_ret
  exact RB.of ((near64 _).trans (nearB_fl (ha.flR hb _) hn))
theorem pairB_self2 {W H : Nat} {n n' : Nat} (h : validB W H n = true) (h' : validB W H n' = true) : pairB W H n W H n' = true := by simp [pairB, h, h']
set_option maxHeartbeats 2000000 in
theorem implCountUnlike_any (W H : Nat) (a : Option Addr) (n c : Nat) (cs : List Nat) (a' : Option Addr) (n' c' : Nat) (cs' : List Nat) (m mc : Nat) (hm : Fl .f32 m mc) (w : World) (hv : FC w (.slice a n c) cs) (hv' : FC w (.slice a' n' c') cs') (b1 : 1 ≤ W) (b2 : W ≤ 24) (b3 : 1 ≤ H) (b4 : H ≤ 24) (b5 : H * W ≤ 256) (hl : cs.length = H * W) (hl' : cs'.length = H * W) :
    Calls Try.prog 73 #[.agg #[.int .i64 W, .int .i64 H, .slice a n c], .agg #[.int .i64 W, .int .i64 H, .slice a' n' c'], .float .f32 m] w (fun e w' => e = .returned (.tuple #[.int .i64 (cntN (unF cs cs' mc) cs.length : Nat), .bool true]) ∧ Below w.heap.size w w') := by
  obtain ⟨rfl, hnc, hcm⟩ := hv.sized
  obtain ⟨rfl, hnc', hcm'⟩ := hv'.sized
  have hval := Lib.hid (pairB_self2 (validB_mk b1 b2 b3 b4 b5 hl) (validB_mk b1 b2 b3 b4 b5 hl'))
  have h1 := fun w1 => isPair_any W H a cs.length c W H a' cs'.length c' w1 hnc hcm hnc' hcm'
  have hll := Lib.hid (hl'.trans hl.symm)
  have h256 : cs.length ≤ 256 := by omega
  clear hl hl'
  go_enter Try.func73, Try.ntmps73
  go_wp2_with fail
  refine (h1 _).mono ?_
  rintro e w1 ⟨rfl, hb1⟩
  rw [hval.out]
  have hP := ((Pv.new w W H (.slice a cs.length c) 29).alloc _).below hb1
  have hQ := (Pv.new (w.alloc (.cells #[.int .i64 W, .int .i64 H, .slice a cs.length c] 29)) W H (.slice a' cs'.length c') 29).below hb1
  have q1 : Below w.heap.size w w1 := (below2 _ _ _).trans (hb1.mono (by simp; omega))
  simp only [World.size_alloc] at hQ
  have hv1 := Lib.hid (hv.below q1)
  have hv1' := Lib.hid (hv'.below q1)
  obtain ⟨l1, p0, p1, p2⟩ := id hP
  obtain ⟨l2, g0, g1, g2⟩ := id hQ
  clear hv hv'
  go_wp2_with fail
  go_loopw [8, 18] (fun s i wr => ∃ k : Nat, k ≤ cs.length ∧ i = .int .i64 k ∧ s = .int .i64 (cntN (unF cs cs' mc) k : Nat) ∧ ∃ nn, wr = w1.drewN nn) (fun _ i _ => cs.length - (intOf i).toNat)
  case atStart => exact ⟨0, Nat.zero_le _, rfl, rfl, 0, rfl⟩
  case round =>
    obtain ⟨k, hk, rfl, rfl, nn, rfl⟩ := hrel
    by_cases hlk : k < cs.length
    · obtain ⟨b1', off1, cc1, z1, ev1, _, _, _, hz1f, hz1c⟩ := hv1.out.cell hlk
      obtain ⟨b2', off2, cc2, z2, ev2, _, _, _, hz2f, hz2c⟩ := hv1'.out.cell (k := k) (by rw [hll.out]; exact hlk)
      simp only [Value.slice.injEq, true_and] at ev1 ev2
      obtain ⟨rfl, rfl⟩ := ev1
      obtain ⟨rfl, rfl⟩ := ev2
      have i1 : (0 : Int) ≤ (k : Int) := Int.natCast_nonneg _
      have i2 : (k : Int) < (cs.length : Int) := by omega
      have i3 : (k : Int) < (cs'.length : Int) := by rw [hll.out]; exact i2
      have i4 : k < cs'.length := by rw [hll.out]; exact hlk
      have hle := cntN_le (unF cs cs' mc) k
      have hn := fun w9 => isNear_any z1 z2 m _ _ mc hz1f hz2f hm w9
      have hU : Hid (nearB (fop .sub .f32 (cs.getD k 0) (cs'.getD k 0)) mc = unF cs cs' mc k) := Lib.hid rfl
      obtain ⟨N, hN⟩ : ∃ N, N = cntN (unF cs cs' mc) k := ⟨_, rfl⟩
      rw [← hN] at hle ⊢
      have i5 : IntKind.i64.wrap ((N : Int) + 1) = ((N + 1 : Nat) : Int) := by rw [IntWalk.i64_in _ (by omega)]; omega
      have hN' := Lib.hid hN
      clear hN hz1f hz2f
      cases hu : unF cs cs' mc k with
      | true =>
        have hu' := Lib.hid hu
        clear hu
        go_wp2_with fail
        refine (hn _).mono ?_
        rintro e w9 ⟨k9, rfl, rfl⟩
        rw [hU.out, hu'.out]
        go_wp2_with fail
        go_roundw
        case rel => exact ⟨k + 1, by omega, by go_num, by rw [cntN_yes hu'.out, ← hN'.out], nn + k9, by simp⟩
        case measure => simp [intOf]; omega
      | false =>
        have hu' := Lib.hid hu
        clear hu
        go_wp2_with fail
        refine (hn _).mono ?_
        rintro e w9 ⟨k9, rfl, rfl⟩
        rw [hU.out, hu'.out]
        go_wp2_with fail
        go_roundw
        case rel => exact ⟨k + 1, by omega, by go_num, by rw [cntN_no hu'.out, ← hN'.out]; rfl, nn + k9, by simp⟩
        case measure => simp [intOf]; omega
    · obtain rfl : k = cs.length := by omega
      go_wp2_with fail
      go_ret2
      exact ⟨rfl, below_drewN q1 _⟩
theorem implCountUnlike_no (W H : Int) (a : Option Addr) (n c : Nat) (W' H' : Int) (a' : Option Addr) (n' c' : Nat) (m : Nat) (w : World) (hnc : n ≤ c) (hcm : c ≤ maxLen) (hnc' : n' ≤ c') (hcm' : c' ≤ maxLen) (hval : pairB W H n W' H' n' = false) :
    Calls Try.prog 73 #[.agg #[.int .i64 W, .int .i64 H, .slice a n c], .agg #[.int .i64 W', .int .i64 H', .slice a' n' c'], .float .f32 m] w (fun e w' => e = .returned (.tuple #[.int .i64 0, .bool false]) ∧ Below w.heap.size w w') := by
  have h1 := fun w1 => isPair_any W H a n c W' H' a' n' c' w1 hnc hcm hnc' hcm'
  have hval := Lib.hid hval
  go_enter Try.func73, Try.ntmps73
  go_wp2_with fail
  refine (h1 _).mono ?_
  rintro e w1 ⟨rfl, hb1⟩
  rw [hval.out]
  go_wp2_with fail
  go_ret2
  exact ⟨rfl, by ((repeat' (first | (refine bel_set ?_ ?_ _) | (refine bel_al ?_ ?_ _) | exact Below.refl _ _ | assumption | (refine below_drewN ?_ _) | (refine Below.drew ?_) | (refine Below.trans ?_ (Below.mono hb1 ?_)))) <;> (first | omega | (simp; done) | (simp; omega)))⟩
end Go.Proofs.Ythchdjfieofeaaa
