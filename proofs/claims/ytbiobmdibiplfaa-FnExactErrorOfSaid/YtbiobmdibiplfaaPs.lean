import Derived.Test.YtbiobmdibiplfaaPa
import Derived.Deep.DeepCutAuto
import Derived.Deep.QuietTactic
import Derived.BigQuiet
set_option linter.unusedVariables false
set_option linter.unusedSimpArgs false
namespace Go.Proofs.Ytbiobmdibiplfaa
open Go.FX Go.RowKit Go.WideShapes Go.ChangeShapes

theorem specSize_any (W H : Int) (w : World) : Calls Try.prog 132 #[.int .i64 W, .int .i64 H] w fun e w' => e = .returned (.bool (sizeB W H)) ∧ w = w' := by
  by_cases h1 : 1 ≤ W
  · by_cases h2 : W ≤ 24
    · by_cases h3 : 1 ≤ H
      · by_cases h4 : H ≤ 24
        · have a1 := area_lo h1 h3
          have a2 := area_hi h1 h2 h3 h4
          by_cases h5 : W * H ≤ 256
          all_goals
            go_enter Try.func132, Try.ntmps132
            go_wp2
            go_ret
            exact ⟨by simp [sizeB, h1, h2, h3, h4, h5], rfl⟩
        · go_enter Try.func132, Try.ntmps132
          go_wp2
          go_ret
          exact ⟨by simp [sizeB]; intros; omega, rfl⟩
      · go_enter Try.func132, Try.ntmps132
        go_wp2
        go_ret
        exact ⟨by simp [sizeB]; intros; omega, rfl⟩
    · go_enter Try.func132, Try.ntmps132
      go_wp2
      go_ret
      exact ⟨by simp [sizeB]; intros; omega, rfl⟩
  · go_enter Try.func132, Try.ntmps132
    go_wp2
    go_ret
    exact ⟨by simp [sizeB]; intros; omega, rfl⟩

set_option maxHeartbeats 1000000 in
theorem specIs_any (W H : Int) (a : Option Addr) (n c b : Nat) (w : World) (hp : Pv w b W H (.slice a n c)) (hn : n ≤ 9223372036854775807) :
    Calls Try.prog 102 #[.pointer (some ⟨b, 0, none⟩)] w (RB (validB W H n) w) := by
  obtain ⟨hb, q0, q1, q2⟩ := hp
  cases hs : sizeB W H with
  | true =>
    obtain ⟨g1, g2, g3, g4, g5⟩ := sizeB_iff.1 hs
    have a1 := area_lo g1 g3
    by_cases h5 : (n : Int) = W * H
    all_goals
      go_enter Try.func102, Try.ntmps102
      go_wp2_with fail
      go_quiet ((go_at_call 132; exact Calls.quiet_of_same ((specSize_any _ _ _).mono fun _ _ ⟨he, hw⟩ => ⟨he.trans (by rw [hs]), hw.symm⟩)))
      go_wp2
      go_ret
      exact ⟨_, by simp [validB, hs, h5], rfl⟩
  | false =>
    go_enter Try.func102, Try.ntmps102
    go_wp2_with fail
    go_quiet ((go_at_call 132; exact Calls.quiet_of_same ((specSize_any _ _ _).mono fun _ _ ⟨he, hw⟩ => ⟨he.trans (by rw [hs]), hw.symm⟩)))
    go_wp2
    go_ret
    exact ⟨_, by simp [validB, hs], rfl⟩

theorem l00Min_eq (a b r : Int) (hr : r = if a < b then a else b) (w : World) : Calls Try.prog 140 #[.int .i64 a, .int .i64 b] w fun e w' => e = .returned (.int .i64 r) ∧ w' = w := by
  subst hr
  by_cases h : a < b
  all_goals
    go_enter Try.func140, Try.ntmps140
    go_wp2
    go_ret
    exact ⟨by simp [h], rfl⟩
theorem l00Max_eq (a b r : Int) (hr : r = if b < a then a else b) (w : World) : Calls Try.prog 139 #[.int .i64 a, .int .i64 b] w fun e w' => e = .returned (.int .i64 r) ∧ w' = w := by
  subst hr
  by_cases h : b < a
  all_goals
    go_enter Try.func139, Try.ntmps139
    go_wp2
    go_ret
    exact ⟨by simp [h], rfl⟩

set_option maxHeartbeats 1000000 in
theorem specAt_any (W H : Nat) (a : Option Addr) (n c bp : Nat) (cs : List Nat) (x y : Int) (w : World) (hp : Pv w bp W H (.slice a n c)) (hv : FC w (.slice a n c) cs) (b1 : 1 ≤ W) (b2 : W ≤ 24) (b3 : 1 ≤ H) (b4 : H ≤ 24) (hl : cs.length = H * W) :
    Calls Try.prog 128 #[.pointer (some ⟨bp, 0, none⟩), .int .i64 x, .int .i64 y] w (RF .f32 (atC W H cs x y) w) := by
  obtain ⟨rfl, hnc, hcm⟩ := hv.sized
  obtain ⟨_, q0, q1, q2⟩ := hp
  obtain ⟨u, hu⟩ : ∃ u : Nat, nearI (W - 1) x = u := Int.eq_ofNat_of_zero_le (nearI_ge _ _ (by omega))
  obtain ⟨t, ht⟩ : ∃ t : Nat, nearI (H - 1) y = t := Int.eq_ofNat_of_zero_le (nearI_ge _ _ (by omega))
  have hul := nearI_le ((W : Int) - 1) x (by omega)
  have htl := nearI_le ((H : Int) - 1) y (by omega)
  rw [hu] at hul
  rw [ht] at htl
  have hat : atC W H cs x y = cs.getD (u + W * t) 0 := by
    unfold atC
    rw [hu, ht]
    congr 1
  have hlt : u + W * t < cs.length := by
    have h1 : t * W + W ≤ H * W := by rw [← Nat.succ_mul]; exact Nat.mul_le_mul_right _ (by omega)
    rw [hl, Nat.mul_comm W t]; omega
  have hwt : (W : Int) * (t : Int) = ((W * t : Nat) : Int) := by rw [Int.natCast_mul]
  have hwt2 : W * t ≤ 24 * 24 := Nat.mul_le_mul b2 (by omega)
  obtain ⟨b, off, c, z, ev, _, _, hb, hz, hcell⟩ := hv.cell hlt
  simp only [Value.slice.injEq, true_and] at ev
  obtain ⟨rfl, rfl⟩ := ev
  rw [← hat] at hz
  have Hz := Lib.hid hz
  obtain ⟨mx, hmx⟩ : ∃ m, m = if (W : Int) - 1 < x then (W : Int) - 1 else x := ⟨_, rfl⟩
  obtain ⟨my, hmy⟩ : ∃ m, m = if (H : Int) - 1 < y then (H : Int) - 1 else y := ⟨_, rfl⟩
  have hu' : (u : Int) = if mx < 0 then 0 else mx := by rw [hmx, ← hu]; unfold nearI; split <;> (try split) <;> (try split) <;> omega
  have ht' : (t : Int) = if my < 0 then 0 else my := by rw [hmy, ← ht]; unfold nearI; split <;> (try split) <;> (try split) <;> omega
  have c1 := fun w1 => l00Min_eq _ _ mx hmx w1
  have c2 := fun w1 => l00Min_eq _ _ my hmy w1
  have c3 := fun w1 => l00Max_eq 0 mx u hu' w1
  have c4 := fun w1 => l00Max_eq 0 my t ht' w1
  generalize hq : W * t = wt at hlt hwt hwt2 hcell
  have g1 : IntKind.i64.wrap ((u : Int) + (wt : Int)) = (u : Int) + (wt : Int) := IntWalk.i64_in _ (by omega)
  have g2 : (0 : Int) ≤ (u : Int) + (wt : Int) := by omega
  have g3 : (u : Int) + (wt : Int) < (cs.length : Int) := by omega
  have g4 : ((u : Int) + (wt : Int)).toNat = u + wt := by omega
  clear hz hat hu ht hmx hmy hu' ht' hv hq hl
  go_enter Try.func128, Try.ntmps128
  go_wp2_with (first
    | (go_at_call 140; refine (c1 _).mono ?_; rintro e w1 ⟨rfl, rfl⟩)
    | (go_at_call 139; refine (c3 _).mono ?_; rintro e w1 ⟨rfl, rfl⟩))
  go_quiet ((first
    | (go_at_call 140; exact Calls.quiet_of_same (c2 _))
    | (go_at_call 139; exact Calls.quiet_of_same (c4 _))))
  trace_state
  go_wp2
  go_ret
  exact ⟨_, _, rfl, rfl, Hz.out⟩

end Go.Proofs.Ytbiobmdibiplfaa
