import Derived.Test.YtgfmcehgecbbaabFs
set_option linter.unusedVariables false
set_option linter.unusedSimpArgs false
namespace Go.FX
open Go Go.RowKit
def dotAt (za zb : List Nat) : Nat → Nat
  | 0 => 0
  | k + 1 => fop .add .f32 (dotAt za zb k) (fop .mul .f32 (cn .f32 (za.getD k 0)) (cn .f32 (zb.getD k 0)))
@[go_sem] theorem floatOfInt_zero32 : floatOfInt .f32 0 = 0 := by decide
end Go.FX
namespace Go.Proofs.Ytgfmcehgecbbaab
open Go.FX Go.RowKit

set_option maxHeartbeats 1000000 in
theorem l01Dot_any (va vb : Value) (za zb : List Nat) (w : World) (ha : FS w va za) (hb : FS w vb zb) (hab : za.length = zb.length) (hn : za.length ≤ 256) :
    Calls Try.prog 48 #[va, vb] w (RF .f32 (dotAt za zb za.length) w) := by
  have ha0 := ha
  have hb0 := hb
  obtain ⟨_, a, cap, rfl, h1, h2, _⟩ := ha
  obtain ⟨_, b, cap2, rfl, g1, g2, _⟩ := hb
  unfold maxLen at h2 g2
  rw [← hab] at g1 ⊢
  have hab' := Lib.hid hab
  clear hab
  go_enter Try.func48, Try.ntmps48
  go_wp2
  go_loopw [5, 6] (fun s i wr => ∃ (k r n : Nat), k ≤ za.length ∧ i = .int .i64 k ∧ s = .float .f32 r ∧ wr = w.drewN n ∧ Fl .f32 r (dotAt za zb k)) (fun _ i _ => za.length - (intOf i).toNat)
  case atStart => exact ⟨0, 0, 0, Nat.zero_le _, rfl, rfl, rfl, ⟨by decide, by show cn .f32 0 = 0; decide⟩⟩
  case round =>
    obtain ⟨k, r, n, hk, rfl, rfl, rfl, hr⟩ := hrel
    by_cases hlt : k < za.length
    · obtain ⟨b1, off1, c1, x, ev, _, _, _, ex, lx, hc1⟩ := ha0.cell hlt
      obtain ⟨b2, off2, c2, y, ev2, _, _, _, ey, ly, hc2⟩ := hb0.cell (by have := hab'.out; omega : k < zb.length)
      simp only [Value.slice.injEq] at ev ev2
      obtain ⟨rfl, _, rfl⟩ := ev
      obtain ⟨rfl, _, rfl⟩ := ev2
      have hst : ∀ w1 w2, Fl .f32 (flR .add .f32 r (flR .mul .f32 x y w1) w2) (dotAt za zb (k + 1)) := fun w1 w2 => by
        show Fl .f32 _ (fop .add .f32 (dotAt za zb k) (fop .mul .f32 (cn .f32 (za.getD k 0)) (cn .f32 (zb.getD k 0))))
        rw [← ex, ← ey]
        exact hr.flR ((Fl.of lx).flR (Fl.of ly) w1) w2
      have HS := Lib.hid hst
      clear hst ex ey
      go_wp2
      go_region
      all_goals
        go_wp2_with fail
        go_roundw
        case rel => exact ⟨k + 1, _, _, by omega, by go_num, rfl, rfl, HS.out _ _⟩
        case measure => simp [intOf]; omega
    · have ek : k = za.length := by omega
      rw [ek] at hr
      clear ek
      go_wp2
      go_ret
      exact ⟨_, _, rfl, rfl, hr⟩

set_option maxHeartbeats 1000000 in
theorem implDot32_any (va vb : Value) (za zb : List Nat) (w : World) (ha : FS w va za) (hb : FS w vb zb) (hab : za.length = zb.length) (hn : za.length ≤ 256) :
    Calls Try.prog 49 #[va, vb] w (RFB .f32 (dotAt za zb za.length) true w) := by
  have ha0 := ha
  have hb0 := hb
  obtain ⟨_, a, cap, rfl, h1, h2, _⟩ := ha
  obtain ⟨_, b, cap2, rfl, g1, g2, _⟩ := hb
  unfold maxLen at h2 g2
  rw [← hab] at g1 ⊢
  have hab' := Lib.hid hab
  clear hab
  go_enter Try.func49, Try.ntmps49
  go_wp2
  go_loopw [6, 21] (fun s i wr => ∃ (k r n : Nat), k ≤ za.length ∧ i = .int .i64 k ∧ s = .float .f32 r ∧ wr = w.drewN n ∧ Fl .f32 r (dotAt za zb k)) (fun _ i _ => za.length - (intOf i).toNat)
  case atStart => exact ⟨0, 0, 0, Nat.zero_le _, rfl, rfl, rfl, ⟨by decide, by show cn .f32 0 = 0; decide⟩⟩
  case round =>
    obtain ⟨k, r, n, hk, rfl, rfl, rfl, hr⟩ := hrel
    by_cases hlt : k < za.length
    · obtain ⟨b1, off1, c1, x, ev, _, _, _, ex, lx, hc1⟩ := ha0.cell hlt
      obtain ⟨b2, off2, c2, y, ev2, _, _, _, ey, ly, hc2⟩ := hb0.cell (by have := hab'.out; omega : k < zb.length)
      simp only [Value.slice.injEq] at ev ev2
      obtain ⟨rfl, _, rfl⟩ := ev
      obtain ⟨rfl, _, rfl⟩ := ev2
      have hst : ∀ w1 w2, Fl .f32 (flR .add .f32 r (flR .mul .f32 x y w1) w2) (dotAt za zb (k + 1)) := fun w1 w2 => by
        show Fl .f32 _ (fop .add .f32 (dotAt za zb k) (fop .mul .f32 (cn .f32 (za.getD k 0)) (cn .f32 (zb.getD k 0))))
        rw [← ex, ← ey]
        exact hr.flR ((Fl.of lx).flR (Fl.of ly) w1) w2
      have HS := Lib.hid hst
      clear hst ex ey
      go_wp2
      go_region
      all_goals
        go_wp2_with fail
        go_roundw
        case rel => exact ⟨k + 1, _, _, by omega, by go_num, rfl, rfl, HS.out _ _⟩
        case measure => simp [intOf]; omega
    · have ek : k = za.length := by omega
      rw [ek] at hr
      clear ek
      go_wp2
      go_ret2
      exact ⟨_, _, rfl, rfl, hr⟩

theorem implDot_any (va vb : Value) (za zb : List Nat) (w : World) (ha : FS w va za) (hb : FS w vb zb) (hab : za.length = zb.length) (hn : za.length ≤ 256) :
    Calls Try.prog 25 #[va, vb] w (RFB .f32 (dotAt za zb za.length) true w) := by
  have s1 := fun w ha hb => implDot32_any va vb za zb w ha hb hab hn
  have ha0 := ha
  have hb0 := hb
  obtain ⟨_, a, cap, rfl, h1, h2, _⟩ := ha
  obtain ⟨_, b, cap2, rfl, g1, g2, _⟩ := hb
  unfold maxLen at h2 g2
  rw [← hab] at g1 s1 hb0 ⊢
  clear hab
  have hd : decide ((za.length : Int) ≤ 256) = true := by simp; omega
  go_enter Try.func25, Try.ntmps25
  go_wp2_with (first | (go_at_call 49; refine (s1 _ ha0 hb0).mono ?_; rintro e w' ⟨r, n, rfl, rfl, hr⟩) | go_in)
  go_ret2
  exact ⟨_, _, rfl, rfl, hr⟩
theorem implDot_no (va vb : Value) (za zb : List Nat) (w : World) (ha : FS w va za) (hb : FS w vb zb) (hno : za.length ≠ zb.length ∨ 256 < za.length) (hb1 : za.length ≤ 1048576) (hb2 : zb.length ≤ 1048576) :
    Calls Try.prog 25 #[va, vb] w (RFB .f32 0 false w) := by
  obtain ⟨_, a, cap, rfl, h1, h2, _⟩ := ha
  obtain ⟨_, b, cap2, rfl, g1, g2, _⟩ := hb
  unfold maxLen at h2 g2
  by_cases hlong : za.length ≤ 256
  · have hne : ((za.length : Int) == (zb.length : Int)) = false := by simp; omega
    have hne2 : ((za.length : Int) != (zb.length : Int)) = true := by simp; omega
    have hd : decide ((za.length : Int) ≤ 256) = true := by simp; omega
    clear hno
    go_enter Try.func25, Try.ntmps25
    go_wp2
    go_ret2
    exact RFB.of0 (by decide) (by decide) rfl
  · have hd : decide ((za.length : Int) ≤ 256) = false := by simp; omega
    by_cases hl2 : za.length = zb.length
    · rw [← hl2] at g1 ⊢
      clear hl2 hno
      go_enter Try.func25, Try.ntmps25
      go_wp2
      go_ret2
      exact RFB.of0 (by decide) (by decide) rfl
    · have hne : ((za.length : Int) == (zb.length : Int)) = false := by simp; omega
      have hne2 : ((za.length : Int) != (zb.length : Int)) = true := by simp; omega
      clear hl2 hno
      go_enter Try.func25, Try.ntmps25
      go_wp2
      go_ret2
      exact RFB.of0 (by decide) (by decide) rfl

theorem specDot_any (va vb : Value) (za zb : List Nat) (w : World) (ha : FS w va za) (hb : FS w vb zb) (hab : za.length = zb.length) (hn : za.length ≤ 256) :
    Calls Try.prog 24 #[va, vb] w (RFB .f32 (dotAt za zb za.length) true w) := by
  have s1 := fun w ha hb => l01Dot_any va vb za zb w ha hb hab hn
  have ha0 := ha
  have hb0 := hb
  obtain ⟨_, a, cap, rfl, h1, h2, _⟩ := ha
  obtain ⟨_, b, cap2, rfl, g1, g2, _⟩ := hb
  unfold maxLen at h2 g2
  rw [← hab] at g1 s1 hb0 ⊢
  clear hab
  have hd : decide ((za.length : Int) ≤ 256) = true := by simp; omega
  go_enter Try.func24, Try.ntmps24
  go_wp2_with (first | (go_at_call 48; refine (s1 _ ha0 hb0).mono ?_; rintro e w' ⟨r, n, rfl, rfl, hr⟩) | go_in)
  go_ret2
  exact ⟨_, _, rfl, rfl, hr⟩
theorem specDot_no (va vb : Value) (za zb : List Nat) (w : World) (ha : FS w va za) (hb : FS w vb zb) (hno : za.length ≠ zb.length ∨ 256 < za.length) (hb1 : za.length ≤ 1048576) (hb2 : zb.length ≤ 1048576) :
    Calls Try.prog 24 #[va, vb] w (RFB .f32 0 false w) := by
  obtain ⟨_, a, cap, rfl, h1, h2, _⟩ := ha
  obtain ⟨_, b, cap2, rfl, g1, g2, _⟩ := hb
  unfold maxLen at h2 g2
  by_cases hlong : za.length ≤ 256
  · have hne : ((za.length : Int) == (zb.length : Int)) = false := by simp; omega
    have hne2 : ((za.length : Int) != (zb.length : Int)) = true := by simp; omega
    have hd : decide ((za.length : Int) ≤ 256) = true := by simp; omega
    clear hno
    go_enter Try.func24, Try.ntmps24
    go_wp2
    go_ret2
    exact RFB.of0 (by decide) (by decide) rfl
  · have hd : decide ((za.length : Int) ≤ 256) = false := by simp; omega
    by_cases hl2 : za.length = zb.length
    · rw [← hl2] at g1 ⊢
      clear hl2 hno
      go_enter Try.func24, Try.ntmps24
      go_wp2
      go_ret2
      exact RFB.of0 (by decide) (by decide) rfl
    · have hne : ((za.length : Int) == (zb.length : Int)) = false := by simp; omega
      have hne2 : ((za.length : Int) != (zb.length : Int)) = true := by simp; omega
      clear hl2 hno
      go_enter Try.func24, Try.ntmps24
      go_wp2
      go_ret2
      exact RFB.of0 (by decide) (by decide) rfl
end Go.Proofs.Ytgfmcehgecbbaab
