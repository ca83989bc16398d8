import Derived.Test.YtgfmcehgecbbaadBase
import Derived.Test.YtgfmcehgecbbaadHeld
set_option linter.unusedVariables false
set_option linter.unusedSimpArgs false
namespace Go.Proofs.Ytgfmcehgecbbaad
open Go.FX Go.RowKit

def lower (b : UInt8) : Bool := decide (97 ≤ b.toNat) && decide (b.toNat ≤ 122)
def nameB (s : ByteArray) : Bool := (decide (1 ≤ s.size) && decide (s.size ≤ 8)) && s.data.toList.all lower
theorem take_snoc' (s : ByteArray) (k : Nat) (h : k < s.size) : s.data.toList.take (k + 1) = s.data.toList.take k ++ [s[k]] := by
  rw [List.take_succ_eq_append_getElem (by simpa using h)]; rfl
theorem all_step (s : ByteArray) (k : Nat) (h : k < s.size) : (s.data.toList.take (k + 1)).all lower = ((s.data.toList.take k).all lower && lower s[k]) := by
  rw [take_snoc' s k h]; simp
theorem not_all (s : ByteArray) (k : Nat) (h : k < s.size) (hb : lower s[k] = false) : s.data.toList.all lower = false := by
  have e : s.data.toList = s.data.toList.take (k + 1) ++ s.data.toList.drop (k + 1) := (List.take_append_drop _ _).symm
  rw [e, List.all_append, all_step s k h, hb]; simp
theorem all_whole (s : ByteArray) (k : Nat) (h : ¬ k < s.size) (hb : (s.data.toList.take k).all lower = true) : s.data.toList.all lower = true := by
  rw [List.take_of_length_le (by simp; omega)] at hb; exact hb
theorem lower_no {b : UInt8} (h : lower b = false) : b.toNat < 97 ∨ 122 < b.toNat := by
  unfold lower at h; simp at h; omega
theorem lower_yes {b : UInt8} (h : lower b = true) : 97 ≤ b.toNat ∧ b.toNat ≤ 122 := by
  unfold lower at h; simpa using h

theorem implName_any (s : ByteArray) (w : World) (hs : s.size ≤ 1048576) : Calls Try.prog 6 #[.string s] w (RBb (nameB s) w) := by
  by_cases c1 : 1 ≤ s.size
  · by_cases c2 : s.size ≤ 8
    · have e : Hid (nameB s = s.data.toList.all lower) := Lib.hid (by unfold nameB; simp [c1, c2])
      go_enter Try.func6, Try.ntmps6
      go_wp2
      go_loopw [] (fun w' => ∃ pos, w' = w.iter s pos ∧ pos ≤ s.size ∧ (s.data.toList.take pos).all lower = true) (fun w' => s.size - w'.iterPos w.heap.size)
      case atStart => exact ⟨0, rfl, Nat.zero_le _, rfl⟩
      case round =>
        obtain ⟨pos, rfl, hk, ha⟩ := hrel
        by_cases hp : pos < s.size
        · by_cases hb : lower s[pos] = true
          · have hbb := lower_yes hb
            have hn1 := run_next_ascii (P := Try.prog) w s pos
            have hnx : ∀ ty, (Instr.next (.pointer (some ⟨w.heap.size, 0, none⟩)) true ty).run Try.prog (w.iter s pos) = _ := fun ty => hn1 ty hp (by omega)
            have hst := all_step s pos hp
            rw [ha, hb] at hst
            have HS := Lib.hid hst
            clear hst hn1 ha
            go_wp2
            go_roundw
            case rel => exact ⟨pos + 1, rfl, by omega, HS.out⟩
            case measure => simp; omega
          · have hb' : lower s[pos] = false := by simpa using hb
            have hna : Hid (s.data.toList.all lower = false) := Lib.hid (not_all s pos hp hb')
            have hbn := lower_no hb'
            by_cases hlow : s[pos].toNat < 128
            · have hn1 := run_next_ascii (P := Try.prog) w s pos
              have hnx : ∀ ty, (Instr.next (.pointer (some ⟨w.heap.size, 0, none⟩)) true ty).run Try.prog (w.iter s pos) = _ := fun ty => hn1 ty hp hlow
              clear hn1 ha
              rcases hbn with hbn | hbn
              all_goals
                go_wp2
                go_ret
                exact ⟨congrArg (fun b => Ending.returned (.bool b)) (by rw [e.out, hna.out]), below1 _ _⟩
            · have hh := (decode_high s pos hp (by omega)).1
              have hnx : ∀ ty, (Instr.next (.pointer (some ⟨w.heap.size, 0, none⟩)) true ty).run Try.prog (w.iter s pos) = _ := fun ty => run_next_any w s pos ty hp
              clear ha
              go_wp2
              go_ret
              exact ⟨congrArg (fun b => Ending.returned (.bool b)) (by rw [e.out, hna.out]), below1 _ _⟩
        · have hnx : ∀ ty, (Instr.next (.pointer (some ⟨w.heap.size, 0, none⟩)) true ty).run Try.prog (w.iter s pos) = _ := fun ty => run_next_end w s pos ty hp
          have hall : Hid (s.data.toList.all lower = true) := Lib.hid (all_whole s pos hp ha)
          clear ha
          go_wp2
          go_ret
          exact ⟨congrArg (fun b => Ending.returned (.bool b)) (by rw [e.out, hall.out]), below1 _ _⟩
    · have e : Hid (nameB s = false) := Lib.hid (by unfold nameB; simp [c2])
      go_enter Try.func6, Try.ntmps6
      go_wp2
      go_ret
      exact ⟨congrArg (fun b => Ending.returned (.bool b)) (by rw [e.out]), Below.refl _ _⟩
  · have e : Hid (nameB s = false) := Lib.hid (by unfold nameB; simp [c1])
    have c1' : s.size = 0 := by omega
    have h0 : ((s.size : Int) < 1) := by omega
    clear c1'
    go_enter Try.func6, Try.ntmps6
    go_wp2
    go_ret
    exact ⟨congrArg (fun b => Ending.returned (.bool b)) (by rw [e.out]), Below.refl _ _⟩
theorem specName_any (s : ByteArray) (w : World) (hs : s.size ≤ 1048576) : Calls Try.prog 5 #[.string s] w (RBb (nameB s) w) := by
  go_enter Try.func5, Try.ntmps5
  go_wp2
  go_loop [3] (fun i => ∃ k : Nat, k ≤ s.size ∧ i = .int .i64 k ∧ (s.data.toList.take k).all lower = true) (fun i => s.size - (intOf i).toNat)
  case atStart => exact ⟨0, Nat.zero_le _, rfl, rfl⟩
  case round =>
    obtain ⟨k, hk, rfl, ha⟩ := hrel
    by_cases hlt : k < s.size
    · by_cases hb : lower s[k] = true
      · have hbb := lower_yes hb
        have hst := all_step s k hlt
        rw [ha, hb] at hst
        have HS := Lib.hid hst
        clear hst ha
        go_wp2
        go_round
        case rel => exact ⟨k + 1, by omega, by go_num, HS.out⟩
        case measure => simp [intOf]; omega
      · have hb' : lower s[k] = false := by simpa using hb
        have e : Hid (nameB s = false) := Lib.hid (by unfold nameB; rw [not_all s k hlt hb']; simp)
        have hbn := lower_no hb'
        clear ha
        rcases hbn with hbn | hbn
        all_goals
          go_wp2
          go_ret
          exact ⟨congrArg (fun b => Ending.returned (.bool b)) (by rw [e.out]), Below.refl _ _⟩
    · have e : Hid (nameB s = (decide (1 ≤ s.size) && decide (s.size ≤ 8))) := Lib.hid (by unfold nameB; rw [all_whole s k hlt ha]; simp)
      clear ha
      by_cases c1 : 1 ≤ s.size <;> by_cases c2 : s.size ≤ 8
      all_goals try (exfalso; omega)
      all_goals
        go_wp2
        go_ret
        exact ⟨congrArg (fun b => Ending.returned (.bool b)) (by rw [e.out] <;> first | (simp [c1, c2]; done) | (simp [c1, c2]; omega) | (simp; omega)), Below.refl _ _⟩
end Go.Proofs.Ytgfmcehgecbbaad
