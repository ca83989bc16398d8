import Derived.Test.YtgfmcehgecbbaadBase
set_option linter.unusedVariables false
set_option linter.unusedSimpArgs false
namespace Go.Proofs.Ytgfmcehgecbbaad
open Go.FX Go.RowKit

/-- The check number behind some bytes. -/
def chk (c : Nat) (l : List UInt8) : Nat := l.foldl (fun c b => (727 * c + b.toNat + 59) % 65003) c
theorem chk_snoc (c : Nat) (l : List UInt8) (b : UInt8) : chk c (l ++ [b]) = (727 * chk c l + b.toNat + 59) % 65003 := by simp [chk]
theorem chk_lt (c : Nat) (l : List UInt8) (h : c < 65003) : chk c l < 65003 := by
  rcases List.eq_nil_or_concat l with rfl | ⟨l', b, rfl⟩
  · exact h
  · rw [List.concat_eq_append, chk_snoc]; exact Nat.mod_lt _ (by decide)
theorem take_snoc (s : ByteArray) (k : Nat) (h : k < s.size) : s.data.toList.take (k + 1) = s.data.toList.take k ++ [s[k]] := by
  rw [List.take_succ_eq_append_getElem (by simpa using h)]; rfl
theorem chk_step (s : ByteArray) (c k : Nat) (h : k < s.size) : chk c (s.data.toList.take (k + 1)) = (727 * chk c (s.data.toList.take k) + s[k].toNat + 59) % 65003 := by
  rw [take_snoc s k h, chk_snoc]

theorem l01Check_any (c0 : Nat) (s : ByteArray) (w : World) (hc : c0 < 65003) (hs : s.size ≤ 1048576) :
    Calls Try.prog 10 #[.int .i64 c0, .string s] w fun e w' => e = .returned (.int .i64 (chk c0 s.data.toList)) ∧ w = w' := by
  go_enter Try.func10, Try.ntmps10
  go_wp2
  go_loop [0, 5] (fun c i => ∃ k : Nat, k ≤ s.size ∧ i = .int .i64 k ∧ c = .int .i64 (chk c0 (s.data.toList.take k))) (fun _ i => s.size - (intOf i).toNat)
  case atStart => exact ⟨0, Nat.zero_le _, rfl, rfl⟩
  case round =>
    obtain ⟨k, hk, rfl, rfl⟩ := hrel
    have hl := chk_lt c0 (s.data.toList.take k) hc
    by_cases hlt : k < s.size
    · have HS : Hid (chk c0 (s.data.toList.take (k + 1)) = (727 * chk c0 (s.data.toList.take k) + s[k].toNat + 59) % 65003) := chk_step s c0 k hlt
      have hb : s[k].toNat < 256 := s[k].toNat_lt
      go_wp2
      go_round
      case rel => exact ⟨k + 1, by omega, by go_num, by rw [HS.out]; go_num⟩
      case measure => simp [intOf]; omega
    · go_wp2
      go_ret
      exact ⟨ret_int (by rw [List.take_of_length_le (by simp; omega)]), rfl⟩

theorem implCheck_any (c0 : Nat) (s : ByteArray) (w : World) (hc : c0 < 65003) (hs : s.size ≤ 1048576) :
    Calls Try.prog 8 #[.int .i64 c0, .string s] w fun e w' => e = .returned (.tuple #[.int .i64 (chk c0 s.data.toList), .bool true]) ∧ w = w' := by
  go_enter Try.func8, Try.ntmps8
  go_wp2
  go_loop [6, 17] (fun c i => ∃ k : Nat, k ≤ s.size ∧ i = .int .i64 k ∧ c = .int .i64 (chk c0 (s.data.toList.take k))) (fun _ i => s.size - (intOf i).toNat)
  case atStart => exact ⟨0, Nat.zero_le _, rfl, rfl⟩
  case round =>
    obtain ⟨k, hk, rfl, rfl⟩ := hrel
    have hl := chk_lt c0 (s.data.toList.take k) hc
    by_cases hlt : k < s.size
    · have HS : Hid (chk c0 (s.data.toList.take (k + 1)) = (727 * chk c0 (s.data.toList.take k) + s[k].toNat + 59) % 65003) := chk_step s c0 k hlt
      have hb : s[k].toNat < 256 := s[k].toNat_lt
      go_wp2
      go_round
      case rel => exact ⟨k + 1, by omega, by go_num, by rw [HS.out]; go_num⟩
      case measure => simp [intOf]; omega
    · go_wp2
      go_ret2
      exact ⟨ret_intb (by rw [List.take_of_length_le (by simp; omega)]), rfl⟩
theorem implCheck_no (c : Int) (s : ByteArray) (w : World) (hc : c < 0 ∨ 65003 ≤ c) :
    Calls Try.prog 8 #[.int .i64 c, .string s] w fun e w' => e = .returned (.tuple #[.int .i64 0, .bool false]) ∧ w = w' := by
  rcases hc with hc | hc
  all_goals
    go_enter Try.func8, Try.ntmps8
    go_wp2
    go_ret2
    exact ⟨rfl, rfl⟩
theorem specCheck_any (c0 : Nat) (s : ByteArray) (w : World) (hc : c0 < 65003) (hs : s.size ≤ 1048576) :
    Calls Try.prog 7 #[.int .i64 c0, .string s] w fun e w' => e = .returned (.tuple #[.int .i64 (chk c0 s.data.toList), .bool true]) ∧ w = w' := by
  have hd : decide ((c0 : Int) ≤ 65002) = true := by simp; omega
  go_enter Try.func7, Try.ntmps7
  go_wp2_with (first | (go_at_call 10; refine (l01Check_any c0 s _ hc hs).mono ?_; rintro e w' ⟨rfl, rfl⟩) | go_in)
  go_ret2
  exact ⟨rfl, rfl⟩
theorem specCheck_no (c : Int) (s : ByteArray) (w : World) (hc : c < 0 ∨ 65003 ≤ c) :
    Calls Try.prog 7 #[.int .i64 c, .string s] w fun e w' => e = .returned (.tuple #[.int .i64 0, .bool false]) ∧ w = w' := by
  rcases hc with hc | hc
  · go_enter Try.func7, Try.ntmps7
    go_wp2
    go_ret2
    exact ⟨rfl, rfl⟩
  · have hd : decide (c ≤ 65002) = false := by simp; omega
    have h0 : 0 ≤ c := by omega
    go_enter Try.func7, Try.ntmps7
    go_wp2
    go_ret2
    exact ⟨rfl, rfl⟩
end Go.Proofs.Ytgfmcehgecbbaad
