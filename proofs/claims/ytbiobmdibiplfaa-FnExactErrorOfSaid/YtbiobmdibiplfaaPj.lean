import Derived.Test.YtbiobmdibiplfaaPl
import Derived.Test.YtbiobmdibiplfaaPi
import Derived.Test.YtbiobmdibiplfaaPq
import Derived.Test.YtbiobmdibiplfaaRc
import Derived.IntWalk
set_option linter.unusedVariables false
set_option linter.unusedSimpArgs false
namespace Go.Proofs.Ytbiobmdibiplfaa
open Go.FX Go.RowKit Go.WideShapes Go.ChangeShapes

/-- Two valid pictures of one size. -/
def pairB (W H : Int) (n : Nat) (W' H' : Int) (n' : Nat) : Bool := validB W H n && (validB W' H' n' && (decide (W = W') && decide (H = H')))
set_option maxHeartbeats 1000000 in
theorem isPair_any (W H : Int) (a : Option Addr) (n c : Nat) (W' H' : Int) (a' : Option Addr) (n' c' : Nat) (w : World) (hnc : n ≤ c) (hcm : c ≤ maxLen) (hnc' : n' ≤ c') (hcm' : c' ≤ maxLen) :
    Calls Try.prog 76 #[.agg #[.int .i64 W, .int .i64 H, .slice a n c], .agg #[.int .i64 W', .int .i64 H', .slice a' n' c']] w (RBb (pairB W H n W' H' n') w) := by
  have h1 := fun w1 => validPic_any W H (.slice a n c) n w1 ⟨a, c, rfl, hnc, hcm⟩
  have h2 := fun w1 => validPic_any W' H' (.slice a' n' c') n' w1 ⟨a', c', rfl, hnc', hcm'⟩
  cases v1 : validB W H n with
  | false =>
    have o1 := Lib.hid v1
    go_enter Try.func76, Try.ntmps76
    go_wp2_with fail
    refine (h1 _).mono ?_
    rintro e w1 ⟨rfl, hb1⟩
    rw [o1.out]
    have s1 := hb1.size; simp only [World.size_alloc] at s1
    go_wp2_with fail
    go_ret
    exact ⟨by simp [pairB, v1], by ((repeat' (first | (refine bel_set ?_ ?_ _) | (refine bel_al ?_ ?_ _) | exact Below.refl _ _ | assumption | (refine below_drewN ?_ _) | (refine Below.drew ?_) | (refine Below.trans ?_ (Below.mono hb1 ?_)))) <;> (first | omega | (simp; done) | (simp; omega)))⟩
  | true =>
    have o1 := Lib.hid v1
    have hQ0 := fun w1 (h : Below ((w.alloc (.cells #[.int .i64 W, .int .i64 H, .slice a n c] 27)).alloc (.cells #[.int .i64 W', .int .i64 H', .slice a' n' c'] 27)).heap.size ((w.alloc (.cells #[.int .i64 W, .int .i64 H, .slice a n c] 27)).alloc (.cells #[.int .i64 W', .int .i64 H', .slice a' n' c'] 27)) w1) => (Pv.new (w.alloc (.cells #[.int .i64 W, .int .i64 H, .slice a n c] 27)) W' H' (.slice a' n' c') 27).below h
    simp only [World.size_alloc] at hQ0
    cases v2 : validB W' H' n' with
    | false =>
      have o2 := Lib.hid v2
      go_enter Try.func76, Try.ntmps76
      go_wp2_with fail
      refine (h1 _).mono ?_
      rintro e w1 ⟨rfl, hb1⟩
      rw [o1.out]
      have hQ := hQ0 _ (by simpa using hb1)
      have s1 := hb1.size; simp only [World.size_alloc] at s1
      obtain ⟨l1, q0, q1, q2⟩ := id hQ
      go_wp2_with fail
      refine (h2 _).mono ?_
      rintro e w2 ⟨rfl, hb2⟩
      rw [o2.out]
      have s2 := hb2.size
      go_wp2_with fail
      go_ret
      exact ⟨by simp [pairB, v1, v2], by ((repeat' (first | (refine bel_set ?_ ?_ _) | (refine bel_al ?_ ?_ _) | exact Below.refl _ _ | assumption | (refine below_drewN ?_ _) | (refine Below.drew ?_) | (refine Below.trans ?_ (Below.mono hb2 ?_)) | (refine Below.trans ?_ (Below.mono hb1 ?_)))) <;> (first | omega | (simp; done) | (simp; omega)))⟩
    | true =>
      have o2 := Lib.hid v2
      by_cases e1 : W = W'
      · subst e1
        by_cases e2 : H = H'
        · subst e2
          go_enter Try.func76, Try.ntmps76
          go_wp2_with fail
          refine (h1 _).mono ?_
          rintro e w1 ⟨rfl, hb1⟩
          rw [o1.out]
          have hQ := hQ0 _ (by simpa using hb1)
          have hP := ((Pv.new _ _ _ _ _).alloc _).below hb1
          have s1 := hb1.size; simp only [World.size_alloc] at s1
          obtain ⟨l1, q0, q1, q2⟩ := id hQ
          go_wp2_with fail
          refine (h2 _).mono ?_
          rintro e w2 ⟨rfl, hb2⟩
          rw [o2.out]
          have s2 := hb2.size
          obtain ⟨l2, r0, r1, r2⟩ := hQ.below hb2
          obtain ⟨l3, p0, p1, p2⟩ := hP.below hb2
          go_wp2_with fail
          go_ret
          exact ⟨by simp [pairB, v1, v2], by ((repeat' (first | (refine bel_set ?_ ?_ _) | (refine bel_al ?_ ?_ _) | exact Below.refl _ _ | assumption | (refine below_drewN ?_ _) | (refine Below.drew ?_) | (refine Below.trans ?_ (Below.mono hb2 ?_)) | (refine Below.trans ?_ (Below.mono hb1 ?_)))) <;> (first | omega | (simp; done) | (simp; omega)))⟩
        · have f1 : (H == H') = false := by simpa using e2
          have f2 : decide (H = H') = false := by simpa using e2
          have ee := Lib.hid e2
          clear e2
          go_enter Try.func76, Try.ntmps76
          go_wp2_with fail
          refine (h1 _).mono ?_
          rintro e w1 ⟨rfl, hb1⟩
          rw [o1.out]
          have hQ := hQ0 _ (by simpa using hb1)
          have hP := ((Pv.new _ _ _ _ _).alloc _).below hb1
          have s1 := hb1.size; simp only [World.size_alloc] at s1
          obtain ⟨l1, q0, q1, q2⟩ := id hQ
          go_wp2_with fail
          refine (h2 _).mono ?_
          rintro e w2 ⟨rfl, hb2⟩
          rw [o2.out]
          have s2 := hb2.size
          obtain ⟨l2, r0, r1, r2⟩ := hQ.below hb2
          obtain ⟨l3, p0, p1, p2⟩ := hP.below hb2
          go_wp2_with fail
          go_ret
          exact ⟨by simp [pairB, v1, v2, f2], by ((repeat' (first | (refine bel_set ?_ ?_ _) | (refine bel_al ?_ ?_ _) | exact Below.refl _ _ | assumption | (refine below_drewN ?_ _) | (refine Below.drew ?_) | (refine Below.trans ?_ (Below.mono hb2 ?_)) | (refine Below.trans ?_ (Below.mono hb1 ?_)))) <;> (first | omega | (simp; done) | (simp; omega)))⟩
      · have f1 : (W == W') = false := by simpa using e1
        have f2 : decide (W = W') = false := by simpa using e1
        have ee := Lib.hid e1
        clear e1
        go_enter Try.func76, Try.ntmps76
        go_wp2_with fail
        refine (h1 _).mono ?_
        rintro e w1 ⟨rfl, hb1⟩
        rw [o1.out]
        have hQ := hQ0 _ (by simpa using hb1)
        have hP := ((Pv.new _ _ _ _ _).alloc _).below hb1
        have s1 := hb1.size; simp only [World.size_alloc] at s1
        obtain ⟨l1, q0, q1, q2⟩ := id hQ
        go_wp2_with fail
        refine (h2 _).mono ?_
        rintro e w2 ⟨rfl, hb2⟩
        rw [o2.out]
        have s2 := hb2.size
        obtain ⟨l2, r0, r1, r2⟩ := hQ.below hb2
        obtain ⟨l3, p0, p1, p2⟩ := hP.below hb2
        go_wp2_with fail
        go_ret
        exact ⟨by simp [pairB, v1, v2, f2], by ((repeat' (first | (refine bel_set ?_ ?_ _) | (refine bel_al ?_ ?_ _) | exact Below.refl _ _ | assumption | (refine below_drewN ?_ _) | (refine Below.drew ?_) | (refine Below.trans ?_ (Below.mono hb2 ?_)) | (refine Below.trans ?_ (Below.mono hb1 ?_)))) <;> (first | omega | (simp; done) | (simp; omega)))⟩
set_option maxRecDepth 100000 in
set_option maxHeartbeats 4000000 in
theorem specTwo_any (W H : Int) (a : Option Addr) (n c b : Nat) (W' H' : Int) (a' : Option Addr) (n' c' b' : Nat) (w : World) (hp : Pv w b W H (.slice a n c)) (hp' : Pv w b' W' H' (.slice a' n' c')) (hbb : b ≠ b') (hn : n ≤ 9223372036854775807) (hn' : n' ≤ 9223372036854775807) :
    Calls Try.prog 73 #[.pointer (some ⟨b, 0, none⟩), .pointer (some ⟨b', 0, none⟩)] w (RB (pairB W H n W' H' n') w) := by
  obtain ⟨ok, hok⟩ : ∃ ok : Nat → Bool, ok = fun p => if p = b then validB W H n else validB W' H' n' := ⟨_, rfl⟩
  have ho1 : ok b = validB W H n := by rw [hok]; simp
  have ho2 : ok b' = validB W' H' n' := by rw [hok]; simp [hbb.symm]
  have hall : ∀ k p, (p = b ∨ p = b') → Calls Try.prog 102 #[.pointer (some ⟨p, 0, none⟩)] (w.drewN k) (RB (ok p) (w.drewN k)) := fun k p hpb => by
    rcases hpb with rfl | rfl
    · rw [ho1]; exact specIs_any W H a n c _ (w.drewN k) (hp.drewN k) hn
    · rw [ho2]; exact specIs_any W' H' a' n' c' _ (w.drewN k) (hp'.drewN k) hn'
  obtain ⟨_, p0, p1, p2⟩ := id hp
  obtain ⟨_, q0, q1, q2⟩ := id hp'
  clear hp hp' hok
  cases v1 : validB W H n with
  | false =>
    have o1 := Lib.hid (ho1.trans v1)
    have o2 := o1
    clear ho1 ho2
    go_enter Try.func73, Try.ntmps73
    go_wp2_with fail
    go_quiet ((go_at_call 102; exact Calls.quiet_of ((hall _ _ (by first | exact .inl rfl | exact .inr rfl)).mono fun _ _ ⟨m, he, hw⟩ => ⟨he.trans (by first | rw [o1.out] | rw [o2.out]), m, hw⟩)))
    go_wp2
    go_ret
    exact ⟨_, by simp [pairB, v1], rfl⟩
  | true =>
    have o1 := Lib.hid (ho1.trans v1)
    cases v2 : validB W' H' n' with
    | false =>
      have o2 := Lib.hid (ho2.trans v2)
      clear ho1 ho2
      go_enter Try.func73, Try.ntmps73
      go_wp2_with fail
      go_quiet ((go_at_call 102; exact Calls.quiet_of ((hall _ _ (by first | exact .inl rfl | exact .inr rfl)).mono fun _ _ ⟨m, he, hw⟩ => ⟨he.trans (by first | rw [o1.out] | rw [o2.out]), m, hw⟩)))
      go_wp2
      go_ret
      exact ⟨_, by simp [pairB, v1, v2], rfl⟩
    | true =>
      have o2 := Lib.hid (ho2.trans v2)
      clear ho1 ho2
      by_cases e1 : W = W'
      · subst e1
        by_cases e2 : H = H'
        · subst e2
          go_enter Try.func73, Try.ntmps73
          go_wp2_with fail
          go_quiet ((go_at_call 102; exact Calls.quiet_of ((hall _ _ (by first | exact .inl rfl | exact .inr rfl)).mono fun _ _ ⟨m, he, hw⟩ => ⟨he.trans (by first | rw [o1.out] | rw [o2.out]), m, hw⟩)))
          go_wp2
          go_ret
          exact ⟨_, by simp [pairB, v1, v2], rfl⟩
        ·
          have f1 : (H == H') = false := by simpa using e2
          have f2 : decide (H = H') = false := by simpa using e2
          have ee := Lib.hid e2
          clear e2
          go_enter Try.func73, Try.ntmps73
          go_wp2_with fail
          go_quiet ((go_at_call 102; exact Calls.quiet_of ((hall _ _ (by first | exact .inl rfl | exact .inr rfl)).mono fun _ _ ⟨m, he, hw⟩ => ⟨he.trans (by first | rw [o1.out] | rw [o2.out]), m, hw⟩)))
          go_wp2
          go_ret
          exact ⟨_, by simp [pairB, v1, v2, f2], rfl⟩
      ·
        have f1 : (W == W') = false := by simpa using e1
        have f2 : decide (W = W') = false := by simpa using e1
        have ee := Lib.hid e1
        clear e1
        go_enter Try.func73, Try.ntmps73
        go_wp2_with fail
        go_quiet ((go_at_call 102; exact Calls.quiet_of ((hall _ _ (by first | exact .inl rfl | exact .inr rfl)).mono fun _ _ ⟨m, he, hw⟩ => ⟨he.trans (by first | rw [o1.out] | rw [o2.out]), m, hw⟩)))
        go_wp2
        go_ret
        exact ⟨_, by simp [pairB, v1, v2, f2], rfl⟩
end Go.Proofs.Ytbiobmdibiplfaa
