import Derived.Test.YtbiobmdibiplfaaWns
import Derived.Test.YtbiobmdibiplfaaVa
set_option linter.unusedVariables false
set_option linter.unusedSimpArgs false
namespace Go.Proofs.Ytbiobmdibiplfaa
open Go.FX Go.RowKit Go.WideShapes Go.ChangeShapes
attribute [local go_sem ↓] Go.wp_at_zero Go.wp_at_succ
set_option maxHeartbeats 4000000 in
theorem specWinnersNear_no (W H D W' H' : Int) (a : Option Addr) (n c : Nat) (a' : Option Addr) (n' c' : Nat) (re : Int) (w : World) (hnc : n ≤ c) (hcm : c ≤ maxLen) (hnc' : n' ≤ c') (hcm' : c' ≤ maxLen) (hbad : sameCB W H D n W' H' n' = false ∨ inB re 0 8 = false) :
    Calls Try.prog 48 #[.agg #[.int .i64 W, .int .i64 H, .int .i64 D, .slice a n c], .agg #[.int .i64 W', .int .i64 H', .slice a' n' c'], .int .i64 re] w (RPic 49 0 0 [] false w) := by
  have h1 := fun w1 hp => specVIs_any W H D a n c w.heap.size w1 hp (by unfold maxLen at hcm; omega)
  have h2 := fun w1 hp => specMIs_any W' H' a' n' c' (w.heap.size + 1) w1 hp (by unfold maxLen at hcm'; omega)
  have hP := ((Pw.new w W H D (.slice a n c) 41).alloc (.cells #[.int .i64 W', .int .i64 H', .slice a' n' c'] 34)).alloc (.cells #[.int .i64 0, .int .i64 0, .slice none 0 0] 34)
  have hQ := (Pv.new (w.alloc (.cells #[.int .i64 W, .int .i64 H, .int .i64 D, .slice a n c] 41)) W' H' (.slice a' n' c') 34).alloc (.cells #[.int .i64 0, .int .i64 0, .slice none 0 0] 34)
  have hN := Nv.new ((w.alloc (.cells #[.int .i64 W, .int .i64 H, .int .i64 D, .slice a n c] 41)).alloc (.cells #[.int .i64 W', .int .i64 H', .slice a' n' c'] 34)) (.int .i64 0) (.int .i64 0) (.slice none 0 0) 34
  simp only [World.size_alloc] at hQ hN
  obtain ⟨w0, hw0⟩ : ∃ u, u = ((w.alloc (.cells #[.int .i64 W, .int .i64 H, .int .i64 D, .slice a n c] 41)).alloc (.cells #[.int .i64 W', .int .i64 H', .slice a' n' c'] 34)).alloc (.cells #[.int .i64 0, .int .i64 0, .slice none 0 0] 34) := ⟨_, rfl⟩
  have hb0 : Below w.heap.size w w0 := by rw [hw0]; exact below3 _ _ _ _
  rw [← hw0] at hP hQ hN
  have l2 := hN.1
  cases v1 : volB W H D n with
  | false =>
    have e1 := Lib.hid v1
    clear v1 hbad
    go_enter Try.func48, Try.ntmps48
    go_wp2_with fail
    rw [← hw0]
    clear hw0
    refine (h1 _ hP).mono ?_
    rintro e w1 ⟨k1, rfl, rfl⟩
    rw [e1.out]
    obtain ⟨_, r0, r1, r2, rf⟩ := hN
    go_wp2_with fail
    refine bodyPost_ret (v := ?v) ?hr rfl ?post
    case hr => (simp [results, Try.results48, go_sem, r0, r1, r2, rf]; try rfl)
    case post => exact ⟨_, _, _, rfl, by ((repeat' (first | (refine bel_set ?_ ?_ _) | (refine bel_al ?_ ?_ _) | exact Below.refl _ _ | assumption | (refine below_drewN ?_ _) | (refine Below.drew ?_) | (refine Below.trans ?_ (Below.mono hb0 ?_)))) <;> (first | omega | (simp; done) | (simp; omega))), OC.nil _ _ _⟩
  | true =>
    have e1 := Lib.hid v1
    cases v2 : validB W' H' n' with
    | false =>
      have e2 := Lib.hid v2
      clear v1 v2 hbad
      go_enter Try.func48, Try.ntmps48
      go_wp2_with fail
      rw [← hw0]
      clear hw0
      refine (h1 _ hP).mono ?_
      rintro e w1 ⟨k1, rfl, rfl⟩
      rw [e1.out]
      go_wp2_with fail
      refine (h2 _ (hQ.drewN _)).mono ?_
      rintro e w1 ⟨k2, rfl, rfl⟩
      rw [e2.out]
      obtain ⟨_, r0, r1, r2, rf⟩ := hN
      go_wp2_with fail
      refine bodyPost_ret (v := ?v) ?hr rfl ?post
      case hr => (simp [results, Try.results48, go_sem, r0, r1, r2, rf]; try rfl)
      case post => exact ⟨_, _, _, rfl, by ((repeat' (first | (refine bel_set ?_ ?_ _) | (refine bel_al ?_ ?_ _) | exact Below.refl _ _ | assumption | (refine below_drewN ?_ _) | (refine Below.drew ?_) | (refine Below.trans ?_ (Below.mono hb0 ?_)))) <;> (first | omega | (simp; done) | (simp; omega))), OC.nil _ _ _⟩
    | true =>
      have e2 := Lib.hid v2
      by_cases g1 : W = W'
      · by_cases g2 : H = H'
        · have e5 : Hid (inB re 0 8 = false) := Lib.hid (by
            rcases hbad with h | h
            · unfold sameCB at h; rw [v1, v2, decide_eq_true g1, decide_eq_true g2] at h; cases h
            · exact h)
          subst g1 g2
          clear v1 v2 hbad
          go_enter Try.func48, Try.ntmps48
          go_wp2_with fail
          rw [← hw0]
          clear hw0
          refine (h1 _ hP).mono ?_
          rintro e w1 ⟨k1, rfl, rfl⟩
          rw [e1.out]
          go_wp2_with fail
          refine (h2 _ (hQ.drewN _)).mono ?_
          rintro e w1 ⟨k2, rfl, rfl⟩
          rw [e2.out]
          obtain ⟨_, p0, p1, p2, p3⟩ := hP
          obtain ⟨_, q0, q1, q2⟩ := hQ
          go_wp2_with fail
          refine (specIn_any _ _ _ _).mono ?_
          rintro e w1 ⟨rfl, rfl⟩
          rw [e5.out]
          obtain ⟨_, r0, r1, r2, rf⟩ := hN
          go_wp2_with fail
          refine bodyPost_ret (v := ?v) ?hr rfl ?post
          case hr => (simp [results, Try.results48, go_sem, r0, r1, r2, rf]; try rfl)
          case post => exact ⟨_, _, _, rfl, by ((repeat' (first | (refine bel_set ?_ ?_ _) | (refine bel_al ?_ ?_ _) | exact Below.refl _ _ | assumption | (refine below_drewN ?_ _) | (refine Below.drew ?_) | (refine Below.trans ?_ (Below.mono hb0 ?_)))) <;> (first | omega | (simp; done) | (simp; omega))), OC.nil _ _ _⟩
        · have t1 : (H == H') = false := by simpa using g2
          have t2 : (H != H') = true := by simpa using g2
          subst g1
          clear v1 v2 hbad g2
          go_enter Try.func48, Try.ntmps48
          go_wp2_with fail
          rw [← hw0]
          clear hw0
          refine (h1 _ hP).mono ?_
          rintro e w1 ⟨k1, rfl, rfl⟩
          rw [e1.out]
          go_wp2_with fail
          refine (h2 _ (hQ.drewN _)).mono ?_
          rintro e w1 ⟨k2, rfl, rfl⟩
          rw [e2.out]
          obtain ⟨_, p0, p1, p2, p3⟩ := hP
          obtain ⟨_, q0, q1, q2⟩ := hQ
          obtain ⟨_, r0, r1, r2, rf⟩ := hN
          go_wp2_with fail
          refine bodyPost_ret (v := ?v) ?hr rfl ?post
          case hr => (simp [results, Try.results48, go_sem, r0, r1, r2, rf]; try rfl)
          case post => exact ⟨_, _, _, rfl, by ((repeat' (first | (refine bel_set ?_ ?_ _) | (refine bel_al ?_ ?_ _) | exact Below.refl _ _ | assumption | (refine below_drewN ?_ _) | (refine Below.drew ?_) | (refine Below.trans ?_ (Below.mono hb0 ?_)))) <;> (first | omega | (simp; done) | (simp; omega))), OC.nil _ _ _⟩
      · have t1 : (W == W') = false := by simpa using g1
        have t2 : (W != W') = true := by simpa using g1
        clear v1 v2 hbad g1
        go_enter Try.func48, Try.ntmps48
        go_wp2_with fail
        rw [← hw0]
        clear hw0
        refine (h1 _ hP).mono ?_
        rintro e w1 ⟨k1, rfl, rfl⟩
        rw [e1.out]
        go_wp2_with fail
        refine (h2 _ (hQ.drewN _)).mono ?_
        rintro e w1 ⟨k2, rfl, rfl⟩
        rw [e2.out]
        obtain ⟨_, p0, p1, p2, p3⟩ := hP
        obtain ⟨_, q0, q1, q2⟩ := hQ
        obtain ⟨_, r0, r1, r2, rf⟩ := hN
        go_wp2_with fail
        refine bodyPost_ret (v := ?v) ?hr rfl ?post
        case hr => (simp [results, Try.results48, go_sem, r0, r1, r2, rf]; try rfl)
        case post => exact ⟨_, _, _, rfl, by ((repeat' (first | (refine bel_set ?_ ?_ _) | (refine bel_al ?_ ?_ _) | exact Below.refl _ _ | assumption | (refine below_drewN ?_ _) | (refine Below.drew ?_) | (refine Below.trans ?_ (Below.mono hb0 ?_)))) <;> (first | omega | (simp; done) | (simp; omega))), OC.nil _ _ _⟩
set_option maxHeartbeats 4000000 in
theorem specWinnersNear_any (Wn Hn Dn : Nat) (a : Option Addr) (n c : Nat) (cs : List Nat) (a' : Option Addr) (n' c' : Nat) (ms : List Nat) (re : Int) (w : World) (hv : FC w (.slice a n c) cs) (hv' : FC w (.slice a' n' c') ms) (b1 : 1 ≤ Wn) (b2 : Wn ≤ 24) (b3 : 1 ≤ Hn) (b4 : Hn ≤ 24) (b5 : Hn * Wn ≤ 256) (d1 : 1 ≤ Dn) (d2 : Dn ≤ 8) (hl : cs.length = Hn * Wn * Dn) (hl' : ms.length = Hn * Wn) (r0 : 0 ≤ re) (r8 : re ≤ 8) :
    Calls Try.prog 48 #[.agg #[.int .i64 Wn, .int .i64 Hn, .int .i64 Dn, .slice a n c], .agg #[.int .i64 Wn, .int .i64 Hn, .slice a' n' c'], .int .i64 re] w (RPic 49 Wn Hn (seqL (nearI Dn cs ms re) (Hn * Wn)) true w) := by
  obtain ⟨en, hnc, hcm⟩ := hv.sized
  obtain ⟨en', hnc', hcm'⟩ := hv'.sized
  have e1 : Hid (volB Wn Hn Dn n = true) := Lib.hid (by rw [en]; exact volB_mk b1 b2 b3 b4 b5 d1 d2 hl)
  have e2 : Hid (validB Wn Hn n' = true) := Lib.hid (by rw [en']; exact validB_mk b1 b2 b3 b4 b5 hl')
  have e5 : Hid (inB re 0 8 = true) := Lib.hid (by simp [inB]; omega)
  clear en en'
  have h1 := fun w1 hp => specVIs_any Wn Hn Dn a n c w.heap.size w1 hp (by unfold maxLen at hcm; omega)
  have h2 := fun w1 hp => specMIs_any Wn Hn a' n' c' (w.heap.size + 1) w1 hp (by unfold maxLen at hcm'; omega)
  have hP := ((Pw.new w Wn Hn Dn (.slice a n c) 41).alloc (.cells #[.int .i64 Wn, .int .i64 Hn, .slice a' n' c'] 34)).alloc (.cells #[.int .i64 0, .int .i64 0, .slice none 0 0] 34)
  have hQ := (Pv.new (w.alloc (.cells #[.int .i64 Wn, .int .i64 Hn, .int .i64 Dn, .slice a n c] 41)) Wn Hn (.slice a' n' c') 34).alloc (.cells #[.int .i64 0, .int .i64 0, .slice none 0 0] 34)
  have hN := Nv.new ((w.alloc (.cells #[.int .i64 Wn, .int .i64 Hn, .int .i64 Dn, .slice a n c] 41)).alloc (.cells #[.int .i64 Wn, .int .i64 Hn, .slice a' n' c'] 34)) (.int .i64 0) (.int .i64 0) (.slice none 0 0) 34
  simp only [World.size_alloc] at hQ hN
  obtain ⟨w0, hw0⟩ : ∃ u, u = ((w.alloc (.cells #[.int .i64 Wn, .int .i64 Hn, .int .i64 Dn, .slice a n c] 41)).alloc (.cells #[.int .i64 Wn, .int .i64 Hn, .slice a' n' c'] 34)).alloc (.cells #[.int .i64 0, .int .i64 0, .slice none 0 0] 34) := ⟨_, rfl⟩
  have hb0 : Below w.heap.size w w0 := by rw [hw0]; exact below3 _ _ _ _
  rw [← hw0] at hP hQ hN
  have l2 := hN.1
  have hw3 := fun w1 (hb : Below w.heap.size w w1) hp hq => specNear_any Wn Hn Dn a n c w.heap.size cs a' n' c' (w.heap.size + 1) ms re w1 hp (hv.below hb) hq (hv'.below hb) b1 b2 b3 b4 b5 d1 d2 hl hl' r0 r8
  clear hl hl' hv hv'
  go_enter Try.func48, Try.ntmps48
  go_wp2_with fail
  rw [← hw0]
  clear hw0
  refine (h1 _ hP).mono ?_
  rintro e w1 ⟨k1, rfl, rfl⟩
  rw [e1.out]
  go_wp2_with fail
  refine (h2 _ (hQ.drewN _)).mono ?_
  rintro e w1 ⟨k2, rfl, rfl⟩
  rw [e2.out]
  have hP' := Lib.hid hP
  have hQ' := Lib.hid hQ
  obtain ⟨_, p0, p1, p2, p3⟩ := hP
  obtain ⟨_, q0, q1, q2⟩ := hQ
  go_wp2_with fail
  refine (specIn_any _ _ _ _).mono ?_
  rintro e w1 ⟨rfl, rfl⟩
  rw [e5.out]
  go_wp2_with fail
  refine (hw3 _ (by ((repeat' (first | (refine bel_set ?_ ?_ _) | (refine bel_al ?_ ?_ _) | exact Below.refl _ _ | assumption | (refine below_drewN ?_ _) | (refine Below.drew ?_) | (refine Below.trans ?_ (Below.mono hb0 ?_)))) <;> (first | omega | (simp; done) | (simp; omega)))) (by first | exact hP'.out.drewN _ | exact (hP'.out.drewN _).drewN _) (by first | exact hQ'.out.drewN _ | exact (hQ'.out.drewN _).drewN _)).mono ?_
  rintro e w3 ⟨a3, n3, c3, rfl, hb3, ho3⟩
  have hN3 := hN.below (undrewN hb3)
  have s3 := (undrewN hb3).size
  have hbT := hb0.trans ((undrewN hb3).mono hb0.size)
  obtain ⟨_, r0, r1, r2, rf⟩ := hN3
  go_wp2_with fail
  refine bodyPost_ret (v := ?v) ?hr rfl ?post
  case hr => (simp [results, Try.results48, go_sem, r0, r1, r2, rf]; try rfl)
  case post =>
    refine ⟨_, _, _, rfl, ?_, ?_⟩
    · ((repeat' (first | (refine bel_set ?_ ?_ _) | (refine bel_al ?_ ?_ _) | exact Below.refl _ _ | assumption | (refine below_drewN ?_ _) | (refine Below.drew ?_) | (refine Below.trans ?_ (Below.mono hbT ?_)))) <;> (first | omega | (simp; done) | (simp; omega)))
    · (refine OC.mono (base := ?bb) ?hh ?hl; (case hh => ((repeat' (first | (refine OC.set ?_ _ ?_) | (refine OC.alloc ?_ _) | exact ho3 | (refine OC.drewN ?_ _))) <;> (first | omega | (simp; done) | (simp; omega)))); (case hl => (first | omega | (simp; done) | (simp; omega))))
theorem pairWinnersNear (W H D : Int) (cs : List Nat) (W' H' : Int) (ms : List Nat) (re : Int) :
    ∃ (W2 H2 : Int) (cs2 : List Nat) (ok : Bool),
      (∀ a n c a' n' c' w, FC w (.slice a n c) cs → FC w (.slice a' n' c') ms → Calls Try.prog 48 #[.agg #[.int .i64 W, .int .i64 H, .int .i64 D, .slice a n c], .agg #[.int .i64 W', .int .i64 H', .slice a' n' c'], .int .i64 re] w (RPic 49 W2 H2 cs2 ok w)) ∧
      (∀ a n c a' n' c' w, FC w (.slice a n c) cs → FC w (.slice a' n' c') ms → Calls Try.prog 49 #[.agg #[.int .i64 W, .int .i64 H, .int .i64 D, .slice a n c], .agg #[.int .i64 W', .int .i64 H', .slice a' n' c'], .int .i64 re] w (RPic 49 W2 H2 cs2 ok w)) ∧ cs2.length ≤ 256 := by
  by_cases hbad : sameCB W H D cs.length W' H' ms.length = false ∨ inB re 0 8 = false
  · refine ⟨0, 0, [], false, fun a n c a' n' c' w hv hv' => ?_, fun a n c a' n' c' w hv hv' => ?_, by simp⟩
    · obtain ⟨rfl, h1, h2⟩ := hv.sized
      obtain ⟨rfl, h3, h4⟩ := hv'.sized
      exact specWinnersNear_no W H D W' H' a _ c a' _ c' re w h1 h2 h3 h4 hbad
    · obtain ⟨rfl, h1, h2⟩ := hv.sized
      obtain ⟨rfl, h3, h4⟩ := hv'.sized
      exact implNear_no W H D W' H' a _ c a' _ c' re w h1 h2 h3 h4 (by
        rcases hbad with h | h
        · exact .inl h
        · right; simp [inB] at h; omega)
  · have hs : sameCB W H D cs.length W' H' ms.length = true := by cases h : sameCB W H D cs.length W' H' ms.length; · exact absurd (.inl h) hbad
                                                                  · rfl
    have hd : inB re 0 8 = true := by cases h : inB re 0 8; · exact absurd (.inr h) hbad
                                      · rfl
    have rd : 0 ≤ re ∧ re ≤ 8 := by simpa [inB] using hd
    unfold sameCB at hs
    simp only [Bool.and_eq_true, decide_eq_true_eq] at hs
    obtain ⟨hv, hvm, rfl, rfl⟩ := hs
    obtain ⟨Wn, Hn, Dn, rfl, rfl, rfl, b1, b2, b3, b4, b5, d1, d2, hl⟩ := volB_parts hv
    obtain ⟨Wm, Hm, e1, e2, _, _, _, _, _, hl'⟩ := validB_parts hvm
    obtain rfl : Wm = Wn := by omega
    obtain rfl : Hm = Hn := by omega
    exact ⟨_, _, _, _, fun a n c a' n' c' w hv hv' => specWinnersNear_any Wm Hm Dn a n c cs a' n' c' ms re w hv hv' b1 b2 b3 b4 b5 d1 d2 hl hl' rd.1 rd.2, fun a n c a' n' c' w hv hv' => implNear_any Wm Hm Dn _ _ _ _ _ rfl rfl rfl rfl rfl a n c cs a' n' c' ms re w hv hv' b1 b2 b3 b4 b5 d1 d2 hl hl' rd.1 rd.2, by rw [seqL_len]; exact b5⟩
end Go.Proofs.Ytbiobmdibiplfaa
