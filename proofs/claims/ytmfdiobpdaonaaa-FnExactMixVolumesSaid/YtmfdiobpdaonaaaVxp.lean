import Derived.Test.YtmfdiobpdaonaaaVx
set_option linter.unusedVariables false
set_option linter.unusedSimpArgs false
namespace Go.Proofs.Ytmfdiobpdaonaaa
open Go.FX Go.RowKit Go.WideShapes Go.ChangeShapes

theorem hasSize_any (W H D : Int) (a : Option Addr) (n c : Nat) (W' H' D' : Int) (a' : Option Addr) (n' c' : Nat) (w : World) :
    Calls Try.prog 85 #[.agg #[.int .i64 W, .int .i64 H, .int .i64 D, .slice a n c], .agg #[.int .i64 W', .int .i64 H', .int .i64 D', .slice a' n' c']] w (RBb (decide (W = W') && (decide (H = H') && decide (D = D'))) w) := by
  by_cases e1 : W = W'
  · subst e1
    by_cases e2 : H = H'
    · subst e2
      by_cases e3 : D = D'
      · subst e3
        go_enter Try.func85, Try.ntmps85
        go_wp2_with fail
        go_ret
        exact ⟨by simp, below2 _ _ _⟩
      · have f1 : (D == D') = false := by simpa using e3
        have f2 : decide (D = D') = false := by simpa using e3
        have ee := Lib.hid e3
        clear e3
        go_enter Try.func85, Try.ntmps85
        go_wp2_with fail
        go_ret
        exact ⟨by simp [f2], below2 _ _ _⟩
    · have f1 : (H == H') = false := by simpa using e2
      have f2 : decide (H = H') = false := by simpa using e2
      have ee := Lib.hid e2
      clear e2
      go_enter Try.func85, Try.ntmps85
      go_wp2_with fail
      go_ret
      exact ⟨by simp [f2], below2 _ _ _⟩
  · have f1 : (W == W') = false := by simpa using e1
    have f2 : decide (W = W') = false := by simpa using e1
    have ee := Lib.hid e1
    clear e1
    go_enter Try.func85, Try.ntmps85
    go_wp2_with fail
    go_ret
    exact ⟨by simp [f2], below2 _ _ _⟩
theorem mix_cells (W H D : Nat) (cs cs' : List Nat) (sc : Nat) (hl : cs.length = H * W * D) : cubeL W D (fun x y d => mixF (costC W D cs x y d) (costC W D cs' x y d) sc) (H * W * D) = seqL (fun i => mixF (cs.getD i 0) (cs'.getD i 0) sc) cs.length := by
  rw [hl]
  refine seqL_congr fun i hi => ?_
  obtain ⟨_, _, _, h4⟩ := cube_place hi
  show mixF (cs.getD ((i / D / W * W + i / D % W) * D + i % D) 0) (cs'.getD ((i / D / W * W + i / D % W) * D + i % D) 0) sc = _
  rw [← h4]
set_option maxHeartbeats 2000000 in
theorem implMixVolumes_any (W H D : Nat) (a : Option Addr) (n c : Nat) (cs : List Nat) (a' : Option Addr) (n' c' : Nat) (cs' : List Nat) (s sc : Nat) (hs : Fl .f32 s sc) (w : World) (hv : FC w (.slice a n c) cs) (hv' : FC w (.slice a' n' c') cs') (b1 : 1 ≤ W) (b2 : W ≤ 24) (b3 : 1 ≤ H) (b4 : H ≤ 24) (b5 : H * W ≤ 256) (d1 : 1 ≤ D) (d2 : D ≤ 8) (hl : cs.length = H * W * D) (hl' : cs'.length = H * W * D) :
    Calls Try.prog 48 #[.agg #[.int .i64 W, .int .i64 H, .int .i64 D, .slice a n c], .agg #[.int .i64 W, .int .i64 H, .int .i64 D, .slice a' n' c'], .float .f32 s] w (RVol 39 W H D (seqL (fun i => mixF (cs.getD i 0) (cs'.getD i 0) sc) cs.length) true w) := by
  obtain ⟨rfl, hnc, hcm⟩ := hv.sized
  obtain ⟨rfl, hnc', hcm'⟩ := hv'.sized
  have hval := volB_mk b1 b2 b3 b4 b5 d1 d2 hl
  have hval' := Lib.hid (volB_mk b1 b2 b3 b4 b5 d1 d2 hl')
  have h1 := fun w1 => validVol_any W H D (.slice a' cs'.length c') cs'.length w1 ⟨a', c', rfl, hnc', hcm'⟩
  have hd := fun w1 (hb : Below w.heap.size w w1) hp hp' hlb hcb => buildFrom_any W H D a cs.length c hval hnc hcm b1 b2 b3 b4 b5 d1 d2 _ _ _ _ w1 (enters_of Try.func86 (by kernel_rfl) rfl) (mix_fn W H D a _ c cs a' _ c' cs' s sc hs w.heap.size (w.heap.size + 1 + 1) (w.heap.size + 1) w1 (hv.below hb) hp (hv'.below hb) hp' hlb hcb b1 b2 b3 b4 b5 d1 d2 hl hl')
  rw [mix_cells W H D cs cs' sc hl] at hd
  clear hl hl' hval
  go_enter Try.func48, Try.ntmps48
  go_wp2_with fail
  refine (h1 _).mono ?_
  rintro e w1 ⟨rfl, hb1⟩
  rw [hval'.out]
  have hP := ((((Pw.new w W H D (.slice a cs.length c) 27).alloc _).alloc _).alloc _).below hb1
  have hQ := (((Pw.new (w.alloc (.cells #[.int .i64 W, .int .i64 H, .int .i64 D, .slice a cs.length c] 27)) W H D (.slice a' cs'.length c') 27).alloc _).alloc _).below hb1
  have hn := (Nw.new _ _ _ _ _ _).below hb1
  have s1 := hb1.size
  have hcd := (bcell hb1).1 (w.heap.size + 1 + 1) 0 (by simp)
  rw [show ((((w.alloc (.cells #[.int .i64 W, .int .i64 H, .int .i64 D, .slice a cs.length c] 27)).alloc (.cells #[.int .i64 W, .int .i64 H, .int .i64 D, .slice a' cs'.length c'] 27)).alloc (.cells #[.float .f32 s] 39)).alloc (.cells #[.int .i64 0, .int .i64 0, .int .i64 0, .slice none 0 0] 27)).cell? ⟨w.heap.size + 1 + 1, 0, none⟩ = some (.float .f32 s) by go_simp] at hcd
  simp only [World.size_alloc] at hQ hn s1
  obtain ⟨l1, p0, p1, p2, p3⟩ := id hP
  obtain ⟨l2, q0, q1, q2, q3⟩ := id hQ
  go_wp2_with fail
  refine (hasSize_any _ _ _ _ _ _ _ _ _ _ _ _ _).mono ?_
  rintro e w2 ⟨rfl, hb2⟩
  rw [show (decide ((W : Int) = W) && (decide ((H : Int) = H) && decide ((D : Int) = D))) = true by simp]
  have hP2 := hP.below hb2
  have hQ2 := hQ.below hb2
  have hn2 := hn.below hb2
  have s2 := hb2.size
  have hcd2 := ((bcell hb2).1 (w.heap.size + 1 + 1) 0 (by omega)).trans hcd
  obtain ⟨l3, p4, p5, p6, p7⟩ := id hP2
  go_wp2_with fail
  refine (hd _ (by ((repeat' (first | (refine bel_set ?_ ?_ _) | (refine bel_al ?_ ?_ _) | exact Below.refl _ _ | assumption | (refine below_drewN ?_ _) | (refine Below.drew ?_) | (refine Below.trans ?_ (Below.mono hb2 ?_)) | (refine Below.trans ?_ (Below.mono hb1 ?_)))) <;> (first | omega | (simp; done) | (simp; omega)))) hP2 hQ2 (by omega) hcd2).mono ?_
  rintro e w3 ⟨a3, n3, c3, rfl, hb3, ho3⟩
  obtain ⟨l4, r0, r1, r2, r3, rf⟩ := hn2.below hb3
  have s3 := hb3.size
  go_wp2_with fail
  refine bodyPost_ret (v := ?v) ?hr rfl ?post
  case hr => (simp [results, Try.results48, go_sem, r0, r1, r2, r3, rf]; try rfl)
  case post =>
    refine ⟨_, _, _, rfl, ?_, ?_⟩
    · ((repeat' (first | (refine bel_set ?_ ?_ _) | (refine bel_al ?_ ?_ _) | exact Below.refl _ _ | assumption | (refine below_drewN ?_ _) | (refine Below.drew ?_) | (refine Below.trans ?_ (Below.mono hb3 ?_)) | (refine Below.trans ?_ (Below.mono hb2 ?_)) | (refine Below.trans ?_ (Below.mono hb1 ?_)))) <;> (first | omega | (simp; done) | (simp; omega)))
    · (refine OC.mono (base := ?bb) ?hh ?hl; (case hh => ((repeat' (first | (refine OC.set ?_ _ ?_) | (refine OC.alloc ?_ _) | exact ho3 | (refine OC.drewN ?_ _))) <;> (first | omega | (simp; done) | (simp; omega)))); (case hl => (first | omega | (simp; done) | (simp; omega))))
set_option maxHeartbeats 2000000 in
theorem implMixVolumes_no (W H D : Int) (a : Option Addr) (n c : Nat) (W' H' D' : Int) (a' : Option Addr) (n' c' : Nat) (s : Nat) (w : World) (hnc : n ≤ c) (hcm : c ≤ maxLen) (hnc' : n' ≤ c') (hcm' : c' ≤ maxLen) (hval : alikeB W H D n W' H' D' n' = false) :
    Calls Try.prog 48 #[.agg #[.int .i64 W, .int .i64 H, .int .i64 D, .slice a n c], .agg #[.int .i64 W', .int .i64 H', .int .i64 D', .slice a' n' c'], .float .f32 s] w (RVol 39 0 0 0 [] false w) := by
  have h1 := fun w1 => validVol_any W' H' D' (.slice a' n' c') n' w1 ⟨a', c', rfl, hnc', hcm'⟩
  cases hv' : volB W' H' D' n' with
  | false =>
    have hv' := Lib.hid hv'
    go_enter Try.func48, Try.ntmps48
    go_wp2_with fail
    refine (h1 _).mono ?_
    rintro e w1 ⟨rfl, hb1⟩
    rw [hv'.out]
    have hn := (Nw.new _ _ _ _ _ _).below hb1
    have s1 := hb1.size
    simp only [World.size_alloc] at hn s1
    obtain ⟨l1, q0, q1, q2, q3, qf⟩ := id hn
    go_wp2_with fail
    refine bodyPost_ret (v := ?v1) ?hr1 rfl ?post1
    case hr1 => (simp [results, Try.results48, go_sem, q0, q1, q2, q3, qf]; try rfl)
    case post1 => exact ⟨_, _, _, rfl, by ((repeat' (first | (refine bel_set ?_ ?_ _) | (refine bel_al ?_ ?_ _) | exact Below.refl _ _ | assumption | (refine below_drewN ?_ _) | (refine Below.drew ?_) | (refine Below.trans ?_ (Below.mono hb1 ?_)))) <;> (first | omega | (simp; done) | (simp; omega))), OC.nil _ _ _⟩
  | true =>
    cases hsz : (decide (W = W') && (decide (H = H') && decide (D = D'))) with
    | false =>
      have hv' := Lib.hid hv'
      have hsz := Lib.hid hsz
      go_enter Try.func48, Try.ntmps48
      go_wp2_with fail
      refine (h1 _).mono ?_
      rintro e w1 ⟨rfl, hb1⟩
      rw [hv'.out]
      have hP := ((((Pw.new w W H D (.slice a n c) 27).alloc _).alloc _).alloc _).below hb1
      have hQ := (((Pw.new (w.alloc (.cells #[.int .i64 W, .int .i64 H, .int .i64 D, .slice a n c] 27)) W' H' D' (.slice a' n' c') 27).alloc _).alloc _).below hb1
      have hn := (Nw.new _ _ _ _ _ _).below hb1
      have s1 := hb1.size
      simp only [World.size_alloc] at hQ hn s1
      obtain ⟨l1, p0, p1, p2, p3⟩ := id hP
      obtain ⟨l2, q0, q1, q2, q3⟩ := id hQ
      go_wp2_with fail
      refine (hasSize_any _ _ _ _ _ _ _ _ _ _ _ _ _).mono ?_
      rintro e w2 ⟨rfl, hb2⟩
      rw [hsz.out]
      obtain ⟨l4, r0, r1, r2, r3, rf⟩ := hn.below hb2
      have s2 := hb2.size
      go_wp2_with fail
      refine bodyPost_ret (v := ?v2) ?hr2 rfl ?post2
      case hr2 => (simp [results, Try.results48, go_sem, r0, r1, r2, r3, rf]; try rfl)
      case post2 => exact ⟨_, _, _, rfl, by ((repeat' (first | (refine bel_set ?_ ?_ _) | (refine bel_al ?_ ?_ _) | exact Below.refl _ _ | assumption | (refine below_drewN ?_ _) | (refine Below.drew ?_) | (refine Below.trans ?_ (Below.mono hb2 ?_)) | (refine Below.trans ?_ (Below.mono hb1 ?_)))) <;> (first | omega | (simp; done) | (simp; omega))), OC.nil _ _ _⟩
    | true =>
      have hv : volB W H D n = false := by
        cases h : volB W H D n with
        | false => rfl
        | true => unfold alikeB at hval; rw [h, hv', hsz] at hval; cases hval
      have hd := fun w1 first cap => buildFrom_no W H D a n c hnc hcm hv (.func 86) first cap w1
      have hv' := Lib.hid hv'
      have hsz := Lib.hid hsz
      clear hv hval
      go_enter Try.func48, Try.ntmps48
      go_wp2_with fail
      refine (h1 _).mono ?_
      rintro e w1 ⟨rfl, hb1⟩
      rw [hv'.out]
      have hP := ((((Pw.new w W H D (.slice a n c) 27).alloc _).alloc _).alloc _).below hb1
      have hQ := (((Pw.new (w.alloc (.cells #[.int .i64 W, .int .i64 H, .int .i64 D, .slice a n c] 27)) W' H' D' (.slice a' n' c') 27).alloc _).alloc _).below hb1
      have hn := (Nw.new _ _ _ _ _ _).below hb1
      have s1 := hb1.size
      simp only [World.size_alloc] at hQ hn s1
      obtain ⟨l1, p0, p1, p2, p3⟩ := id hP
      obtain ⟨l2, q0, q1, q2, q3⟩ := id hQ
      go_wp2_with fail
      refine (hasSize_any _ _ _ _ _ _ _ _ _ _ _ _ _).mono ?_
      rintro e w2 ⟨rfl, hb2⟩
      rw [hsz.out]
      have hn2 := hn.below hb2
      have s2 := hb2.size
      obtain ⟨l3, p4, p5, p6, p7⟩ := hP.below hb2
      go_wp2_with fail
      refine (hd _ _ _).mono ?_
      rintro e w3 ⟨a3, n3, c3, rfl, hb3, ho3⟩
      obtain ⟨l4, r0, r1, r2, r3, rf⟩ := hn2.below hb3
      have s3 := hb3.size
      go_wp2_with fail
      refine bodyPost_ret (v := ?v3) ?hr3 rfl ?post3
      case hr3 => (simp [results, Try.results48, go_sem, r0, r1, r2, r3, rf]; try rfl)
      case post3 =>
        refine ⟨_, _, _, rfl, ?_, ?_⟩
        · ((repeat' (first | (refine bel_set ?_ ?_ _) | (refine bel_al ?_ ?_ _) | exact Below.refl _ _ | assumption | (refine below_drewN ?_ _) | (refine Below.drew ?_) | (refine Below.trans ?_ (Below.mono hb3 ?_)) | (refine Below.trans ?_ (Below.mono hb2 ?_)) | (refine Below.trans ?_ (Below.mono hb1 ?_)))) <;> (first | omega | (simp; done) | (simp; omega)))
        · (refine OC.mono (base := ?bb) ?hh ?hl; (case hh => ((repeat' (first | (refine OC.set ?_ _ ?_) | (refine OC.alloc ?_ _) | exact ho3 | (refine OC.drewN ?_ _))) <;> (first | omega | (simp; done) | (simp; omega)))); (case hl => (first | omega | (simp; done) | (simp; omega))))
theorem specMixVolumes_no (W H D : Int) (a : Option Addr) (n c : Nat) (W' H' D' : Int) (a' : Option Addr) (n' c' : Nat) (s : Nat) (w : World) (hnc : n ≤ c) (hcm : c ≤ maxLen) (hnc' : n' ≤ c') (hcm' : c' ≤ maxLen) (hval : alikeB W H D n W' H' D' n' = false) :
    Calls Try.prog 47 #[.agg #[.int .i64 W, .int .i64 H, .int .i64 D, .slice a n c], .agg #[.int .i64 W', .int .i64 H', .int .i64 D', .slice a' n' c'], .float .f32 s] w (RVol 39 0 0 0 [] false w) := by
  have h1 := fun w1 hp hp' => specAlike_any W H D a n c w.heap.size W' H' D' a' n' c' (w.heap.size + 1) w1 hp hp' (by omega) (by unfold maxLen at hcm; omega) (by unfold maxLen at hcm'; omega)
  have hval := Lib.hid hval
  go_enter Try.func47, Try.ntmps47
  go_wp2_with fail
  have hP1 := ((Pw.new w W H D (.slice a n c) 27).alloc (.cells #[.int .i64 W', .int .i64 H', .int .i64 D', .slice a' n' c'] 27)).alloc (.cells #[.int .i64 0, .int .i64 0, .int .i64 0, .slice none 0 0] 27)
  have hP2 := (Pw.new (w.alloc (.cells #[.int .i64 W, .int .i64 H, .int .i64 D, .slice a n c] 27)) W' H' D' (.slice a' n' c') 27).alloc (.cells #[.int .i64 0, .int .i64 0, .int .i64 0, .slice none 0 0] 27)
  simp only [World.size_alloc] at hP2
  refine (h1 _ hP1 hP2).mono ?_
  rintro e w1 ⟨k, rfl, rfl⟩
  rw [hval.out]
  go_wp2_with fail
  refine bodyPost_ret (v := ?v) ?hr rfl ?post
  case hr => (simp [results, Try.results47, go_sem]; try rfl)
  case post => exact ⟨_, _, _, rfl, by ((repeat' (first | (refine bel_set ?_ ?_ _) | (refine bel_al ?_ ?_ _) | exact Below.refl _ _ | assumption | (refine below_drewN ?_ _) | (refine Below.drew ?_))) <;> (first | omega | (simp; done) | (simp; omega))), OC.nil _ _ _⟩
theorem pairMixVolumes (W H D : Int) (cs : List Nat) (W' H' D' : Int) (cs' : List Nat) (s : Nat) (hs : s < width .f32) :
    ∃ (W2 H2 D2 : Int) (cs2 : List Nat) (ok : Bool),
      (∀ a n c a' n' c' w, FC w (.slice a n c) cs → FC w (.slice a' n' c') cs' → Calls Try.prog 47 #[.agg #[.int .i64 W, .int .i64 H, .int .i64 D, .slice a n c], .agg #[.int .i64 W', .int .i64 H', .int .i64 D', .slice a' n' c'], .float .f32 s] w (RVol 39 W2 H2 D2 cs2 ok w)) ∧
      (∀ a n c a' n' c' w, FC w (.slice a n c) cs → FC w (.slice a' n' c') cs' → Calls Try.prog 48 #[.agg #[.int .i64 W, .int .i64 H, .int .i64 D, .slice a n c], .agg #[.int .i64 W', .int .i64 H', .int .i64 D', .slice a' n' c'], .float .f32 s] w (RVol 39 W2 H2 D2 cs2 ok w)) ∧ cs2.length ≤ 2048 := by
  cases hv : alikeB W H D cs.length W' H' D' cs'.length with
  | false =>
    refine ⟨0, 0, 0, [], false, fun a n c a' n' c' w hv hv' => ?_, fun a n c a' n' c' w hv hv' => ?_, by simp⟩
    · obtain ⟨rfl, h1, h2⟩ := hv.sized
      obtain ⟨rfl, h3, h4⟩ := hv'.sized
      exact specMixVolumes_no W H D a _ c W' H' D' a' _ c' s w h1 h2 h3 h4 (by assumption)
    · obtain ⟨rfl, h1, h2⟩ := hv.sized
      obtain ⟨rfl, h3, h4⟩ := hv'.sized
      exact implMixVolumes_no W H D a _ c W' H' D' a' _ c' s w h1 h2 h3 h4 (by assumption)
  | true =>
    unfold alikeB at hv
    simp only [Bool.and_eq_true, decide_eq_true_eq] at hv
    obtain ⟨hv, hv', rfl, rfl, rfl⟩ := hv
    obtain ⟨Wn, Hn, Dn, rfl, rfl, rfl, b1, b2, b3, b4, b5, d1, d2, hl⟩ := volB_parts hv
    obtain ⟨Wm, Hm, Dm, e1, e2, e3, _, _, _, _, _, _, _, hl'⟩ := volB_parts hv'
    obtain rfl : Wm = Wn := by omega
    obtain rfl : Hm = Hn := by omega
    obtain rfl : Dm = Dn := by omega
    exact ⟨_, _, _, _, _, fun a n c a' n' c' w hv hv' => specMixVolumes_any Wm Hm Dm a n c cs a' n' c' cs' s _ (Fl.of hs) w hv hv' b1 b2 b3 b4 b5 d1 d2 hl hl', fun a n c a' n' c' w hv hv' => implMixVolumes_any Wm Hm Dm a n c cs a' n' c' cs' s _ (Fl.of hs) w hv hv' b1 b2 b3 b4 b5 d1 d2 hl hl', by rw [seqL_len, hl]; exact Nat.mul_le_mul b5 d2⟩
end Go.Proofs.Ytmfdiobpdaonaaa
