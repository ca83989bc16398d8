import Derived.Test.YtmbohiebjgafoaaTc
import Derived.Test.YtmbohiebjgafoaaPx
set_option linter.unusedVariables false
set_option linter.unusedSimpArgs false
namespace Go.Proofs.Ytmbohiebjgafoaa
open Go.FX Go.RowKit Go.WideShapes Go.ChangeShapes

theorem boxes3 (w : World) (W H : Int) (a : Option Addr) (n c : Nat) (f k : Int) : ∃ u2, u2 = ((w.alloc (.cells #[.int .i64 W, .int .i64 H, .slice a n c] 46)).alloc (.cells #[.int .i64 f, .int .i64 k] 48)).alloc (.cells #[.int .i64 0, .int .i64 0, .slice none 0 0] 46) ∧
    Nv u2 (w.heap.size + 1 + 1) (.int .i64 0) (.int .i64 0) (.slice none 0 0) ∧ Pv u2 w.heap.size W H (.slice a n c) ∧ Tv u2 (w.heap.size + 1) f k ∧ Below w.heap.size w u2 := by
  refine ⟨_, rfl, ?_, ((Pv.new _ _ _ _ _).alloc _).alloc _, ?_, below3 _ _ _ _⟩
  · have h := Nv.new ((w.alloc (.cells #[.int .i64 W, .int .i64 H, .slice a n c] 46)).alloc (.cells #[.int .i64 f, .int .i64 k] 48)) (.int .i64 0) (.int .i64 0) (.slice none 0 0) 46
    simpa only [World.size_alloc] using h
  · have h := (Tv.new (w.alloc (.cells #[.int .i64 W, .int .i64 H, .slice a n c] 46)) f k 48).alloc (.cells #[.int .i64 0, .int .i64 0, .slice none 0 0] 46)
    simpa only [World.size_alloc] using h

set_option maxHeartbeats 2000000 in
theorem implRowsOf_of (W H : Int) (a : Option Addr) (n c : Nat) (cs : List Nat) (f k : Int) (W' H' : Int) (cs' : List Nat) (ok : Bool) (w : World) (hv : FC w (.slice a n c) cs)
    (hC : ∀ w1, FC w1 (.slice a n c) cs → Calls Try.prog 75 #[.agg #[.int .i64 W, .int .i64 H, .slice a n c], .int .i64 0, .int .i64 f, .int .i64 W, .int .i64 k] w1 (RPic 22 W' H' cs' ok w1)) :
    Calls Try.prog 33 #[.agg #[.int .i64 W, .int .i64 H, .slice a n c], .agg #[.int .i64 f, .int .i64 k]] w (RPic 22 W' H' cs' ok w) := by
  obtain ⟨u2, hu2, hN, hP, hT, hb0⟩ := boxes3 w W H a n c f k
  obtain ⟨_, p0, p1, p2⟩ := id hP
  obtain ⟨_, t0, t1⟩ := id hT
  go_enter Try.func33, Try.ntmps33
  go_upto_region 1 with fail
  rw [← hu2]
  clear hu2
  go_wp2_with fail
  refine (hC _ (hv.below hb0)).mono ?_
  rintro e w1 ⟨a1, n1, c1, rfl, hb1, ho1⟩
  obtain ⟨_, q0, q1, q2, qf⟩ := hN.below hb1
  have hs1 := hb1.size
  go_wp2_with fail
  refine bodyPost_ret (v := ?v) ?hr rfl ?post
  case hr => (simp [results, Try.results33, go_sem, q0, q1, q2, qf]; try rfl)
  case post =>
    have hz := hb0.size
    refine ⟨_, _, _, rfl, ?_, ?_⟩
    · ((repeat' (first | (refine bel_set ?_ ?_ _) | (refine bel_al ?_ ?_ _) | exact Below.refl _ _ | assumption | (refine below_drewN ?_ _) | (refine Below.drew ?_) | (refine Below.trans ?_ (Below.mono hb1 ?_)) | (refine Below.trans ?_ (Below.mono hb0 ?_)))) <;> (first | omega | (simp; done) | (simp; omega)))
    · have hlt := hN.1
      (refine OC.mono (base := ?bb) ?hh ?hl; (case hh => ((repeat' (first | (refine OC.set ?_ _ ?_) | (refine OC.alloc ?_ _) | exact ho1 | (refine OC.drewN ?_ _))) <;> (first | omega | (simp; done) | (simp; omega)))); (case hl => (first | omega | (simp; done) | (simp; omega))))

set_option maxHeartbeats 2000000 in
theorem specRowsOf_any (W H : Nat) (a : Option Addr) (n c : Nat) (cs : List Nat) (f k : Nat) (w : World) (hv : FC w (.slice a n c) cs) (b1 : 1 ≤ W) (b2 : W ≤ 24) (b3 : 1 ≤ H) (b4 : H ≤ 24) (b5 : H * W ≤ 256) (hl : cs.length = H * W) (k1 : 1 ≤ k) (k2 : f + k ≤ H) :
    Calls Try.prog 32 #[.agg #[.int .i64 W, .int .i64 H, .slice a n c], .agg #[.int .i64 f, .int .i64 k]] w (RPic 22 W k (seqL (fun i => cs.getD (f * W + i) 0) (k * W)) true w) := by
  obtain ⟨rfl, hnc, hcm⟩ := hv.sized
  have hI := fun w1 hp => specIs_any W H a cs.length c w.heap.size w1 hp (by unfold maxLen at hcm; omega)
  rw [validB_mk b1 b2 b3 b4 b5 hl] at hI
  have hTl := fun w1 hp => specTile_any H f k (w.heap.size + 1) w1 hp (by omega) (by omega) (by omega)
  rw [show tileB H f k = true by unfold tileB; apply decide_eq_true; omega] at hTl
  have hR := fun w1 hp ht hv => specRows_any W H a cs.length c w.heap.size (w.heap.size + 1) cs f k w1 hp ht hv b1 b2 b3 b4 b5 hl k1 k2
  clear hl
  obtain ⟨u2, hu2, hN, hP, hT, hb0⟩ := boxes3 w W H a cs.length c f k
  obtain ⟨_, p0, p1, p2⟩ := id hP
  obtain ⟨_, t0, t1⟩ := id hT
  go_enter Try.func32, Try.ntmps32
  go_upto_region 1 with fail
  rw [← hu2]
  clear hu2
  go_wp2_with fail
  refine (hI _ hP).mono ?_
  rintro e w1 ⟨j1, rfl, rfl⟩
  go_wp2_with fail
  refine (hTl _ (hT.drewN _)).mono ?_
  rintro e w1 ⟨j2, rfl, rfl⟩
  go_wp2_with fail
  refine (hR _ (hP.drewN _) (hT.drewN _) ((hv.below hb0).drewN _)).mono ?_
  rintro e w1 ⟨a1, n1, c1, rfl, hb1, ho1⟩
  obtain ⟨_, q0, q1, q2, qf⟩ := (hN.drewN _).below hb1
  have hs1 := hb1.size
  go_wp2_with fail
  refine bodyPost_ret (v := ?v) ?hr rfl ?post
  case hr => (simp [results, Try.results32, go_sem, q0, q1, q2, qf]; try rfl)
  case post =>
    have hz := hb0.size
    have hlt := hN.1
    refine ⟨_, _, _, rfl, ?_, ?_⟩
    · ((repeat' (first | (refine bel_set ?_ ?_ _) | (refine bel_al ?_ ?_ _) | exact Below.refl _ _ | assumption | (refine below_drewN ?_ _) | (refine Below.drew ?_) | (refine Below.trans ?_ (Below.mono hb1 ?_)) | (refine Below.trans ?_ (Below.mono hb0 ?_)))) <;> (first | omega | (simp; done) | (simp; omega)))
    · (refine OC.mono (base := ?bb) ?hh ?hl; (case hh => ((repeat' (first | (refine OC.set ?_ _ ?_) | (refine OC.alloc ?_ _) | exact ho1 | (refine OC.drewN ?_ _))) <;> (first | omega | (simp; done) | (simp; omega)))); (case hl => (first | omega | (simp; done) | (simp; omega))))

set_option maxHeartbeats 2000000 in
theorem specRowsOf_no (W H : Int) (a : Option Addr) (n c : Nat) (f k : Int) (w : World) (hnc : n ≤ c) (hcm : c ≤ maxLen) (hf : -9223372036854775808 ≤ f ∧ f ≤ 9223372036854775807) (hno : (validB W H n && tileB H f k) = false) :
    Calls Try.prog 32 #[.agg #[.int .i64 W, .int .i64 H, .slice a n c], .agg #[.int .i64 f, .int .i64 k]] w (RPic 22 0 0 [] false w) := by
  have hI := fun w1 hp => specIs_any W H a n c w.heap.size w1 hp (by unfold maxLen at hcm; omega)
  obtain ⟨u2, hu2, hN, hP, hT, hb0⟩ := boxes3 w W H a n c f k
  obtain ⟨_, p0, p1, p2⟩ := id hP
  obtain ⟨_, t0, t1⟩ := id hT
  obtain ⟨_, q0, q1, q2, qf⟩ := id hN
  cases hval : validB W H n with
  | false =>
    rw [hval] at hI
    clear hno hval
    go_enter Try.func32, Try.ntmps32
    go_upto_region 1 with fail
    rw [← hu2]
    clear hu2
    go_wp2_with fail
    refine (hI _ hP).mono ?_
    rintro e w1 ⟨j1, rfl, rfl⟩
    go_wp2_with fail
    refine bodyPost_ret (v := ?v) ?hr rfl ?post
    case hr => (simp [results, Try.results32, go_sem, q0, q1, q2, qf]; try rfl)
    case post => exact ⟨_, _, _, rfl, by ((repeat' (first | (refine bel_set ?_ ?_ _) | (refine bel_al ?_ ?_ _) | exact Below.refl _ _ | assumption | (refine below_drewN ?_ _) | (refine Below.drew ?_) | (refine Below.trans ?_ (Below.mono hb0 ?_)))) <;> (first | omega | (simp; done) | (simp; omega))), OC.nil _ _ _⟩
  | true =>
    rw [hval] at hI
    obtain ⟨wn, hn, rfl, rfl, b1, b2, b3, b4, b5, hl⟩ := validB_parts hval
    have hTl := fun w1 hp => specTile_any hn f k (w.heap.size + 1) w1 hp (by omega) (by omega) hf
    have ht : tileB hn f k = false := by simpa [hval] using hno
    rw [ht] at hTl
    clear hno hval hl ht
    go_enter Try.func32, Try.ntmps32
    go_upto_region 1 with fail
    rw [← hu2]
    clear hu2
    go_wp2_with fail
    refine (hI _ hP).mono ?_
    rintro e w1 ⟨j1, rfl, rfl⟩
    go_wp2_with fail
    refine (hTl _ (hT.drewN _)).mono ?_
    rintro e w1 ⟨j2, rfl, rfl⟩
    go_wp2_with fail
    refine bodyPost_ret (v := ?v2) ?hr2 rfl ?post2
    case hr2 => (simp [results, Try.results32, go_sem, q0, q1, q2, qf]; try rfl)
    case post2 => exact ⟨_, _, _, rfl, by ((repeat' (first | (refine bel_set ?_ ?_ _) | (refine bel_al ?_ ?_ _) | exact Below.refl _ _ | assumption | (refine below_drewN ?_ _) | (refine Below.drew ?_) | (refine Below.trans ?_ (Below.mono hb0 ?_)))) <;> (first | omega | (simp; done) | (simp; omega))), OC.nil _ _ _⟩

theorem pairRowsOf (W H : Int) (cs : List Nat) (f k : Int) (hW : (Lit.int .i64 W).wf = true) (hH : (Lit.int .i64 H).wf = true) (hf : (Lit.int .i64 f).wf = true) :
    ∃ (W' H' : Int) (cs' : List Nat) (ok : Bool),
      (∀ a n c w, FC w (.slice a n c) cs → Calls Try.prog 32 #[.agg #[.int .i64 W, .int .i64 H, .slice a n c], .agg #[.int .i64 f, .int .i64 k]] w (RPic 22 W' H' cs' ok w)) ∧
      (∀ a n c w, FC w (.slice a n c) cs → Calls Try.prog 33 #[.agg #[.int .i64 W, .int .i64 H, .slice a n c], .agg #[.int .i64 f, .int .i64 k]] w (RPic 22 W' H' cs' ok w)) ∧ cs'.length ≤ 256 := by
  cases hC : validB W H cs.length && tileB H f k with
  | true =>
    rw [Bool.and_eq_true] at hC
    obtain ⟨hval, ht⟩ := hC
    obtain ⟨wn, hn, rfl, rfl, b1, b2, b3, b4, b5, hl⟩ := validB_parts hval
    have ht' : 0 ≤ f ∧ 1 ≤ k ∧ k ≤ (hn : Int) - f := by simpa [tileB] using ht
    obtain ⟨fn, rfl⟩ := Int.eq_ofNat_of_zero_le ht'.1
    obtain ⟨kn, rfl⟩ := Int.eq_ofNat_of_zero_le (show 0 ≤ k by omega)
    have d5 : kn * wn ≤ 256 := Nat.le_trans (Nat.mul_le_mul (by omega) (Nat.le_refl _)) b5
    refine ⟨_, _, _, true, fun a n c w hv => specRowsOf_any wn hn a n c cs fn kn w hv b1 b2 b3 b4 b5 hl (by omega) (by omega), fun a n c w hv => ?_, by rw [seqL_len]; exact d5⟩
    refine implRowsOf_of wn hn a n c cs fn kn _ _ _ _ w hv fun w1 hv1 => ?_
    have h := implCropPicture_any wn hn a n c cs w1 hv1 b1 b2 b3 b4 b5 hl 0 fn wn kn (by omega) (by omega) b1 (by omega) (by omega) (by omega) d5
    rw [grid_rows wn hn cs fn kn (by omega) b1] at h
    exact h
  | false =>
    have iW : W ≤ 9223372036854775807 := by simp [Lit.wf, IntKind.min, IntKind.max, IntKind.signed, IntKind.bits] at hW; omega
    have iH : H ≤ 9223372036854775807 := by simp [Lit.wf, IntKind.min, IntKind.max, IntKind.signed, IntKind.bits] at hH; omega
    refine ⟨0, 0, [], false, fun a n c w hv => ?_, fun a n c w hv => ?_, by simp⟩
    · obtain ⟨rfl, h1, h2⟩ := hv.sized
      exact specRowsOf_no W H a _ c f k w h1 h2 (wf64 hf) hC
    · obtain ⟨rfl, h1, h2⟩ := hv.sized
      refine implRowsOf_of W H a _ c cs f k _ _ _ _ w hv fun w1 _ => implCropPicture_no W H a _ c w1 h1 h2 iW iH 0 f W k ?_
      rintro ⟨g1, g2, g3, g4, g5, g6⟩
      have g2' : 0 ≤ (0 : Int) ∧ 0 < W ∧ 0 ≤ f ∧ f < H := by simpa [cellB] using g2
      have : tileB H f k = true := by unfold tileB; apply decide_eq_true; omega
      rw [g1, this] at hC
      cases hC
end Go.Proofs.Ytmbohiebjgafoaa
