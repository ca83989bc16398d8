import Derived.Test.YtmfdiobpdaonaaaVl
set_option linter.unusedVariables false
set_option linter.unusedSimpArgs false
namespace Go.Proofs.Ytmfdiobpdaonaaa
open Go.FX Go.RowKit Go.WideShapes Go.ChangeShapes

theorem slice_cells (W H D d : Nat) (cs : List Nat) (hW : 1 ≤ W) : gridL W (fun x y => costC W D cs x.toNat y.toNat d) (H * W) = seqL (fun i => cs.getD (i * D + d) 0) (H * W) := by
  rw [gridL_seq]
  refine seqL_congr fun i hi => ?_
  unfold costC
  have e : i / W * W + i % W = i := by rw [Nat.mul_comm]; exact Nat.div_add_mod _ _
  simp only [Int.toNat_natCast, e]
set_option maxHeartbeats 1000000 in
theorem slice_fn (W H D : Nat) (a : Option Addr) (n c : Nat) (cs : List Nat) (d bp bd : Nat) (w : World) (hv : FC w (.slice a n c) cs) (hp : Pw w bp W H D (.slice a n c)) (hlb : bd < w.heap.size) (hcb : w.cell? ⟨bd, 0, none⟩ = some (.int .i64 d)) (b1 : 1 ≤ W) (b2 : W ≤ 24) (b4 : H ≤ 24) (b5 : H * W ≤ 256) (d1 : 1 ≤ D) (d2 : D ≤ 8) (hl : cs.length = H * W * D) (hd : d < D) :
    GreyFn Try.prog 76 #[] #[.pointer (some ⟨bp, 0, none⟩), .pointer (some ⟨bd, 0, none⟩)] W H (fun x y => costC W D cs x.toNat y.toNat d) w := fun w1 x y hb hx hy => by
  have hat := fun w2 (h : Below w1.heap.size w1 w2) => at_any W H D (.slice a n c) cs x y d w2 ((hv.below hb).below h) b1 b2 b4 b5 d1 d2 hl hx hy hd
  obtain ⟨l0, p0, p1, p2, p3⟩ := hp.below hb
  have q := (bcell hb).1 bd 0 hlb
  rw [hcb] at q
  have lb1 : bd < w1.heap.size := Nat.lt_of_lt_of_le hlb hb.size
  clear hcb hv hp hl hb
  show Calls Try.prog 76 #[.int .i64 x, .int .i64 y, .pointer (some ⟨bp, 0, none⟩), .pointer (some ⟨bd, 0, none⟩)] w1 _
  go_enter Try.func76, Try.ntmps76
  go_wp2_with fail
  refine (hat _ (by ((repeat' (first | (refine bel_set ?_ ?_ _) | (refine bel_al ?_ ?_ _) | exact Below.refl _ _ | assumption | (refine below_drewN ?_ _) | (refine Below.drew ?_))) <;> (first | omega | (simp; done) | (simp; omega))))).mono ?_
  rintro e w2 ⟨r, rfl, hb2, hr⟩
  go_wp2_with fail
  go_ret
  exact ⟨_, rfl, by ((repeat' (first | (refine bel_set ?_ ?_ _) | (refine bel_al ?_ ?_ _) | exact Below.refl _ _ | assumption | (refine below_drewN ?_ _) | (refine Below.drew ?_) | (refine Below.trans ?_ (Below.mono hb2 ?_)))) <;> (first | omega | (simp; done) | (simp; omega))), hr⟩
set_option maxHeartbeats 1000000 in
theorem implSliceOf_any (W H D : Nat) (a : Option Addr) (n c : Nat) (cs : List Nat) (d : Nat) (w : World) (hv : FC w (.slice a n c) cs) (b1 : 1 ≤ W) (b2 : W ≤ 24) (b3 : 1 ≤ H) (b4 : H ≤ 24) (b5 : H * W ≤ 256) (d1 : 1 ≤ D) (d2 : D ≤ 8) (hl : cs.length = H * W * D) (hd : d < D) :
    Calls Try.prog 35 #[.agg #[.int .i64 W, .int .i64 H, .int .i64 D, .slice a n c], .int .i64 d] w (RPic 39 W H (seqL (fun i => cs.getD (i * D + d) 0) (H * W)) true w) := by
  obtain ⟨rfl, hnc, hcm⟩ := hv.sized
  have hval := Lib.hid (volB_mk b1 b2 b3 b4 b5 d1 d2 hl)
  have h1 := fun w1 => validVol_any W H D (.slice a cs.length c) cs.length w1 ⟨a, c, rfl, hnc, hcm⟩
  have hd' := Lib.hid (show idxB d D = true by simp [idxB]; omega)
  have h2 := fun w1 (hb : Below w.heap.size w w1) hp hlb hcb => draw_any W H b1 b2 b3 b4 b5 _ _ _ _ w1 (enters_of Try.func76 (by kernel_rfl) rfl) (slice_fn W H D a _ c cs d w.heap.size (w.heap.size + 1) w1 (hv.below hb) hp hlb hcb b1 b2 b4 b5 d1 d2 hl hd)
  rw [slice_cells W H D d cs b1] at h2
  clear hl
  go_enter Try.func35, Try.ntmps35
  go_wp2_with fail
  refine (h1 _).mono ?_
  rintro e w1 ⟨rfl, hb1⟩
  rw [hval.out]
  have hP := (((Pw.new _ _ _ _ _ _).alloc _).alloc _).below hb1
  have hn := (Nv.new _ _ _ _ _).below hb1
  have s1 := hb1.size
  simp only [World.size_alloc] at hn s1
  have hcd := (bcell hb1).1 (w.heap.size + 1) 0 (by simp)
  rw [show (((w.alloc (.cells #[.int .i64 W, .int .i64 H, .int .i64 D, .slice a cs.length c] 27)).alloc (.cells #[.int .i64 d] 2)).alloc (.cells #[.int .i64 0, .int .i64 0, .slice none 0 0] 52)).cell? ⟨w.heap.size + 1, 0, none⟩ = some (.int .i64 d) by go_simp] at hcd
  obtain ⟨l1, p0, p1, p2, p3⟩ := id hP
  go_wp2_with fail
  refine (isIndex_any _ _ _).mono ?_
  rintro e w' ⟨rfl, rfl⟩
  rw [hd'.out]
  go_wp2_with fail
  refine (h2 _ (by ((repeat' (first | (refine bel_set ?_ ?_ _) | (refine bel_al ?_ ?_ _) | exact Below.refl _ _ | assumption | (refine below_drewN ?_ _) | (refine Below.drew ?_) | (refine Below.trans ?_ (Below.mono hb1 ?_)))) <;> (first | omega | (simp; done) | (simp; omega)))) hP (by omega) hcd).mono ?_
  rintro e w2 ⟨a2, n2, c2, rfl, hb2, ho2⟩
  obtain ⟨l2, q0, q1, q2, qf⟩ := hn.below hb2
  have s2 := hb2.size
  go_wp2_with fail
  refine bodyPost_ret (v := ?v) ?hr rfl ?post
  case hr => (simp [results, Try.results35, go_sem, q0, q1, q2, qf]; try rfl)
  case post =>
    refine ⟨_, _, _, rfl, ?_, ?_⟩
    · ((repeat' (first | (refine bel_set ?_ ?_ _) | (refine bel_al ?_ ?_ _) | exact Below.refl _ _ | assumption | (refine below_drewN ?_ _) | (refine Below.drew ?_) | (refine Below.trans ?_ (Below.mono hb2 ?_)) | (refine Below.trans ?_ (Below.mono hb1 ?_)))) <;> (first | omega | (simp; done) | (simp; omega)))
    · (refine OC.mono (base := ?bb) ?hh ?hl; (case hh => ((repeat' (first | (refine OC.set ?_ _ ?_) | (refine OC.alloc ?_ _) | exact ho2 | (refine OC.drewN ?_ _))) <;> (first | omega | (simp; done) | (simp; omega)))); (case hl => (first | omega | (simp; done) | (simp; omega))))
theorem implSliceOf_no (W H D : Int) (a : Option Addr) (n c : Nat) (d : Int) (w : World) (hnc : n ≤ c) (hcm : c ≤ maxLen) (hbad : volB W H D n = false ∨ idxB d D = false) :
    Calls Try.prog 35 #[.agg #[.int .i64 W, .int .i64 H, .int .i64 D, .slice a n c], .int .i64 d] w (RPic 39 0 0 [] false w) := by
  have h1 := fun w1 => validVol_any W H D (.slice a n c) n w1 ⟨a, c, rfl, hnc, hcm⟩
  cases hv : volB W H D n with
  | false =>
    have hv := Lib.hid hv
    go_enter Try.func35, Try.ntmps35
    go_wp2_with fail
    refine (h1 _).mono ?_
    rintro e w1 ⟨rfl, hb1⟩
    rw [hv.out]
    obtain ⟨l1, q0, q1, q2, qf⟩ := (Nv.new _ _ _ _ _).below hb1
    have s1 := hb1.size
    simp only [World.size_alloc] at l1 q0 q1 q2 qf s1
    go_wp2_with fail
    refine bodyPost_ret (v := ?v) ?hr rfl ?post
    case hr => (simp [results, Try.results35, go_sem, q0, q1, q2, qf]; try rfl)
    case post => exact ⟨_, _, _, rfl, by ((repeat' (first | (refine bel_set ?_ ?_ _) | (refine bel_al ?_ ?_ _) | exact Below.refl _ _ | assumption | (refine below_drewN ?_ _) | (refine Below.drew ?_) | (refine Below.trans ?_ (Below.mono hb1 ?_)))) <;> (first | omega | (simp; done) | (simp; omega))), OC.nil _ _ _⟩
  | true =>
    have hd' := Lib.hid (show idxB d D = false by rcases hbad with h | h; · rw [h] at hv; cases hv
                                                  · exact h)
    have hv := Lib.hid hv
    go_enter Try.func35, Try.ntmps35
    go_wp2_with fail
    refine (h1 _).mono ?_
    rintro e w1 ⟨rfl, hb1⟩
    rw [hv.out]
    have hP := (((Pw.new _ _ _ _ _ _).alloc _).alloc _).below hb1
    obtain ⟨l1, q0, q1, q2, qf⟩ := (Nv.new _ _ _ _ _).below hb1
    have s1 := hb1.size
    have hcd := (bcell hb1).1 (w.heap.size + 1) 0 (by simp)
    simp only [World.size_alloc] at l1 q0 q1 q2 qf s1
    rw [show (((w.alloc (.cells #[.int .i64 W, .int .i64 H, .int .i64 D, .slice a n c] 27)).alloc (.cells #[.int .i64 d] 2)).alloc (.cells #[.int .i64 0, .int .i64 0, .slice none 0 0] 52)).cell? ⟨w.heap.size + 1, 0, none⟩ = some (.int .i64 d) by go_simp] at hcd
    obtain ⟨l3, p0, p1, p2, p3⟩ := id hP
    go_wp2_with fail
    refine (isIndex_any _ _ _).mono ?_
    rintro e w' ⟨rfl, rfl⟩
    rw [hd'.out]
    go_wp2_with fail
    refine bodyPost_ret (v := ?v) ?hr rfl ?post
    case hr => (simp [results, Try.results35, go_sem, q0, q1, q2, qf]; try rfl)
    case post => exact ⟨_, _, _, rfl, by ((repeat' (first | (refine bel_set ?_ ?_ _) | (refine bel_al ?_ ?_ _) | exact Below.refl _ _ | assumption | (refine below_drewN ?_ _) | (refine Below.drew ?_) | (refine Below.trans ?_ (Below.mono hb1 ?_)))) <;> (first | omega | (simp; done) | (simp; omega))), OC.nil _ _ _⟩
set_option maxHeartbeats 1000000 in
theorem specSliceOf_any (W H D : Nat) (a : Option Addr) (n c : Nat) (cs : List Nat) (d : Nat) (w : World) (hv : FC w (.slice a n c) cs) (b1 : 1 ≤ W) (b2 : W ≤ 24) (b3 : 1 ≤ H) (b4 : H ≤ 24) (b5 : H * W ≤ 256) (d1 : 1 ≤ D) (d2 : D ≤ 8) (hl : cs.length = H * W * D) (hd : d < D) :
    Calls Try.prog 34 #[.agg #[.int .i64 W, .int .i64 H, .int .i64 D, .slice a n c], .int .i64 d] w (RPic 39 W H (seqL (fun i => cs.getD (i * D + d) 0) (H * W)) true w) := by
  obtain ⟨rfl, hnc, hcm⟩ := hv.sized
  have hval := Lib.hid (volB_mk b1 b2 b3 b4 b5 d1 d2 hl)
  have h1 := fun w1 hp => specVIs_any W H D a cs.length c w.heap.size w1 hp (by unfold maxLen at hcm; omega)
  have hd' := Lib.hid (show idxB d D = true by simp [idxB]; omega)
  have h3 := fun w1 (hb : Below w.heap.size w w1) hp => specSlice_any W H D a cs.length c w.heap.size cs d w1 hp (hv.below hb) b1 b2 b3 b4 b5 d1 d2 hl hd
  clear hl
  go_enter Try.func34, Try.ntmps34
  go_wp2_with fail
  refine (h1 _ ((Pw.new _ _ _ _ _ _).alloc _)).mono ?_
  rintro e w1 ⟨k, rfl, rfl⟩
  rw [hval.out]
  go_wp2_with fail
  refine (specIn_any _ _ _ _).mono ?_
  rintro e w' ⟨rfl, rfl⟩
  rw [inB_idx, hd'.out]
  go_wp2_with fail
  refine (h3 _ (by ((repeat' (first | (refine bel_set ?_ ?_ _) | (refine bel_al ?_ ?_ _) | exact Below.refl _ _ | assumption | (refine below_drewN ?_ _) | (refine Below.drew ?_))) <;> (first | omega | (simp; done) | (simp; omega)))) (((Pw.new _ _ _ _ _ _).alloc _).drewN _)).mono ?_
  rintro e w2 ⟨a2, n2, c2, rfl, hb2, ho2⟩
  have hn := ((Nv.new _ _ _ _ _).drewN k).below hb2
  have s2 := hb2.size
  simp only [World.size_alloc, World.heap_drewN] at hn s2
  obtain ⟨l2, q0, q1, q2, qf⟩ := id hn
  go_wp2_with fail
  refine bodyPost_ret (v := ?v) ?hr rfl ?post
  case hr => (simp [results, Try.results34, go_sem, q0, q1, q2, qf]; try rfl)
  case post =>
    refine ⟨_, _, _, rfl, ?_, ?_⟩
    · ((repeat' (first | (refine bel_set ?_ ?_ _) | (refine bel_al ?_ ?_ _) | exact Below.refl _ _ | assumption | (refine below_drewN ?_ _) | (refine Below.drew ?_) | (refine Below.trans ?_ (Below.mono hb2 ?_)))) <;> (first | omega | (simp; done) | (simp; omega)))
    · (refine OC.mono (base := ?bb) ?hh ?hl; (case hh => ((repeat' (first | (refine OC.set ?_ _ ?_) | (refine OC.alloc ?_ _) | exact ho2 | (refine OC.drewN ?_ _))) <;> (first | omega | (simp; done) | (simp; omega)))); (case hl => (first | omega | (simp; done) | (simp; omega))))
theorem specSliceOf_no (W H D : Int) (a : Option Addr) (n c : Nat) (d : Int) (w : World) (hcm : c ≤ maxLen) (hnc : n ≤ c) (hbad : volB W H D n = false ∨ idxB d D = false) :
    Calls Try.prog 34 #[.agg #[.int .i64 W, .int .i64 H, .int .i64 D, .slice a n c], .int .i64 d] w (RPic 39 0 0 [] false w) := by
  have h1 := fun w1 hp => specVIs_any W H D a n c w.heap.size w1 hp (by unfold maxLen at hcm; omega)
  cases hv : volB W H D n with
  | false =>
    have hv := Lib.hid hv
    go_enter Try.func34, Try.ntmps34
    go_wp2_with fail
    refine (h1 _ ((Pw.new _ _ _ _ _ _).alloc _)).mono ?_
    rintro e w1 ⟨k, rfl, rfl⟩
    rw [hv.out]
    go_wp2_with fail
    refine bodyPost_ret (v := ?v) ?hr rfl ?post
    case hr => (simp [results, Try.results34, go_sem]; try rfl)
    case post => exact ⟨_, _, _, rfl, by ((repeat' (first | (refine bel_set ?_ ?_ _) | (refine bel_al ?_ ?_ _) | exact Below.refl _ _ | assumption | (refine below_drewN ?_ _) | (refine Below.drew ?_))) <;> (first | omega | (simp; done) | (simp; omega))), OC.nil _ _ _⟩
  | true =>
    have hd' := Lib.hid (show idxB d D = false by rcases hbad with h | h; · rw [h] at hv; cases hv
                                                  · exact h)
    obtain ⟨Wn, Hn, Dn, rfl, rfl, rfl, _, _, _, _, _, d1, d2, hq⟩ := volB_parts hv
    clear hq
    have hv := Lib.hid hv
    go_enter Try.func34, Try.ntmps34
    go_wp2_with fail
    refine (h1 _ ((Pw.new _ _ _ _ _ _).alloc _)).mono ?_
    rintro e w1 ⟨k, rfl, rfl⟩
    rw [hv.out]
    go_wp2_with fail
    refine (specIn_any _ _ _ _).mono ?_
    rintro e w' ⟨rfl, rfl⟩
    rw [inB_idx, hd'.out]
    go_wp2_with fail
    refine bodyPost_ret (v := ?v) ?hr rfl ?post
    case hr => (simp [results, Try.results34, go_sem]; try rfl)
    case post => exact ⟨_, _, _, rfl, by ((repeat' (first | (refine bel_set ?_ ?_ _) | (refine bel_al ?_ ?_ _) | exact Below.refl _ _ | assumption | (refine below_drewN ?_ _) | (refine Below.drew ?_))) <;> (first | omega | (simp; done) | (simp; omega))), OC.nil _ _ _⟩
theorem pairSliceOf (W H D : Int) (cs : List Nat) (d : Int) :
    ∃ (W' H' : Int) (cs' : List Nat) (ok : Bool),
      (∀ a n c w, FC w (.slice a n c) cs → Calls Try.prog 34 #[.agg #[.int .i64 W, .int .i64 H, .int .i64 D, .slice a n c], .int .i64 d] w (RPic 39 W' H' cs' ok w)) ∧
      (∀ a n c w, FC w (.slice a n c) cs → Calls Try.prog 35 #[.agg #[.int .i64 W, .int .i64 H, .int .i64 D, .slice a n c], .int .i64 d] w (RPic 39 W' H' cs' ok w)) ∧ cs'.length ≤ 256 := by
  by_cases hbad : volB W H D cs.length = false ∨ idxB d D = false
  · refine ⟨0, 0, [], false, fun a n c w hv => ?_, fun a n c w hv => ?_, by simp⟩
    · obtain ⟨rfl, h1, h2⟩ := hv.sized
      exact specSliceOf_no W H D a _ c d w h2 h1 hbad
    · obtain ⟨rfl, h1, h2⟩ := hv.sized
      exact implSliceOf_no W H D a _ c d w h1 h2 hbad
  · have hv : volB W H D cs.length = true := by cases h : volB W H D cs.length; · exact absurd (.inl h) hbad
                                                · rfl
    have hd : idxB d D = true := by cases h : idxB d D; · exact absurd (.inr h) hbad
                                    · rfl
    obtain ⟨Wn, Hn, Dn, rfl, rfl, rfl, b1, b2, b3, b4, b5, d1, d2, hl⟩ := volB_parts hv
    have rd : 0 ≤ d ∧ d < Dn := by simpa [idxB] using hd
    obtain ⟨dn, rfl⟩ := Int.eq_ofNat_of_zero_le rd.1
    exact ⟨_, _, _, _, fun a n c w hv => specSliceOf_any Wn Hn Dn a n c cs dn w hv b1 b2 b3 b4 b5 d1 d2 hl (by omega), fun a n c w hv => implSliceOf_any Wn Hn Dn a n c cs dn w hv b1 b2 b3 b4 b5 d1 d2 hl (by omega), by rw [seqL_len]; exact b5⟩
end Go.Proofs.Ytmfdiobpdaonaaa
