import Derived.Test.YtmfdiobpdaonaaaVo
set_option linter.unusedVariables false
set_option linter.unusedSimpArgs false
namespace Go.Proofs.Ytmfdiobpdaonaaa
open Go.FX Go.RowKit Go.WideShapes Go.ChangeShapes


theorem cap_cells (W H D : Nat) (cs : List Nat) (cm : Nat) (hl : cs.length = H * W * D) : cubeL W D (fun x y d => capF (costC W D cs x y d) cm) (H * W * D) = seqL (fun i => capF (cs.getD i 0) cm) cs.length := by
  rw [hl]
  refine seqL_congr fun i hi => ?_
  obtain ⟨_, _, _, h4⟩ := cube_place hi
  show capF (cs.getD ((i / D / W * W + i / D % W) * D + i % D) 0) cm = _
  rw [← h4]
set_option maxHeartbeats 1000000 in
theorem cap_fn (W H D : Nat) (a : Option Addr) (n c : Nat) (cs : List Nat) (m cm : Nat) (hm : Fl .f32 m cm) (bp bm : Nat) (w : World) (hv : FC w (.slice a n c) cs) (hp : Pw w bp W H D (.slice a n c)) (hlb : bm < w.heap.size) (hcb : w.cell? ⟨bm, 0, none⟩ = some (.float .f32 m)) (b1 : 1 ≤ W) (b2 : W ≤ 24) (b3 : 1 ≤ H) (b4 : H ≤ 24) (b5 : H * W ≤ 256) (d1 : 1 ≤ D) (d2 : D ≤ 8) (hl : cs.length = H * W * D) :
    CostFn Try.prog 79 #[] #[.pointer (some ⟨bp, 0, none⟩), .pointer (some ⟨bm, 0, none⟩)] W H D (fun x y d => capF (costC W D cs x y d) cm) w := fun w1 x y d hb hx hy hd => by
  have hat := fun w2 (h : Below w1.heap.size w1 w2) => at_any W H D (.slice a n c) cs x y d w2 ((hv.below hb).below h) b1 b2 b4 b5 d1 d2 hl hx hy hd
  obtain ⟨l0, p0, p1, p2, p3⟩ := hp.below hb
  have q := (bcell hb).1 bm 0 hlb
  rw [hcb] at q
  have lb1 : bm < w1.heap.size := Nat.lt_of_lt_of_le hlb hb.size
  clear hcb hv hp hl hb
  show Calls Try.prog 79 #[.int .i64 x, .int .i64 y, .int .i64 d, .pointer (some ⟨bp, 0, none⟩), .pointer (some ⟨bm, 0, none⟩)] w1 _
  go_enter Try.func79, Try.ntmps79
  go_wp2_with fail
  refine (hat _ (by ((repeat' (first | (refine bel_set ?_ ?_ _) | (refine bel_al ?_ ?_ _) | exact Below.refl _ _ | assumption | (refine below_drewN ?_ _) | (refine Below.drew ?_))) <;> (first | omega | (simp; done) | (simp; omega))))).mono ?_
  rintro e w2 ⟨r, rfl, hb2, hr⟩
  have q2 := ((bcell hb2).1 bm 0 lb1).trans q
  have ho := Lib.hid (hr.order hm)
  cases tt : (FloatKind.f32.format.order r m == some Ordering.gt)
  · go_wp2_with fail
    go_ret
    exact ⟨_, rfl, hb2, by show Fl .f32 r (capF _ _); unfold capF; rw [← ho.out, tt]; exact hr⟩
  · go_wp2_with fail
    go_ret
    exact ⟨_, rfl, hb2, by show Fl .f32 m (capF _ _); unfold capF; rw [← ho.out, tt]; exact hm⟩
set_option maxHeartbeats 1000000 in
theorem implCapVolume_any (W H D : Nat) (a : Option Addr) (n c : Nat) (cs : List Nat) (m cm : Nat) (hm : Fl .f32 m cm) (w : World) (hv : FC w (.slice a n c) cs) (b1 : 1 ≤ W) (b2 : W ≤ 24) (b3 : 1 ≤ H) (b4 : H ≤ 24) (b5 : H * W ≤ 256) (d1 : 1 ≤ D) (d2 : D ≤ 8) (hl : cs.length = H * W * D) :
    Calls Try.prog 41 #[.agg #[.int .i64 W, .int .i64 H, .int .i64 D, .slice a n c], .float .f32 m] w (RVol 39 W H D (seqL (fun i => capF (cs.getD i 0) cm) cs.length) true w) := by
  obtain ⟨rfl, hnc, hcm⟩ := hv.sized
  have hval := volB_mk b1 b2 b3 b4 b5 d1 d2 hl
  have hd := fun w1 (hb : Below w.heap.size w w1) hp hlb hcb => buildFrom_any W H D a cs.length c hval hnc hcm b1 b2 b3 b4 b5 d1 d2 _ _ _ _ w1 (enters_of Try.func79 (by kernel_rfl) rfl) (cap_fn W H D a _ c cs m cm hm w.heap.size (w.heap.size + 1) w1 (hv.below hb) hp hlb hcb b1 b2 b3 b4 b5 d1 d2 hl)
  rw [cap_cells W H D cs cm hl] at hd
  clear hl hval
  go_enter Try.func41, Try.ntmps41
  go_wp2_with fail
  refine (hd _ (by ((repeat' (first | (refine bel_set ?_ ?_ _) | (refine bel_al ?_ ?_ _) | exact Below.refl _ _ | assumption | (refine below_drewN ?_ _) | (refine Below.drew ?_))) <;> (first | omega | (simp; done) | (simp; omega)))) (((Pw.new _ _ _ _ _ _).alloc _).alloc _) (by simp; try omega) (by go_simp)).mono ?_
  rintro e w1 ⟨a1, n1, c1, rfl, hb1, ho1⟩
  obtain ⟨l1, q0, q1, q2, q3, qf⟩ := (Nw.new _ _ _ _ _ _).below hb1
  have s1 := hb1.size
  simp only [World.size_alloc] at l1 q0 q1 q2 q3 qf s1
  go_wp2_with fail
  refine bodyPost_ret (v := ?v) ?hr rfl ?post
  case hr => (simp [results, Try.results41, go_sem, q0, q1, q2, q3, qf]; try rfl)
  case post =>
    refine ⟨_, _, _, rfl, ?_, ?_⟩
    · ((repeat' (first | (refine bel_set ?_ ?_ _) | (refine bel_al ?_ ?_ _) | exact Below.refl _ _ | assumption | (refine below_drewN ?_ _) | (refine Below.drew ?_) | (refine Below.trans ?_ (Below.mono hb1 ?_)))) <;> (first | omega | (simp; done) | (simp; omega)))
    · (refine OC.mono (base := ?bb) ?hh ?hl; (case hh => ((repeat' (first | (refine OC.set ?_ _ ?_) | (refine OC.alloc ?_ _) | exact ho1 | (refine OC.drewN ?_ _))) <;> (first | omega | (simp; done) | (simp; omega)))); (case hl => (first | omega | (simp; done) | (simp; omega))))

theorem specCapVolume_no (W H D : Int) (a : Option Addr) (n c : Nat) (m : Nat) (w : World) (hnc : n ≤ c) (hcm : c ≤ maxLen) (hval : volB W H D n = false) :
    Calls Try.prog 40 #[.agg #[.int .i64 W, .int .i64 H, .int .i64 D, .slice a n c], .float .f32 m] w (RVol 39 0 0 0 [] false w) := by
  have h1 := fun w1 hp => specVIs_any W H D a n c w.heap.size w1 hp (by unfold maxLen at hcm; omega)
  have hval := Lib.hid hval
  go_enter Try.func40, Try.ntmps40
  go_wp2_with fail
  refine (h1 _ ((Pw.new _ _ _ _ _ _).alloc _)).mono ?_
  rintro e w1 ⟨k, rfl, rfl⟩
  rw [hval.out]
  go_wp2_with fail
  refine bodyPost_ret (v := ?v) ?hr rfl ?post
  case hr => (simp [results, Try.results40, go_sem]; try rfl)
  case post => exact ⟨_, _, _, rfl, by ((repeat' (first | (refine bel_set ?_ ?_ _) | (refine bel_al ?_ ?_ _) | exact Below.refl _ _ | assumption | (refine below_drewN ?_ _) | (refine Below.drew ?_))) <;> (first | omega | (simp; done) | (simp; omega))), OC.nil _ _ _⟩

theorem implCapVolume_no (W H D : Int) (a : Option Addr) (n c : Nat) (m : Nat) (w : World) (hnc : n ≤ c) (hcm : c ≤ maxLen) (hval : volB W H D n = false) :
    Calls Try.prog 41 #[.agg #[.int .i64 W, .int .i64 H, .int .i64 D, .slice a n c], .float .f32 m] w (RVol 39 0 0 0 [] false w) := by
  have hd := fun w1 first cap => buildFrom_no W H D a n c hnc hcm hval (.func 79) first cap w1
  go_enter Try.func41, Try.ntmps41
  go_wp2_with fail
  refine (hd _ _ _).mono ?_
  rintro e w1 ⟨a1, n1, c1, rfl, hb1, ho1⟩
  obtain ⟨l1, q0, q1, q2, q3, qf⟩ := (Nw.new _ _ _ _ _ _).below hb1
  have s1 := hb1.size
  simp only [World.size_alloc] at l1 q0 q1 q2 q3 qf s1
  go_wp2_with fail
  refine bodyPost_ret (v := ?v) ?hr rfl ?post
  case hr => (simp [results, Try.results41, go_sem, q0, q1, q2, q3, qf]; try rfl)
  case post =>
    refine ⟨_, _, _, rfl, ?_, ?_⟩
    · ((repeat' (first | (refine bel_set ?_ ?_ _) | (refine bel_al ?_ ?_ _) | exact Below.refl _ _ | assumption | (refine below_drewN ?_ _) | (refine Below.drew ?_) | (refine Below.trans ?_ (Below.mono hb1 ?_)))) <;> (first | omega | (simp; done) | (simp; omega)))
    · (refine OC.mono (base := ?bb) ?hh ?hl; (case hh => ((repeat' (first | (refine OC.set ?_ _ ?_) | (refine OC.alloc ?_ _) | exact ho1 | (refine OC.drewN ?_ _))) <;> (first | omega | (simp; done) | (simp; omega)))); (case hl => (first | omega | (simp; done) | (simp; omega))))

theorem pairCapVolume (W H D : Int) (cs : List Nat) (m : Nat) (hm : m < width .f32) :
    ∃ (W' H' D' : Int) (cs' : List Nat) (ok : Bool),
      (∀ a n c w, FC w (.slice a n c) cs → Calls Try.prog 40 #[.agg #[.int .i64 W, .int .i64 H, .int .i64 D, .slice a n c], .float .f32 m] w (RVol 39 W' H' D' cs' ok w)) ∧
      (∀ a n c w, FC w (.slice a n c) cs → Calls Try.prog 41 #[.agg #[.int .i64 W, .int .i64 H, .int .i64 D, .slice a n c], .float .f32 m] w (RVol 39 W' H' D' cs' ok w)) ∧ cs'.length ≤ 2048 := by
  cases hv : volB W H D cs.length with
  | false =>
    refine ⟨0, 0, 0, [], false, fun a n c w hv => ?_, fun a n c w hv => ?_, by simp⟩
    · obtain ⟨rfl, h1, h2⟩ := hv.sized
      exact specCapVolume_no W H D a _ c m w h1 h2 (by assumption)
    · obtain ⟨rfl, h1, h2⟩ := hv.sized
      exact implCapVolume_no W H D a _ c m w h1 h2 (by assumption)
  | true =>
    obtain ⟨Wn, Hn, Dn, rfl, rfl, rfl, b1, b2, b3, b4, b5, d1, d2, hl⟩ := volB_parts hv
    exact ⟨_, _, _, _, _, fun a n c w hv => specCapVolume_any Wn Hn Dn a n c cs m _ (Fl.of hm) w hv b1 b2 b3 b4 b5 d1 d2 hl, fun a n c w hv => implCapVolume_any Wn Hn Dn a n c cs m _ (Fl.of hm) w hv b1 b2 b3 b4 b5 d1 d2 hl, by rw [seqL_len, hl]; exact Nat.mul_le_mul b5 d2⟩

end Go.Proofs.Ytmfdiobpdaonaaa
