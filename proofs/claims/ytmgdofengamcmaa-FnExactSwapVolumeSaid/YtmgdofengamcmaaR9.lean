import Derived.Test.YtmgdofengamcmaaR8
set_option linter.unusedVariables false
set_option linter.unusedSimpArgs false
namespace Go.Proofs.Ytmgdofengamcmaa
open Go.FX Go.RowKit Go.WideShapes Go.ChangeShapes

set_option maxHeartbeats 1000000 in
theorem specMirrorVolume_any (W H D : Nat) (a : Option Addr) (n c : Nat) (cs : List Nat) (w : World) (hv : FC w (.slice a n c) cs) (b1 : 1 ≤ W) (b2 : W ≤ 24) (b3 : 1 ≤ H) (b4 : H ≤ 24) (b5 : H * W ≤ 256) (d1 : 1 ≤ D) (d2 : D ≤ 8) (hl : cs.length = H * W * D) :
    Calls Try.prog 32 #[.agg #[.int .i64 W, .int .i64 H, .int .i64 D, .slice a n c]] w (RVol 22 W H D (cubeL W D (fun x y d => costC W D cs (W - 1 - x) y d) (H * W * D)) true w) := by
  obtain ⟨rfl, hnc, hcm⟩ := hv.sized
  have hval := Lib.hid (volB_mk b1 b2 b3 b4 b5 d1 d2 hl)
  have h1 := fun w1 hp => specVIs_any W H D a cs.length c w.heap.size w1 hp (by unfold maxLen at hcm; omega)
  have h3 := fun w1 (hb : Below w.heap.size w w1) hp => specTurn0_any W H D a cs.length c w.heap.size cs w1 hp (hv.below hb) b1 b2 b3 b4 b5 d1 d2 hl
  clear hl
  go_enter Try.func32, Try.ntmps32
  go_wp2_with fail
  refine (h1 _ ((Pw.new _ _ _ _ _ _).alloc _)).mono ?_
  rintro e w1 ⟨k, rfl, rfl⟩
  rw [hval.out]
  go_wp2_with fail
  refine (h3 _ (by ((repeat' (first | (refine bel_set ?_ ?_ _) | (refine bel_al ?_ ?_ _) | exact Below.refl _ _ | assumption | (refine below_drewN ?_ _) | (refine Below.drew ?_))) <;> (first | omega | (simp; done) | (simp; omega)))) (((Pw.new _ _ _ _ _ _).alloc _).drewN _)).mono ?_
  rintro e w2 ⟨a2, n2, c2, rfl, hb2, ho2⟩
  have hn := ((Nw.new _ _ _ _ _ _).drewN k).below hb2
  have s2 := hb2.size
  simp only [World.size_alloc, World.heap_drewN] at hn s2
  obtain ⟨l2, q0, q1, q2, q3, qf⟩ := id hn
  go_wp2_with fail
  refine bodyPost_ret (v := ?v) ?hr rfl ?post
  case hr => (simp [results, Try.results32, go_sem, q0, q1, q2, q3, qf]; try rfl)
  case post =>
    refine ⟨_, _, _, rfl, ?_, ?_⟩
    · ((repeat' (first | (refine bel_set ?_ ?_ _) | (refine bel_al ?_ ?_ _) | exact Below.refl _ _ | assumption | (refine below_drewN ?_ _) | (refine Below.drew ?_) | (refine Below.trans ?_ (Below.mono hb2 ?_)))) <;> (first | omega | (simp; done) | (simp; omega)))
    · (refine OC.mono (base := ?bb) ?hh ?hl; (case hh => ((repeat' (first | (refine OC.set ?_ _ ?_) | (refine OC.alloc ?_ _) | exact ho2 | (refine OC.drewN ?_ _))) <;> (first | omega | (simp; done) | (simp; omega)))); (case hl => (first | omega | (simp; done) | (simp; omega))))
theorem specMirrorVolume_no (W H D : Int) (a : Option Addr) (n c : Nat) (w : World) (hnc : n ≤ c) (hcm : c ≤ maxLen) (hval : volB W H D n = false) :
    Calls Try.prog 32 #[.agg #[.int .i64 W, .int .i64 H, .int .i64 D, .slice a n c]] w (RVol 22 0 0 0 [] false w) := by
  have h1 := fun w1 hp => specVIs_any W H D a n c w.heap.size w1 hp (by unfold maxLen at hcm; omega)
  have hval := Lib.hid hval
  go_enter Try.func32, Try.ntmps32
  go_wp2_with fail
  refine (h1 _ ((Pw.new _ _ _ _ _ _).alloc _)).mono ?_
  rintro e w1 ⟨k, rfl, rfl⟩
  rw [hval.out]
  go_wp2_with fail
  refine bodyPost_ret (v := ?v) ?hr rfl ?post
  case hr => (simp [results, Try.results32, go_sem]; try rfl)
  case post => exact ⟨_, _, _, rfl, by ((repeat' (first | (refine bel_set ?_ ?_ _) | (refine bel_al ?_ ?_ _) | exact Below.refl _ _ | assumption | (refine below_drewN ?_ _) | (refine Below.drew ?_))) <;> (first | omega | (simp; done) | (simp; omega))), OC.nil _ _ _⟩
set_option maxHeartbeats 1000000 in
theorem MirrorVol_fn (W H D : Nat) (a : Option Addr) (n c : Nat) (cs : List Nat) (bp : Nat) (w : World) (hv : FC w (.slice a n c) cs) (hp : Pw w bp W H D (.slice a n c)) (b1 : 1 ≤ W) (b2 : W ≤ 24) (b3 : 1 ≤ H) (b4 : H ≤ 24) (b5 : H * W ≤ 256) (d1 : 1 ≤ D) (d2 : D ≤ 8) (hl : cs.length = H * W * D) :
    CostFn Try.prog 76 #[] #[.pointer (some ⟨bp, 0, none⟩)] W H D (fun x y d => costC W D cs (W - 1 - x) y d) w := fun w1 x y d hb hx hy hd => by
  have hat := fun w2 xi (hxi : xi = ((W - 1 - x : Nat) : Int)) (h : Below w1.heap.size w1 w2) => at_of W H D (.slice a n c) cs (W - 1 - x) y d xi y d hxi rfl rfl w2 ((hv.below hb).below h) b1 b2 b4 b5 d1 d2 hl (by omega) hy hd
  obtain ⟨l0, p0, p1, p2, p3⟩ := hp.below hb
  clear hv hp hl hb
  show Calls Try.prog 76 #[.int .i64 x, .int .i64 y, .int .i64 d, .pointer (some ⟨bp, 0, none⟩)] w1 _
  go_enter Try.func76, Try.ntmps76
  go_wp2_with fail
  refine (hat _ _ (by omega) (by ((repeat' (first | (refine bel_set ?_ ?_ _) | (refine bel_al ?_ ?_ _) | exact Below.refl _ _ | assumption | (refine below_drewN ?_ _) | (refine Below.drew ?_))) <;> (first | omega | (simp; done) | (simp; omega))))).mono ?_
  rintro e w2 ⟨r, rfl, hb2, hr⟩
  go_wp2_with fail
  go_ret
  exact ⟨_, rfl, by ((repeat' (first | (refine bel_set ?_ ?_ _) | (refine bel_al ?_ ?_ _) | exact Below.refl _ _ | assumption | (refine below_drewN ?_ _) | (refine Below.drew ?_) | (refine Below.trans ?_ (Below.mono hb2 ?_)))) <;> (first | omega | (simp; done) | (simp; omega))), hr⟩
set_option maxHeartbeats 1000000 in
theorem implMirrorVolume_any (W H D : Nat) (a : Option Addr) (n c : Nat) (cs : List Nat) (w : World) (hv : FC w (.slice a n c) cs) (b1 : 1 ≤ W) (b2 : W ≤ 24) (b3 : 1 ≤ H) (b4 : H ≤ 24) (b5 : H * W ≤ 256) (d1 : 1 ≤ D) (d2 : D ≤ 8) (hl : cs.length = H * W * D) :
    Calls Try.prog 33 #[.agg #[.int .i64 W, .int .i64 H, .int .i64 D, .slice a n c]] w (RVol 22 W H D (cubeL W D (fun x y d => costC W D cs (W - 1 - x) y d) (H * W * D)) true w) := by
  obtain ⟨rfl, hnc, hcm⟩ := hv.sized
  have hval := volB_mk b1 b2 b3 b4 b5 d1 d2 hl
  have hd := fun w1 (hb : Below w.heap.size w w1) hp => buildFrom_any W H D a cs.length c hval hnc hcm b1 b2 b3 b4 b5 d1 d2 _ _ _ _ w1 (enters_of Try.func76 (by kernel_rfl) rfl) (MirrorVol_fn W H D a _ c cs w.heap.size w1 (hv.below hb) hp b1 b2 b3 b4 b5 d1 d2 hl)
  clear hl hval
  go_enter Try.func33, Try.ntmps33
  go_wp2_with fail
  refine (hd _ (by ((repeat' (first | (refine bel_set ?_ ?_ _) | (refine bel_al ?_ ?_ _) | exact Below.refl _ _ | assumption | (refine below_drewN ?_ _) | (refine Below.drew ?_))) <;> (first | omega | (simp; done) | (simp; omega)))) ((Pw.new _ _ _ _ _ _).alloc _)).mono ?_
  rintro e w1 ⟨a1, n1, c1, rfl, hb1, ho1⟩
  obtain ⟨l1, q0, q1, q2, q3, qf⟩ := (Nw.new _ _ _ _ _ _).below hb1
  have s1 := hb1.size
  simp only [World.size_alloc] at l1 q0 q1 q2 q3 qf s1
  go_wp2_with fail
  refine bodyPost_ret (v := ?v) ?hr rfl ?post
  case hr => (simp [results, Try.results33, go_sem, q0, q1, q2, q3, qf]; try rfl)
  case post =>
    refine ⟨_, _, _, rfl, ?_, ?_⟩
    · ((repeat' (first | (refine bel_set ?_ ?_ _) | (refine bel_al ?_ ?_ _) | exact Below.refl _ _ | assumption | (refine below_drewN ?_ _) | (refine Below.drew ?_) | (refine Below.trans ?_ (Below.mono hb1 ?_)))) <;> (first | omega | (simp; done) | (simp; omega)))
    · (refine OC.mono (base := ?bb) ?hh ?hl; (case hh => ((repeat' (first | (refine OC.set ?_ _ ?_) | (refine OC.alloc ?_ _) | exact ho1 | (refine OC.drewN ?_ _))) <;> (first | omega | (simp; done) | (simp; omega)))); (case hl => (first | omega | (simp; done) | (simp; omega))))
theorem implMirrorVolume_no (W H D : Int) (a : Option Addr) (n c : Nat) (w : World) (hnc : n ≤ c) (hcm : c ≤ maxLen) (hval : volB W H D n = false) :
    Calls Try.prog 33 #[.agg #[.int .i64 W, .int .i64 H, .int .i64 D, .slice a n c]] w (RVol 22 0 0 0 [] false w) := by
  have hd := fun w1 first cap => buildFrom_no W H D a n c hnc hcm hval (.func 76) first cap w1
  go_enter Try.func33, Try.ntmps33
  go_wp2_with fail
  refine (hd _ _ _).mono ?_
  rintro e w1 ⟨a1, n1, c1, rfl, hb1, ho1⟩
  obtain ⟨l1, q0, q1, q2, q3, qf⟩ := (Nw.new _ _ _ _ _ _).below hb1
  have s1 := hb1.size
  simp only [World.size_alloc] at l1 q0 q1 q2 q3 qf s1
  go_wp2_with fail
  refine bodyPost_ret (v := ?v) ?hr rfl ?post
  case hr => (simp [results, Try.results33, go_sem, q0, q1, q2, q3, qf]; try rfl)
  case post =>
    refine ⟨_, _, _, rfl, ?_, ?_⟩
    · ((repeat' (first | (refine bel_set ?_ ?_ _) | (refine bel_al ?_ ?_ _) | exact Below.refl _ _ | assumption | (refine below_drewN ?_ _) | (refine Below.drew ?_) | (refine Below.trans ?_ (Below.mono hb1 ?_)))) <;> (first | omega | (simp; done) | (simp; omega)))
    · (refine OC.mono (base := ?bb) ?hh ?hl; (case hh => ((repeat' (first | (refine OC.set ?_ _ ?_) | (refine OC.alloc ?_ _) | exact ho1 | (refine OC.drewN ?_ _))) <;> (first | omega | (simp; done) | (simp; omega)))); (case hl => (first | omega | (simp; done) | (simp; omega))))
theorem pairMirrorVolume (W H D : Int) (cs : List Nat) :
    ∃ (W' H' D' : Int) (cs' : List Nat) (ok : Bool),
      (∀ a n c w, FC w (.slice a n c) cs → Calls Try.prog 32 #[.agg #[.int .i64 W, .int .i64 H, .int .i64 D, .slice a n c]] w (RVol 22 W' H' D' cs' ok w)) ∧
      (∀ a n c w, FC w (.slice a n c) cs → Calls Try.prog 33 #[.agg #[.int .i64 W, .int .i64 H, .int .i64 D, .slice a n c]] w (RVol 22 W' H' D' cs' ok w)) ∧ cs'.length ≤ 2048 := by
  cases hv : volB W H D cs.length with
  | false =>
    refine ⟨0, 0, 0, [], false, fun a n c w hv => ?_, fun a n c w hv => ?_, by simp⟩
    · obtain ⟨rfl, h1, h2⟩ := hv.sized
      exact specMirrorVolume_no W H D a _ c w h1 h2 (by assumption)
    · obtain ⟨rfl, h1, h2⟩ := hv.sized
      exact implMirrorVolume_no W H D a _ c w h1 h2 (by assumption)
  | true =>
    obtain ⟨Wn, Hn, Dn, rfl, rfl, rfl, b1, b2, b3, b4, b5, d1, d2, hl⟩ := volB_parts hv
    exact ⟨_, _, _, _, _, fun a n c w hv => specMirrorVolume_any Wn Hn Dn a n c cs w hv b1 b2 b3 b4 b5 d1 d2 hl, fun a n c w hv => implMirrorVolume_any Wn Hn Dn a n c cs w hv b1 b2 b3 b4 b5 d1 d2 hl, by rw [cubeL_len]; exact Nat.mul_le_mul b5 d2⟩
set_option maxHeartbeats 1000000 in
theorem specFlipVolume_any (W H D : Nat) (a : Option Addr) (n c : Nat) (cs : List Nat) (w : World) (hv : FC w (.slice a n c) cs) (b1 : 1 ≤ W) (b2 : W ≤ 24) (b3 : 1 ≤ H) (b4 : H ≤ 24) (b5 : H * W ≤ 256) (d1 : 1 ≤ D) (d2 : D ≤ 8) (hl : cs.length = H * W * D) :
    Calls Try.prog 34 #[.agg #[.int .i64 W, .int .i64 H, .int .i64 D, .slice a n c]] w (RVol 22 W H D (cubeL W D (fun x y d => costC W D cs x (H - 1 - y) d) (H * W * D)) true w) := by
  obtain ⟨rfl, hnc, hcm⟩ := hv.sized
  have hval := Lib.hid (volB_mk b1 b2 b3 b4 b5 d1 d2 hl)
  have h1 := fun w1 hp => specVIs_any W H D a cs.length c w.heap.size w1 hp (by unfold maxLen at hcm; omega)
  have h3 := fun w1 (hb : Below w.heap.size w w1) hp => specTurn1_any W H D a cs.length c w.heap.size cs w1 hp (hv.below hb) b1 b2 b3 b4 b5 d1 d2 hl
  clear hl
  go_enter Try.func34, Try.ntmps34
  go_wp2_with fail
  refine (h1 _ ((Pw.new _ _ _ _ _ _).alloc _)).mono ?_
  rintro e w1 ⟨k, rfl, rfl⟩
  rw [hval.out]
  go_wp2_with fail
  refine (h3 _ (by ((repeat' (first | (refine bel_set ?_ ?_ _) | (refine bel_al ?_ ?_ _) | exact Below.refl _ _ | assumption | (refine below_drewN ?_ _) | (refine Below.drew ?_))) <;> (first | omega | (simp; done) | (simp; omega)))) (((Pw.new _ _ _ _ _ _).alloc _).drewN _)).mono ?_
  rintro e w2 ⟨a2, n2, c2, rfl, hb2, ho2⟩
  have hn := ((Nw.new _ _ _ _ _ _).drewN k).below hb2
  have s2 := hb2.size
  simp only [World.size_alloc, World.heap_drewN] at hn s2
  obtain ⟨l2, q0, q1, q2, q3, qf⟩ := id hn
  go_wp2_with fail
  refine bodyPost_ret (v := ?v) ?hr rfl ?post
  case hr => (simp [results, Try.results34, go_sem, q0, q1, q2, q3, qf]; try rfl)
  case post =>
    refine ⟨_, _, _, rfl, ?_, ?_⟩
    · ((repeat' (first | (refine bel_set ?_ ?_ _) | (refine bel_al ?_ ?_ _) | exact Below.refl _ _ | assumption | (refine below_drewN ?_ _) | (refine Below.drew ?_) | (refine Below.trans ?_ (Below.mono hb2 ?_)))) <;> (first | omega | (simp; done) | (simp; omega)))
    · (refine OC.mono (base := ?bb) ?hh ?hl; (case hh => ((repeat' (first | (refine OC.set ?_ _ ?_) | (refine OC.alloc ?_ _) | exact ho2 | (refine OC.drewN ?_ _))) <;> (first | omega | (simp; done) | (simp; omega)))); (case hl => (first | omega | (simp; done) | (simp; omega))))
theorem specFlipVolume_no (W H D : Int) (a : Option Addr) (n c : Nat) (w : World) (hnc : n ≤ c) (hcm : c ≤ maxLen) (hval : volB W H D n = false) :
    Calls Try.prog 34 #[.agg #[.int .i64 W, .int .i64 H, .int .i64 D, .slice a n c]] w (RVol 22 0 0 0 [] false w) := by
  have h1 := fun w1 hp => specVIs_any W H D a n c w.heap.size w1 hp (by unfold maxLen at hcm; omega)
  have hval := Lib.hid hval
  go_enter Try.func34, Try.ntmps34
  go_wp2_with fail
  refine (h1 _ ((Pw.new _ _ _ _ _ _).alloc _)).mono ?_
  rintro e w1 ⟨k, rfl, rfl⟩
  rw [hval.out]
  go_wp2_with fail
  refine bodyPost_ret (v := ?v) ?hr rfl ?post
  case hr => (simp [results, Try.results34, go_sem]; try rfl)
  case post => exact ⟨_, _, _, rfl, by ((repeat' (first | (refine bel_set ?_ ?_ _) | (refine bel_al ?_ ?_ _) | exact Below.refl _ _ | assumption | (refine below_drewN ?_ _) | (refine Below.drew ?_))) <;> (first | omega | (simp; done) | (simp; omega))), OC.nil _ _ _⟩
set_option maxHeartbeats 1000000 in
theorem FlipVol_fn (W H D : Nat) (a : Option Addr) (n c : Nat) (cs : List Nat) (bp : Nat) (w : World) (hv : FC w (.slice a n c) cs) (hp : Pw w bp W H D (.slice a n c)) (b1 : 1 ≤ W) (b2 : W ≤ 24) (b3 : 1 ≤ H) (b4 : H ≤ 24) (b5 : H * W ≤ 256) (d1 : 1 ≤ D) (d2 : D ≤ 8) (hl : cs.length = H * W * D) :
    CostFn Try.prog 77 #[] #[.pointer (some ⟨bp, 0, none⟩)] W H D (fun x y d => costC W D cs x (H - 1 - y) d) w := fun w1 x y d hb hx hy hd => by
  have hat := fun w2 yi (hyi : yi = ((H - 1 - y : Nat) : Int)) (h : Below w1.heap.size w1 w2) => at_of W H D (.slice a n c) cs x (H - 1 - y) d x yi d rfl hyi rfl w2 ((hv.below hb).below h) b1 b2 b4 b5 d1 d2 hl hx (by omega) hd
  obtain ⟨l0, p0, p1, p2, p3⟩ := hp.below hb
  clear hv hp hl hb
  show Calls Try.prog 77 #[.int .i64 x, .int .i64 y, .int .i64 d, .pointer (some ⟨bp, 0, none⟩)] w1 _
  go_enter Try.func77, Try.ntmps77
  go_wp2_with fail
  refine (hat _ _ (by omega) (by ((repeat' (first | (refine bel_set ?_ ?_ _) | (refine bel_al ?_ ?_ _) | exact Below.refl _ _ | assumption | (refine below_drewN ?_ _) | (refine Below.drew ?_))) <;> (first | omega | (simp; done) | (simp; omega))))).mono ?_
  rintro e w2 ⟨r, rfl, hb2, hr⟩
  go_wp2_with fail
  go_ret
  exact ⟨_, rfl, by ((repeat' (first | (refine bel_set ?_ ?_ _) | (refine bel_al ?_ ?_ _) | exact Below.refl _ _ | assumption | (refine below_drewN ?_ _) | (refine Below.drew ?_) | (refine Below.trans ?_ (Below.mono hb2 ?_)))) <;> (first | omega | (simp; done) | (simp; omega))), hr⟩
set_option maxHeartbeats 1000000 in
theorem implFlipVolume_any (W H D : Nat) (a : Option Addr) (n c : Nat) (cs : List Nat) (w : World) (hv : FC w (.slice a n c) cs) (b1 : 1 ≤ W) (b2 : W ≤ 24) (b3 : 1 ≤ H) (b4 : H ≤ 24) (b5 : H * W ≤ 256) (d1 : 1 ≤ D) (d2 : D ≤ 8) (hl : cs.length = H * W * D) :
    Calls Try.prog 35 #[.agg #[.int .i64 W, .int .i64 H, .int .i64 D, .slice a n c]] w (RVol 22 W H D (cubeL W D (fun x y d => costC W D cs x (H - 1 - y) d) (H * W * D)) true w) := by
  obtain ⟨rfl, hnc, hcm⟩ := hv.sized
  have hval := volB_mk b1 b2 b3 b4 b5 d1 d2 hl
  have hd := fun w1 (hb : Below w.heap.size w w1) hp => buildFrom_any W H D a cs.length c hval hnc hcm b1 b2 b3 b4 b5 d1 d2 _ _ _ _ w1 (enters_of Try.func77 (by kernel_rfl) rfl) (FlipVol_fn W H D a _ c cs w.heap.size w1 (hv.below hb) hp b1 b2 b3 b4 b5 d1 d2 hl)
  clear hl hval
  go_enter Try.func35, Try.ntmps35
  go_wp2_with fail
  refine (hd _ (by ((repeat' (first | (refine bel_set ?_ ?_ _) | (refine bel_al ?_ ?_ _) | exact Below.refl _ _ | assumption | (refine below_drewN ?_ _) | (refine Below.drew ?_))) <;> (first | omega | (simp; done) | (simp; omega)))) ((Pw.new _ _ _ _ _ _).alloc _)).mono ?_
  rintro e w1 ⟨a1, n1, c1, rfl, hb1, ho1⟩
  obtain ⟨l1, q0, q1, q2, q3, qf⟩ := (Nw.new _ _ _ _ _ _).below hb1
  have s1 := hb1.size
  simp only [World.size_alloc] at l1 q0 q1 q2 q3 qf s1
  go_wp2_with fail
  refine bodyPost_ret (v := ?v) ?hr rfl ?post
  case hr => (simp [results, Try.results35, go_sem, q0, q1, q2, q3, qf]; try rfl)
  case post =>
    refine ⟨_, _, _, rfl, ?_, ?_⟩
    · ((repeat' (first | (refine bel_set ?_ ?_ _) | (refine bel_al ?_ ?_ _) | exact Below.refl _ _ | assumption | (refine below_drewN ?_ _) | (refine Below.drew ?_) | (refine Below.trans ?_ (Below.mono hb1 ?_)))) <;> (first | omega | (simp; done) | (simp; omega)))
    · (refine OC.mono (base := ?bb) ?hh ?hl; (case hh => ((repeat' (first | (refine OC.set ?_ _ ?_) | (refine OC.alloc ?_ _) | exact ho1 | (refine OC.drewN ?_ _))) <;> (first | omega | (simp; done) | (simp; omega)))); (case hl => (first | omega | (simp; done) | (simp; omega))))
theorem implFlipVolume_no (W H D : Int) (a : Option Addr) (n c : Nat) (w : World) (hnc : n ≤ c) (hcm : c ≤ maxLen) (hval : volB W H D n = false) :
    Calls Try.prog 35 #[.agg #[.int .i64 W, .int .i64 H, .int .i64 D, .slice a n c]] w (RVol 22 0 0 0 [] false w) := by
  have hd := fun w1 first cap => buildFrom_no W H D a n c hnc hcm hval (.func 77) first cap w1
  go_enter Try.func35, Try.ntmps35
  go_wp2_with fail
  refine (hd _ _ _).mono ?_
  rintro e w1 ⟨a1, n1, c1, rfl, hb1, ho1⟩
  obtain ⟨l1, q0, q1, q2, q3, qf⟩ := (Nw.new _ _ _ _ _ _).below hb1
  have s1 := hb1.size
  simp only [World.size_alloc] at l1 q0 q1 q2 q3 qf s1
  go_wp2_with fail
  refine bodyPost_ret (v := ?v) ?hr rfl ?post
  case hr => (simp [results, Try.results35, go_sem, q0, q1, q2, q3, qf]; try rfl)
  case post =>
    refine ⟨_, _, _, rfl, ?_, ?_⟩
    · ((repeat' (first | (refine bel_set ?_ ?_ _) | (refine bel_al ?_ ?_ _) | exact Below.refl _ _ | assumption | (refine below_drewN ?_ _) | (refine Below.drew ?_) | (refine Below.trans ?_ (Below.mono hb1 ?_)))) <;> (first | omega | (simp; done) | (simp; omega)))
    · (refine OC.mono (base := ?bb) ?hh ?hl; (case hh => ((repeat' (first | (refine OC.set ?_ _ ?_) | (refine OC.alloc ?_ _) | exact ho1 | (refine OC.drewN ?_ _))) <;> (first | omega | (simp; done) | (simp; omega)))); (case hl => (first | omega | (simp; done) | (simp; omega))))
theorem pairFlipVolume (W H D : Int) (cs : List Nat) :
    ∃ (W' H' D' : Int) (cs' : List Nat) (ok : Bool),
      (∀ a n c w, FC w (.slice a n c) cs → Calls Try.prog 34 #[.agg #[.int .i64 W, .int .i64 H, .int .i64 D, .slice a n c]] w (RVol 22 W' H' D' cs' ok w)) ∧
      (∀ a n c w, FC w (.slice a n c) cs → Calls Try.prog 35 #[.agg #[.int .i64 W, .int .i64 H, .int .i64 D, .slice a n c]] w (RVol 22 W' H' D' cs' ok w)) ∧ cs'.length ≤ 2048 := by
  cases hv : volB W H D cs.length with
  | false =>
    refine ⟨0, 0, 0, [], false, fun a n c w hv => ?_, fun a n c w hv => ?_, by simp⟩
    · obtain ⟨rfl, h1, h2⟩ := hv.sized
      exact specFlipVolume_no W H D a _ c w h1 h2 (by assumption)
    · obtain ⟨rfl, h1, h2⟩ := hv.sized
      exact implFlipVolume_no W H D a _ c w h1 h2 (by assumption)
  | true =>
    obtain ⟨Wn, Hn, Dn, rfl, rfl, rfl, b1, b2, b3, b4, b5, d1, d2, hl⟩ := volB_parts hv
    exact ⟨_, _, _, _, _, fun a n c w hv => specFlipVolume_any Wn Hn Dn a n c cs w hv b1 b2 b3 b4 b5 d1 d2 hl, fun a n c w hv => implFlipVolume_any Wn Hn Dn a n c cs w hv b1 b2 b3 b4 b5 d1 d2 hl, by rw [cubeL_len]; exact Nat.mul_le_mul b5 d2⟩
set_option maxHeartbeats 1000000 in
theorem specSwapVolume_any (W H D : Nat) (a : Option Addr) (n c : Nat) (cs : List Nat) (w : World) (hv : FC w (.slice a n c) cs) (b1 : 1 ≤ W) (b2 : W ≤ 24) (b3 : 1 ≤ H) (b4 : H ≤ 24) (b5 : H * W ≤ 256) (d1 : 1 ≤ D) (d2 : D ≤ 8) (hl : cs.length = H * W * D) :
    Calls Try.prog 36 #[.agg #[.int .i64 W, .int .i64 H, .int .i64 D, .slice a n c]] w (RVol 22 H W D (cubeL H D (fun x y d => costC W D cs y x d) (W * H * D)) true w) := by
  obtain ⟨rfl, hnc, hcm⟩ := hv.sized
  have hval := Lib.hid (volB_mk b1 b2 b3 b4 b5 d1 d2 hl)
  have h1 := fun w1 hp => specVIs_any W H D a cs.length c w.heap.size w1 hp (by unfold maxLen at hcm; omega)
  have h3 := fun w1 (hb : Below w.heap.size w w1) hp => specTurn2_any W H D a cs.length c w.heap.size cs w1 hp (hv.below hb) b1 b2 b3 b4 b5 d1 d2 hl
  clear hl
  go_enter Try.func36, Try.ntmps36
  go_wp2_with fail
  refine (h1 _ ((Pw.new _ _ _ _ _ _).alloc _)).mono ?_
  rintro e w1 ⟨k, rfl, rfl⟩
  rw [hval.out]
  go_wp2_with fail
  refine (h3 _ (by ((repeat' (first | (refine bel_set ?_ ?_ _) | (refine bel_al ?_ ?_ _) | exact Below.refl _ _ | assumption | (refine below_drewN ?_ _) | (refine Below.drew ?_))) <;> (first | omega | (simp; done) | (simp; omega)))) (((Pw.new _ _ _ _ _ _).alloc _).drewN _)).mono ?_
  rintro e w2 ⟨a2, n2, c2, rfl, hb2, ho2⟩
  have hn := ((Nw.new _ _ _ _ _ _).drewN k).below hb2
  have s2 := hb2.size
  simp only [World.size_alloc, World.heap_drewN] at hn s2
  obtain ⟨l2, q0, q1, q2, q3, qf⟩ := id hn
  go_wp2_with fail
  refine bodyPost_ret (v := ?v) ?hr rfl ?post
  case hr => (simp [results, Try.results36, go_sem, q0, q1, q2, q3, qf]; try rfl)
  case post =>
    refine ⟨_, _, _, rfl, ?_, ?_⟩
    · ((repeat' (first | (refine bel_set ?_ ?_ _) | (refine bel_al ?_ ?_ _) | exact Below.refl _ _ | assumption | (refine below_drewN ?_ _) | (refine Below.drew ?_) | (refine Below.trans ?_ (Below.mono hb2 ?_)))) <;> (first | omega | (simp; done) | (simp; omega)))
    · (refine OC.mono (base := ?bb) ?hh ?hl; (case hh => ((repeat' (first | (refine OC.set ?_ _ ?_) | (refine OC.alloc ?_ _) | exact ho2 | (refine OC.drewN ?_ _))) <;> (first | omega | (simp; done) | (simp; omega)))); (case hl => (first | omega | (simp; done) | (simp; omega))))
theorem specSwapVolume_no (W H D : Int) (a : Option Addr) (n c : Nat) (w : World) (hnc : n ≤ c) (hcm : c ≤ maxLen) (hval : volB W H D n = false) :
    Calls Try.prog 36 #[.agg #[.int .i64 W, .int .i64 H, .int .i64 D, .slice a n c]] w (RVol 22 0 0 0 [] false w) := by
  have h1 := fun w1 hp => specVIs_any W H D a n c w.heap.size w1 hp (by unfold maxLen at hcm; omega)
  have hval := Lib.hid hval
  go_enter Try.func36, Try.ntmps36
  go_wp2_with fail
  refine (h1 _ ((Pw.new _ _ _ _ _ _).alloc _)).mono ?_
  rintro e w1 ⟨k, rfl, rfl⟩
  rw [hval.out]
  go_wp2_with fail
  refine bodyPost_ret (v := ?v) ?hr rfl ?post
  case hr => (simp [results, Try.results36, go_sem]; try rfl)
  case post => exact ⟨_, _, _, rfl, by ((repeat' (first | (refine bel_set ?_ ?_ _) | (refine bel_al ?_ ?_ _) | exact Below.refl _ _ | assumption | (refine below_drewN ?_ _) | (refine Below.drew ?_))) <;> (first | omega | (simp; done) | (simp; omega))), OC.nil _ _ _⟩
set_option maxHeartbeats 1000000 in
theorem SwapVol_fn (W H D : Nat) (a : Option Addr) (n c : Nat) (cs : List Nat) (bp : Nat) (w : World) (hv : FC w (.slice a n c) cs) (hp : Pw w bp W H D (.slice a n c)) (b1 : 1 ≤ W) (b2 : W ≤ 24) (b3 : 1 ≤ H) (b4 : H ≤ 24) (b5 : H * W ≤ 256) (d1 : 1 ≤ D) (d2 : D ≤ 8) (hl : cs.length = H * W * D) :
    CostFn Try.prog 79 #[] #[.pointer (some ⟨bp, 0, none⟩)] H W D (fun x y d => costC W D cs y x d) w := fun w1 x y d hb hx hy hd => by
  have hat := fun w2 (h : Below w1.heap.size w1 w2) => at_any W H D (.slice a n c) cs y x d w2 ((hv.below hb).below h) b1 b2 b4 b5 d1 d2 hl hy hx hd
  obtain ⟨l0, p0, p1, p2, p3⟩ := hp.below hb
  clear hv hp hl hb
  show Calls Try.prog 79 #[.int .i64 x, .int .i64 y, .int .i64 d, .pointer (some ⟨bp, 0, none⟩)] w1 _
  go_enter Try.func79, Try.ntmps79
  go_wp2_with fail
  refine (hat _ (by ((repeat' (first | (refine bel_set ?_ ?_ _) | (refine bel_al ?_ ?_ _) | exact Below.refl _ _ | assumption | (refine below_drewN ?_ _) | (refine Below.drew ?_))) <;> (first | omega | (simp; done) | (simp; omega))))).mono ?_
  rintro e w2 ⟨r, rfl, hb2, hr⟩
  go_wp2_with fail
  go_ret
  exact ⟨_, rfl, by ((repeat' (first | (refine bel_set ?_ ?_ _) | (refine bel_al ?_ ?_ _) | exact Below.refl _ _ | assumption | (refine below_drewN ?_ _) | (refine Below.drew ?_) | (refine Below.trans ?_ (Below.mono hb2 ?_)))) <;> (first | omega | (simp; done) | (simp; omega))), hr⟩
set_option maxHeartbeats 2000000 in
theorem implSwapVolume_any (W H D : Nat) (a : Option Addr) (n c : Nat) (cs : List Nat) (w : World) (hv : FC w (.slice a n c) cs) (b1 : 1 ≤ W) (b2 : W ≤ 24) (b3 : 1 ≤ H) (b4 : H ≤ 24) (b5 : H * W ≤ 256) (d1 : 1 ≤ D) (d2 : D ≤ 8) (hl : cs.length = H * W * D) :
    Calls Try.prog 37 #[.agg #[.int .i64 W, .int .i64 H, .int .i64 D, .slice a n c]] w (RVol 22 H W D (cubeL H D (fun x y d => costC W D cs y x d) (W * H * D)) true w) := by
  obtain ⟨rfl, hnc, hcm⟩ := hv.sized
  have hval := Lib.hid (volB_mk b1 b2 b3 b4 b5 d1 d2 hl)
  have h1 := fun w1 => validVol_any W H D (.slice a cs.length c) cs.length w1 ⟨a, c, rfl, hnc, hcm⟩
  have hd := fun w1 (hb : Below w.heap.size w w1) hp => build_any H W D b3 b4 b1 b2 (by rw [Nat.mul_comm]; exact b5) d1 d2 _ _ _ _ w1 (enters_of Try.func79 (by kernel_rfl) rfl) (SwapVol_fn W H D a _ c cs w.heap.size w1 (hv.below hb) hp b1 b2 b3 b4 b5 d1 d2 hl)
  clear hl
  go_enter Try.func37, Try.ntmps37
  go_wp2_with fail
  refine (h1 _).mono ?_
  rintro e w1 ⟨rfl, hb1⟩
  rw [hval.out]
  have hP := ((Pw.new w W H D (.slice a cs.length c) 41).alloc _).below hb1
  have hn := (Nw.new _ _ _ _ _ _).below hb1
  have s1 := hb1.size
  simp only [World.size_alloc] at hn s1
  obtain ⟨l1, p0, p1, p2, p3⟩ := id hP
  go_wp2_with fail
  refine (hd _ (by ((repeat' (first | (refine bel_set ?_ ?_ _) | (refine bel_al ?_ ?_ _) | exact Below.refl _ _ | assumption | (refine below_drewN ?_ _) | (refine Below.drew ?_) | (refine Below.trans ?_ (Below.mono hb1 ?_)))) <;> (first | omega | (simp; done) | (simp; omega)))) hP).mono ?_
  rintro e w2 ⟨a2, n2, c2, rfl, hb2, ho2⟩
  have s2 := hb2.size
  obtain ⟨l2, q0, q1, q2, q3, qf⟩ := hn.below hb2
  go_wp2_with fail
  refine bodyPost_ret (v := ?v) ?hr rfl ?post
  case hr => (simp [results, Try.results37, go_sem, q0, q1, q2, q3, qf]; try rfl)
  case post =>
    refine ⟨_, _, _, rfl, ?_, ?_⟩
    · ((repeat' (first | (refine bel_set ?_ ?_ _) | (refine bel_al ?_ ?_ _) | exact Below.refl _ _ | assumption | (refine below_drewN ?_ _) | (refine Below.drew ?_) | (refine Below.trans ?_ (Below.mono hb2 ?_)) | (refine Below.trans ?_ (Below.mono hb1 ?_)))) <;> (first | omega | (simp; done) | (simp; omega)))
    · (refine OC.mono (base := ?bb) ?hh ?hl; (case hh => ((repeat' (first | (refine OC.set ?_ _ ?_) | (refine OC.alloc ?_ _) | exact ho2 | (refine OC.drewN ?_ _))) <;> (first | omega | (simp; done) | (simp; omega)))); (case hl => (first | omega | (simp; done) | (simp; omega))))
theorem implSwapVolume_no (W H D : Int) (a : Option Addr) (n c : Nat) (w : World) (hnc : n ≤ c) (hcm : c ≤ maxLen) (hval : volB W H D n = false) :
    Calls Try.prog 37 #[.agg #[.int .i64 W, .int .i64 H, .int .i64 D, .slice a n c]] w (RVol 22 0 0 0 [] false w) := by
  have h1 := fun w1 => validVol_any W H D (.slice a n c) n w1 ⟨a, c, rfl, hnc, hcm⟩
  have hval := Lib.hid hval
  go_enter Try.func37, Try.ntmps37
  go_wp2_with fail
  refine (h1 _).mono ?_
  rintro e w1 ⟨rfl, hb1⟩
  rw [hval.out]
  obtain ⟨l1, q0, q1, q2, q3, qf⟩ := (Nw.new _ _ _ _ _ _).below hb1
  have s1 := hb1.size
  simp only [World.size_alloc] at l1 q0 q1 q2 q3 qf s1
  go_wp2_with fail
  refine bodyPost_ret (v := ?v) ?hr rfl ?post
  case hr => (simp [results, Try.results37, go_sem, q0, q1, q2, q3, qf]; try rfl)
  case post => exact ⟨_, _, _, rfl, by ((repeat' (first | (refine bel_set ?_ ?_ _) | (refine bel_al ?_ ?_ _) | exact Below.refl _ _ | assumption | (refine below_drewN ?_ _) | (refine Below.drew ?_) | (refine Below.trans ?_ (Below.mono hb1 ?_)))) <;> (first | omega | (simp; done) | (simp; omega))), OC.nil _ _ _⟩
theorem pairSwapVolume (W H D : Int) (cs : List Nat) :
    ∃ (W' H' D' : Int) (cs' : List Nat) (ok : Bool),
      (∀ a n c w, FC w (.slice a n c) cs → Calls Try.prog 36 #[.agg #[.int .i64 W, .int .i64 H, .int .i64 D, .slice a n c]] w (RVol 22 W' H' D' cs' ok w)) ∧
      (∀ a n c w, FC w (.slice a n c) cs → Calls Try.prog 37 #[.agg #[.int .i64 W, .int .i64 H, .int .i64 D, .slice a n c]] w (RVol 22 W' H' D' cs' ok w)) ∧ cs'.length ≤ 2048 := by
  cases hv : volB W H D cs.length with
  | false =>
    refine ⟨0, 0, 0, [], false, fun a n c w hv => ?_, fun a n c w hv => ?_, by simp⟩
    · obtain ⟨rfl, h1, h2⟩ := hv.sized
      exact specSwapVolume_no W H D a _ c w h1 h2 (by assumption)
    · obtain ⟨rfl, h1, h2⟩ := hv.sized
      exact implSwapVolume_no W H D a _ c w h1 h2 (by assumption)
  | true =>
    obtain ⟨Wn, Hn, Dn, rfl, rfl, rfl, b1, b2, b3, b4, b5, d1, d2, hl⟩ := volB_parts hv
    exact ⟨_, _, _, _, _, fun a n c w hv => specSwapVolume_any Wn Hn Dn a n c cs w hv b1 b2 b3 b4 b5 d1 d2 hl, fun a n c w hv => implSwapVolume_any Wn Hn Dn a n c cs w hv b1 b2 b3 b4 b5 d1 d2 hl, by rw [cubeL_len]; exact Nat.mul_le_mul (show Wn * Hn ≤ 256 by rw [Nat.mul_comm]; exact b5) d2⟩
end Go.Proofs.Ytmgdofengamcmaa
