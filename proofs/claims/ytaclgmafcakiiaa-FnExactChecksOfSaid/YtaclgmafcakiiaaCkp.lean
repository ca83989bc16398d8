import Derived.Test.YtaclgmafcakiiaaCks
set_option linter.unusedVariables false
set_option linter.unusedSimpArgs false
namespace Go.FX
open Go Go.RowKit
theorem fi_pos9 : ∀ k : Fin 9, holeB (fi ((k.1 : Int) - 1)) = false → 0 ≤ placeI (fi ((k.1 : Int) - 1)) := by decide +kernel
def winL (W H D : Nat) (cs : List Nat) : List Nat := seqL (fun i => fi (winI (rowC D cs i) fun _ => true)) (H * W)
theorem winL_len (W H D : Nat) (cs : List Nat) : (winL W H D cs).length = H * W := seqL_len _ _
theorem winL_pos (W H D : Nat) (cs : List Nat) (d2 : D ≤ 8) (i : Nat) (h : holeB ((winL W H D cs).getD i 0) = false) : 0 ≤ placeI ((winL W H D cs).getD i 0) := by
  unfold winL at h ⊢
  by_cases hi : i < H * W
  · rw [seqL_get _ _ _ hi] at h ⊢
    have hw := winI_lt (rowC D cs i) (fun _ => true)
    rw [rowC_len] at hw
    obtain ⟨k, hk⟩ : ∃ k : Nat, winI (rowC D cs i) (fun _ => true) = (k : Int) - 1 := ⟨(winI (rowC D cs i) (fun _ => true) + 1).toNat, by omega⟩
    rw [hk] at h ⊢
    exact fi_pos9 ⟨k, by omega⟩ h
  · have e : (seqL (fun i => fi (winI (rowC D cs i) fun _ => true)) (H * W)).getD i 0 = 0 := by
      rw [List.getD_eq_getElem?_getD, List.getElem?_eq_none (by rw [seqL_len]; omega)]; rfl
    rw [e]
    decide +kernel
end Go.FX
namespace Go.Proofs.Ytaclgmafcakiiaa
open Go.FX Go.RowKit Go.WideShapes Go.ChangeShapes
attribute [local go_sem ↓] Go.wp_at_zero Go.wp_at_succ

theorem implWin_val (W H D : Nat) (a : Option Addr) (n c : Nat) (cs : List Nat) (w : World) (hv : FC w (.slice a n c) cs) (b1 : 1 ≤ W) (b2 : W ≤ 24) (b3 : 1 ≤ H) (b4 : H ≤ 24) (b5 : H * W ≤ 256) (d1 : 1 ≤ D) (d2 : D ≤ 8) (hl : cs.length = H * W * D) :
    Calls Try.prog 42 #[.agg #[.int .i64 W, .int .i64 H, .int .i64 D, .slice a n c]] w (RPic 37 W H (winL W H D cs) true w) := by
  unfold winL
  rw [← tell_cells W H D cs (fun row => fi (winI row fun _ => true)) b1]
  exact implWinnersOf_of _ _ _ _ _ _ _ _ _ _ w fun w1 hb => tellWinners_any W H D a n c cs _ _ _ (fun row => fi (winI row fun _ => true)) w1 (hv.below hb) b1 b2 b3 b4 b5 d1 d2 hl (enters_of Try.func70 (by kernel_rfl) rfl) (winFn_any _ _)
set_option maxRecDepth 100000 in
set_option maxHeartbeats 4000000 in
theorem implChecksOf_any (W H D : Nat) (a : Option Addr) (n c : Nat) (cs : List Nat) (m cm : Nat) (hm : Fl .f32 m cm) (w : World) (hv : FC w (.slice a n c) cs) (b1 : 1 ≤ W) (b2 : W ≤ 24) (b3 : 1 ≤ H) (b4 : H ≤ 24) (b5 : H * W ≤ 256) (d1 : 1 ≤ D) (d2 : D ≤ 8) (hl : cs.length = H * W * D) :
    Calls Try.prog 18 #[.agg #[.int .i64 W, .int .i64 H, .int .i64 D, .slice a n c], .float .f32 m] w (RPic 37 W H (seqL (chkI W (winL W H D cs) (winL W H D (cubeL W D (othF W D cs) (H * W * D))) cm) (H * W)) true w) := by
  have hO := fun w1 (hb : Below w.heap.size w w1) => implOtherVolume_any W H D a n c cs w1 (hv.below hb) b1 b2 b3 b4 b5 d1 d2 hl
  have hW := fun w1 (hb : Below w.heap.size w w1) => implWin_val W H D a n c cs w1 (hv.below hb) b1 b2 b3 b4 b5 d1 d2 hl
  have hpos := winL_pos W H D cs d2
  obtain ⟨os, hos⟩ : ∃ o, o = cubeL W D (othF W D cs) (H * W * D) := ⟨_, rfl⟩
  have hol : os.length = H * W * D := by rw [hos, cubeL_len]
  rw [← hos] at hO ⊢
  obtain ⟨ls, hls⟩ : ∃ l, l = winL W H D cs := ⟨_, rfl⟩
  obtain ⟨rs, hrs⟩ : ∃ l, l = winL W H D os := ⟨_, rfl⟩
  have hll : ls.length = H * W := by rw [hls, winL_len]
  have hrl : rs.length = H * W := by rw [hrs, winL_len]
  rw [← hls] at hW hpos ⊢
  rw [← hrs]
  have hrs' := Lib.hid hrs
  clear hos hls hrs hl
  obtain ⟨rfl, hnc, hcm⟩ := hv.sized
  clear hv
  obtain ⟨w0, hw0⟩ : ∃ u, u = (w.alloc (.cells #[.int .i64 W, .int .i64 H, .int .i64 D, .slice a cs.length c] 30)).alloc (.cells #[.int .i64 0, .int .i64 0, .slice none 0 0] 27) := ⟨_, rfl⟩
  have PV : Pw w0 w.heap.size W H D (.slice a cs.length c) := by rw [hw0]; exact (Pw.new _ _ _ _ _ _).alloc _
  have PN : Nv w0 (w.heap.size + 1) (.int .i64 0) (.int .i64 0) (.slice none 0 0) := by
    have h := Nv.new (w.alloc (.cells #[.int .i64 W, .int .i64 H, .int .i64 D, .slice a cs.length c] 30)) (.int .i64 0) (.int .i64 0) (.slice none 0 0) 27
    rw [hw0]; simpa only [World.size_alloc] using h
  have hb0 : Below w.heap.size w w0 := by rw [hw0]; exact below2 _ _ _
  have hPV := Lib.hid PV
  have hPN := Lib.hid PN
  have l0 := PN.1
  clear PV PN
  go_enter Try.func18, Try.ntmps18
  go_wp2_with fail
  rw [← hw0]
  clear hw0
  refine (hO _ hb0).mono ?_
  rintro e w1 ⟨a1, n1, c1, rfl, hb1, ho1⟩
  obtain ⟨X, hX⟩ : ∃ X, X = w1.alloc (.cells #[.int .i64 W, .int .i64 H, .int .i64 D, .slice a1 n1 c1] 30) := ⟨_, rfl⟩
  have hP1 : Pw X w1.heap.size W H D (.slice a1 n1 c1) := by rw [hX]; exact Pw.new _ _ _ _ _ _
  have ho1X : FC X (.slice a1 n1 c1) os := by rw [hX]; exact (ho1.alloc _).fc
  have hbX : Below w0.heap.size w0 X := by rw [hX]; exact hb1.alloc hb1.size _
  obtain ⟨_, p0, p1, p2, p3⟩ := hPV.out.below hbX
  have lX := hP1.1
  have s1 := hb1.size
  clear ho1 hb1
  go_upto_region 2 with fail
  rw [← hX]
  clear hX
  go_wp2_with fail
  refine (hW _ (hb0.trans (hbX.mono hb0.size))).mono ?_
  rintro e w2 ⟨a2, n2, c2, rfl, hb2, ho2⟩
  obtain ⟨Y, hY⟩ : ∃ Y, Y = w2.alloc (.cells #[.int .i64 W, .int .i64 H, .slice a2 n2 c2] 27) := ⟨_, rfl⟩
  have hP2 : Pv Y w2.heap.size W H (.slice a2 n2 c2) := by rw [hY]; exact Pv.new _ _ _ _ _
  have ho2Y : FC Y (.slice a2 n2 c2) ls := by rw [hY]; exact (ho2.alloc _).fc
  have hbY : Below X.heap.size X Y := by rw [hY]; exact hb2.alloc hb2.size _
  have hP1Y := hP1.below hbY
  have hb0Y := hbX.trans (hbY.mono hbX.size)
  have ho1Y := ho1X.below hbY
  obtain ⟨_, q0, q1, q2, q3⟩ := id hP1Y
  have hW2 := implWin_val W H D a1 n1 c1 os Y ho1Y b1 b2 b3 b4 b5 d1 d2 hol
  rw [← hrs'.out] at hW2
  clear ho2 hb2 ho1X p0 p1 p2 p3
  go_upto_region 5 with fail
  rw [← hY]
  clear hY
  go_wp2_with fail
  refine hW2.mono ?_
  rintro e w3 ⟨a3, n3, c3, rfl, hb3, ho3⟩
  obtain ⟨Z, hZ⟩ : ∃ Z, Z = w3.alloc (.cells #[.int .i64 W, .int .i64 H, .slice a3 n3 c3] 27) := ⟨_, rfl⟩
  have hP3 : Pv Z w3.heap.size W H (.slice a3 n3 c3) := by rw [hZ]; exact Pv.new _ _ _ _ _
  have ho3Z : FC Z (.slice a3 n3 c3) rs := by rw [hZ]; exact (ho3.alloc _).fc
  have hbZ : Below Y.heap.size Y Z := by rw [hZ]; exact hb3.alloc hb3.size _
  have hb0Z := hb0Y.trans (hbZ.mono hb0Y.size)
  have hP2Z := hP2.below hbZ
  obtain ⟨_, q4, q5, q6⟩ := id hP2Z
  obtain ⟨_, q7, q8, q9⟩ := id hP3
  have hC := implCheckMaps_any W H a2 n2 c2 ls a3 n3 c3 rs Z (ho2Y.below hbZ) ho3Z b1 b2 b3 b4 b5 hll hrl m cm hm hpos
  clear ho3 hb3 q0 q1 q2 q3
  go_upto_region 6 with fail
  rw [← hZ]
  clear hZ
  go_wp2_with fail
  refine hC.mono ?_
  rintro e w4 ⟨a4, n4, c4, rfl, hb4, ho4⟩
  have hb04 := hb0Z.trans (hb4.mono hb0Z.size)
  obtain ⟨l4, r0, r1, r2, rf⟩ := hPN.out.below hb04
  have s4 := hb04.size
  have sZ := hb0Z.size
  go_wp2_with fail
  refine bodyPost_ret (v := ?v) ?hr rfl ?post
  case hr => (simp [results, Try.results18, go_sem, r0, r1, r2, rf]; try rfl)
  case post =>
    refine ⟨_, _, _, rfl, ?_, ?_⟩
    · have hbb := hb0.trans (hb04.mono hb0.size); ((repeat' (first | (refine bel_set ?_ ?_ _) | (refine bel_al ?_ ?_ _) | exact Below.refl _ _ | assumption | (refine below_drewN ?_ _) | (refine Below.drew ?_) | (refine Below.trans ?_ (Below.mono hbb ?_)))) <;> (first | omega | (simp; done) | (simp; omega)))
    · (refine OC.mono (base := ?bb) ?hh ?hl; (case hh => ((repeat' (first | (refine OC.set ?_ _ ?_) | (refine OC.alloc ?_ _) | exact ho4 | (refine OC.drewN ?_ _))) <;> (first | omega | (simp; done) | (simp; omega)))); (case hl => (first | omega | (simp; done) | (simp; omega))))
theorem implChecksOf_no (W H D : Int) (a : Option Addr) (n c : Nat) (m : Nat) (w : World) (hnc : n ≤ c) (hcm : c ≤ maxLen) (hval : volB W H D n = false) :
    Calls Try.prog 18 #[.agg #[.int .i64 W, .int .i64 H, .int .i64 D, .slice a n c], .float .f32 m] w (RPic 37 0 0 [] false w) := by
  have hM := fun w1 => implOtherVolume_no W H D a n c w1 hnc hcm hval
  clear hval
  go_enter Try.func18, Try.ntmps18
  go_wp2_with fail
  refine (hM _).mono ?_
  rintro e w1 ⟨a1, n1, c1, rfl, hb1, ho1⟩
  have hn := (Nv.new _ _ _ _ _).below hb1
  have s1 := hb1.size
  simp only [World.size_alloc] at hn s1
  obtain ⟨X, hX⟩ : ∃ X, X = w1.alloc (.cells #[.int .i64 0, .int .i64 0, .int .i64 0, .slice a1 n1 c1] 30) := ⟨_, rfl⟩
  have hnX : Nv X (w.heap.size + 1) (.int .i64 0) (.int .i64 0) (.slice none 0 0) := by rw [hX]; exact hn.alloc _
  have hbX : Below w.heap.size w X := by
    rw [hX]; exact ((below2 _ _ _).trans (hb1.mono (by simp; omega))).alloc (by omega) _
  obtain ⟨l1, q0, q1, q2, qf⟩ := id hnX
  go_upto_region 2 with fail
  rw [← hX]
  clear hX
  go_wp2_with fail
  refine bodyPost_ret (v := ?v) ?hr rfl ?post
  case hr => (simp [results, Try.results18, go_sem, q0, q1, q2, qf]; try rfl)
  case post => exact ⟨_, _, _, rfl, by ((repeat' (first | (refine bel_set ?_ ?_ _) | (refine bel_al ?_ ?_ _) | exact Below.refl _ _ | assumption | (refine below_drewN ?_ _) | (refine Below.drew ?_) | (refine Below.trans ?_ (Below.mono hbX ?_)))) <;> (first | omega | (simp; done) | (simp; omega))), OC.nil _ _ _⟩
set_option maxRecDepth 100000 in
set_option maxHeartbeats 4000000 in
theorem specChecksOf_any (W H D : Nat) (a : Option Addr) (n c : Nat) (cs : List Nat) (m cm : Nat) (hm : Fl .f32 m cm) (w : World) (hv : FC w (.slice a n c) cs) (b1 : 1 ≤ W) (b2 : W ≤ 24) (b3 : 1 ≤ H) (b4 : H ≤ 24) (b5 : H * W ≤ 256) (d1 : 1 ≤ D) (d2 : D ≤ 8) (hl : cs.length = H * W * D) :
    Calls Try.prog 17 #[.agg #[.int .i64 W, .int .i64 H, .int .i64 D, .slice a n c], .float .f32 m] w (RPic 37 W H (seqL (chkI W (winL W H D cs) (winL W H D (cubeL W D (othF W D cs) (H * W * D))) cm) (H * W)) true w) := by
  obtain ⟨rfl, hnc, hcm⟩ := hv.sized
  have hval := Lib.hid (volB_mk b1 b2 b3 b4 b5 d1 d2 hl)
  have h1 := fun w1 hp => specVIs_any W H D a cs.length c w.heap.size w1 hp (by unfold maxLen at hcm; omega)
  have hO := fun w1 (hb : Below w.heap.size w w1) hp => specOther_any W H D a cs.length c w.heap.size cs w1 hp (hv.below hb) b1 b2 b3 b4 b5 d1 d2 hl
  have hW := fun w1 (hb : Below w.heap.size w w1) hp => specWinners_any W H D a cs.length c w.heap.size cs w1 hp (hv.below hb) b1 b2 b3 b4 b5 d1 d2 hl
  obtain ⟨os, hos⟩ : ∃ o, o = cubeL W D (othF W D cs) (H * W * D) := ⟨_, rfl⟩
  have hol : os.length = H * W * D := by rw [hos, cubeL_len]
  rw [← hos] at hO ⊢
  obtain ⟨ls, hls⟩ : ∃ l, l = winL W H D cs := ⟨_, rfl⟩
  obtain ⟨rs, hrs⟩ : ∃ l, l = winL W H D os := ⟨_, rfl⟩
  have hll : ls.length = H * W := by rw [hls, winL_len]
  have hrl : rs.length = H * W := by rw [hrs, winL_len]
  rw [← hls, ← hrs]
  rw [show seqL (fun i => fi (winI (rowC D cs i) fun _ => true)) (H * W) = ls from hls.symm] at hW
  have hrs' := Lib.hid (show seqL (fun i => fi (winI (rowC D os i) fun _ => true)) (H * W) = rs from hrs.symm)
  clear hos hls hrs hl hv
  go_enter Try.func17, Try.ntmps17
  go_wp2_with fail
  have hPa := (Pw.new w W H D (.slice a cs.length c) 30).alloc (.cells #[.int .i64 0, .int .i64 0, .slice none 0 0] 27)
  have hNa := Nv.new (w.alloc (.cells #[.int .i64 W, .int .i64 H, .int .i64 D, .slice a cs.length c] 30)) (.int .i64 0) (.int .i64 0) (.slice none 0 0) 27
  simp only [World.size_alloc] at hNa
  refine (h1 _ hPa).mono ?_
  rintro e w1 ⟨k0, rfl, rfl⟩
  rw [hval.out]
  obtain ⟨w0, hw0⟩ : ∃ u, u = ((w.alloc (.cells #[.int .i64 W, .int .i64 H, .int .i64 D, .slice a cs.length c] 30)).alloc (.cells #[.int .i64 0, .int .i64 0, .slice none 0 0] 27)).drewN k0 := ⟨_, rfl⟩
  have PV : Pw w0 w.heap.size W H D (.slice a cs.length c) := by rw [hw0]; exact hPa.drewN k0
  have PN : Nv w0 (w.heap.size + 1) (.int .i64 0) (.int .i64 0) (.slice none 0 0) := by rw [hw0]; exact hNa.drewN k0
  have hb0 : Below w.heap.size w w0 := by rw [hw0]; exact below_drewN (below2 _ _ _) _
  rw [← hw0]
  clear hw0 hPa hNa h1
  have hPV := Lib.hid PV
  have hPN := Lib.hid PN
  have l0 := PN.1
  clear PV PN
  go_wp2_with fail
  refine (hO _ hb0 hPV.out).mono ?_
  rintro e w1 ⟨a1, n1, c1, rfl, hb1, ho1⟩
  obtain ⟨X, hX⟩ : ∃ X, X = w1.alloc (.cells #[.int .i64 W, .int .i64 H, .int .i64 D, .slice a1 n1 c1] 30) := ⟨_, rfl⟩
  have hP1 : Pw X w1.heap.size W H D (.slice a1 n1 c1) := by rw [hX]; exact Pw.new _ _ _ _ _ _
  have ho1X : FC X (.slice a1 n1 c1) os := by rw [hX]; exact (ho1.alloc _).fc
  have hbX : Below w0.heap.size w0 X := by rw [hX]; exact hb1.alloc hb1.size _
  have lX := hP1.1
  clear ho1 hb1
  go_upto_region 4 with fail
  rw [← hX]
  clear hX
  go_wp2_with fail
  refine (hW _ (hb0.trans (hbX.mono hb0.size)) (hPV.out.below hbX)).mono ?_
  rintro e w2 ⟨a2, n2, c2, rfl, hb2, ho2⟩
  obtain ⟨Y, hY⟩ : ∃ Y, Y = w2.alloc (.cells #[.int .i64 W, .int .i64 H, .slice a2 n2 c2] 27) := ⟨_, rfl⟩
  have hP2 : Pv Y w2.heap.size W H (.slice a2 n2 c2) := by rw [hY]; exact Pv.new _ _ _ _ _
  have ho2Y : FC Y (.slice a2 n2 c2) ls := by rw [hY]; exact (ho2.alloc _).fc
  have hbY : Below X.heap.size X Y := by rw [hY]; exact hb2.alloc hb2.size _
  have hb0Y := hbX.trans (hbY.mono hbX.size)
  have hW2 := specWinners_any W H D a1 n1 c1 w1.heap.size os Y (hP1.below hbY) (ho1X.below hbY) b1 b2 b3 b4 b5 d1 d2 hol
  rw [hrs'.out] at hW2
  clear ho2 hb2 ho1X
  go_upto_region 5 with fail
  rw [← hY]
  clear hY
  go_wp2_with fail
  refine hW2.mono ?_
  rintro e w3 ⟨a3, n3, c3, rfl, hb3, ho3⟩
  obtain ⟨Z, hZ⟩ : ∃ Z, Z = w3.alloc (.cells #[.int .i64 W, .int .i64 H, .slice a3 n3 c3] 27) := ⟨_, rfl⟩
  have hP3 : Pv Z w3.heap.size W H (.slice a3 n3 c3) := by rw [hZ]; exact Pv.new _ _ _ _ _
  have ho3Z : FC Z (.slice a3 n3 c3) rs := by rw [hZ]; exact (ho3.alloc _).fc
  have hbZ : Below Y.heap.size Y Z := by rw [hZ]; exact hb3.alloc hb3.size _
  have hb0Z := hb0Y.trans (hbZ.mono hb0Y.size)
  have hC := specCheck_any W H a2 n2 c2 w2.heap.size ls a3 n3 c3 w3.heap.size rs m cm hm Z (hP2.below hbZ) (ho2Y.below hbZ) hP3 ho3Z b1 b2 b3 b4 b5 hll hrl
  clear ho3 hb3
  go_upto_region 6 with fail
  rw [← hZ]
  clear hZ
  go_wp2_with fail
  refine hC.mono ?_
  rintro e w4 ⟨a4, n4, c4, rfl, hb4, ho4⟩
  have hb04 := hb0Z.trans (hb4.mono hb0Z.size)
  obtain ⟨l4, r0, r1, r2, rf⟩ := hPN.out.below hb04
  have s4 := hb04.size
  have sZ := hb0Z.size
  go_wp2_with fail
  refine bodyPost_ret (v := ?v) ?hr rfl ?post
  case hr => (simp [results, Try.results17, go_sem, r0, r1, r2, rf]; try rfl)
  case post =>
    refine ⟨_, _, _, rfl, ?_, ?_⟩
    · have hbb := hb0.trans (hb04.mono hb0.size); ((repeat' (first | (refine bel_set ?_ ?_ _) | (refine bel_al ?_ ?_ _) | exact Below.refl _ _ | assumption | (refine below_drewN ?_ _) | (refine Below.drew ?_) | (refine Below.trans ?_ (Below.mono hbb ?_)))) <;> (first | omega | (simp; done) | (simp; omega)))
    · (refine OC.mono (base := ?bb) ?hh ?hl; (case hh => ((repeat' (first | (refine OC.set ?_ _ ?_) | (refine OC.alloc ?_ _) | exact ho4 | (refine OC.drewN ?_ _))) <;> (first | omega | (simp; done) | (simp; omega)))); (case hl => (first | omega | (simp; done) | (simp; omega))))
theorem specChecksOf_no (W H D : Int) (a : Option Addr) (n c : Nat) (m : Nat) (w : World) (hcm : c ≤ maxLen) (hnc : n ≤ c) (hv : volB W H D n = false) :
    Calls Try.prog 17 #[.agg #[.int .i64 W, .int .i64 H, .int .i64 D, .slice a n c], .float .f32 m] w (RPic 37 0 0 [] false w) := by
  have h1 := fun w1 hp => specVIs_any W H D a n c w.heap.size w1 hp (by unfold maxLen at hcm; omega)
  have hv := Lib.hid hv
  go_enter Try.func17, Try.ntmps17
  go_wp2_with fail
  refine (h1 _ ((Pw.new _ _ _ _ _ _).alloc _)).mono ?_
  rintro e w1 ⟨k, rfl, rfl⟩
  rw [hv.out]
  go_wp2_with fail
  refine bodyPost_ret (v := ?v) ?hr rfl ?post
  case hr => (simp [results, Try.results17, go_sem]; try rfl)
  case post => exact ⟨_, _, _, rfl, by ((repeat' (first | (refine bel_set ?_ ?_ _) | (refine bel_al ?_ ?_ _) | exact Below.refl _ _ | assumption | (refine below_drewN ?_ _) | (refine Below.drew ?_))) <;> (first | omega | (simp; done) | (simp; omega))), OC.nil _ _ _⟩
theorem pairChecksOf (W H D : Int) (cs : List Nat) (m : Nat) (hm : m < width .f32) :
    ∃ (W' H' : Int) (cs' : List Nat) (ok : Bool),
      (∀ a n c w, FC w (.slice a n c) cs → Calls Try.prog 17 #[.agg #[.int .i64 W, .int .i64 H, .int .i64 D, .slice a n c], .float .f32 m] w (RPic 37 W' H' cs' ok w)) ∧
      (∀ a n c w, FC w (.slice a n c) cs → Calls Try.prog 18 #[.agg #[.int .i64 W, .int .i64 H, .int .i64 D, .slice a n c], .float .f32 m] w (RPic 37 W' H' cs' ok w)) ∧ cs'.length ≤ 256 := by
  cases hv : volB W H D cs.length with
  | false =>
    refine ⟨0, 0, [], false, fun a n c w hv' => ?_, fun a n c w hv' => ?_, by simp⟩
    · obtain ⟨rfl, h1, h2⟩ := hv'.sized
      exact specChecksOf_no W H D a _ c m w h2 h1 hv
    · obtain ⟨rfl, h1, h2⟩ := hv'.sized
      exact implChecksOf_no W H D a _ c m w h1 h2 hv
  | true =>
    obtain ⟨Wn, Hn, Dn, rfl, rfl, rfl, b1, b2, b3, b4, b5, d1, d2, hl⟩ := volB_parts hv
    exact ⟨_, _, _, _, fun a n c w hv => specChecksOf_any Wn Hn Dn a n c cs m _ (Fl.of hm) w hv b1 b2 b3 b4 b5 d1 d2 hl, fun a n c w hv => implChecksOf_any Wn Hn Dn a n c cs m _ (Fl.of hm) w hv b1 b2 b3 b4 b5 d1 d2 hl, by rw [seqL_len]; exact b5⟩
end Go.Proofs.Ytaclgmafcakiiaa
