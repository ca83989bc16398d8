import Derived.Test.YtaclgmafcakiiaaWcl
set_option linter.unusedVariables false
set_option linter.unusedSimpArgs false
namespace Go.Proofs.Ytaclgmafcakiiaa
open Go.FX Go.RowKit Go.WideShapes Go.ChangeShapes
attribute [local go_sem ↓] Go.wp_at_zero Go.wp_at_succ
/-- How much more the second least cost of a row is. -/
def second (row : List Nat) : Int := winI row (notD (winI row fun _ => true))
def marginV (row : List Nat) : Nat := if second row < 0 then 2139095040 else fop .sub .f32 (row.getD (second row).toNat 0) (row.getD (winI row fun _ => true).toNat 0)
theorem winI_valid {row : List Nat} {p : Nat → Bool} {e : Nat} (h : winI row p = e) : e < row.length ∧ validC row p e = true := by
  unfold winI at h
  rcases bestTo_inv row p row.length with ⟨h1, _⟩ | ⟨b, h1, h2, h3, _⟩
  · omega
  · have : b = e := by omega
    subst this
    exact ⟨h2, h3⟩
/-- Where there is a second one, there is a first one. -/
theorem second_first {row : List Nat} (h : ¬ second row < 0) : 0 ≤ winI row (fun _ => true) := by
  obtain ⟨e, he⟩ := Int.eq_ofNat_of_zero_le (a := second row) (by omega)
  obtain ⟨h1, h2⟩ := winI_valid he
  have hv : validC row (fun _ => true) e = true := by
    unfold validC at h2 ⊢
    simp only [Bool.and_eq_true] at h2
    rw [h2.1]; rfl
  unfold winI
  rcases bestTo_inv row (fun _ => true) row.length with ⟨_, h3⟩ | ⟨b, h3, _⟩
  · rw [h3 e h1] at hv; cases hv
  · omega
theorem marginV_neg {row : List Nat} (h : second row < 0) : marginV row = 2139095040 := if_pos h
theorem marginV_pos {row : List Nat} {d e : Nat} (h : winI row (fun _ => true) = d) (h2 : second row = e) : marginV row = fop .sub .f32 (row.getD e 0) (row.getD d 0) := by
  unfold marginV
  rw [h2, h, if_neg (by omega), Int.toNat_natCast, Int.toNat_natCast]
set_option maxHeartbeats 4000000 in
theorem marginFn_any (D : Nat) (d2 : D ≤ 8) (w : World) : TellFn Try.prog 55 #[] #[] D marginV w := by
  intro w1 v row hb hv hl
  have hv0 := hv
  obtain ⟨a, c, rfl, hnc, hcm⟩ := hv.shape
  unfold maxLen at hcm
  obtain ⟨B, hB⟩ : ∃ B, B = winI row (fun _ => true) := ⟨_, rfl⟩
  show Calls Try.prog 55 #[.slice a row.length c, .int .i64 (winI row fun _ => true)] w1 (RFb .f32 (marginV row) w1)
  rw [← hB]
  have hsec : winI row (notD B) = second row := by rw [hB]; rfl
  obtain ⟨E, hE⟩ : ∃ E, E = second row := ⟨_, rfl⟩
  obtain ⟨W2, hW2⟩ : ∃ X, X = w1.alloc (.cells #[.int .i64 B] 3) := ⟨_, rfl⟩
  have hb2 : Below w1.heap.size w1 W2 := by rw [hW2]; exact below1 _ _
  have hcell : W2.cell? ⟨w1.heap.size, 0, none⟩ = some (.int .i64 B) := by rw [hW2]; go_simp
  have hlt2 : w1.heap.size < W2.heap.size := by rw [hW2]; simp
  have hpred : PredFn Try.prog 57 #[] #[.pointer (some ⟨w1.heap.size, 0, none⟩)] row.length (notD B) W2 := by
    intro w3 d hb3 hd
    have hc3 := ((bcell hb3).1 w1.heap.size 0 hlt2).trans hcell
    show Calls Try.prog 57 #[.int .i64 d, .pointer (some ⟨w1.heap.size, 0, none⟩)] w3 _
    clear hv0 hv hB hsec hE hW2 hb2 hcell hlt2 hb hl hnc hcm hd hb3
    go_enter Try.func57, Try.ntmps57
    go_wp2
    go_ret
    exact ⟨0, rfl, rfl⟩
  have hlo := leastOf_any (.slice a row.length c) row 57 #[] #[.pointer (some ⟨w1.heap.size, 0, none⟩)] (notD B) W2 (hv.below hb2) (by omega) (enters_of Try.func57 (by kernel_rfl) rfl) hpred
  rw [hsec, ← hE] at hlo
  by_cases hn : E < 0
  · have hV := Lib.hid (marginV_neg (by rw [← hE]; exact hn))
    clear hv0 hv hB hsec hE hpred hl hcell
    generalize row.length = n at *
    go_enter Try.func55, Try.ntmps55
    go_wp2_with fail
    rw [← hW2]
    clear hW2
    refine hlo.mono ?_
    rintro e w2 ⟨m, rfl, rfl⟩
    go_wp2_with fail
    refine (implInf_any _).mono ?_
    rintro e w2 ⟨r, m2, rfl, rfl, hr⟩
    go_wp2_with fail
    go_ret
    exact ⟨_, rfl, below_drewN hb2 _, by rw [hV.out]; exact hr⟩
  · obtain ⟨e, he⟩ := Int.eq_ofNat_of_zero_le (a := E) (by omega)
    obtain ⟨d, hd⟩ := Int.eq_ofNat_of_zero_le (a := B) (by rw [hB]; exact second_first (by rw [← hE]; exact hn))
    have hV := Lib.hid (marginV_pos (hB.symm.trans hd) (hE.symm.trans he))
    have hd2 : d < row.length := (winI_valid (hB.symm.trans hd)).1
    have he2 : e < row.length := (winI_valid (hsec.trans (hE.symm.trans he))).1
    obtain ⟨bb, off, cc, z1, ev, _, _, hbb, hz1, hc1⟩ := hv.cell hd2
    obtain rfl : a = some ⟨bb, off, none⟩ := (Value.slice.inj ev).1
    obtain ⟨b2, off2, _, z2, ev2, _, _, _, hz2, hc2⟩ := hv.cell he2
    have ev2 := (Value.slice.inj ev2).1
    simp only [Option.some.injEq, Addr.mk.injEq, and_true] at ev2
    obtain ⟨rfl, rfl⟩ := ev2
    have hc1' : W2.cell? ⟨bb, off + d, none⟩ = some (.float .f32 z1) := ((bcell hb2).1 bb _ hbb).trans hc1
    have hc2' : W2.cell? ⟨bb, off + e, none⟩ = some (.float .f32 z2) := ((bcell hb2).1 bb _ hbb).trans hc2
    obtain ⟨x1, hx1⟩ : ∃ x, x = row.getD d 0 := ⟨_, rfl⟩
    obtain ⟨x2, hx2⟩ : ∃ x, x = row.getD e 0 := ⟨_, rfl⟩
    rw [← hx1] at hz1
    rw [← hx2] at hz2
    rw [← hx1, ← hx2] at hV
    have hB2 := Lib.hid hb2
    rw [he] at hlo
    subst hd
    clear ev hn hv0 hv hB hsec hE hpred hl hc1 hc2 hx1 hx2 hb2
    clear he
    generalize row.length = n at *
    go_enter Try.func55, Try.ntmps55
    go_wp2_with fail
    rw [← hW2]
    clear hW2
    refine hlo.mono ?_
    rintro e' w2 ⟨m, rfl, rfl⟩
    go_upto_region 4 with fail
    obtain ⟨V, hVw⟩ : ∃ V, V = W2.drewN m := ⟨_, rfl⟩
    rw [← hVw]
    have v1 : V.cell? ⟨bb, off + d, none⟩ = some (.float .f32 z1) := by rw [hVw]; exact hc1'
    have v2 : V.cell? ⟨bb, off + e, none⟩ = some (.float .f32 z2) := by rw [hVw]; exact hc2'
    have v3 : V.cell? ⟨w1.heap.size, 0, none⟩ = some (.int .i64 d) := by rw [hVw]; exact hcell
    have hVw' := Lib.hid hVw
    clear hVw hc1' hc2' hcell hlo
    refine wp_region_cls (by kernel_rfl) (by kernel_rfl) (by kernel_rfl) (by kernel_rfl) (fun w' => ∃ n, w' = V.drewN n) ⟨1, rfl⟩ [Eq1 ?q9412u0, Eq1 ?q9412u1, Eq1 ?q9412u2, Eq1 ?q9412u3, Eq1 ?q9412u4, Eq1 ?q9412u5, Eq1 ?q9412u6, Eq1 ?q9412u7, FloatIs .f32 (fop .sub .f32 x2 x1), FloatIs .f32 (fop .sub .f32 x2 x1)] ?q9412main
    case q9412main =>
      (refine wpR_pure ?_ (fun w hw => ?_) ?_; rfl; (obtain ⟨nn, rfl⟩ := hw; go_simp; (try with_reducible rfl)); (try simp only [Act.put, List.setIfInBounds_toArray, List.set_cons_zero, List.set_cons_succ]))
      (refine wpR_pure ?_ (fun w hw => ?_) ?_; rfl; (obtain ⟨nn, rfl⟩ := hw; go_simp; (try with_reducible rfl)); (try simp only [Act.put, List.setIfInBounds_toArray, List.set_cons_zero, List.set_cons_succ]))
      (refine wpR_pure ?_ (fun w hw => ?_) ?_; rfl; (obtain ⟨nn, rfl⟩ := hw; go_simp; (try with_reducible rfl)); (try simp only [Act.put, List.setIfInBounds_toArray, List.set_cons_zero, List.set_cons_succ]))
      (refine wpR_pure ?_ (fun w hw => ?_) ?_; rfl; (obtain ⟨nn, rfl⟩ := hw; go_simp; (try with_reducible rfl)); (try simp only [Act.put, List.setIfInBounds_toArray, List.set_cons_zero, List.set_cons_succ]))
      (refine wpR_pure ?_ (fun w hw => ?_) ?_; rfl; (obtain ⟨nn, rfl⟩ := hw; go_simp; (try with_reducible rfl)); (try simp only [Act.put, List.setIfInBounds_toArray, List.set_cons_zero, List.set_cons_succ]))
      (refine wpR_pure ?_ (fun w hw => ?_) ?_; rfl; (obtain ⟨nn, rfl⟩ := hw; go_simp; (try with_reducible rfl)); (try simp only [Act.put, List.setIfInBounds_toArray, List.set_cons_zero, List.set_cons_succ]))
      (refine wpR_pure ?_ (fun w hw => ?_) ?_; rfl; (obtain ⟨nn, rfl⟩ := hw; go_simp; (try with_reducible rfl)); (try simp only [Act.put, List.setIfInBounds_toArray, List.set_cons_zero, List.set_cons_succ]))
      (refine wpR_pure ?_ (fun w hw => ?_) ?_; rfl; (obtain ⟨nn, rfl⟩ := hw; go_simp; (try with_reducible rfl)); (try simp only [Act.put, List.setIfInBounds_toArray, List.set_cons_zero, List.set_cons_succ]))
      (refine wpR_cls ?_ (fun w hw => ?_) ?_; rfl; (obtain ⟨nn, rfl⟩ := hw; go_simp; exact ⟨⟨_, rfl⟩, _, rfl, Fl.flR (by assumption) (by assumption) _⟩); (rintro _ ⟨_, rfl, _⟩; (try simp only [Act.put, List.setIfInBounds_toArray, List.set_cons_zero, List.set_cons_succ])))
      (refine wpR_cls ?_ (fun w hw => ?_) ?_; rfl; (obtain ⟨nn, rfl⟩ := hw; go_simp; first | exact ⟨_, rfl, by assumption⟩ | exact ⟨⟨_, rfl⟩, _, rfl, by assumption⟩); (rintro _ ⟨_, rfl, _⟩; (try simp only [Act.put, List.setIfInBounds_toArray, List.set_cons_zero, List.set_cons_succ])))
      refine wpR_nil ?_
      rintro w' ⟨nn, rfl⟩
      go_wp2_with fail
      go_ret
      exact ⟨_, rfl, by rw [hVw'.out]; exact below_drewN (below_drewN hB2.out _) _, by rw [hV.out]; assumption⟩
set_option maxRecDepth 100000 in
set_option maxHeartbeats 8000000 in
theorem specMargin_any (W H D : Nat) (a0 : Option Addr) (n0 c0 bp : Nat) (cs : List Nat) (i : Nat) (w : World) (hp : Pw w bp W H D (.slice a0 n0 c0)) (hv : FC w (.slice a0 n0 c0) cs) (hi : i < H * W) (h5 : H * W ≤ 256) (d1 : 1 ≤ D) (d2 : D ≤ 8) (hl : cs.length = H * W * D) :
    Calls Try.prog 29 #[.pointer (some ⟨bp, 0, none⟩), .int .i64 i] w (RF .f32 (marginV (rowC D cs i)) w) := by
  obtain ⟨rfl, hnc, hcm⟩ := hv.sized
  have hw1 := specWinner_any W H D a0 cs.length c0 bp cs i (-1) w hp hv hi h5 d1 d2 hl
  rw [notD_none2] at hw1
  have hw2 := fun k b => specWinner_any W H D a0 cs.length c0 bp cs i b (w.drewN k) (hp.drewN k) (hv.drewN k) hi h5 d1 d2 hl
  have hwl := winI_lt (rowC D cs i) (fun _ => true)
  rw [rowC_len] at hwl
  obtain ⟨B, hB⟩ : ∃ B, B = winI (rowC D cs i) (fun _ => true) := ⟨_, rfl⟩
  obtain ⟨E, hE⟩ : ∃ E, E = second (rowC D cs i) := ⟨_, rfl⟩
  have hsec : winI (rowC D cs i) (notD B) = E := by rw [hB, hE]; rfl
  have hw2 := fun k => hw2 k B
  rw [hsec] at hw2
  rw [← hB] at hw1 hwl
  by_cases hn : B < 0
  · have hV := Lib.hid (marginV_neg (row := rowC D cs i) (by
      refine Int.not_le.1 fun h => ?_
      have := second_first (row := rowC D cs i) (Int.not_lt.2 h)
      rw [← hB] at this
      omega))
    clear hp hv hB hE hsec hl hw2
    go_enter Try.func29, Try.ntmps29
    go_wp2_with fail
    refine hw1.mono ?_
    rintro e w1 ⟨m, rfl, rfl⟩
    go_wp2_with fail
    refine (specInf_any _).mono ?_
    rintro e w1 ⟨r, m2, rfl, rfl, hr⟩
    go_wp2_with fail
    go_ret
    exact ⟨_, _, rfl, by first | rfl | (simp only [World.drewN_drewN]; rfl), by rw [hV.out]; exact hr⟩
  · by_cases hn2 : E < 0
    · have hV := Lib.hid (marginV_neg (row := rowC D cs i) (by rw [← hE]; exact hn2))
      clear hp hv hB hE hsec hl
      go_enter Try.func29, Try.ntmps29
      go_wp2_with fail
      refine hw1.mono ?_
      rintro e w1 ⟨m, rfl, rfl⟩
      go_wp2_with fail
      refine (hw2 m).mono ?_
      rintro e w1 ⟨m1, rfl, rfl⟩
      go_wp2_with fail
      refine (specInf_any _).mono ?_
      rintro e w1 ⟨r, m2, rfl, rfl, hr⟩
      go_wp2_with fail
      go_ret
      exact ⟨_, _, rfl, by first | rfl | (simp only [World.drewN_drewN]; rfl), by rw [hV.out]; exact hr⟩
    · obtain ⟨e, he⟩ := Int.eq_ofNat_of_zero_le (a := E) (by omega)
      obtain ⟨d, hd⟩ := Int.eq_ofNat_of_zero_le (a := B) (by omega)
      have hV := Lib.hid (marginV_pos (row := rowC D cs i) (hB.symm.trans hd) (hE.symm.trans he))
      have hd2 : d < D := by omega
      have he2 : e < D := by have := (winI_valid (hsec.trans he)).1; rwa [rowC_len] at this
      rw [rowC_get _ _ hd2, rowC_get _ _ he2] at hV
      have q1 : i * D + D ≤ cs.length := by rw [hl, ← Nat.succ_mul]; exact Nat.mul_le_mul_right _ hi
      obtain ⟨bb, off, cc, z1, ev, _, _, hbb, hz1, hc1⟩ := hv.cell (k := i * D + d) (by omega)
      simp only [Value.slice.injEq, true_and] at ev
      obtain ⟨rfl, rfl⟩ := ev
      obtain ⟨b2, off2, c2, z2, ev2, _, _, _, hz2, hc2⟩ := hv.cell (k := i * D + e) (by omega)
      simp only [Value.slice.injEq, Option.some.injEq, Addr.mk.injEq, and_true, true_and] at ev2
      obtain ⟨⟨rfl, rfl⟩, rfl⟩ := ev2
      obtain ⟨x1, hx1⟩ : ∃ x, x = cs.getD (i * D + d) 0 := ⟨_, rfl⟩
      obtain ⟨x2, hx2⟩ : ∃ x, x = cs.getD (i * D + e) 0 := ⟨_, rfl⟩
      rw [← hx1] at hz1
      rw [← hx2] at hz2
      rw [← hx1, ← hx2] at hV
      have hkD : (i : Int) * (D : Int) = ((i * D : Nat) : Int) := by rw [Int.natCast_mul]
      have hkD2 : i * D ≤ 256 * 8 := Nat.mul_le_mul (by omega) d2
      obtain ⟨lp, p0, p1, p2, p3⟩ := hp
      subst hd
      rw [he] at hw2
      clear hv hB hE hsec hl he hn hn2 hx1 hx2 hi
      generalize i * D = kd at hkD hkD2 q1 hc1 hc2
      have g0 : IntKind.i64.wrap (kd : Int) = (kd : Int) := IntWalk.i64_in _ (by omega)
      have g1 : IntKind.i64.wrap ((kd : Int) + (d : Int)) = (kd : Int) + (d : Int) := IntWalk.i64_in _ (by omega)
      have g2 : (0 : Int) ≤ (kd : Int) + (d : Int) := by omega
      have g3 : (kd : Int) + (d : Int) < (cs.length : Int) := by omega
      have g4 : ((kd : Int) + (d : Int)).toNat = kd + d := by omega
      have f1 : IntKind.i64.wrap ((kd : Int) + (e : Int)) = (kd : Int) + (e : Int) := IntWalk.i64_in _ (by omega)
      have f2 : (0 : Int) ≤ (kd : Int) + (e : Int) := by omega
      have f3 : (kd : Int) + (e : Int) < (cs.length : Int) := by omega
      have f4 : ((kd : Int) + (e : Int)).toNat = kd + e := by omega
      go_enter Try.func29, Try.ntmps29
      go_wp2_with fail
      refine hw1.mono ?_
      rintro e' w1 ⟨m, rfl, rfl⟩
      go_wp2_with fail
      refine (hw2 m).mono ?_
      rintro e' w1 ⟨m1, rfl, rfl⟩
      go_upto_region 7 with fail
      obtain ⟨V, hVw⟩ : ∃ V, V = w.drewN (m + m1) := ⟨_, rfl⟩
      try rw [World.drewN_drewN]
      rw [← hVw]
      replace p0 : V.cell? ⟨bp, 0, none⟩ = some (.int .i64 W) := by rw [hVw]; exact p0
      replace p1 : V.cell? ⟨bp, 1, none⟩ = some (.int .i64 H) := by rw [hVw]; exact p1
      replace p2 : V.cell? ⟨bp, 2, none⟩ = some (.int .i64 D) := by rw [hVw]; exact p2
      replace p3 : V.cell? ⟨bp, 3, none⟩ = some (.slice (some ⟨bb, off, none⟩) cs.length c0) := by rw [hVw]; exact p3
      replace hc1 : V.cell? ⟨bb, off + (kd + d), none⟩ = some (.float .f32 z1) := by rw [hVw]; exact hc1
      replace hc2 : V.cell? ⟨bb, off + (kd + e), none⟩ = some (.float .f32 z2) := by rw [hVw]; exact hc2
      have hVw' := Lib.hid hVw
      clear hVw hw1 hw2
      refine wp_region_cls (by kernel_rfl) (by kernel_rfl) (by kernel_rfl) (by kernel_rfl) (fun w' => ∃ n, w' = V.drewN n) ⟨1, rfl⟩ [Eq1 ?q3089u0, Eq1 ?q3089u1, Eq1 ?q3089u2, Eq1 ?q3089u3, Eq1 ?q3089u4, Eq1 ?q3089u5, Eq1 ?q3089u6, Eq1 ?q3089u7, Eq1 ?q3089u8, Eq1 ?q3089u9, Eq1 ?q3089u10, Eq1 ?q3089u11, Eq1 ?q3089u12, Eq1 ?q3089u13, Eq1 ?q3089u14, Eq1 ?q3089u15, Eq1 ?q3089u16, Eq1 ?q3089u17, Eq1 ?q3089u18, Eq1 ?q3089u19, Eq1 ?q3089u20, Eq1 ?q3089u21, Eq1 ?q3089u22, Eq1 ?q3089u23, Eq1 ?q3089u24, Eq1 ?q3089u25, Eq1 ?q3089u26, Eq1 ?q3089u27, FloatIs .f32 (fop .sub .f32 x2 x1), FloatIs .f32 (fop .sub .f32 x2 x1)] ?q3089main
      case q3089main =>
        (refine wpR_pure ?_ (fun w hw => ?_) ?_; rfl; (obtain ⟨nn, rfl⟩ := hw; go_simp; (try with_reducible rfl)); (try simp only [Act.put, List.setIfInBounds_toArray, List.set_cons_zero, List.set_cons_succ]))
        (refine wpR_pure ?_ (fun w hw => ?_) ?_; rfl; (obtain ⟨nn, rfl⟩ := hw; go_simp; (try with_reducible rfl)); (try simp only [Act.put, List.setIfInBounds_toArray, List.set_cons_zero, List.set_cons_succ]))
        (refine wpR_pure ?_ (fun w hw => ?_) ?_; rfl; (obtain ⟨nn, rfl⟩ := hw; go_simp; (try with_reducible rfl)); (try simp only [Act.put, List.setIfInBounds_toArray, List.set_cons_zero, List.set_cons_succ]))
        (refine wpR_pure ?_ (fun w hw => ?_) ?_; rfl; (obtain ⟨nn, rfl⟩ := hw; go_simp; (try with_reducible rfl)); (try simp only [Act.put, List.setIfInBounds_toArray, List.set_cons_zero, List.set_cons_succ]))
        (refine wpR_pure ?_ (fun w hw => ?_) ?_; rfl; (obtain ⟨nn, rfl⟩ := hw; go_simp; (try with_reducible rfl)); (try simp only [Act.put, List.setIfInBounds_toArray, List.set_cons_zero, List.set_cons_succ]))
        (refine wpR_pure ?_ (fun w hw => ?_) ?_; rfl; (obtain ⟨nn, rfl⟩ := hw; go_simp; (try with_reducible rfl)); (try simp only [Act.put, List.setIfInBounds_toArray, List.set_cons_zero, List.set_cons_succ]))
        (refine wpR_pure ?_ (fun w hw => ?_) ?_; rfl; (obtain ⟨nn, rfl⟩ := hw; go_simp; (try with_reducible rfl)); (try simp only [Act.put, List.setIfInBounds_toArray, List.set_cons_zero, List.set_cons_succ]))
        (refine wpR_pure ?_ (fun w hw => ?_) ?_; rfl; (obtain ⟨nn, rfl⟩ := hw; go_simp; (try with_reducible rfl)); (try simp only [Act.put, List.setIfInBounds_toArray, List.set_cons_zero, List.set_cons_succ]))
        (refine wpR_pure ?_ (fun w hw => ?_) ?_; rfl; (obtain ⟨nn, rfl⟩ := hw; go_simp; (try with_reducible rfl)); (try simp only [Act.put, List.setIfInBounds_toArray, List.set_cons_zero, List.set_cons_succ]))
        (refine wpR_pure ?_ (fun w hw => ?_) ?_; rfl; (obtain ⟨nn, rfl⟩ := hw; go_simp; (try with_reducible rfl)); (try simp only [Act.put, List.setIfInBounds_toArray, List.set_cons_zero, List.set_cons_succ]))
        (refine wpR_pure ?_ (fun w hw => ?_) ?_; rfl; (obtain ⟨nn, rfl⟩ := hw; go_simp; (try with_reducible rfl)); (try simp only [Act.put, List.setIfInBounds_toArray, List.set_cons_zero, List.set_cons_succ]))
        (refine wpR_pure ?_ (fun w hw => ?_) ?_; rfl; (obtain ⟨nn, rfl⟩ := hw; go_simp; (try with_reducible rfl)); (try simp only [Act.put, List.setIfInBounds_toArray, List.set_cons_zero, List.set_cons_succ]))
        (refine wpR_pure ?_ (fun w hw => ?_) ?_; rfl; (obtain ⟨nn, rfl⟩ := hw; go_simp; (try with_reducible rfl)); (try simp only [Act.put, List.setIfInBounds_toArray, List.set_cons_zero, List.set_cons_succ]))
        (refine wpR_pure ?_ (fun w hw => ?_) ?_; rfl; (obtain ⟨nn, rfl⟩ := hw; go_simp; (try with_reducible rfl)); (try simp only [Act.put, List.setIfInBounds_toArray, List.set_cons_zero, List.set_cons_succ]))
        (refine wpR_pure ?_ (fun w hw => ?_) ?_; rfl; (obtain ⟨nn, rfl⟩ := hw; go_simp; (try with_reducible rfl)); (try simp only [Act.put, List.setIfInBounds_toArray, List.set_cons_zero, List.set_cons_succ]))
        (refine wpR_pure ?_ (fun w hw => ?_) ?_; rfl; (obtain ⟨nn, rfl⟩ := hw; go_simp; (try with_reducible rfl)); (try simp only [Act.put, List.setIfInBounds_toArray, List.set_cons_zero, List.set_cons_succ]))
        (refine wpR_pure ?_ (fun w hw => ?_) ?_; rfl; (obtain ⟨nn, rfl⟩ := hw; go_simp; (try with_reducible rfl)); (try simp only [Act.put, List.setIfInBounds_toArray, List.set_cons_zero, List.set_cons_succ]))
        (refine wpR_pure ?_ (fun w hw => ?_) ?_; rfl; (obtain ⟨nn, rfl⟩ := hw; go_simp; (try with_reducible rfl)); (try simp only [Act.put, List.setIfInBounds_toArray, List.set_cons_zero, List.set_cons_succ]))
        (refine wpR_pure ?_ (fun w hw => ?_) ?_; rfl; (obtain ⟨nn, rfl⟩ := hw; go_simp; (try with_reducible rfl)); (try simp only [Act.put, List.setIfInBounds_toArray, List.set_cons_zero, List.set_cons_succ]))
        (refine wpR_pure ?_ (fun w hw => ?_) ?_; rfl; (obtain ⟨nn, rfl⟩ := hw; go_simp; (try with_reducible rfl)); (try simp only [Act.put, List.setIfInBounds_toArray, List.set_cons_zero, List.set_cons_succ]))
        (refine wpR_pure ?_ (fun w hw => ?_) ?_; rfl; (obtain ⟨nn, rfl⟩ := hw; go_simp; (try with_reducible rfl)); (try simp only [Act.put, List.setIfInBounds_toArray, List.set_cons_zero, List.set_cons_succ]))
        (refine wpR_pure ?_ (fun w hw => ?_) ?_; rfl; (obtain ⟨nn, rfl⟩ := hw; go_simp; (try with_reducible rfl)); (try simp only [Act.put, List.setIfInBounds_toArray, List.set_cons_zero, List.set_cons_succ]))
        (refine wpR_pure ?_ (fun w hw => ?_) ?_; rfl; (obtain ⟨nn, rfl⟩ := hw; go_simp; (try with_reducible rfl)); (try simp only [Act.put, List.setIfInBounds_toArray, List.set_cons_zero, List.set_cons_succ]))
        (refine wpR_pure ?_ (fun w hw => ?_) ?_; rfl; (obtain ⟨nn, rfl⟩ := hw; go_simp; (try with_reducible rfl)); (try simp only [Act.put, List.setIfInBounds_toArray, List.set_cons_zero, List.set_cons_succ]))
        (refine wpR_pure ?_ (fun w hw => ?_) ?_; rfl; (obtain ⟨nn, rfl⟩ := hw; go_simp; (try with_reducible rfl)); (try simp only [Act.put, List.setIfInBounds_toArray, List.set_cons_zero, List.set_cons_succ]))
        (refine wpR_pure ?_ (fun w hw => ?_) ?_; rfl; (obtain ⟨nn, rfl⟩ := hw; go_simp; (try with_reducible rfl)); (try simp only [Act.put, List.setIfInBounds_toArray, List.set_cons_zero, List.set_cons_succ]))
        (refine wpR_pure ?_ (fun w hw => ?_) ?_; rfl; (obtain ⟨nn, rfl⟩ := hw; go_simp; (try with_reducible rfl)); (try simp only [Act.put, List.setIfInBounds_toArray, List.set_cons_zero, List.set_cons_succ]))
        (refine wpR_pure ?_ (fun w hw => ?_) ?_; rfl; (obtain ⟨nn, rfl⟩ := hw; go_simp; (try with_reducible rfl)); (try simp only [Act.put, List.setIfInBounds_toArray, List.set_cons_zero, List.set_cons_succ]))
        (refine wpR_cls ?_ (fun w hw => ?_) ?_; rfl; (obtain ⟨nn, rfl⟩ := hw; go_simp; exact ⟨⟨_, rfl⟩, _, rfl, Fl.flR (by assumption) (by assumption) _⟩); (rintro _ ⟨_, rfl, _⟩; (try simp only [Act.put, List.setIfInBounds_toArray, List.set_cons_zero, List.set_cons_succ])))
        (refine wpR_cls ?_ (fun w hw => ?_) ?_; rfl; (obtain ⟨nn, rfl⟩ := hw; go_simp; first | exact ⟨_, rfl, by assumption⟩ | exact ⟨⟨_, rfl⟩, _, rfl, by assumption⟩); (rintro _ ⟨_, rfl, _⟩; (try simp only [Act.put, List.setIfInBounds_toArray, List.set_cons_zero, List.set_cons_succ])))
        refine wpR_nil ?_
        rintro w' ⟨nn, rfl⟩
        go_wp2_with fail
        go_ret
        exact ⟨_, _, rfl, by rw [hVw'.out]; first | rfl | (simp only [World.drewN_drewN]; rfl), by rw [hV.out]; assumption⟩
end Go.Proofs.Ytaclgmafcakiiaa
