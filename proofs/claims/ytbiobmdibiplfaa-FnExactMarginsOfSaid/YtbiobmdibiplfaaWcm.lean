import Derived.Test.YtbiobmdibiplfaaWcl
set_option linter.unusedVariables false
set_option linter.unusedSimpArgs false
namespace Go.Proofs.Ytbiobmdibiplfaa
open Go.FX Go.RowKit Go.WideShapes Go.ChangeShapes
attribute [local go_sem ↓] Go.wp_at_zero Go.wp_at_succ
/-- How much more the second least cost of a row is. -/
def second (row : List Nat) : Int := winI row (notD (winI row fun _ => true))
def marginV (row : List Nat) : Nat := if second row < 0 then 2139095040 else fop .sub .f32 (row.getD (second row).toNat 0) (row.getD (winI row fun _ => true).toNat 0)
theorem winI_valid {row : List Nat} {p : Nat → Bool} {e : Nat} (h : winI row p = e) : e < row.length ∧ validC row p e = true := by
  unfold winI at h
  rcases bestTo_inv row p row.length with ⟨h1, _⟩ | ⟨b, h1, h2, h3, _⟩
  · omega
  · have : b = e := by omega
    subst this
    exact ⟨h2, h3⟩
/-- Where there is a second one, there is a first one. -/
theorem second_first {row : List Nat} (h : ¬ second row < 0) : 0 ≤ winI row (fun _ => true) := by
  obtain ⟨e, he⟩ := Int.eq_ofNat_of_zero_le (a := second row) (by omega)
  obtain ⟨h1, h2⟩ := winI_valid he
  have hv : validC row (fun _ => true) e = true := by
    unfold validC at h2 ⊢
    simp only [Bool.and_eq_true] at h2
    rw [h2.1]; rfl
  unfold winI
  rcases bestTo_inv row (fun _ => true) row.length with ⟨_, h3⟩ | ⟨b, h3, _⟩
  · rw [h3 e h1] at hv; cases hv
  · omega
theorem marginV_neg {row : List Nat} (h : second row < 0) : marginV row = 2139095040 := if_pos h
theorem marginV_pos {row : List Nat} {d e : Nat} (h : winI row (fun _ => true) = d) (h2 : second row = e) : marginV row = fop .sub .f32 (row.getD e 0) (row.getD d 0) := by
  unfold marginV
  rw [h2, h, if_neg (by omega), Int.toNat_natCast, Int.toNat_natCast]
set_option maxHeartbeats 4000000 in
theorem marginFn_any (D : Nat) (d2 : D ≤ 8) (w : World) : TellFn Try.prog 90 #[] #[] D marginV w := by
  intro w1 v row hb hv hl
  have hv0 := hv
  obtain ⟨a, c, rfl, hnc, hcm⟩ := hv.shape
  unfold maxLen at hcm
  obtain ⟨B, hB⟩ : ∃ B, B = winI row (fun _ => true) := ⟨_, rfl⟩
  show Calls Try.prog 90 #[.slice a row.length c, .int .i64 (winI row fun _ => true)] w1 (RFb .f32 (marginV row) w1)
  rw [← hB]
  have hsec : winI row (notD B) = second row := by rw [hB]; rfl
  obtain ⟨E, hE⟩ : ∃ E, E = second row := ⟨_, rfl⟩
  obtain ⟨W2, hW2⟩ : ∃ X, X = w1.alloc (.cells #[.int .i64 B] 3) := ⟨_, rfl⟩
  have hb2 : Below w1.heap.size w1 W2 := by rw [hW2]; exact below1 _ _
  have hcell : W2.cell? ⟨w1.heap.size, 0, none⟩ = some (.int .i64 B) := by rw [hW2]; go_simp
  have hlt2 : w1.heap.size < W2.heap.size := by rw [hW2]; simp
  have hpred : PredFn Try.prog 92 #[] #[.pointer (some ⟨w1.heap.size, 0, none⟩)] row.length (notD B) W2 := by
    intro w3 d hb3 hd
    have hc3 := ((bcell hb3).1 w1.heap.size 0 hlt2).trans hcell
    show Calls Try.prog 92 #[.int .i64 d, .pointer (some ⟨w1.heap.size, 0, none⟩)] w3 _
    clear hv0 hv hB hsec hE hW2 hb2 hcell hlt2 hb hl hnc hcm hd hb3
    go_enter Try.func92, Try.ntmps92
    go_wp2
    go_ret
    exact ⟨0, rfl, rfl⟩
  have hlo := leastOf_any (.slice a row.length c) row 92 #[] #[.pointer (some ⟨w1.heap.size, 0, none⟩)] (notD B) W2 (hv.below hb2) (by omega) (enters_of Try.func92 (by kernel_rfl) rfl) hpred
  rw [hsec, ← hE] at hlo
  by_cases hn : E < 0
  · have hV := Lib.hid (marginV_neg (by rw [← hE]; exact hn))
    clear hv0 hv hB hsec hE hpred hl hcell
    generalize row.length = n at *
    go_enter Try.func90, Try.ntmps90
    go_wp2_with fail
    rw [← hW2]
    clear hW2
    refine hlo.mono ?_
    rintro e w2 ⟨m, rfl, rfl⟩
    go_wp2_with fail
    refine (implInf_any _).mono ?_
    rintro e w2 ⟨r, m2, rfl, rfl, hr⟩
    go_wp2_with fail
    go_ret
    exact ⟨_, rfl, below_drewN hb2 _, by rw [hV.out]; exact hr⟩
  · obtain ⟨e, he⟩ := Int.eq_ofNat_of_zero_le (a := E) (by omega)
    obtain ⟨d, hd⟩ := Int.eq_ofNat_of_zero_le (a := B) (by rw [hB]; exact second_first (by rw [← hE]; exact hn))
    have hV := Lib.hid (marginV_pos (hB.symm.trans hd) (hE.symm.trans he))
    have hd2 : d < row.length := (winI_valid (hB.symm.trans hd)).1
    have he2 : e < row.length := (winI_valid (hsec.trans (hE.symm.trans he))).1
    obtain ⟨bb, off, cc, z1, ev, _, _, hbb, hz1, hc1⟩ := hv.cell hd2
    obtain rfl : a = some ⟨bb, off, none⟩ := (Value.slice.inj ev).1
    obtain ⟨b2, off2, _, z2, ev2, _, _, _, hz2, hc2⟩ := hv.cell he2
    have ev2 := (Value.slice.inj ev2).1
    simp only [Option.some.injEq, Addr.mk.injEq, and_true] at ev2
    obtain ⟨rfl, rfl⟩ := ev2
    have hc1' : W2.cell? ⟨bb, off + d, none⟩ = some (.float .f32 z1) := ((bcell hb2).1 bb _ hbb).trans hc1
    have hc2' : W2.cell? ⟨bb, off + e, none⟩ = some (.float .f32 z2) := ((bcell hb2).1 bb _ hbb).trans hc2
    obtain ⟨x1, hx1⟩ : ∃ x, x = row.getD d 0 := ⟨_, rfl⟩
    obtain ⟨x2, hx2⟩ : ∃ x, x = row.getD e 0 := ⟨_, rfl⟩
    rw [← hx1] at hz1
    rw [← hx2] at hz2
    rw [← hx1, ← hx2] at hV
    have hB2 := Lib.hid hb2
    rw [he] at hlo
    subst hd
    clear ev hn hv0 hv hB hsec hE hpred hl hc1 hc2 hx1 hx2 hb2
    clear he
    generalize row.length = n at *
    go_enter Try.func90, Try.ntmps90
    go_wp2_with fail
    rw [← hW2]
    clear hW2
    refine hlo.mono ?_
    rintro e' w2 ⟨m, rfl, rfl⟩
    go_upto_region 4 with fail
    obtain ⟨V, hVw⟩ : ∃ V, V = W2.drewN m := ⟨_, rfl⟩
    rw [← hVw]
    have v1 : V.cell? ⟨bb, off + d, none⟩ = some (.float .f32 z1) := by rw [hVw]; exact hc1'
    have v2 : V.cell? ⟨bb, off + e, none⟩ = some (.float .f32 z2) := by rw [hVw]; exact hc2'
    have v3 : V.cell? ⟨w1.heap.size, 0, none⟩ = some (.int .i64 d) := by rw [hVw]; exact hcell
    have hVw' := Lib.hid hVw
    clear hVw hc1' hc2' hcell hlo
    refine wp_region_cls (by kernel_rfl) (by kernel_rfl) (by kernel_rfl) (by kernel_rfl) (fun w' => ∃ n, w' = V.drewN n) ⟨1, rfl⟩ [Eq1 ?q9412u0, Eq1 ?q9412u1, Eq1 ?q9412u2, Eq1 ?q9412u3, Eq1 ?q9412u4, Eq1 ?q9412u5, Eq1 ?q9412u6, Eq1 ?q9412u7, FloatIs .f32 (fop .sub .f32 x2 x1), FloatIs .f32 (fop .sub .f32 x2 x1)] ?q9412main
    case q9412main =>
      (refine wpR_pure ?_ (fun w hw => ?_) ?_; rfl; (obtain ⟨nn, rfl⟩ := hw; go_simp; (try with_reducible rfl)); (try simp only [Act.put, List.setIfInBounds_toArray, List.set_cons_zero, List.set_cons_succ]))
      (refine wpR_pure ?_ (fun w hw => ?_) ?_; rfl; (obtain ⟨nn, rfl⟩ := hw; go_simp; (try with_reducible rfl)); (try simp only [Act.put, List.setIfInBounds_toArray, List.set_cons_zero, List.set_cons_succ]))
      (refine wpR_pure ?_ (fun w hw => ?_) ?_; rfl; (obtain ⟨nn, rfl⟩ := hw; go_simp; (try with_reducible rfl)); (try simp only [Act.put, List.setIfInBounds_toArray, List.set_cons_zero, List.set_cons_succ]))
      (refine wpR_pure ?_ (fun w hw => ?_) ?_; rfl; (obtain ⟨nn, rfl⟩ := hw; go_simp; (try with_reducible rfl)); (try simp only [Act.put, List.setIfInBounds_toArray, List.set_cons_zero, List.set_cons_succ]))
      (refine wpR_pure ?_ (fun w hw => ?_) ?_; rfl; (obtain ⟨nn, rfl⟩ := hw; go_simp; (try with_reducible rfl)); (try simp only [Act.put, List.setIfInBounds_toArray, List.set_cons_zero, List.set_cons_succ]))
      (refine wpR_pure ?_ (fun w hw => ?_) ?_; rfl; (obtain ⟨nn, rfl⟩ := hw; go_simp; (try with_reducible rfl)); (try simp only [Act.put, List.setIfInBounds_toArray, List.set_cons_zero, List.set_cons_succ]))
      (refine wpR_pure ?_ (fun w hw => ?_) ?_; rfl; (obtain ⟨nn, rfl⟩ := hw; go_simp; (try with_reducible rfl)); (try simp only [Act.put, List.setIfInBounds_toArray, List.set_cons_zero, List.set_cons_succ]))
      (refine wpR_pure ?_ (fun w hw => ?_) ?_; rfl; (obtain ⟨nn, rfl⟩ := hw; go_simp; (try with_reducible rfl)); (try simp only [Act.put, List.setIfInBounds_toArray, List.set_cons_zero, List.set_cons_succ]))
      (refine wpR_cls ?_ (fun w hw => ?_) ?_; rfl; (obtain ⟨nn, rfl⟩ := hw; go_simp; exact ⟨⟨_, rfl⟩, _, rfl, Fl.flR (by assumption) (by assumption) _⟩); (rintro _ ⟨_, rfl, _⟩; (try simp only [Act.put, List.setIfInBounds_toArray, List.set_cons_zero, List.set_cons_succ])))
      (refine wpR_cls ?_ (fun w hw => ?_) ?_; rfl; (obtain ⟨nn, rfl⟩ := hw; go_simp; first | exact ⟨_, rfl, by assumption⟩ | exact ⟨⟨_, rfl⟩, _, rfl, by assumption⟩); (rintro _ ⟨_, rfl, _⟩; (try simp only [Act.put, List.setIfInBounds_toArray, List.set_cons_zero, List.set_cons_succ])))
      refine wpR_nil ?_
      rintro w' ⟨nn, rfl⟩
      go_wp2_with fail
      go_ret
      exact ⟨_, rfl, by rw [hVw'.out]; exact below_drewN (below_drewN hB2.out _) _, by rw [hV.out]; assumption⟩
set_option maxRecDepth 100000 in
set_option maxHeartbeats 8000000 in
theorem specMargin_any (W H D : Nat) (a0 : Option Addr) (n0 c0 bp : Nat) (cs : List Nat) (i : Nat) (w : World) (hp : Pw w bp W H D (.slice a0 n0 c0)) (hv : FC w (.slice a0 n0 c0) cs) (hi : i < H * W) (h5 : H * W ≤ 256) (d1 : 1 ≤ D) (d2 : D ≤ 8) (hl : cs.length = H * W * D) :
    Calls Try.prog 89 #[.pointer (some ⟨bp, 0, none⟩), .int .i64 i] w (RF .f32 (marginV (rowC D cs i)) w) := by
  obtain ⟨rfl, hnc, hcm⟩ := hv.sized
  have hw1 := specWinner_any W H D a0 cs.length c0 bp cs i (-1) w hp hv hi h5 d1 d2 hl
  rw [notD_none2] at hw1
  have hw2 := fun k b => specWinner_any W H D a0 cs.length c0 bp cs i b (w.drewN k) (hp.drewN k) (hv.drewN k) hi h5 d1 d2 hl
  have hwl := winI_lt (rowC D cs i) (fun _ => true)
  rw [rowC_len] at hwl
  obtain ⟨B, hB⟩ : ∃ B, B = winI (rowC D cs i) (fun _ => true) := ⟨_, rfl⟩
  obtain ⟨E, hE⟩ : ∃ E, E = second (rowC D cs i) := ⟨_, rfl⟩
  have hsec : winI (rowC D cs i) (notD B) = E := by rw [hB, hE]; rfl
  have hw2 := fun k => hw2 k B
  rw [hsec] at hw2
  rw [← hB] at hw1 hwl
  by_cases hn : B < 0
  · have hV := Lib.hid (marginV_neg (row := rowC D cs i) (by
      refine Int.not_le.1 fun h => ?_
      have := second_first (row := rowC D cs i) (Int.not_lt.2 h)
      rw [← hB] at this
      omega))
    clear hp hv hB hE hsec hl hw2
    go_enter Try.func89, Try.ntmps89
    go_wp2_with fail
    refine hw1.mono ?_
    rintro e w1 ⟨m, rfl, rfl⟩
    go_wp2_with fail
    refine (specInf_any _).mono ?_
    rintro e w1 ⟨r, m2, rfl, rfl, hr⟩
    go_wp2_with fail
    go_ret
    exact ⟨_, _, rfl, by first | rfl | (simp only [World.drewN_drewN]; rfl), by rw [hV.out]; exact hr⟩
  · by_cases hn2 : E < 0
    · have hV := Lib.hid (marginV_neg (row := rowC D cs i) (by rw [← hE]; exact hn2))
      clear hp hv hB hE hsec hl
      go_enter Try.func89, Try.ntmps89
      go_wp2_with fail
      refine hw1.mono ?_
      rintro e w1 ⟨m, rfl, rfl⟩
      go_wp2_with fail
      refine (hw2 m).mono ?_
      rintro e w1 ⟨m1, rfl, rfl⟩
      go_wp2_with fail
      refine (specInf_any _).mono ?_
      rintro e w1 ⟨r, m2, rfl, rfl, hr⟩
      go_wp2_with fail
      go_ret
      exact ⟨_, _, rfl, by first | rfl | (simp only [World.drewN_drewN]; rfl), by rw [hV.out]; exact hr⟩
    · obtain ⟨e, he⟩ := Int.eq_ofNat_of_zero_le (a := E) (by omega)
      obtain ⟨d, hd⟩ := Int.eq_ofNat_of_zero_le (a := B) (by omega)
      have hV := Lib.hid (marginV_pos (row := rowC D cs i) (hB.symm.trans hd) (hE.symm.trans he))
      have hd2 : d < D := by omega
      have he2 : e < D := by have := (winI_valid (hsec.trans he)).1; rwa [rowC_len] at this
      rw [rowC_get _ _ hd2, rowC_get _ _ he2] at hV
      have q1 : i * D + D ≤ cs.length := by rw [hl, ← Nat.succ_mul]; exact Nat.mul_le_mul_right _ hi
      obtain ⟨bb, off, cc, z1, ev, _, _, hbb, hz1, hc1⟩ := hv.cell (k := i * D + d) (by omega)
      simp only [Value.slice.injEq, true_and] at ev
      obtain ⟨rfl, rfl⟩ := ev
      obtain ⟨b2, off2, c2, z2, ev2, _, _, _, hz2, hc2⟩ := hv.cell (k := i * D + e) (by omega)
      simp only [Value.slice.injEq, Option.some.injEq, Addr.mk.injEq, and_true, true_and] at ev2
      obtain ⟨⟨rfl, rfl⟩, rfl⟩ := ev2
      obtain ⟨x1, hx1⟩ : ∃ x, x = cs.getD (i * D + d) 0 := ⟨_, rfl⟩
      obtain ⟨x2, hx2⟩ : ∃ x, x = cs.getD (i * D + e) 0 := ⟨_, rfl⟩
      rw [← hx1] at hz1
      rw [← hx2] at hz2
      rw [← hx1, ← hx2] at hV
      have hkD : (i : Int) * (D : Int) = ((i * D : Nat) : Int) := by rw [Int.natCast_mul]
      have hkD2 : i * D ≤ 256 * 8 := Nat.mul_le_mul (by omega) d2
      obtain ⟨lp, p0, p1, p2, p3⟩ := hp
      subst hd
      rw [he] at hw2
      clear hv hB hE hsec hl he hn hn2 hx1 hx2 hi
      generalize i * D = kd at hkD hkD2 q1 hc1 hc2
      have g0 : IntKind.i64.wrap (kd : Int) = (kd : Int) := IntWalk.i64_in _ (by omega)
      have g1 : IntKind.i64.wrap ((kd : Int) + (d : Int)) = (kd : Int) + (d : Int) := IntWalk.i64_in _ (by omega)
      have g2 : (0 : Int) ≤ (kd : Int) + (d : Int) := by omega
      have g3 : (kd : Int) + (d : Int) < (cs.length : Int) := by omega
      have g4 : ((kd : Int) + (d : Int)).toNat = kd + d := by omega
      have f1 : IntKind.i64.wrap ((kd : Int) + (e : Int)) = (kd : Int) + (e : Int) := IntWalk.i64_in _ (by omega)
      have f2 : (0 : Int) ≤ (kd : Int) + (e : Int) := by omega
      have f3 : (kd : Int) + (e : Int) < (cs.length : Int) := by omega
      have f4 : ((kd : Int) + (e : Int)).toNat = kd + e := by omega
      go_enter Try.func89, Try.ntmps89
      go_wp2_with fail
      refine hw1.mono ?_
      rintro e' w1 ⟨m, rfl, rfl⟩
      go_wp2_with fail
      refine (hw2 m).mono ?_
      rintro e' w1 ⟨m1, rfl, rfl⟩
      go_upto_region 7 with fail
      obtain ⟨V, hVw⟩ : ∃ V, V = w.drewN (m + m1) := ⟨_, rfl⟩
      try rw [World.drewN_drewN]
      rw [← hVw]
      replace p0 : V.cell? ⟨bp, 0, none⟩ = some (.int .i64 W) := by rw [hVw]; exact p0
      replace p1 : V.cell? ⟨bp, 1, none⟩ = some (.int .i64 H) := by rw [hVw]; exact p1
      replace p2 : V.cell? ⟨bp, 2, none⟩ = some (.int .i64 D) := by rw [hVw]; exact p2
      replace p3 : V.cell? ⟨bp, 3, none⟩ = some (.slice (some ⟨bb, off, none⟩) cs.length c0) := by rw [hVw]; exact p3
      replace hc1 : V.cell? ⟨bb, off + (kd + d), none⟩ = some (.float .f32 z1) := by rw [hVw]; exact hc1
      replace hc2 : V.cell? ⟨bb, off + (kd + e), none⟩ = some (.float .f32 z2) := by rw [hVw]; exact hc2
      have hVw' := Lib.hid hVw
      clear hVw hw1 hw2
      refine wp_region_cls (by kernel_rfl) (by kernel_rfl) (by kernel_rfl) (by kernel_rfl) (fun w' => ∃ n, w' = V.drewN n) ⟨1, rfl⟩ [Eq1 ?q3089u0, Eq1 ?q3089u1, Eq1 ?q3089u2, Eq1 ?q3089u3, Eq1 ?q3089u4, Eq1 ?q3089u5, Eq1 ?q3089u6, Eq1 ?q3089u7, Eq1 ?q3089u8, Eq1 ?q3089u9, Eq1 ?q3089u10, Eq1 ?q3089u11, Eq1 ?q3089u12, Eq1 ?q3089u13, Eq1 ?q3089u14, Eq1 ?q3089u15, Eq1 ?q3089u16, Eq1 ?q3089u17, Eq1 ?q3089u18, Eq1 ?q3089u19, Eq1 ?q3089u20, Eq1 ?q3089u21, Eq1 ?q3089u22, Eq1 ?q3089u23, Eq1 ?q3089u24, Eq1 ?q3089u25, Eq1 ?q3089u26, Eq1 ?q3089u27, FloatIs .f32 (fop .sub .f32 x2 x1), FloatIs .f32 (fop .sub .f32 x2 x1)] ?q3089main
      case q3089main =>
        (refine wpR_pure ?_ (fun w hw => ?_) ?_; rfl; (obtain ⟨nn, rfl⟩ := hw; go_simp; (try with_reducible rfl)); (try simp only [Act.put, List.setIfInBounds_toArray, List.set_cons_zero, List.set_cons_succ]))
        (refine wpR_pure ?_ (fun w hw => ?_) ?_; rfl; (obtain ⟨nn, rfl⟩ := hw; go_simp; (try with_reducible rfl)); (try simp only [Act.put, List.setIfInBounds_toArray, List.set_cons_zero, List.set_cons_succ]))
        (refine wpR_pure ?_ (fun w hw => ?_) ?_; rfl; (obtain ⟨nn, rfl⟩ := hw; go_simp; (try with_reducible rfl)); (try simp only [Act.put, List.setIfInBounds_toArray, List.set_cons_zero, List.set_cons_succ]))
        (refine wpR_pure ?_ (fun w hw => ?_) ?_; rfl; (obtain ⟨nn, rfl⟩ := hw; go_simp; (try with_reducible rfl)); (try simp only [Act.put, List.setIfInBounds_toArray, List.set_cons_zero, List.set_cons_succ]))
        (refine wpR_pure ?_ (fun w hw => ?_) ?_; rfl; (obtain ⟨nn, rfl⟩ := hw; go_simp; (try with_reducible rfl)); (try simp only [Act.put, List.setIfInBounds_toArray, List.set_cons_zero, List.set_cons_succ]))
        (refine wpR_pure ?_ (fun w hw => ?_) ?_; rfl; (obtain ⟨nn, rfl⟩ := hw; go_simp; (try with_reducible rfl)); (try simp only [Act.put, List.setIfInBounds_toArray, List.set_cons_zero, List.set_cons_succ]))
        (refine wpR_pure ?_ (fun w hw => ?_) ?_; rfl; (obtain ⟨nn, rfl⟩ := hw; go_simp; (try with_reducible rfl)); (try simp only [Act.put, List.setIfInBounds_toArray, List.set_cons_zero, List.set_cons_succ]))
        (refine wpR_pure ?_ (fun w hw => ?_) ?_; rfl; (obtain ⟨nn, rfl⟩ := hw; go_simp; (try with_reducible rfl)); (try simp only [Act.put, List.setIfInBounds_toArray, List.set_cons_zero, List.set_cons_succ]))
        (refine wpR_pure ?_ (fun w hw => ?_) ?_; rfl; (obtain ⟨nn, rfl⟩ := hw; go_simp; (try with_reducible rfl)); (try simp only [Act.put, List.setIfInBounds_toArray, List.set_cons_zero, List.set_cons_succ]))
        (refine wpR_pure ?_ (fun w hw => ?_) ?_; rfl; (obtain ⟨nn, rfl⟩ := hw; go_simp; (try with_reducible rfl)); (try simp only [Act.put, List.setIfInBounds_toArray, List.set_cons_zero, List.set_cons_succ]))
        (refine wpR_pure ?_ (fun w hw => ?_) ?_; rfl; (obtain ⟨nn, rfl⟩ := hw; go_simp; (try with_reducible rfl)); (try simp only [Act.put, List.setIfInBounds_toArray, List.set_cons_zero, List.set_cons_succ]))
        (refine wpR_pure ?_ (fun w hw => ?_) ?_; rfl; (obtain ⟨nn, rfl⟩ := hw; go_simp; (try with_reducible rfl)); (try simp only [Act.put, List.setIfInBounds_toArray, List.set_cons_zero, List.set_cons_succ]))
        (refine wpR_pure ?_ (fun w hw => ?_) ?_; rfl; (obtain ⟨nn, rfl⟩ := hw; go_simp; (try with_reducible rfl)); (try simp only [Act.put, List.setIfInBounds_toArray, List.set_cons_zero, List.set_cons_succ]))
        (refine wpR_pure ?_ (fun w hw => ?_) ?_; rfl; (obtain ⟨nn, rfl⟩ := hw; go_simp; (try with_reducible rfl)); (try simp only [Act.put, List.setIfInBounds_toArray, List.set_cons_zero, List.set_cons_succ]))
        (refine wpR_pure ?_ (fun w hw => ?_) ?_; rfl; (obtain ⟨nn, rfl⟩ := hw; go_simp; (try with_reducible rfl)); (try simp only [Act.put, List.setIfInBounds_toArray, List.set_cons_zero, List.set_cons_succ]))
        (refine wpR_pure ?_ (fun w hw => ?_) ?_; rfl; (obtain ⟨nn, rfl⟩ := hw; go_simp; (try with_reducible rfl)); (try simp only [Act.put, List.setIfInBounds_toArray, List.set_cons_zero, List.set_cons_succ]))
        (refine wpR_pure ?_ (fun w hw => ?_) ?_; rfl; (obtain ⟨nn, rfl⟩ := hw; go_simp; (try with_reducible rfl)); (try simp only [Act.put, List.setIfInBounds_toArray, List.set_cons_zero, List.set_cons_succ]))
        (refine wpR_pure ?_ (fun w hw => ?_) ?_; rfl; (obtain ⟨nn, rfl⟩ := hw; go_simp; (try with_reducible rfl)); (try simp only [Act.put, List.setIfInBounds_toArray, List.set_cons_zero, List.set_cons_succ]))
        (refine wpR_pure ?_ (fun w hw => ?_) ?_; rfl; (obtain ⟨nn, rfl⟩ := hw; go_simp; (try with_reducible rfl)); (try simp only [Act.put, List.setIfInBounds_toArray, List.set_cons_zero, List.set_cons_succ]))
        (refine wpR_pure ?_ (fun w hw => ?_) ?_; rfl; (obtain ⟨nn, rfl⟩ := hw; go_simp; (try with_reducible rfl)); (try simp only [Act.put, List.setIfInBounds_toArray, List.set_cons_zero, List.set_cons_succ]))
        (refine wpR_pure ?_ (fun w hw => ?_) ?_; rfl; (obtain ⟨nn, rfl⟩ := hw; go_simp; (try with_reducible rfl)); (try simp only [Act.put, List.setIfInBounds_toArray, List.set_cons_zero, List.set_cons_succ]))
        (refine wpR_pure ?_ (fun w hw => ?_) ?_; rfl; (obtain ⟨nn, rfl⟩ := hw; go_simp; (try with_reducible rfl)); (try simp only [Act.put, List.setIfInBounds_toArray, List.set_cons_zero, List.set_cons_succ]))
        (refine wpR_pure ?_ (fun w hw => ?_) ?_; rfl; (obtain ⟨nn, rfl⟩ := hw; go_simp; (try with_reducible rfl)); (try simp only [Act.put, List.setIfInBounds_toArray, List.set_cons_zero, List.set_cons_succ]))
        (refine wpR_pure ?_ (fun w hw => ?_) ?_; rfl; (obtain ⟨nn, rfl⟩ := hw; go_simp; (try with_reducible rfl)); (try simp only [Act.put, List.setIfInBounds_toArray, List.set_cons_zero, List.set_cons_succ]))
        (refine wpR_pure ?_ (fun w hw => ?_) ?_; rfl; (obtain ⟨nn, rfl⟩ := hw; go_simp; (try with_reducible rfl)); (try simp only [Act.put, List.setIfInBounds_toArray, List.set_cons_zero, List.set_cons_succ]))
        (refine wpR_pure ?_ (fun w hw => ?_) ?_; rfl; (obtain ⟨nn, rfl⟩ := hw; go_simp; (try with_reducible rfl)); (try simp only [Act.put, List.setIfInBounds_toArray, List.set_cons_zero, List.set_cons_succ]))
        (refine wpR_pure ?_ (fun w hw => ?_) ?_; rfl; (obtain ⟨nn, rfl⟩ := hw; go_simp; (try with_reducible rfl)); (try simp only [Act.put, List.setIfInBounds_toArray, List.set_cons_zero, List.set_cons_succ]))
        (refine wpR_pure ?_ (fun w hw => ?_) ?_; rfl; (obtain ⟨nn, rfl⟩ := hw; go_simp; (try with_reducible rfl)); (try simp only [Act.put, List.setIfInBounds_toArray, List.set_cons_zero, List.set_cons_succ]))
        (refine wpR_cls ?_ (fun w hw => ?_) ?_; rfl; (obtain ⟨nn, rfl⟩ := hw; go_simp; exact ⟨⟨_, rfl⟩, _, rfl, Fl.flR (by assumption) (by assumption) _⟩); (rintro _ ⟨_, rfl, _⟩; (try simp only [Act.put, List.setIfInBounds_toArray, List.set_cons_zero, List.set_cons_succ])))
        (refine wpR_cls ?_ (fun w hw => ?_) ?_; rfl; (obtain ⟨nn, rfl⟩ := hw; go_simp; first | exact ⟨_, rfl, by assumption⟩ | exact ⟨⟨_, rfl⟩, _, rfl, by assumption⟩); (rintro _ ⟨_, rfl, _⟩; (try simp only [Act.put, List.setIfInBounds_toArray, List.set_cons_zero, List.set_cons_succ])))
        refine wpR_nil ?_
        rintro w' ⟨nn, rfl⟩
        go_wp2_with fail
        go_ret
        exact ⟨_, _, rfl, by rw [hVw'.out]; first | rfl | (simp only [World.drewN_drewN]; rfl), by rw [hV.out]; assumption⟩
set_option maxRecDepth 100000 in
set_option maxHeartbeats 8000000 in
theorem specMarginsOf_any (W H D : Nat) (a : Option Addr) (n c : Nat) (cs : List Nat) (w : World) (hv : FC w (.slice a n c) cs) (b1 : 1 ≤ W) (b2 : W ≤ 24) (b3 : 1 ≤ H) (b4 : H ≤ 24) (b5 : H * W ≤ 256) (d1 : 1 ≤ D) (d2 : D ≤ 8) (hl : cs.length = H * W * D) :
    Calls Try.prog 46 #[.agg #[.int .i64 W, .int .i64 H, .int .i64 D, .slice a n c]] w (RPic 49 W H (seqL (fun i => marginV (rowC D cs i)) (H * W)) true w) := by
  obtain ⟨i0, hi, hz0, hz1, hz2⟩ := info_parts info_f32
  obtain ⟨rfl, hnc, hcm⟩ := hv.sized
  have hval := Lib.hid (volB_mk b1 b2 b3 b4 b5 d1 d2 hl)
  have h1 := fun w1 hp => specVIs_any W H D a cs.length c w.heap.size w1 hp (by unfold maxLen at hcm; omega)
  have hsw := fun w1 k hp hv hk => specMargin_any W H D a cs.length c w.heap.size cs k w1 hp hv hk b5 d1 d2 hl
  have hWH : (W : Int) * (H : Int) = ((H * W : Nat) : Int) := by push_cast; rw [Int.mul_comm]
  generalize H * W = m at hWH b5 hl hsw ⊢
  have hl' := Lib.hid hl
  clear hl
  go_enter Try.func46, Try.ntmps46
  go_wp2_with fail
  have hP1 := (Pw.new w W H D (.slice a cs.length c) 41).alloc (.cells #[.int .i64 0, .int .i64 0, .slice none 0 0] 34)
  have hN1 := Nv.new (w.alloc (.cells #[.int .i64 W, .int .i64 H, .int .i64 D, .slice a cs.length c] 41)) (.int .i64 0) (.int .i64 0) (.slice none 0 0) 34
  simp only [World.size_alloc] at hN1
  refine (h1 _ hP1).mono ?_
  rintro e w1 ⟨k0, rfl, rfl⟩
  rw [hval.out]
  obtain ⟨w0, hw0⟩ : ∃ w0, w0 = ((w.alloc (.cells #[.int .i64 W, .int .i64 H, .int .i64 D, .slice a cs.length c] 41)).alloc (.cells #[.int .i64 0, .int .i64 0, .slice none 0 0] 34)).drewN k0 := ⟨_, rfl⟩
  rw [← hw0]
  have hp0 : Pw w0 w.heap.size W H D (.slice a cs.length c) := by rw [hw0]; exact hP1.drewN k0
  have hn0 : Nv w0 (w.heap.size + 1) (.int .i64 0) (.int .i64 0) (.slice none 0 0) := by rw [hw0]; exact hN1.drewN k0
  have hb0 : Below w.heap.size w w0 := by rw [hw0]; exact below_drewN (below2 _ _ _) _
  have hlt0 : w.heap.size + 1 < w0.heap.size := hn0.1
  clear hw0 hP1 hN1
  obtain ⟨hp1, p0, p1, p2, p3⟩ := id hp0
  have hpv := Lib.hid (And.intro hp0 (And.intro (hv.below hb0) (And.intro hn0 hb0)))
  clear hp0 hn0 hb0 hv h1
  obtain ⟨bo, hbo0⟩ : ∃ b, b = w0.heap.size := ⟨_, rfl⟩
  have hmk := Lib.hid (Mk.start0 (E := 49) (w0 := w0) (W := (W : Int)) (H := (H : Int)) (T := 34))
  go_wp2_with fail
  rw [← hbo0] at hmk ⊢
  have hbo1 : w0.heap.size ≤ bo := by omega
  clear hbo0 p0 p1 p2 p3
  go_loopw [5] (fun i wr => ∃ k : Nat, k ≤ m ∧ i = .int .i64 k ∧ Hid (Mk 49 w0 bo W H (seqL (fun i => marginV (rowC D cs i)) k) wr)) (fun i _ => m - (intOf i).toNat)
  case atStart => exact ⟨0, Nat.zero_le _, rfl, by first | exact hmk | exact Lib.hid (hmk.out.drewN 1)⟩
  case round =>
    clear hmk
    obtain ⟨k, hk, rfl, hmk⟩ := hrel
    obtain ⟨a, n, c, hN, ⟨zs, hz, hzm, hrow⟩, hne, hbo, hbl⟩ := hmk.out
    obtain ⟨lb, e0, e1, e2, e3⟩ := hpv.out.1.below hbl
    by_cases hlk : k < m
    · have hlen : zs.length = k := by rw [← seqL_len (fun i => marginV (rowC D cs i)) k, ← hzm, List.length_map]
      obtain ⟨B, hB⟩ : ∃ B, B = marginV (rowC D cs k) := ⟨_, rfl⟩
      have hat := fun w1 (hb1 : Below wr.heap.size wr w1) => hsw w1 k ((hpv.out.1.below hbl).below hb1) ((hpv.out.2.1.below hbl).below hb1) hlk
      rw [← hB] at hat
      have hB' := Lib.hid hB
      clear hB
      have hh := Lib.hid (And.intro hz (And.intro hzm (And.intro hlen (And.intro hbl hN))))
      have hrowA : ∀ (o : Obj) (m : Nat), ((wr.alloc o).drewN m).ownsRow w0.heap.size 49 1 (.slice a n c) zs.length (zs.map (.float .f32)) := fun o m => hrow.alloc o
      have hsz : w0.heap.size ≤ wr.heap.size := hbl.size
      have k2 : wr.cell? ⟨bo, 2, none⟩ = some (.slice a n c) := hN.2.2.2.1
      have hbo2 : bo < wr.heap.size := hN.1
      clear hlen hzm hz hbl hmk hN
      go_wp2_with fail
      clear hWH e0 e1
      go_region_law
        (first
          | (refine step_append_lies _ (by rfl) _ _ _ (by rfl) w0.heap.size 49 i0 _ 1 4 Try.underlying22 hi hz0 hz1 hz2 rfl (by omega) (.slice a n c) zs.length (zs.map (.float .f32)) (by rfl) (hrowA _ _)
              ⟨wr.heap.size, 0, none⟩ 1 1 [.float .f32 r] (by rfl) (by rfl) (World.news_of_block (cs := #[.float .f32 r]) (t := 49) (fr := (0, 0)) (heap_alloc_new wr _)) (by simp [Value.oneCell'])
              (by omega) (by have := hh.out.2.2.1; unfold maxLen; omega) (by have := hh.out.2.2.1; omega) (by simp; omega) (wr.heap.size + 1) (by simp) ?_; intro gg cap w3 hown3 hgrow hat3 hlt3; have hN3 := Mk.nv3 hh.out.2.2.2.2 hne hgrow; have j2 := hN3.2.2.2.1; have jf := hN3.2.2.2.2 2)
          | (refine step_plain rfl ?_; go_wp2_with (go_at_call 89; refine (hat _ (by ((repeat' (first | (refine bel_set ?_ ?_ _) | (refine bel_al ?_ ?_ _) | exact Below.refl _ _ | assumption | (refine below_drewN ?_ _) | (refine Below.drew ?_))) <;> (first | omega | (simp; done) | (simp; omega))))).mono ?_; rintro e w2 ⟨r, kk, rfl, rfl, hr⟩)))
      all_goals
        have hM : Mk 49 w0 bo W H (seqL (fun i => marginV (rowC D cs i)) (k + 1)) (w3.setCell ⟨bo, 2, none⟩ (.slice (some ⟨gg, 0, none⟩) (zs.length + 1) cap)) := by
          rw [seqL_succ _ k, ← hB'.out]
          exact Mk.step hh.out.2.2.2.2 hrow hh.out.1 hh.out.2.1 hne hbo hh.out.2.2.2.1 hr hown3 hgrow hat3
        have hM := Lib.hid hM
        clear hgrow hown3 hat3 hrow hrowA
        go_wp2_with fail
        go_roundw
        case rel => exact ⟨k + 1, by omega, by go_num, by first | exact hM | exact Lib.hid (hM.out.drewN _)⟩
        case measure => simp [intOf]; omega
    · obtain rfl : k = m := by omega
      obtain ⟨_, f0, f1, f2, f3⟩ := hN
      obtain ⟨_, r0, r1, r2, rf⟩ := hpv.out.2.2.1.below hbl
      have hoc : OC wr w0.heap.size 49 (.slice a n c) _ := ⟨zs, hz, hzm, hrow⟩
      have hoc := Lib.hid hoc
      have hzm' := Lib.hid hzm
      clear hzm hrow hz
      go_wp2_with fail
      refine bodyPost_ret (v := ?v) ?hr rfl ?post
      case hr => (simp [results, Try.results46, go_sem, f0, f1, f2, r0, r1, r2, rf]; try rfl)
      case post =>
        have h0 := hpv.out.2.2.2
        have ho := hoc.out
        refine ⟨_, _, _, rfl, ?_, ?_⟩
        · ((repeat' (first | (refine bel_set ?_ ?_ _) | (refine bel_al ?_ ?_ _) | exact Below.refl _ _ | assumption | (refine below_drewN ?_ _) | (refine Below.drew ?_) | (refine Below.trans ?_ (Below.mono hbl ?_)))) <;> (first | omega | (simp; done) | (simp; omega)))
        · (refine OC.mono (base := ?bb) ?hh ?hl; (case hh => ((repeat' (first | (refine OC.set ?_ _ ?_) | (refine OC.alloc ?_ _) | exact ho | (refine OC.drewN ?_ _))) <;> (first | omega | (simp; done) | (simp; omega)))); (case hl => (first | omega | (simp; done) | (simp; omega))))
theorem pairMarginsOf (W H D : Int) (cs : List Nat) :
    ∃ (W' H' : Int) (cs' : List Nat) (ok : Bool),
      (∀ a n c w, FC w (.slice a n c) cs → Calls Try.prog 46 #[.agg #[.int .i64 W, .int .i64 H, .int .i64 D, .slice a n c]] w (RPic 49 W' H' cs' ok w)) ∧
      (∀ a n c w, FC w (.slice a n c) cs → Calls Try.prog 47 #[.agg #[.int .i64 W, .int .i64 H, .int .i64 D, .slice a n c]] w (RPic 49 W' H' cs' ok w)) ∧ cs'.length ≤ 256 := by
  cases hv : volB W H D cs.length with
  | false =>
    refine ⟨0, 0, [], false, fun a n c w hv' => ?_, fun a n c w hv' => ?_, by simp⟩
    · obtain ⟨rfl, h1, h2⟩ := hv'.sized
      exact specMarginsOf_no W H D a _ c w h2 h1 hv
    · obtain ⟨rfl, h1, h2⟩ := hv'.sized
      exact implMarginsOf_of _ _ _ _ _ _ _ _ _ _ w fun w1 _ => tellWinners_no W H D a _ c _ _ _ w1 h1 h2 hv
  | true =>
    obtain ⟨Wn, Hn, Dn, rfl, rfl, rfl, b1, b2, b3, b4, b5, d1, d2, hl⟩ := volB_parts hv
    refine ⟨_, _, _, _, fun a n c w hv => specMarginsOf_any Wn Hn Dn a n c cs w hv b1 b2 b3 b4 b5 d1 d2 hl, fun a n c w hv => ?_, by rw [seqL_len]; exact b5⟩
    rw [← tell_cells Wn Hn Dn cs marginV b1]
    exact implMarginsOf_of _ _ _ _ _ _ _ _ _ _ w fun w1 hb => tellWinners_any Wn Hn Dn a n c cs _ _ _ marginV w1 (hv.below hb) b1 b2 b3 b4 b5 d1 d2 hl (enters_of Try.func90 (by kernel_rfl) rfl) (marginFn_any _ d2 _)
end Go.Proofs.Ytbiobmdibiplfaa
