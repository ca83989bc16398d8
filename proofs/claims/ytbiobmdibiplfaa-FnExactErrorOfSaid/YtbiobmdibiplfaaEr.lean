import Derived.Test.YtbiobmdibiplfaaWw
import Derived.Test.YtbiobmdibiplfaaWz
import Derived.Test.YtbiobmdibiplfaaLy
import Derived.Test.YtbiobmdibiplfaaRs
import Derived.Deep.DeepCutAuto
import Derived.Deep.DrawnRows
set_option linter.unusedVariables false
set_option linter.unusedSimpArgs false
namespace Go.FX
open Go Go.RowKit Ieee
def szE (d : Nat) : Nat := cn .f32 (d % 2147483648)
def shE (ms : List Nat) (k : Nat) : Bool := idxB (placeI (ms.getD k 0)) 25
/-- The sum and the count of what is shown among the first k cells. -/
def errS (ls ts ms : List Nat) : Nat → Nat
  | 0 => 0
  | k + 1 => if shE ms k then fop .add .f32 (errS ls ts ms k) (szE (fop .sub .f32 (ls.getD k 0) (ts.getD k 0))) else errS ls ts ms k
def errN (ms : List Nat) : Nat → Nat
  | 0 => 0
  | k + 1 => if shE ms k then errN ms k + 1 else errN ms k
theorem errN_le (ms : List Nat) : ∀ k, errN ms k ≤ k
  | 0 => Nat.le_refl _
  | k + 1 => by have := errN_le ms k; unfold errN; split <;> omega
theorem errS_yes {ls ts ms : List Nat} {k : Nat} (h : shE ms k = true) : errS ls ts ms (k + 1) = fop .add .f32 (errS ls ts ms k) (szE (fop .sub .f32 (ls.getD k 0) (ts.getD k 0))) := by
  show (if shE ms k then _ else _) = _; rw [if_pos h]
theorem errS_no {ls ts ms : List Nat} {k : Nat} (h : shE ms k = false) : errS ls ts ms (k + 1) = errS ls ts ms k := by
  show (if shE ms k then _ else _) = _; rw [if_neg (by rw [h]; simp)]
theorem errN_yes {ms : List Nat} {k : Nat} (h : shE ms k = true) : errN ms (k + 1) = errN ms k + 1 := by
  show (if shE ms k then _ else _) = _; rw [if_pos h]
theorem errN_no {ms : List Nat} {k : Nat} (h : shE ms k = false) : errN ms (k + 1) = errN ms k := by
  show (if shE ms k then _ else _) = _; rw [if_neg (by rw [h]; simp)]
def errV (ls ts ms : List Nat) : Nat := if errN ms ms.length = 0 then 0 else fop .quo .f32 (errS ls ts ms ms.length) (fi (errN ms ms.length))
def errB (ms : List Nat) : Bool := if errN ms ms.length = 0 then false else true
theorem fiFlE (k : Int) : Fl .f32 (fi k) (fi k) := ⟨fi_lt k, cn_of_not (fi_not k)⟩
end Go.FX
namespace Go.Proofs.Ytbiobmdibiplfaa
open Go.FX Go.RowKit Go.WideShapes Go.ChangeShapes
theorem absolE_any {r c : Nat} (w : World) (h : Fl .f32 r c) : Calls Try.prog 121 #[.float .f32 r] w (RF .f32 (szE c) w) := by
  have h' := Lib.hid h
  clear h
  go_enter Try.func121, Try.ntmps121
  go_wp2
  go_ret
  exact ⟨_, _, rfl, by first | rfl | (simp only [World.drewN_drewN]; rfl), by rw [andNot_abs _ (cvR_lt' r w)]; exact abs_narrow h'.out _ _⟩
set_option maxRecDepth 100000 in
set_option maxHeartbeats 8000000 in
theorem implErrorOf_any (W H : Nat) (a : Option Addr) (n c : Nat) (ls : List Nat) (a' : Option Addr) (n' c' : Nat) (rs : List Nat) (a'' : Option Addr) (n'' c'' : Nat) (ms : List Nat) (w : World) (hv : FC w (.slice a n c) ls) (hv' : FC w (.slice a' n' c') rs) (hv'' : FC w (.slice a'' n'' c'') ms) (b1 : 1 ≤ W) (b2 : W ≤ 24) (b3 : 1 ≤ H) (b4 : H ≤ 24) (b5 : H * W ≤ 256) (hl : ls.length = H * W) (hl' : rs.length = H * W) (hl'' : ms.length = H * W) :
    Calls Try.prog 61 #[.agg #[.int .i64 W, .int .i64 H, .slice a n c], .agg #[.int .i64 W, .int .i64 H, .slice a' n' c'], .agg #[.int .i64 W, .int .i64 H, .slice a'' n'' c'']] w
      (RFBb (errV ls (gridL W (warpF W H ms W H rs) (H * W)) ms) (errB ms) w) := by
  obtain ⟨rfl, hnc, hcm⟩ := hv.sized
  obtain ⟨rfl, hnc', hcm'⟩ := hv'.sized
  obtain ⟨rfl, hnc'', hcm''⟩ := hv''.sized
  have hp1 : pairB W H ls.length W H rs.length = true := by simp [pairB, validB_mk b1 b2 b3 b4 b5 hl, validB_mk b1 b2 b3 b4 b5 hl']
  have hp2 : pairB W H ls.length W H ms.length = true := by simp [pairB, validB_mk b1 b2 b3 b4 b5 hl, validB_mk b1 b2 b3 b4 b5 hl'']
  have hq1 := fun w1 => isPair_any W H a ls.length c W H a' rs.length c' w1 hnc hcm hnc' hcm'
  have hq2 := fun w1 => isPair_any W H a ls.length c W H a'' ms.length c'' w1 hnc hcm hnc'' hcm''
  rw [hp1] at hq1
  rw [hp2] at hq2
  obtain ⟨ts, hts⟩ : ∃ t, t = gridL W (warpF W H ms W H rs) (H * W) := ⟨_, rfl⟩
  have htl : ts.length = H * W := by rw [hts, gridL_len]
  have hWp := fun w1 (hb : Below w.heap.size w w1) => implWarpPicture_any W H a' rs.length c' rs W H a'' ms.length c'' ms w1 (hv'.below hb) (hv''.below hb) b1 b2 b3 b4 b5 hl' b1 b2 b3 b4 b5 hl''
  rw [← hts] at hWp ⊢
  obtain ⟨N, hN⟩ : ∃ N, N = errN ms ms.length := ⟨_, rfl⟩
  obtain ⟨vc, hvc⟩ : ∃ v, v = errV ls ts ms := ⟨_, rfl⟩
  obtain ⟨vo, hvo⟩ : ∃ v, v = errB ms := ⟨_, rfl⟩
  rw [← hvc, ← hvo]
  have hlt := Lib.hid (And.intro hl (And.intro htl hl''))
  have hval := Lib.hid (And.intro hN (And.intro hvc hvo))
  clear hts hp1 hp2 hl hl' hl'' htl hN hvc hvo
  obtain ⟨w0, hw0⟩ : ∃ u, u = ((w.alloc (.cells #[.int .i64 W, .int .i64 H, .slice a ls.length c] 27)).alloc (.cells #[.int .i64 W, .int .i64 H, .slice a' rs.length c'] 27)).alloc (.cells #[.int .i64 W, .int .i64 H, .slice a'' ms.length c''] 34) := ⟨_, rfl⟩
  have hP : Pv w0 w.heap.size W H (.slice a ls.length c) := by rw [hw0]; exact ((Pv.new _ _ _ _ _).alloc _).alloc _
  have hQ : Pv w0 (w.heap.size + 1) W H (.slice a' rs.length c') := by
    have h := (Pv.new (w.alloc (.cells #[.int .i64 W, .int .i64 H, .slice a ls.length c] 27)) W H (.slice a' rs.length c') 27).alloc (.cells #[.int .i64 W, .int .i64 H, .slice a'' ms.length c''] 34)
    rw [hw0]; simpa only [World.size_alloc] using h
  have hM : Pv w0 (w.heap.size + 1 + 1) W H (.slice a'' ms.length c'') := by
    have h := Pv.new ((w.alloc (.cells #[.int .i64 W, .int .i64 H, .slice a ls.length c] 27)).alloc (.cells #[.int .i64 W, .int .i64 H, .slice a' rs.length c'] 27)) W H (.slice a'' ms.length c'') 34
    rw [hw0]; simpa only [World.size_alloc] using h
  have hb0 : Below w.heap.size w w0 := by rw [hw0]; exact below3 _ _ _ _
  have hpv := Lib.hid (And.intro hP (And.intro hQ (And.intro hM (And.intro hb0 (And.intro (hv.below hb0) (hv''.below hb0))))))
  obtain ⟨lP, p0, p1, p2⟩ := id hP
  obtain ⟨lQ, q0, q1, q2⟩ := id hQ
  obtain ⟨lM, m0, m1, m2⟩ := id hM
  clear hP hQ hM hb0 hv hv' hv''
  go_enter Try.func61, Try.ntmps61
  go_upto_region 1 with fail
  rw [← hw0]
  clear hw0
  refine wp_region_skip (by kernel_rfl) (by kernel_rfl) (by kernel_rfl) (by kernel_rfl) (fun w' => Below w0.heap.size w0 w') (below_drewN (Below.refl _ _) 1) [some (Eq1 ?q5157u0), some (Eq1 ?q5157u1), some (Eq1 (.bool true)), some (Eq1 ?q5157u3), some (Eq1 ?q5157u4), some (Eq1 ?q5157u5), some (Eq1 ?q5157u6), some (Eq1 (.agg #[.int .i64 W, .int .i64 H, .slice a'' ms.length c''])), some (Eq1 (.bool true)), some (Eq1 ?q5157u9), some (Eq1 ?q5157u10)] ?q5157main
  case q5157main =>
    (refine wpS_pure ?_ (fun w hw => ?_) ?_; rfl; (obtain ⟨hwc, hwf⟩ := bcell2 hw; go_simp; (try with_reducible rfl)); (try simp only [Act.put, List.setIfInBounds_toArray, List.set_cons_zero, List.set_cons_succ]))
    (refine wpS_pure ?_ (fun w hw => ?_) ?_; rfl; (obtain ⟨hwc, hwf⟩ := bcell2 hw; go_simp; (try with_reducible rfl)); (try simp only [Act.put, List.setIfInBounds_toArray, List.set_cons_zero, List.set_cons_succ]))
    (refine wpS_cls ?_ (fun w hw => ?_) ?_; rfl; (go_simp; refine (hq1 _).mono ?_; rintro _ _ ⟨rfl, hcb⟩; exact ⟨_, rfl, rfl, Below.trans hw (hcb.mono hw.size)⟩); (rintro _ rfl; (try simp only [Act.put, List.setIfInBounds_toArray, List.set_cons_zero, List.set_cons_succ])))
    (refine wpS_pure ?_ (fun w hw => ?_) ?_; rfl; (obtain ⟨hwc, hwf⟩ := bcell2 hw; go_simp; (try with_reducible rfl)); (try simp only [Act.put, List.setIfInBounds_toArray, List.set_cons_zero, List.set_cons_succ]))
    (refine wpS_pure ?_ (fun w hw => ?_) ?_; rfl; (obtain ⟨hwc, hwf⟩ := bcell2 hw; go_simp; (try with_reducible rfl)); (try simp only [Act.put, List.setIfInBounds_toArray, List.set_cons_zero, List.set_cons_succ]))
    (refine wpS_pure ?_ (fun w hw => ?_) ?_; rfl; (obtain ⟨hwc, hwf⟩ := bcell2 hw; go_simp; (try with_reducible rfl)); (try simp only [Act.put, List.setIfInBounds_toArray, List.set_cons_zero, List.set_cons_succ]))
    (refine wpS_pure ?_ (fun w hw => ?_) ?_; rfl; (obtain ⟨hwc, hwf⟩ := bcell2 hw; go_simp; (try with_reducible rfl)); (try simp only [Act.put, List.setIfInBounds_toArray, List.set_cons_zero, List.set_cons_succ]))
    (refine wpS_cls ?_ (fun w hw => ?_) ?_; rfl; (go_simp; refine (mapPic_any _ _ _ _ _ _).mono ?_; rintro _ _ ⟨rfl, hcb⟩; exact ⟨_, rfl, rfl, Below.trans hw (hcb.mono hw.size)⟩); (rintro _ rfl; (try simp only [Act.put, List.setIfInBounds_toArray, List.set_cons_zero, List.set_cons_succ])))
    (refine wpS_cls ?_ (fun w hw => ?_) ?_; rfl; (go_simp; refine (hq2 _).mono ?_; rintro _ _ ⟨rfl, hcb⟩; exact ⟨_, rfl, rfl, Below.trans hw (hcb.mono hw.size)⟩); (rintro _ rfl; (try simp only [Act.put, List.setIfInBounds_toArray, List.set_cons_zero, List.set_cons_succ])))
    (refine wpS_pure ?_ (fun w hw => ?_) ?_; rfl; (obtain ⟨hwc, hwf⟩ := bcell2 hw; go_simp; (try with_reducible rfl)); (try simp only [Act.put, List.setIfInBounds_toArray, List.set_cons_zero, List.set_cons_succ]))
    (refine wpS_pure ?_ (fun w hw => ?_) ?_; rfl; (obtain ⟨hwc, hwf⟩ := bcell2 hw; go_simp; (try with_reducible rfl)); (try simp only [Act.put, List.setIfInBounds_toArray, List.set_cons_zero, List.set_cons_succ]))
    refine wpS_nil ?_
    intro w' hw'
    have hbR : Below w0.heap.size w0 w' := hw'
    obtain ⟨_, q0', q1', q2'⟩ := hpv.out.2.1.below hbR
    obtain ⟨_, m0', m1', m2'⟩ := hpv.out.2.2.1.below hbR
    clear p0 p1 p2 q0 q1 q2 m0 m1 m2
    go_wp2_with fail
    refine (hWp _ (hpv.out.2.2.2.1.trans (hbR.mono hpv.out.2.2.2.1.size))).mono ?_
    rintro e w1 ⟨a1, n1, c1, rfl, hb1, ho1⟩
    obtain ⟨Z, hZ⟩ : ∃ Z, Z = w1.alloc (.cells #[.int .i64 W, .int .i64 H, .slice a1 n1 c1] 27) := ⟨_, rfl⟩
    have hbZ : Below w0.heap.size w0 Z := by rw [hZ]; exact (hbR.trans (hb1.mono hbR.size)).alloc (Nat.le_trans hbR.size hb1.size) _
    have hPT : Pv Z w1.heap.size W H (.slice a1 n1 c1) := by rw [hZ]; exact Pv.new _ _ _ _ _
    have hFT : FC Z (.slice a1 n1 c1) ts := by rw [hZ]; exact (ho1.alloc _).fc
    have hAll := Lib.hid (And.intro (hpv.out.1.below hbZ) (And.intro (hpv.out.2.2.1.below hbZ) (And.intro hPT (And.intro (hpv.out.2.2.2.2.1.below hbZ) (And.intro (hpv.out.2.2.2.2.2.below hbZ) (And.intro hFT (hpv.out.2.2.2.1.trans (hbZ.mono hpv.out.2.2.2.1.size))))))))
    obtain ⟨_, x0, x1, x2⟩ := id hAll.out.2.1
    clear q0' q1' q2' m0' m1' m2' ho1 hb1 hbZ hPT hFT hWp hq1 hq2
    go_upto_region 4 with fail
    rw [← hZ]
    clear hZ
    go_wp2_with fail
    go_loopw [10, 11, 34] (fun s cnt i wr => ∃ k n r : Nat, k ≤ ms.length ∧ i = .int .i64 k ∧ cnt = .int .i64 (errN ms k) ∧ s = .float .f32 r ∧ wr = Z.drewN n ∧ Hid (Fl .f32 r (errS ls ts ms k))) (fun _ _ i _ => ms.length - (intOf i).toNat)
    case atStart => exact ⟨0, 0, 0, Nat.zero_le _, rfl, rfl, rfl, rfl, Lib.hid (show Fl .f32 0 0 from ⟨by decide, by decide⟩)⟩
    case round =>
      obtain ⟨k, n, r, hk, rfl, rfl, rfl, rfl, hr⟩ := hrel
      have hk256 : ms.length ≤ 256 := by have := hlt.out; omega
      by_cases hlk : k < ms.length
      · obtain ⟨b1', o1, cc1, z1, ev1, _, _, hbl1, hz1f, hz1c⟩ := hAll.out.2.2.2.2.1.cell hlk
        obtain ⟨b2', o2, cc2, z2, ev2, _, _, hbl2, hz2f, hz2c⟩ := hAll.out.2.2.2.1.cell (k := k) (by have := hlt.out; omega)
        obtain ⟨b3', o3, cc3, z3, ev3, _, _, hbl3, hz3f, hz3c⟩ := hAll.out.2.2.2.2.2.1.cell (k := k) (by have := hlt.out; omega)
        simp only [Value.slice.injEq, true_and] at ev1 ev2 ev3
        obtain ⟨rfl, rfl⟩ := ev1
        obtain ⟨rfl, rfl⟩ := ev2
        obtain ⟨rfl, rfl, rfl⟩ := ev3
        obtain ⟨_, y0, y1, y2⟩ := hAll.out.1.drewN n
        obtain ⟨_, t0, t1, t2⟩ := hAll.out.2.2.1.drewN n
        obtain ⟨PL, hPL⟩ : ∃ p, p = placeI (ms.getD k 0) := ⟨_, rfl⟩
        have hpl := Lib.hid ((placeI_fl hz1f).trans hPL.symm)
        have hN := errN_le ms k
        have i0 : (0 : Int) ≤ (k : Int) := Int.natCast_nonneg _
        have i1 : (k : Int) < (ms.length : Int) := by omega
        have d1 : decide ((k : Int) < (ms.length : Int)) = true := decide_eq_true i1
        have i2 : (k : Int) < (ls.length : Int) := by have := hlt.out; omega
        have i3 : (k : Int) < (ts.length : Int) := by have := hlt.out; omega
        have i4 : IntKind.i64.wrap ((errN ms k : Int) + 1) = ((errN ms k + 1 : Nat) : Int) := by
          have := hlt.out
          rw [IntWalk.i64_in _ (by omega)]; omega
        have e1 : (Z.drewN n).cell? ⟨b1', o1 + k, none⟩ = some (.float .f32 z1) := hz1c
        cases hb : shE ms k with
        | false =>
          have hb' : Hid (idxB PL 25 = false) := Lib.hid (by rw [hPL]; exact hb)
          have hS := Lib.hid (errS_no (ls := ls) (ts := ts) hb)
          have hNn := Lib.hid (errN_no hb)
          clear hb hPL
          go_wp2_with fail
          refine (placeOf_any _ _).mono ?_
          rintro e w2 ⟨n2, rfl, rfl⟩
          rw [hpl.out]
          go_wp2_with fail
          refine (isShown_any _ _).mono ?_
          rintro e w3 ⟨rfl, rfl⟩
          rw [hb'.out]
          go_wp2_with fail
          go_roundw
          case rel => exact ⟨k + 1, _, r, by omega, by go_num, by rw [hNn.out], rfl, by first | rfl | (simp only [World.drewN_drewN]; rfl), by rw [hS.out]; exact hr⟩
          case measure => simp [intOf]; omega
        | true =>
          have hb' : Hid (idxB PL 25 = true) := Lib.hid (by rw [hPL]; exact hb)
          have hS := Lib.hid (errS_yes (ls := ls) (ts := ts) hb)
          have hNn := Lib.hid (errN_yes hb)
          have hr' := hr.out
          clear hb hPL
          obtain ⟨g1, hg1⟩ : ∃ g, g = ls.getD k 0 := ⟨_, rfl⟩
          obtain ⟨g2, hg2⟩ : ∃ g, g = ts.getD k 0 := ⟨_, rfl⟩
          obtain ⟨S, hSe⟩ : ∃ S, S = errS ls ts ms k := ⟨_, rfl⟩
          rw [← hg1] at hz2f hS
          rw [← hg2] at hz3f hS
          rw [← hSe] at hr' hS
          clear hg1 hg2 hSe
          go_wp2_with fail
          refine (placeOf_any _ _).mono ?_
          rintro e w2 ⟨n2, rfl, rfl⟩
          rw [hpl.out]
          go_wp2_with fail
          refine (isShown_any _ _).mono ?_
          rintro e w3 ⟨rfl, rfl⟩
          rw [hb'.out]
          go_upto_region 9 with fail
          obtain ⟨V, hV⟩ : ∃ V, V = Z.drewN (n + n2) := ⟨_, rfl⟩
          rw [← hV]
          have f1 : V.cell? ⟨w.heap.size, 2, none⟩ = some (.slice (some ⟨b2', o2, none⟩) ls.length c) := by rw [hV]; exact y2
          have f2 : V.cell? ⟨w1.heap.size, 2, none⟩ = some (.slice (some ⟨b3', o3, none⟩) ts.length c1) := by rw [hV]; exact t2
          have f3 : V.cell? ⟨b2', o2 + k, none⟩ = some (.float .f32 z2) := by rw [hV]; exact hz2c
          have f4 : V.cell? ⟨b3', o3 + k, none⟩ = some (.float .f32 z3) := by rw [hV]; exact hz3c
          have hV' := Lib.hid hV
          clear hV y0 y1 y2 t0 t1 t2 e1 hz1c hz2c hz3c x0 x1 x2
          refine wp_region_cls (by kernel_rfl) (by kernel_rfl) (by kernel_rfl) (by kernel_rfl) (fun w' => ∃ n, w' = V.drewN n) ⟨1, rfl⟩ [Eq1 ?q2635u0, Eq1 ?q2635u1, Eq1 ?q2635u2, Eq1 ?q2635u3, Eq1 ?q2635u4, Eq1 ?q2635u5, Eq1 ?q2635u6, Eq1 ?q2635u7, Eq1 ?q2635u8, Eq1 ?q2635u9, Eq1 ?q2635u10, FloatIs .f32 (fop .sub .f32 g1 g2), FloatIs .f32 (szE (fop .sub .f32 g1 g2)), FloatIs .f32 (fop .add .f32 S (szE (fop .sub .f32 g1 g2))), FloatIs .f32 (fop .add .f32 S (szE (fop .sub .f32 g1 g2)))] ?q2635main
          case q2635main =>
            (refine wpR_pure ?_ (fun w hw => ?_) ?_; rfl; (obtain ⟨nn, rfl⟩ := hw; go_simp; (try with_reducible rfl)); (try simp only [Act.put, List.setIfInBounds_toArray, List.set_cons_zero, List.set_cons_succ]))
            (refine wpR_pure ?_ (fun w hw => ?_) ?_; rfl; (obtain ⟨nn, rfl⟩ := hw; go_simp; (try with_reducible rfl)); (try simp only [Act.put, List.setIfInBounds_toArray, List.set_cons_zero, List.set_cons_succ]))
            (refine wpR_pure ?_ (fun w hw => ?_) ?_; rfl; (obtain ⟨nn, rfl⟩ := hw; go_simp; (try with_reducible rfl)); (try simp only [Act.put, List.setIfInBounds_toArray, List.set_cons_zero, List.set_cons_succ]))
            (refine wpR_pure ?_ (fun w hw => ?_) ?_; rfl; (obtain ⟨nn, rfl⟩ := hw; go_simp; (try with_reducible rfl)); (try simp only [Act.put, List.setIfInBounds_toArray, List.set_cons_zero, List.set_cons_succ]))
            (refine wpR_pure ?_ (fun w hw => ?_) ?_; rfl; (obtain ⟨nn, rfl⟩ := hw; go_simp; (try with_reducible rfl)); (try simp only [Act.put, List.setIfInBounds_toArray, List.set_cons_zero, List.set_cons_succ]))
            (refine wpR_pure ?_ (fun w hw => ?_) ?_; rfl; (obtain ⟨nn, rfl⟩ := hw; go_simp; (try with_reducible rfl)); (try simp only [Act.put, List.setIfInBounds_toArray, List.set_cons_zero, List.set_cons_succ]))
            (refine wpR_pure ?_ (fun w hw => ?_) ?_; rfl; (obtain ⟨nn, rfl⟩ := hw; go_simp; (try with_reducible rfl)); (try simp only [Act.put, List.setIfInBounds_toArray, List.set_cons_zero, List.set_cons_succ]))
            (refine wpR_pure ?_ (fun w hw => ?_) ?_; rfl; (obtain ⟨nn, rfl⟩ := hw; go_simp; (try with_reducible rfl)); (try simp only [Act.put, List.setIfInBounds_toArray, List.set_cons_zero, List.set_cons_succ]))
            (refine wpR_pure ?_ (fun w hw => ?_) ?_; rfl; (obtain ⟨nn, rfl⟩ := hw; go_simp; (try with_reducible rfl)); (try simp only [Act.put, List.setIfInBounds_toArray, List.set_cons_zero, List.set_cons_succ]))
            (refine wpR_pure ?_ (fun w hw => ?_) ?_; rfl; (obtain ⟨nn, rfl⟩ := hw; go_simp; (try with_reducible rfl)); (try simp only [Act.put, List.setIfInBounds_toArray, List.set_cons_zero, List.set_cons_succ]))
            (refine wpR_pure ?_ (fun w hw => ?_) ?_; rfl; (obtain ⟨nn, rfl⟩ := hw; go_simp; (try with_reducible rfl)); (try simp only [Act.put, List.setIfInBounds_toArray, List.set_cons_zero, List.set_cons_succ]))
            (refine wpR_cls ?_ (fun w hw => ?_) ?_; rfl; (obtain ⟨nn, rfl⟩ := hw; go_simp; exact ⟨⟨_, rfl⟩, _, rfl, Fl.flR (by assumption) (by assumption) _⟩); (rintro _ ⟨_, rfl, _⟩; (try simp only [Act.put, List.setIfInBounds_toArray, List.set_cons_zero, List.set_cons_succ])))
            (refine wpR_cls ?_ (fun w hw => ?_) ?_; rfl; (obtain ⟨nn, rfl⟩ := hw; go_simp; refine (absolE_any _ (by assumption)).mono ?_; rintro _ _ ⟨_, nm, rfl, rfl, hcr⟩; exact ⟨_, rfl, ⟨_, rfl, hcr⟩, nn + nm, by simp⟩); (rintro _ ⟨_, rfl, _⟩; (try simp only [Act.put, List.setIfInBounds_toArray, List.set_cons_zero, List.set_cons_succ])))
            (refine wpR_cls ?_ (fun w hw => ?_) ?_; rfl; (obtain ⟨nn, rfl⟩ := hw; go_simp; exact ⟨⟨_, rfl⟩, _, rfl, Fl.flR (by assumption) (by assumption) _⟩); (rintro _ ⟨_, rfl, _⟩; (try simp only [Act.put, List.setIfInBounds_toArray, List.set_cons_zero, List.set_cons_succ])))
            (refine wpR_cls ?_ (fun w hw => ?_) ?_; rfl; (obtain ⟨nn, rfl⟩ := hw; go_simp; first | exact ⟨_, rfl, by assumption⟩ | exact ⟨⟨_, rfl⟩, _, rfl, by assumption⟩); (rintro _ ⟨_, rfl, _⟩; (try simp only [Act.put, List.setIfInBounds_toArray, List.set_cons_zero, List.set_cons_succ])))
            refine wpR_nil ?_
            rintro w' ⟨nn, rfl⟩
            have hrn := Lib.hid (by assumption : Fl .f32 _ (fop .add .f32 S (szE (fop .sub .f32 g1 g2))))
            go_wp2_with fail
            go_roundw
            case rel => exact ⟨k + 1, _, _, by omega, by go_num, by rw [hNn.out]; go_num, rfl, by rw [hV'.out]; first | rfl | (simp only [World.drewN_drewN]; rfl), by rw [hS.out]; exact hrn⟩
            case measure => simp [intOf]; omega
      · obtain rfl : k = ms.length := by omega
        obtain ⟨hNe, hVc, hVo⟩ := hval.out
        have hbw := Lib.hid hAll.out.2.2.2.2.2.2
        have hr' := Lib.hid hr.out
        have hNb := errN_le ms ms.length
        rw [← hNe] at hNb ⊢
        by_cases h0 : N = 0
        · have e1 : vc = 0 := by rw [hVc]; unfold errV; rw [← hNe, if_pos h0]
          have e2 : vo = false := by rw [hVo]; unfold errB; rw [← hNe, if_pos h0]
          subst e1 e2 h0
          clear hNe hVc hVo hval x0 x1 x2
          go_wp2_with fail
          refine bodyPost_ret (v := ?v1) ?hr1 rfl ?post1
          case hr1 => (simp [results, Try.results61, go_sem]; try rfl)
          case post1 => exact ⟨_, rfl, below_drewN hbw.out _, ⟨by decide, by decide⟩⟩
        · have e1 : Hid (vc = fop .quo .f32 (errS ls ts ms ms.length) (fi N)) := Lib.hid (by rw [hVc]; unfold errV; rw [← hNe, if_neg h0])
          have e2 : vo = true := by rw [hVo]; unfold errB; rw [← hNe, if_neg h0]
          subst e2
          have c1 : ((N : Int) == 0) = false := by simpa using h0
          have c2 : decide ((N : Int) = 0) = false := by simpa using h0
          have c3 : ¬ (N : Int) = 0 := by omega
          have hq := Lib.hid (fun w1 => hr'.out.flR (op := .quo) (fiFlE (N : Int)) w1)
          clear hNe hVc hVo hval x0 x1 x2 h0
          go_wp2_with fail
          refine bodyPost_ret (v := ?v2) ?hr2 rfl ?post2
          case hr2 => (simp [results, Try.results61, go_sem]; try rfl)
          case post2 => exact ⟨_, rfl, below_drewN hbw.out _, by rw [e1.out]; exact hq.out _⟩
end Go.Proofs.Ytbiobmdibiplfaa
