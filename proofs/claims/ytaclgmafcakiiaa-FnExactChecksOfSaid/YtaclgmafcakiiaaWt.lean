import Derived.Test.YtaclgmafcakiiaaWc
import Derived.Test.YtaclgmafcakiiaaVb
import Derived.Test.YtaclgmafcakiiaaPi
set_option linter.unusedVariables false
set_option linter.unusedSimpArgs false
namespace Go.FX
open Go Go.RowKit
/-- What is asked of a function that tells a value of the costs and the winner of a cell. -/
def TellFn (P : Program) (g : Nat) (first cap : Array Value) (D : Nat) (V : List Nat → Nat) (w : World) : Prop :=
  ∀ (w1 : World) (v : Value) (row : List Nat), Below w.heap.size w w1 → FC w1 v row → row.length = D → Calls P g (first ++ (#[v, .int .i64 (winI row fun _ => true)] ++ cap)) w1 (RFb .f32 (V row) w1)
theorem TellFn.later {P : Program} {g : Nat} {first cap : Array Value} {D : Nat} {V : List Nat → Nat} {w w' : World} (h : TellFn P g first cap D V w) (hb : Below w.heap.size w w') : TellFn P g first cap D V w' :=
  fun w1 v row h1 h2 h3 => h w1 v row (hb.trans (h1.mono hb.size)) h2 h3
/-- The grid that is told. -/
def tellG (W D : Nat) (cs : List Nat) (V : List Nat → Nat) (x y : Int) : Nat := V (rowC D cs (y.toNat * W + x.toNat))
theorem own_cell {w : World} {base : Nat} {e : TypeId} {v : Value} {n : Nat} {xs : List Value} (h : w.ownsRow base e 1 v n xs) {k : Nat} (hk : k < n) : ∃ g cap, v = .slice (some ⟨g, 0, none⟩) n cap ∧ n ≤ cap ∧ cap ≤ maxLen ∧ g < w.heap.size ∧ w.cell? ⟨g, k, none⟩ = xs[k]? := by
  obtain ⟨h1, h2⟩ := h
  rcases h2 with ⟨_, h2⟩ | ⟨g, cap, cur, rfl, h3, h4, h5, h6, h7, h8⟩
  · omega
  · refine ⟨g, cap, rfl, h5, h6, (Array.getElem?_eq_some_iff.1 h4).1, ?_⟩
    rw [cell_of_row w g k cur e (0, 0) h4, ← h8, List.getElem?_take, if_pos (by omega), Array.getElem?_toList]
end Go.FX
namespace Go.Proofs.Ytaclgmafcakiiaa
open Go.FX Go.RowKit Go.WideShapes Go.ChangeShapes

theorem winV_get (D : Nat) (cs : List Nat) {k N : Nat} (hk : k < N) : (winV D cs N)[k]? = some (.int .i64 (winI (rowC D cs k) fun _ => true)) := by simp [winV, hk]
set_option maxRecDepth 100000 in
set_option maxHeartbeats 4000000 in
theorem tell1_any (W H D : Nat) (a : Option Addr) (n c : Nat) (cs : List Nat) (bv bf bw base : Nat) (g : Nat) (first cap : Array Value) (V : List Nat → Nat) (lst : Value) (w : World) (hP : Pw w bv W H D (.slice a n c))
    (hf : w.cell? ⟨bf, 0, none⟩ = some (.func (.func g) first cap)) (hfl : bf < w.heap.size) (hw : w.cell? ⟨bw, 0, none⟩ = some lst) (hwl : bw < w.heap.size) (hr : w.ownsRow base 3 1 lst (H * W) (winV D cs (H * W)))
    (hv : FC w (.slice a n c) cs) (b1 : 1 ≤ W) (b2 : W ≤ 24) (b3 : 1 ≤ H) (b4 : H ≤ 24) (b5 : H * W ≤ 256) (d1 : 1 ≤ D) (d2 : D ≤ 8) (hl : cs.length = H * W * D)
    (eg : ∀ args w, (callFunc g args).run Try.prog w = .ok (.enter g args) w) (hT : TellFn Try.prog g first cap D V w) :
    GreyFn Try.prog 50 #[] #[.pointer (some ⟨bv, 0, none⟩), .pointer (some ⟨bf, 0, none⟩), .pointer (some ⟨bw, 0, none⟩)] W H (tellG W D cs V) w := by
  intro w1 x y hb hx hy
  have hcell : y * W + x < H * W := by
    have h1 : y * W + W ≤ H * W := by rw [← Nat.succ_mul]; exact Nat.mul_le_mul_right _ hy
    omega
  obtain ⟨v1, hf1, hcc⟩ := costRowE_any W H D a n c cs (y * W + x) w hv hcell b5 d1 d2 hl
  obtain ⟨gw, capw, rfl, hnw, hmw, hgw, hcw⟩ := own_cell hr hcell
  rw [winV_get D cs hcell] at hcw
  unfold maxLen at hmw
  have hval := hT
  obtain ⟨row, hrow⟩ : ∃ r, r = rowC D cs (y * W + x) := ⟨_, rfl⟩
  have hrl : row.length = D := by rw [hrow]; exact rowC_len _ _ _
  have htell : tellG W D cs V x y = V row := by unfold tellG; rw [hrow]; simp
  rw [htell]
  rw [← hrow] at hf1 hcw
  obtain ⟨B, hB⟩ : ∃ B, B = winI row (fun _ => true) := ⟨_, rfl⟩
  have hT1 := fun (w2 : World) (h2 : Below w1.heap.size w1 w2) => hT w2 v1 row (hb.trans (h2.mono hb.size)) (hf1.below (hb.trans (h2.mono hb.size))) hrl
  rw [← hB] at hcw hT1
  obtain ⟨C, hC⟩ : ∃ C, C = y * W + x := ⟨_, rfl⟩
  rw [← hC] at hcw hcc hcell
  have hWy : (W : Int) * (y : Int) = ((y * W : Nat) : Int) := by push_cast; rw [Int.mul_comm]
  have hC0 : (x : Int) + ((y * W : Nat) : Int) = (C : Int) := by omega
  have hC3 : y * W ≤ 576 := by have := Nat.mul_le_mul (Nat.le_of_lt (Nat.lt_of_lt_of_le hy b4)) b2; omega
  generalize y * W = yw at hWy hC0 hC hC3
  have hC4 := Lib.hid hC
  have hC0' := Lib.hid hC0
  obtain ⟨N, hN⟩ : ∃ N, N = H * W := ⟨_, rfl⟩
  rw [← hN] at hcell hnw b5 hw
  obtain ⟨_, p0, p1, p2, p3⟩ := hP.below hb
  have e1 := ((bcell hb).1 bf 0 hfl).trans hf
  have e2 := ((bcell hb).1 bw 0 hwl).trans hw
  have e3 := ((bcell hb).1 gw C hgw).trans hcw
  have e4 : bf < w1.heap.size := Nat.lt_of_lt_of_le hfl hb.size
  have e5 : bw < w1.heap.size := Nat.lt_of_lt_of_le hwl hb.size
  have e6 : gw < w1.heap.size := Nat.lt_of_lt_of_le hgw hb.size
  have e7 : bv < w1.heap.size := (hP.below hb).1
  clear hN hC hrow hrl htell hB hT hval hl hv hf hw hr hP hcw hf1 hb
  show Calls Try.prog 50 #[.int .i64 x, .int .i64 y, .pointer (some ⟨bv, 0, none⟩), .pointer (some ⟨bf, 0, none⟩), .pointer (some ⟨bw, 0, none⟩)] w1 _
  go_enter Try.func50, Try.ntmps50
  go_upto_region 2 with fail
  refine wp_region_cls (by kernel_rfl) (by kernel_rfl) (by kernel_rfl) (by kernel_rfl) (fun w' => Below w1.heap.size w1 w') (below_drewN (Below.refl _ _) 1) [Eq1 ?q9058u0, Eq1 ?q9058u1, Eq1 ?q9058u2, Eq1 (v1), Eq1 ?q9058u4, Eq1 ?q9058u5, Eq1 ?q9058u6, Eq1 ?q9058u7, FloatIs .f32 (V row), FloatIs .f32 (V row)] ?q9058main
  case q9058main =>
    (refine wpR_pure ?_ (fun w hw => ?_) ?_; rfl; (obtain ⟨hwc, hwf⟩ := bcell2 hw; go_simp; (try with_reducible rfl)); (try simp only [Act.put, List.setIfInBounds_toArray, List.set_cons_zero, List.set_cons_succ]))
    (refine wpR_pure ?_ (fun w hw => ?_) ?_; rfl; (obtain ⟨hwc, hwf⟩ := bcell2 hw; go_simp; (try with_reducible rfl)); (try simp only [Act.put, List.setIfInBounds_toArray, List.set_cons_zero, List.set_cons_succ]))
    (refine wpR_pure ?_ (fun w hw => ?_) ?_; rfl; (obtain ⟨hwc, hwf⟩ := bcell2 hw; go_simp; (try with_reducible rfl)); (try simp only [Act.put, List.setIfInBounds_toArray, List.set_cons_zero, List.set_cons_succ]))
    (refine wpR_cls ?_ (fun w hw => ?_) ?_; rfl; (go_simp; refine (hcc _ _ rfl).mono ?_; rintro _ _ ⟨rfl, hcb⟩; exact ⟨_, rfl, rfl, Below.trans hw (hcb.mono hw.size)⟩); (rintro _ rfl; (try simp only [Act.put, List.setIfInBounds_toArray, List.set_cons_zero, List.set_cons_succ])))
    (refine wpR_pure ?_ (fun w hw => ?_) ?_; rfl; (obtain ⟨hwc, hwf⟩ := bcell2 hw; go_simp; (try with_reducible rfl)); (try simp only [Act.put, List.setIfInBounds_toArray, List.set_cons_zero, List.set_cons_succ]))
    (refine wpR_pure ?_ (fun w hw => ?_) ?_; rfl; (obtain ⟨hwc, hwf⟩ := bcell2 hw; go_simp; (try with_reducible rfl)); (try simp only [Act.put, List.setIfInBounds_toArray, List.set_cons_zero, List.set_cons_succ]))
    (refine wpR_pure ?_ (fun w hw => ?_) ?_; rfl; (obtain ⟨hwc, hwf⟩ := bcell2 hw; go_simp; (try with_reducible rfl)); (try simp only [Act.put, List.setIfInBounds_toArray, List.set_cons_zero, List.set_cons_succ]))
    (refine wpR_pure ?_ (fun w hw => ?_) ?_; rfl; (obtain ⟨hwc, hwf⟩ := bcell2 hw; go_simp; (try with_reducible rfl)); (try simp only [Act.put, List.setIfInBounds_toArray, List.set_cons_zero, List.set_cons_succ]))
    (refine wpR_cls ?_ (fun w hw => ?_) ?_; rfl; (go_simp; refine (hT1 _ hw).mono ?_; rintro _ _ ⟨_, rfl, hcb, hcr⟩; exact ⟨_, rfl, ⟨_, rfl, hcr⟩, Below.trans hw (hcb.mono hw.size)⟩); (rintro _ ⟨_, rfl, _⟩; (try simp only [Act.put, List.setIfInBounds_toArray, List.set_cons_zero, List.set_cons_succ])))
    (refine wpR_cls ?_ (fun w hw => ?_) ?_; rfl; (go_simp; first | exact ⟨_, rfl, by assumption⟩ | exact ⟨hw, _, rfl, by assumption⟩); (rintro _ ⟨_, rfl, _⟩; (try simp only [Act.put, List.setIfInBounds_toArray, List.set_cons_zero, List.set_cons_succ])))
    refine wpR_nil ?_
    intro w' hw'
    go_wp2_with fail
    go_ret
    exact ⟨_, rfl, hw', by assumption⟩
set_option maxRecDepth 100000 in
set_option maxHeartbeats 4000000 in
theorem tellWinners_any (W H D : Nat) (a : Option Addr) (n c : Nat) (cs : List Nat) (g : Nat) (first cap : Array Value) (V : List Nat → Nat) (w : World) (hv : FC w (.slice a n c) cs) (b1 : 1 ≤ W) (b2 : W ≤ 24) (b3 : 1 ≤ H) (b4 : H ≤ 24) (b5 : H * W ≤ 256) (d1 : 1 ≤ D) (d2 : D ≤ 8) (hl : cs.length = H * W * D)
    (eg : ∀ args w, (callFunc g args).run Try.prog w = .ok (.enter g args) w) (hT : TellFn Try.prog g first cap D V w) :
    Calls Try.prog 24 #[.agg #[.int .i64 W, .int .i64 H, .int .i64 D, .slice a n c], .func (.func g) first cap] w (RPic 37 W H (gridL W (tellG W D cs V) (H * W)) true w) := by
  obtain ⟨rfl, hnc, hcm⟩ := hv.sized
  have hval := Lib.hid (volB_mk b1 b2 b3 b4 b5 d1 d2 hl)
  obtain ⟨w0, hw0⟩ : ∃ u, u = ((w.alloc (.cells #[.int .i64 W, .int .i64 H, .int .i64 D, .slice a cs.length c] 30)).alloc (.cells #[.func (.func g) first cap] 47)).alloc (.cells #[.int .i64 0, .int .i64 0, .slice none 0 0] 27) := ⟨_, rfl⟩
  have PV : Pw w0 w.heap.size W H D (.slice a cs.length c) := by rw [hw0]; exact ((Pw.new _ _ _ _ _ _).alloc _).alloc _
  have PF : w0.cell? ⟨w.heap.size + 1, 0, none⟩ = some (.func (.func g) first cap) := by rw [hw0]; go_simp
  have PN := Nv.new ((w.alloc (.cells #[.int .i64 W, .int .i64 H, .int .i64 D, .slice a cs.length c] 30)).alloc (.cells #[.func (.func g) first cap] 47)) (.int .i64 0) (.int .i64 0) (.slice none 0 0) 27
  simp only [World.size_alloc] at PN
  rw [← hw0] at PN
  have bw : Below w.heap.size w w0 := by rw [hw0]; exact below3 _ _ _ _
  have hv0 : FC w0 (.slice a cs.length c) cs := hv.below bw
  have hT0 := hT.later bw
  have hl' := Lib.hid hl
  obtain ⟨L, hL⟩ : ∃ L, L = cs.length := ⟨_, rfl⟩
  rw [← hL] at hval hnc hv0 PV ⊢
  rw [← hL] at hw0
  clear hv hT hl hL
  go_enter Try.func24, Try.ntmps24
  go_wp2_with fail
  rw [← hw0]
  clear hw0
  have hPV := Lib.hid PV
  have hPF := Lib.hid PF
  have hPN := Lib.hid PN
  have l0 := PN.1
  clear PV PF PN
  refine (validVol_any _ _ _ _ L _ ⟨a, c, rfl, hnc, hcm⟩).mono ?_
  rintro e w1 ⟨rfl, hb1⟩
  rw [hval.out]
  obtain ⟨_, p0, p1, p2, p3⟩ := hPV.out.below hb1
  have s1 := hb1.size
  go_wp2_with fail
  refine (winners_any W H D a L c cs _ (hv0.below hb1) b1 b2 b3 b4 b5 d1 d2 hl'.out).mono ?_
  rintro e w2 ⟨lst, rfl, hb2, hr2⟩
  obtain ⟨gw, capw, hlf, _, _, _, _⟩ := own_cell hr2 (k := 0) (Nat.mul_pos b3 b1)
  subst hlf
  have s2 := hb2.size
  have hb02 := hb1.trans (hb2.mono s1)
  obtain ⟨X, hX⟩ : ∃ X, X = w2.alloc (.cells #[.slice (some ⟨gw, 0, none⟩) (H * W) capw] 64) := ⟨_, rfl⟩
  have hbX : Below w0.heap.size w0 X := by rw [hX]; exact hb02.alloc hb02.size _
  have hsX : w0.heap.size ≤ w2.heap.size ∧ w2.heap.size < X.heap.size := ⟨hb02.size, by rw [hX]; simp⟩
  have hlst : X.cell? ⟨w2.heap.size, 0, none⟩ = some (.slice (some ⟨gw, 0, none⟩) (H * W) capw) := by rw [hX]; go_simp
  have hrX : X.ownsRow w1.heap.size 3 1 (.slice (some ⟨gw, 0, none⟩) (H * W) capw) (H * W) (winV D cs (H * W)) := by
    rw [hX]; exact hr2.kept (grown_of_below (below1 _ _) none) (own_none _)
  obtain ⟨_, p0, p1, p2, p3⟩ := hPV.out.below hbX
  have hgf := tell1_any W H D a L c cs w.heap.size (w.heap.size + 1) w2.heap.size w1.heap.size g first cap V (.slice (some ⟨gw, 0, none⟩) (H * W) capw) X (hPV.out.below hbX) (((bcell hbX).1 (w.heap.size + 1) 0 (by omega)).trans hPF.out) (by omega) hlst hsX.2 hrX (hv0.below hbX) b1 b2 b3 b4 b5 d1 d2 hl'.out eg (hT0.later hbX)
  have hdr := draw_any W H b1 b2 b3 b4 b5 _ _ _ _ X (enters_of Try.func50 (by kernel_rfl) rfl) hgf
  clear hgf hrX hlst hr2
  go_upto_region 4 with fail
  rw [← hX]
  clear hX
  go_wp2_with fail
  refine hdr.mono ?_
  rintro e w3 ⟨a3, n3, c3, rfl, hb3, ho3⟩
  go_wp2_with fail
  refine (mapOf_any _ _ _ _ _ _).mono ?_
  rintro e w4 ⟨rfl, hb4⟩
  have s3 := hb3.size
  have hb34 := hbX.trans ((hb3.trans (hb4.mono s3)).mono hbX.size)
  obtain ⟨l4, q0, q1, q2, qf⟩ := hPN.out.below hb34
  have s4 := hb4.size
  go_wp2_with fail
  refine bodyPost_ret (v := ?v) ?hr rfl ?post
  case hr => (simp [results, Try.results24, go_sem, q0, q1, q2, qf]; try rfl)
  case post =>
    refine ⟨_, _, _, rfl, ?_, ?_⟩
    · have hbb := bw.trans (hb34.mono bw.size); ((repeat' (first | (refine bel_set ?_ ?_ _) | (refine bel_al ?_ ?_ _) | exact Below.refl _ _ | assumption | (refine below_drewN ?_ _) | (refine Below.drew ?_) | (refine Below.trans ?_ (Below.mono hbb ?_)))) <;> (first | omega | (simp; done) | (simp; omega)))
    · have ho4 := ho3.below hb4
      (refine OC.mono (base := ?bb) ?hh ?hl; (case hh => ((repeat' (first | (refine OC.set ?_ _ ?_) | (refine OC.alloc ?_ _) | exact ho4 | (refine OC.drewN ?_ _))) <;> (first | omega | (simp; done) | (simp; omega)))); (case hl => (first | omega | (simp; done) | (simp; omega))))
end Go.Proofs.Ytaclgmafcakiiaa
