import Derived.Test.YtblaojflcemfdaaWns
import Derived.Test.YtblaojflcemfdaaWq
import Derived.Test.YtblaojflcemfdaaWd
import Derived.Test.YtblaojflcemfdaaPhs
import Derived.Deep.DeepCutAuto
import Derived.Deep.DrawnRows
import Derived.Test.YtblaojflcemfdaaVa
set_option linter.unusedVariables false
set_option linter.unusedSimpArgs false
namespace Go.Proofs.Ytblaojflcemfdaa
open Go.FX Go.RowKit Go.WideShapes Go.ChangeShapes
attribute [local go_sem ↓] Go.wp_at_zero Go.wp_at_succ
def squareL (W H D : Nat) (cs cs' : List Nat) : List Nat := cubeL W D (cmpF W H sqF cs cs') (H * W * D)
def halfL (W H : Nat) (cs : List Nat) : List Nat := gridL ((W + 1) / 2) (quarterF W H cs) (((H + 1) / 2) * ((W + 1) / 2))
def twiceL (W H : Nat) (ms : List Nat) (W' H' : Nat) : List Nat := gridL W' (fun x y => scaledF (atC W H ms (x / 2) (y / 2)) 1073741824) (H' * W')
def coarse : Nat → Nat → Nat → Nat → List Nat → List Nat → List Nat
  | 0, W, H, D, cs, cs' => seqL (fun i => fi (winI (rowC D (squareL W H D cs cs') i) fun _ => true)) (H * W)
  | L + 1, W, H, D, cs, cs' => seqL (nearI D (squareL W H D cs cs') (twiceL ((W + 1) / 2) ((H + 1) / 2) (coarse L ((W + 1) / 2) ((H + 1) / 2) ((D + 1) / 2) (halfL W H cs) (halfL W H cs')) W H) 1) (H * W)
theorem coarse_len (L W H D : Nat) (cs cs' : List Nat) : (coarse L W H D cs cs').length = H * W := by cases L <;> (unfold coarse; rw [seqL_len])
theorem implWinners_val (W H D : Nat) (a : Option Addr) (n c : Nat) (cs : List Nat) (w : World) (hv : FC w (.slice a n c) cs) (b1 : 1 ≤ W) (b2 : W ≤ 24) (b3 : 1 ≤ H) (b4 : H ≤ 24) (b5 : H * W ≤ 256) (d1 : 1 ≤ D) (d2 : D ≤ 8) (hl : cs.length = H * W * D) :
    Calls Try.prog 19 #[.agg #[.int .i64 W, .int .i64 H, .int .i64 D, .slice a n c]] w (RPic 61 W H (seqL (fun i => fi (winI (rowC D cs i) fun _ => true)) (H * W)) true w) := by
  rw [← tell_cells W H D cs (fun row => fi (winI row fun _ => true)) b1]
  exact implWinnersOf_of _ _ _ _ _ _ _ _ _ _ w fun w1 hb => tellWinners_any W H D a n c cs _ _ _ (fun row => fi (winI row fun _ => true)) w1 (hv.below hb) b1 b2 b3 b4 b5 d1 d2 hl (enters_of Try.func35 (by kernel_rfl) rfl) (winFn_any _ _)
set_option maxRecDepth 100000 in
set_option maxHeartbeats 16000000 in
theorem implCoarse_zero : ∀ (W H D : Nat) (l : Int) (a : Option Addr) (n c : Nat) (cs : List Nat) (a' : Option Addr) (n' c' : Nat) (cs' : List Nat) (w : World), l = 1 → FC w (.slice a n c) cs → FC w (.slice a' n' c') cs' → 1 ≤ W → W ≤ 24 → 1 ≤ H → H ≤ 24 → H * W ≤ 256 → cs.length = H * W → cs'.length = H * W → 1 ≤ D → D ≤ 8 →
    Calls Try.prog 7 #[.agg #[.int .i64 W, .int .i64 H, .slice a n c], .agg #[.int .i64 W, .int .i64 H, .slice a' n' c'], .int .i64 D, .int .i64 l] w (RPic 61 W H (coarse 0 W H D cs cs') true w) := by
    intro W H D l a n c cs a' n' c' cs' w hl1 hv hv' b1 b2 b3 b4 b5 hl hl' d1 d2
    subst hl1
    obtain ⟨vs, hvs⟩ : ∃ v, v = squareL W H D cs cs' := ⟨_, rfl⟩
    have hvl : vs.length = H * W * D := by rw [hvs, squareL, cubeL_len]
    have hSq := fun w1 (hb : Below w.heap.size w w1) => implSquareVolume_any W H D a n c cs a' n' c' cs' w1 (hv.below hb) (hv'.below hb) b1 b2 b3 b4 b5 hl hl' d1 d2
    rw [show cubeL W D (cmpF W H sqF cs cs') (H * W * D) = vs from hvs.symm] at hSq
    have hQ1 := ((Pv.new w W H (.slice a n c) 30).alloc (.cells #[.int .i64 W, .int .i64 H, .slice a' n' c'] 30)).alloc (.cells #[.int .i64 0, .int .i64 0, .slice none 0 0] 27)
    have hQ2 := (Pv.new (w.alloc (.cells #[.int .i64 W, .int .i64 H, .slice a n c] 30)) W H (.slice a' n' c') 30).alloc (.cells #[.int .i64 0, .int .i64 0, .slice none 0 0] 27)
    have hQ3 := Nv.new ((w.alloc (.cells #[.int .i64 W, .int .i64 H, .slice a n c] 30)).alloc (.cells #[.int .i64 W, .int .i64 H, .slice a' n' c'] 30)) (.int .i64 0) (.int .i64 0) (.slice none 0 0) 27
    simp only [World.size_alloc] at hQ2 hQ3
    obtain ⟨w0, hw0⟩ : ∃ u, u = ((w.alloc (.cells #[.int .i64 W, .int .i64 H, .slice a n c] 30)).alloc (.cells #[.int .i64 W, .int .i64 H, .slice a' n' c'] 30)).alloc (.cells #[.int .i64 0, .int .i64 0, .slice none 0 0] 27) := ⟨_, rfl⟩
    have hb0 : Below w.heap.size w w0 := by rw [hw0]; exact below3 _ _ _ _
    rw [← hw0] at hQ1 hQ2 hQ3
    have l3 := hQ3.1
    have hQ := Lib.hid (And.intro hQ1 (And.intro hQ2 (And.intro hQ3 hb0)))
    clear hQ1 hQ2 hQ3
    have hE : coarse 0 W H D cs cs' = seqL (fun i => fi (winI (rowC D vs i) fun _ => true)) (H * W) := by rw [hvs]; rfl
    rw [hE]
    clear hE hvs hl hl' hv hv'
    go_enter Try.func7, Try.ntmps7
    go_wp2_with fail
    rw [← hw0]
    clear hw0
    refine (hSq _ hb0).mono ?_
    rintro e w1 ⟨a1, n1, c1, rfl, hb1, ho1⟩
    obtain ⟨X1, hX1⟩ : ∃ X, X = w1.alloc (.cells #[.int .i64 W, .int .i64 H, .int .i64 D, .slice a1 n1 c1] 44) := ⟨_, rfl⟩
    have hP1 : Pw X1 w1.heap.size W H D (.slice a1 n1 c1) := by rw [hX1]; exact Pw.new _ _ _ _ _ _
    have hf1 : FC X1 (.slice a1 n1 c1) vs := by rw [hX1]; exact (ho1.alloc _).fc
    have hB1 : Below w0.heap.size w0 X1 := by rw [hX1]; exact hb1.alloc hb1.size _
    have hT1 : Below w0.heap.size w0 X1 := hB1
    go_upto_region 4 with fail
    rw [← hX1]
    clear hX1 ho1 hb1
    obtain ⟨_, p0, p1, p2, p3⟩ := id hP1
    have hwn := implWinners_val W H D a1 n1 c1 vs X1 hf1 b1 b2 b3 b4 b5 d1 d2 hvl
    go_wp2_with fail
    refine hwn.mono ?_
    rintro e w2 ⟨a2, n2, c2, rfl, hb2, ho2⟩
    have hbT := hT1.trans (hb2.mono hT1.size)
    obtain ⟨_, r0, r1, r2, rf⟩ := hQ.out.2.2.1.below hbT
    have s9 := hbT.size
    have z1 := hb0.size
    have z2 := hT1.size
    go_wp2_with fail
    refine bodyPost_ret (v := ?v2) ?hr2 rfl ?post2
    case hr2 => (simp [results, Try.results7, go_sem, r0, r1, r2, rf]; try rfl)
    case post2 =>
      refine ⟨_, _, _, rfl, ?_, ?_⟩
      · have hbb := hQ.out.2.2.2.trans (hbT.mono hQ.out.2.2.2.size); ((repeat' (first | (refine bel_set ?_ ?_ _) | (refine bel_al ?_ ?_ _) | exact Below.refl _ _ | assumption | (refine below_drewN ?_ _) | (refine Below.drew ?_) | (refine Below.trans ?_ (Below.mono hbb ?_)))) <;> (first | omega | (simp; done) | (simp; omega)))
      · (refine OC.mono (base := ?bb) ?hh ?hl; (case hh => ((repeat' (first | (refine OC.set ?_ _ ?_) | (refine OC.alloc ?_ _) | exact ho2 | (refine OC.drewN ?_ _))) <;> (first | omega | (simp; done) | (simp; omega)))); (case hl => (first | omega | (simp; done) | (simp; omega))))
set_option maxRecDepth 100000 in
set_option maxHeartbeats 16000000 in
theorem implCoarse_any : ∀ (L W H D : Nat) (l : Int) (a : Option Addr) (n c : Nat) (cs : List Nat) (a' : Option Addr) (n' c' : Nat) (cs' : List Nat) (w : World), L ≤ 3 → l = (L : Int) + 1 → FC w (.slice a n c) cs → FC w (.slice a' n' c') cs' → 1 ≤ W → W ≤ 24 → 1 ≤ H → H ≤ 24 → H * W ≤ 256 → cs.length = H * W → cs'.length = H * W → 1 ≤ D → D ≤ 8 →
    Calls Try.prog 7 #[.agg #[.int .i64 W, .int .i64 H, .slice a n c], .agg #[.int .i64 W, .int .i64 H, .slice a' n' c'], .int .i64 D, .int .i64 l] w (RPic 61 W H (coarse L W H D cs cs') true w) := by
  intro L
  induction L with
  | zero =>
    intro W H D l a n c cs a' n' c' cs' w hL3 hl1
    exact implCoarse_zero W H D l a n c cs a' n' c' cs' w (by omega)
  | succ L ih =>
    intro W H D l a n c cs a' n' c' cs' w hL3 hl1 hv hv' b1 b2 b3 b4 b5 hl hl' d1 d2
    have g1 : ¬ l < 1 := by omega
    have g2 : ¬ l > 4 := by omega
    have g3 : decide (l < 1) = false := decide_eq_false g1
    have g4 : decide (4 < l) = false := decide_eq_false g2
    have g5 : decide (l > 4) = false := decide_eq_false g2
    have g6 : (l == 1) = false := by simp; omega
    have g7 : decide (l = 1) = false := decide_eq_false (by omega)
    have g8 : IntKind.i64.wrap (l - 1) = l - 1 := IntWalk.i64_in _ (by omega)
    obtain ⟨vs, hvs⟩ : ∃ v, v = squareL W H D cs cs' := ⟨_, rfl⟩
    have hvl : vs.length = H * W * D := by rw [hvs, squareL, cubeL_len]
    have hSq := fun w1 (hb : Below w.heap.size w w1) => implSquareVolume_any W H D a n c cs a' n' c' cs' w1 (hv.below hb) (hv'.below hb) b1 b2 b3 b4 b5 hl hl' d1 d2
    rw [show cubeL W D (cmpF W H sqF cs cs') (H * W * D) = vs from hvs.symm] at hSq
    have hQ1 := ((Pv.new w W H (.slice a n c) 30).alloc (.cells #[.int .i64 W, .int .i64 H, .slice a' n' c'] 30)).alloc (.cells #[.int .i64 0, .int .i64 0, .slice none 0 0] 27)
    have hQ2 := (Pv.new (w.alloc (.cells #[.int .i64 W, .int .i64 H, .slice a n c] 30)) W H (.slice a' n' c') 30).alloc (.cells #[.int .i64 0, .int .i64 0, .slice none 0 0] 27)
    have hQ3 := Nv.new ((w.alloc (.cells #[.int .i64 W, .int .i64 H, .slice a n c] 30)).alloc (.cells #[.int .i64 W, .int .i64 H, .slice a' n' c'] 30)) (.int .i64 0) (.int .i64 0) (.slice none 0 0) 27
    simp only [World.size_alloc] at hQ2 hQ3
    obtain ⟨w0, hw0⟩ : ∃ u, u = ((w.alloc (.cells #[.int .i64 W, .int .i64 H, .slice a n c] 30)).alloc (.cells #[.int .i64 W, .int .i64 H, .slice a' n' c'] 30)).alloc (.cells #[.int .i64 0, .int .i64 0, .slice none 0 0] 27) := ⟨_, rfl⟩
    have hb0 : Below w.heap.size w w0 := by rw [hw0]; exact below3 _ _ _ _
    rw [← hw0] at hQ1 hQ2 hQ3
    have l3 := hQ3.1
    have hQ := Lib.hid (And.intro hQ1 (And.intro hQ2 (And.intro hQ3 hb0)))
    clear hQ1 hQ2 hQ3
    obtain ⟨W2, hW2⟩ : ∃ x, x = (W + 1) / 2 := ⟨_, rfl⟩
    obtain ⟨H2, hH2⟩ : ∃ x, x = (H + 1) / 2 := ⟨_, rfl⟩
    obtain ⟨D2, hD2⟩ : ∃ x, x = (D + 1) / 2 := ⟨_, rfl⟩
    obtain ⟨Dh, hDh⟩ : ∃ x, x = D / 2 := ⟨_, rfl⟩
    have u1 : (D : Int).tdiv 2 = (Dh : Int) := by rw [Int.tdiv_eq_ediv_of_nonneg (by omega)]; omega
    have u2 : (D : Int) - (Dh : Int) = (D2 : Int) := by omega
    have u3 : IntKind.i64.wrap (Dh : Int) = (Dh : Int) := IntWalk.i64_in _ (by omega)
    have u4 : IntKind.i64.wrap (D2 : Int) = (D2 : Int) := IntWalk.i64_in _ (by omega)
    have hsz : H2 * W2 ≤ 256 := Nat.le_trans (Nat.mul_le_mul (by omega : H2 ≤ H) (by omega : W2 ≤ W)) b5
    obtain ⟨s1, hs1⟩ : ∃ x, x = halfL W H cs := ⟨_, rfl⟩
    obtain ⟨s2, hs2⟩ : ∃ x, x = halfL W H cs' := ⟨_, rfl⟩
    have hs1l : s1.length = H2 * W2 := by rw [hs1, halfL, gridL_len, hW2, hH2]
    have hs2l : s2.length = H2 * W2 := by rw [hs2, halfL, gridL_len, hW2, hH2]
    obtain ⟨co, hco⟩ : ∃ x, x = coarse L W2 H2 D2 s1 s2 := ⟨_, rfl⟩
    have hcol : co.length = H2 * W2 := by rw [hco]; exact coarse_len _ _ _ _ _ _
    obtain ⟨tw, htw⟩ : ∃ x, x = twiceL W2 H2 co W H := ⟨_, rfl⟩
    have htwl : tw.length = H * W := by rw [htw, twiceL, gridL_len]
    have hE : coarse (L + 1) W H D cs cs' = seqL (nearI D vs tw 1) (H * W) := by rw [hvs, htw, hco, hs1, hs2, hW2, hH2, hD2]; rfl
    have hA1 := fun w1 (hb : Below w.heap.size w w1) => implHalvePicture_any W H a n c cs W2 H2 hW2 hH2 w1 (hv.below hb) b1 b2 b3 b4 b5 hl
    have hA2 := fun w1 (hb : Below w.heap.size w w1) => implHalvePicture_any W H a' n' c' cs' W2 H2 hW2 hH2 w1 (hv'.below hb) b1 b2 b3 b4 b5 hl'
    have e1 : gridL W2 (quarterF W H cs) (H2 * W2) = s1 := by rw [hs1, hW2, hH2]; rfl
    have e2 : gridL W2 (quarterF W H cs') (H2 * W2) = s2 := by rw [hs2, hW2, hH2]; rfl
    rw [e1] at hA1
    rw [e2] at hA2
    have hA3 := fun a n c a' n' c' w1 (h1 : FC w1 (.slice a n c) s1) (h2 : FC w1 (.slice a' n' c') s2) => ih W2 H2 D2 (l - 1) a n c s1 a' n' c' s2 w1 (by omega) (by omega) h1 h2 (by omega) (by omega) (by omega) (by omega) hsz hs1l hs2l (by omega) (by omega)
    rw [← hco] at hA3
    have hA4 := fun a n c w1 (h1 : FC w1 (.slice a n c) co) => implDoubleMap_any W2 H2 a n c co w1 h1 (by omega) (by omega) (by omega) (by omega) hsz hcol W H b1 b2 b3 b4 b5
    have e4 : gridL W (fun x y => scaledF (atC W2 H2 co (x / 2) (y / 2)) 1073741824) (H * W) = tw := by rw [htw]; rfl
    rw [e4] at hA4
    rw [hE]
    clear hE hvs hl hl' hv hv' hL3 hl1 hW2 hH2 hD2 hDh hs1 hs2 hco htw e1 e2 e4 ih hs1l hs2l hcol hsz
    go_enter Try.func7, Try.ntmps7
    go_wp2_with fail
    rw [← hw0]
    clear hw0
    refine (hSq _ hb0).mono ?_
    rintro e w1 ⟨a1, n1, c1, rfl, hb1, ho1⟩
    obtain ⟨X1, hX1⟩ : ∃ X, X = w1.alloc (.cells #[.int .i64 W, .int .i64 H, .int .i64 D, .slice a1 n1 c1] 44) := ⟨_, rfl⟩
    have hP1 : Pw X1 w1.heap.size W H D (.slice a1 n1 c1) := by rw [hX1]; exact Pw.new _ _ _ _ _ _
    have hf1 : FC X1 (.slice a1 n1 c1) vs := by rw [hX1]; exact (ho1.alloc _).fc
    have hB1 : Below w0.heap.size w0 X1 := by rw [hX1]; exact hb1.alloc hb1.size _
    have hT1 : Below w0.heap.size w0 X1 := hB1
    go_upto_region 6 with fail
    rw [← hX1]
    clear hX1 ho1 hb1
    have kk1 := hT1.size
    obtain ⟨_, p0, p1, p2⟩ := hQ.out.1.below hT1
    go_wp2_with fail
    refine (hA1 _ (hb0.trans (hT1.mono hb0.size))).mono ?_
    rintro e w2 ⟨a2, n2, c2, rfl, hb2, ho2⟩
    obtain ⟨X2, hX2⟩ : ∃ X, X = w2.alloc (.cells #[.int .i64 W2, .int .i64 H2, .slice a2 n2 c2] 30) := ⟨_, rfl⟩
    have hP2 : Pv X2 w2.heap.size W2 H2 (.slice a2 n2 c2) := by rw [hX2]; exact Pv.new _ _ _ _ _
    have hf2 : FC X2 (.slice a2 n2 c2) s1 := by rw [hX2]; exact (ho2.alloc _).fc
    have hB2 : Below X1.heap.size X1 X2 := by rw [hX2]; exact hb2.alloc hb2.size _
    have hT2 : Below w0.heap.size w0 X2 := hT1.trans (hB2.mono hT1.size)
    go_upto_region 7 with fail
    rw [← hX2]
    clear hX2 ho2 hb2
    clear p0 p1 p2
    have kk2 := hT2.size
    obtain ⟨_, q0, q1, q2⟩ := hQ.out.2.1.below hT2
    go_wp2_with fail
    refine (hA2 _ (hb0.trans (hT2.mono hb0.size))).mono ?_
    rintro e w3 ⟨a3, n3, c3, rfl, hb3, ho3⟩
    obtain ⟨X3, hX3⟩ : ∃ X, X = w3.alloc (.cells #[.int .i64 W2, .int .i64 H2, .slice a3 n3 c3] 30) := ⟨_, rfl⟩
    have hP3 : Pv X3 w3.heap.size W2 H2 (.slice a3 n3 c3) := by rw [hX3]; exact Pv.new _ _ _ _ _
    have hf3 : FC X3 (.slice a3 n3 c3) s2 := by rw [hX3]; exact (ho3.alloc _).fc
    have hB3 : Below X2.heap.size X2 X3 := by rw [hX3]; exact hb3.alloc hb3.size _
    have hT3 : Below w0.heap.size w0 X3 := hT2.trans (hB3.mono hT2.size)
    go_upto_region 8 with fail
    rw [← hX3]
    clear hX3 ho3 hb3
    clear q0 q1 q2
    have kk3 := hT3.size
    obtain ⟨_, p0, p1, p2⟩ := hP2.below hB3
    obtain ⟨_, q0, q1, q2⟩ := id hP3
    have hR := hA3 a2 n2 c2 a3 n3 c3 X3 (hf2.below hB3) hf3
    go_wp2_with fail
    refine (hR).mono ?_
    rintro e w4 ⟨a4, n4, c4, rfl, hb4, ho4⟩
    obtain ⟨X4, hX4⟩ : ∃ X, X = w4.alloc (.cells #[.int .i64 W2, .int .i64 H2, .slice a4 n4 c4] 27) := ⟨_, rfl⟩
    have hP4 : Pv X4 w4.heap.size W2 H2 (.slice a4 n4 c4) := by rw [hX4]; exact Pv.new _ _ _ _ _
    have hf4 : FC X4 (.slice a4 n4 c4) co := by rw [hX4]; exact (ho4.alloc _).fc
    have hB4 : Below X3.heap.size X3 X4 := by rw [hX4]; exact hb4.alloc hb4.size _
    have hT4 : Below w0.heap.size w0 X4 := hT3.trans (hB4.mono hT3.size)
    go_upto_region 9 with fail
    rw [← hX4]
    clear hX4 ho4 hb4
    clear p0 p1 p2 q0 q1 q2 hR
    have kk4 := hT4.size
    obtain ⟨_, p0, p1, p2⟩ := id hP4
    obtain ⟨_, q0, q1, q2⟩ := hQ.out.1.below hT4
    have hR := hA4 a4 n4 c4 X4 hf4
    go_wp2_with fail
    refine (hR).mono ?_
    rintro e w5 ⟨a5, n5, c5, rfl, hb5, ho5⟩
    obtain ⟨X5, hX5⟩ : ∃ X, X = w5.alloc (.cells #[.int .i64 W, .int .i64 H, .slice a5 n5 c5] 27) := ⟨_, rfl⟩
    have hP5 : Pv X5 w5.heap.size W H (.slice a5 n5 c5) := by rw [hX5]; exact Pv.new _ _ _ _ _
    have hf5 : FC X5 (.slice a5 n5 c5) tw := by rw [hX5]; exact (ho5.alloc _).fc
    have hB5 : Below X4.heap.size X4 X5 := by rw [hX5]; exact hb5.alloc hb5.size _
    have hT5 : Below w0.heap.size w0 X5 := hT4.trans (hB5.mono hT4.size)
    go_upto_region 10 with fail
    rw [← hX5]
    clear hX5 ho5 hb5
    clear p0 p1 p2 q0 q1 q2 hR
    have kk5 := hT5.size
    obtain ⟨_, y0, y1, y2⟩ := hP5
    have hvX := ((((hf1.below hB2).below hB3).below hB4).below hB5)
    have hPV5 := (((hP1.below hB2).below hB3).below hB4).below hB5
    obtain ⟨_, z0, z1, z2, z3⟩ := id hPV5
    have hnr := implNear_any W H D _ _ _ _ _ rfl rfl rfl rfl rfl a1 n1 c1 vs a5 n5 c5 tw 1 X5 hvX hf5 b1 b2 b3 b4 b5 d1 d2 hvl htwl (by omega) (by omega)
    go_wp2_with fail
    refine hnr.mono ?_
    rintro e w6 ⟨a6, n6, c6, rfl, hb6, ho6⟩
    have hbT := hT5.trans (hb6.mono hT5.size)
    obtain ⟨_, r0, r1, r2, rf⟩ := hQ.out.2.2.1.below hbT
    have s9 := hbT.size
    have z1 := hb0.size
    have z2 := hT5.size
    go_wp2_with fail
    refine bodyPost_ret (v := ?v6) ?hr6 rfl ?post6
    case hr6 => (simp [results, Try.results7, go_sem, r0, r1, r2, rf]; try rfl)
    case post6 =>
      refine ⟨_, _, _, rfl, ?_, ?_⟩
      · have hbb := hQ.out.2.2.2.trans (hbT.mono hQ.out.2.2.2.size); ((repeat' (first | (refine bel_set ?_ ?_ _) | (refine bel_al ?_ ?_ _) | exact Below.refl _ _ | assumption | (refine below_drewN ?_ _) | (refine Below.drew ?_) | (refine Below.trans ?_ (Below.mono hbb ?_)))) <;> (first | omega | (simp; done) | (simp; omega)))
      · (refine OC.mono (base := ?bb) ?hh ?hl; (case hh => ((repeat' (first | (refine OC.set ?_ _ ?_) | (refine OC.alloc ?_ _) | exact ho6 | (refine OC.drewN ?_ _))) <;> (first | omega | (simp; done) | (simp; omega)))); (case hl => (first | omega | (simp; done) | (simp; omega))))
end Go.Proofs.Ytblaojflcemfdaa

set_option linter.unusedVariables false
set_option linter.unusedSimpArgs false
namespace Go.Proofs.Ytblaojflcemfdaa
open Go.FX Go.RowKit Go.WideShapes Go.ChangeShapes
attribute [local go_sem ↓] Go.wp_at_zero Go.wp_at_succ
theorem Nv.pv {w : World} {b : Nat} {W H : Int} {v : Value} (h : Nv w b (.int .i64 W) (.int .i64 H) v) : Pv w b W H v := ⟨h.1, h.2.1, h.2.2.1, h.2.2.2.1⟩
set_option maxRecDepth 100000 in
set_option maxHeartbeats 16000000 in
theorem specCoarse_zero : ∀ (W H D : Nat) (l : Int) (a : Option Addr) (n c : Nat) (cs : List Nat) (a' : Option Addr) (n' c' : Nat) (cs' : List Nat) (bp bq : Nat) (w : World), l = 1 → Pv w bp W H (.slice a n c) → Pv w bq W H (.slice a' n' c') → FC w (.slice a n c) cs → FC w (.slice a' n' c') cs' → 1 ≤ W → W ≤ 24 → 1 ≤ H → H ≤ 24 → H * W ≤ 256 → cs.length = H * W → cs'.length = H * W → 1 ≤ D → D ≤ 8 →
    Calls Try.prog 16 #[.pointer (some ⟨bp, 0, none⟩), .pointer (some ⟨bq, 0, none⟩), .int .i64 D, .int .i64 l] w (RPic1 61 W H (coarse 0 W H D cs cs') w) := by
    intro W H D l a n c cs a' n' c' cs' bp bq w hl1 hp hq hv hv' b1 b2 b3 b4 b5 hl hl' d1 d2
    subst hl1
    obtain ⟨vs, hvs⟩ : ∃ v, v = squareL W H D cs cs' := ⟨_, rfl⟩
    have hvl : vs.length = H * W * D := by rw [hvs, squareL, cubeL_len]
    obtain ⟨w0, hw0⟩ : ∃ u, u = w.alloc (.cells #[.int .i64 0, .int .i64 0, .slice none 0 0] 27) := ⟨_, rfl⟩
    have hb0 : Below w.heap.size w w0 := by rw [hw0]; exact below1 _ _
    have hQ1 : Pv w0 bp W H (.slice a n c) := hp.below hb0
    have hQ2 : Pv w0 bq W H (.slice a' n' c') := hq.below hb0
    have hQ3 : Nv w0 w.heap.size (.int .i64 0) (.int .i64 0) (.slice none 0 0) := by rw [hw0]; exact Nv.new _ _ _ _ _
    have hSq := specCmpSq_any W H D a n c bp cs a' n' c' bq cs' w0 hQ1 (hv.below hb0) hQ2 (hv'.below hb0) b1 b2 b3 b4 b5 hl hl' d1 d2
    rw [show cubeL W D (cmpF W H sqF cs cs') (H * W * D) = vs from hvs.symm] at hSq
    have l3 := hQ3.1
    have hQ := Lib.hid (And.intro hQ1 (And.intro hQ2 (And.intro hQ3 hb0)))
    clear hQ1 hQ2 hQ3
    have hE : coarse 0 W H D cs cs' = seqL (fun i => fi (winI (rowC D vs i) fun _ => true)) (H * W) := by rw [hvs]; rfl
    rw [hE]
    clear hE hvs hl hl' hv hv' hp hq
    go_enter Try.func16, Try.ntmps16
    go_wp2_with fail
    rw [← hw0]
    clear hw0
    refine (hSq).mono ?_
    rintro e w1 ⟨a1, n1, c1, rfl, hb1, ho1⟩
    obtain ⟨X1, hX1⟩ : ∃ X, X = w1.alloc (.cells #[.int .i64 W, .int .i64 H, .int .i64 D, .slice a1 n1 c1] 44) := ⟨_, rfl⟩
    have hP1 : Pw X1 w1.heap.size W H D (.slice a1 n1 c1) := by rw [hX1]; exact Pw.new _ _ _ _ _ _
    have hf1 : FC X1 (.slice a1 n1 c1) vs := by rw [hX1]; exact (ho1.alloc _).fc
    have hB1 : Below w0.heap.size w0 X1 := by rw [hX1]; exact hb1.alloc hb1.size _
    have hT1 : Below w0.heap.size w0 X1 := hB1
    go_upto_region 3 with fail
    rw [← hX1]
    clear hX1 ho1 hb1
    have hwn := specWinners_any W H D a1 n1 c1 w1.heap.size vs X1 hP1 hf1 b1 b2 b3 b4 b5 d1 d2 hvl
    go_wp2_with fail
    refine hwn.mono ?_
    rintro e w2 ⟨a2, n2, c2, rfl, hb2, ho2⟩
    have hbT := hT1.trans (hb2.mono hT1.size)
    obtain ⟨_, r0, r1, r2, rf⟩ := hQ.out.2.2.1.below hbT
    have s9 := hbT.size
    have z1 := hb0.size
    have z2 := hT1.size
    go_wp2_with fail
    refine bodyPost_ret (v := ?v2) ?hr2 rfl ?post2
    case hr2 => (simp [results, Try.results16, go_sem, r0, r1, r2, rf]; try rfl)
    case post2 =>
      refine ⟨_, _, _, rfl, ?_, ?_⟩
      · have hbb := hQ.out.2.2.2.trans (hbT.mono hQ.out.2.2.2.size); ((repeat' (first | (refine bel_set ?_ ?_ _) | (refine bel_al ?_ ?_ _) | exact Below.refl _ _ | assumption | (refine below_drewN ?_ _) | (refine Below.drew ?_) | (refine Below.trans ?_ (Below.mono hbb ?_)))) <;> (first | omega | (simp; done) | (simp; omega)))
      · (refine OC.mono (base := ?bb) ?hh ?hl; (case hh => ((repeat' (first | (refine OC.set ?_ _ ?_) | (refine OC.alloc ?_ _) | exact ho2 | (refine OC.drewN ?_ _))) <;> (first | omega | (simp; done) | (simp; omega)))); (case hl => (first | omega | (simp; done) | (simp; omega))))
set_option maxRecDepth 100000 in
set_option maxHeartbeats 16000000 in
theorem specCoarse_any : ∀ (L W H D : Nat) (l : Int) (a : Option Addr) (n c : Nat) (cs : List Nat) (a' : Option Addr) (n' c' : Nat) (cs' : List Nat) (bp bq : Nat) (w : World), L ≤ 3 → l = (L : Int) + 1 → Pv w bp W H (.slice a n c) → Pv w bq W H (.slice a' n' c') → FC w (.slice a n c) cs → FC w (.slice a' n' c') cs' → 1 ≤ W → W ≤ 24 → 1 ≤ H → H ≤ 24 → H * W ≤ 256 → cs.length = H * W → cs'.length = H * W → 1 ≤ D → D ≤ 8 →
    Calls Try.prog 16 #[.pointer (some ⟨bp, 0, none⟩), .pointer (some ⟨bq, 0, none⟩), .int .i64 D, .int .i64 l] w (RPic1 61 W H (coarse L W H D cs cs') w) := by
  intro L
  induction L with
  | zero =>
    intro W H D l a n c cs a' n' c' cs' bp bq w hL3 hl1
    exact specCoarse_zero W H D l a n c cs a' n' c' cs' bp bq w (by omega)
  | succ L ih =>
    intro W H D l a n c cs a' n' c' cs' bp bq w hL3 hl1 hp hq hv hv' b1 b2 b3 b4 b5 hl hl' d1 d2
    have g6 : (l == 1) = false := by simp; omega
    have g7 : decide (l = 1) = false := decide_eq_false (by omega)
    have g8 : IntKind.i64.wrap (l - 1) = l - 1 := IntWalk.i64_in _ (by omega)
    obtain ⟨vs, hvs⟩ : ∃ v, v = squareL W H D cs cs' := ⟨_, rfl⟩
    have hvl : vs.length = H * W * D := by rw [hvs, squareL, cubeL_len]
    obtain ⟨w0, hw0⟩ : ∃ u, u = w.alloc (.cells #[.int .i64 0, .int .i64 0, .slice none 0 0] 27) := ⟨_, rfl⟩
    have hb0 : Below w.heap.size w w0 := by rw [hw0]; exact below1 _ _
    have hQ1 : Pv w0 bp W H (.slice a n c) := hp.below hb0
    have hQ2 : Pv w0 bq W H (.slice a' n' c') := hq.below hb0
    have hQ3 : Nv w0 w.heap.size (.int .i64 0) (.int .i64 0) (.slice none 0 0) := by rw [hw0]; exact Nv.new _ _ _ _ _
    have hSq := specCmpSq_any W H D a n c bp cs a' n' c' bq cs' w0 hQ1 (hv.below hb0) hQ2 (hv'.below hb0) b1 b2 b3 b4 b5 hl hl' d1 d2
    rw [show cubeL W D (cmpF W H sqF cs cs') (H * W * D) = vs from hvs.symm] at hSq
    have l3 := hQ3.1
    have hQ := Lib.hid (And.intro hQ1 (And.intro hQ2 (And.intro hQ3 hb0)))
    clear hQ1 hQ2 hQ3
    obtain ⟨W2, hW2⟩ : ∃ x, x = (W + 1) / 2 := ⟨_, rfl⟩
    obtain ⟨H2, hH2⟩ : ∃ x, x = (H + 1) / 2 := ⟨_, rfl⟩
    obtain ⟨D2, hD2⟩ : ∃ x, x = (D + 1) / 2 := ⟨_, rfl⟩
    have u0 : IntKind.i64.wrap ((D : Int) + 1) = (D : Int) + 1 := IntWalk.i64_in _ (by omega)
    have u1 : ((D : Int) + 1).tdiv 2 = (D2 : Int) := by rw [Int.tdiv_eq_ediv_of_nonneg (by omega)]; omega
    have u4 : IntKind.i64.wrap (D2 : Int) = (D2 : Int) := IntWalk.i64_in _ (by omega)
    have hsz : H2 * W2 ≤ 256 := Nat.le_trans (Nat.mul_le_mul (by omega : H2 ≤ H) (by omega : W2 ≤ W)) b5
    obtain ⟨s1, hs1⟩ : ∃ x, x = halfL W H cs := ⟨_, rfl⟩
    obtain ⟨s2, hs2⟩ : ∃ x, x = halfL W H cs' := ⟨_, rfl⟩
    have hs1l : s1.length = H2 * W2 := by rw [hs1, halfL, gridL_len, hW2, hH2]
    have hs2l : s2.length = H2 * W2 := by rw [hs2, halfL, gridL_len, hW2, hH2]
    obtain ⟨co, hco⟩ : ∃ x, x = coarse L W2 H2 D2 s1 s2 := ⟨_, rfl⟩
    have hcol : co.length = H2 * W2 := by rw [hco]; exact coarse_len _ _ _ _ _ _
    obtain ⟨tw, htw⟩ : ∃ x, x = twiceL W2 H2 co W H := ⟨_, rfl⟩
    have htwl : tw.length = H * W := by rw [htw, twiceL, gridL_len]
    have hE : coarse (L + 1) W H D cs cs' = seqL (nearI D vs tw 1) (H * W) := by rw [hvs, htw, hco, hs1, hs2, hW2, hH2, hD2]; rfl
    have hA1 := fun w1 (hp : Pv w1 bp W H (.slice a n c)) (hb : Below w.heap.size w w1) => specHalve_any W H a n c bp cs W2 H2 hW2 hH2 w1 hp (hv.below hb) b1 b2 b3 b4 b5 hl
    have hA2 := fun w1 (hp : Pv w1 bq W H (.slice a' n' c')) (hb : Below w.heap.size w w1) => specHalve_any W H a' n' c' bq cs' W2 H2 hW2 hH2 w1 hp (hv'.below hb) b1 b2 b3 b4 b5 hl'
    have e1 : gridL W2 (quarterF W H cs) (H2 * W2) = s1 := by rw [hs1, hW2, hH2]; rfl
    have e2 : gridL W2 (quarterF W H cs') (H2 * W2) = s2 := by rw [hs2, hW2, hH2]; rfl
    rw [e1] at hA1
    rw [e2] at hA2
    have hA3 := fun a n c a' n' c' bp bq w1 hp hq (h1 : FC w1 (.slice a n c) s1) (h2 : FC w1 (.slice a' n' c') s2) => ih W2 H2 D2 (l - 1) a n c s1 a' n' c' s2 bp bq w1 (by omega) (by omega) hp hq h1 h2 (by omega) (by omega) (by omega) (by omega) hsz hs1l hs2l (by omega) (by omega)
    rw [← hco] at hA3
    have hA4 := fun a n c bp w1 hp (h1 : FC w1 (.slice a n c) co) => specDouble_any W2 H2 a n c bp co W H b1 b2 b3 b4 b5 w1 hp h1 (by omega) (by omega) (by omega) (by omega) hsz hcol
    have e4 : gridL W (douF W2 H2 co) (H * W) = tw := by rw [htw]; rfl
    rw [e4] at hA4
    rw [hE]
    clear hE hvs hl hl' hv hv' hL3 hl1 hW2 hH2 hD2 hs1 hs2 hco htw e1 e2 e4 ih hs1l hs2l hcol hsz hp hq
    go_enter Try.func16, Try.ntmps16
    go_wp2_with fail
    rw [← hw0]
    clear hw0
    refine (hSq).mono ?_
    rintro e w1 ⟨a1, n1, c1, rfl, hb1, ho1⟩
    obtain ⟨X1, hX1⟩ : ∃ X, X = w1.alloc (.cells #[.int .i64 W, .int .i64 H, .int .i64 D, .slice a1 n1 c1] 44) := ⟨_, rfl⟩
    have hP1 : Pw X1 w1.heap.size W H D (.slice a1 n1 c1) := by rw [hX1]; exact Pw.new _ _ _ _ _ _
    have hf1 : FC X1 (.slice a1 n1 c1) vs := by rw [hX1]; exact (ho1.alloc _).fc
    have hB1 : Below w0.heap.size w0 X1 := by rw [hX1]; exact hb1.alloc hb1.size _
    have hT1 : Below w0.heap.size w0 X1 := hB1
    go_upto_region 4 with fail
    rw [← hX1]
    clear hX1 ho1 hb1
    have kk1 := hT1.size
    go_wp2_with fail
    refine (hA1 _ (hQ.out.1.below hT1) (hb0.trans (hT1.mono hb0.size))).mono ?_
    rintro e w2 ⟨a2, n2, c2, rfl, hb2, ho2⟩
    obtain ⟨X2, hX2⟩ : ∃ X, X = w2.alloc (.cells #[.int .i64 W2, .int .i64 H2, .slice a2 n2 c2] 30) := ⟨_, rfl⟩
    have hP2 : Pv X2 w2.heap.size W2 H2 (.slice a2 n2 c2) := by rw [hX2]; exact Pv.new _ _ _ _ _
    have hf2 : FC X2 (.slice a2 n2 c2) s1 := by rw [hX2]; exact (ho2.alloc _).fc
    have hB2 : Below X1.heap.size X1 X2 := by rw [hX2]; exact hb2.alloc hb2.size _
    have hT2 : Below w0.heap.size w0 X2 := hT1.trans (hB2.mono hT1.size)
    go_upto_region 5 with fail
    rw [← hX2]
    clear hX2 ho2 hb2
    have kk2 := hT2.size
    go_wp2_with fail
    refine (hA2 _ (hQ.out.2.1.below hT2) (hb0.trans (hT2.mono hb0.size))).mono ?_
    rintro e w3 ⟨a3, n3, c3, rfl, hb3, ho3⟩
    obtain ⟨X3, hX3⟩ : ∃ X, X = w3.alloc (.cells #[.int .i64 W2, .int .i64 H2, .slice a3 n3 c3] 30) := ⟨_, rfl⟩
    have hP3 : Pv X3 w3.heap.size W2 H2 (.slice a3 n3 c3) := by rw [hX3]; exact Pv.new _ _ _ _ _
    have hf3 : FC X3 (.slice a3 n3 c3) s2 := by rw [hX3]; exact (ho3.alloc _).fc
    have hB3 : Below X2.heap.size X2 X3 := by rw [hX3]; exact hb3.alloc hb3.size _
    have hT3 : Below w0.heap.size w0 X3 := hT2.trans (hB3.mono hT2.size)
    go_upto_region 6 with fail
    rw [← hX3]
    clear hX3 ho3 hb3
    have kk3 := hT3.size
    have hR := hA3 a2 n2 c2 a3 n3 c3 w2.heap.size w3.heap.size X3 (hP2.below hB3) hP3 (hf2.below hB3) hf3
    go_wp2_with fail
    refine (hR).mono ?_
    rintro e w4 ⟨a4, n4, c4, rfl, hb4, ho4⟩
    obtain ⟨X4, hX4⟩ : ∃ X, X = w4.alloc (.cells #[.int .i64 W2, .int .i64 H2, .slice a4 n4 c4] 27) := ⟨_, rfl⟩
    have hP4 : Pv X4 w4.heap.size W2 H2 (.slice a4 n4 c4) := by rw [hX4]; exact Pv.new _ _ _ _ _
    have hf4 : FC X4 (.slice a4 n4 c4) co := by rw [hX4]; exact (ho4.alloc _).fc
    have hB4 : Below X3.heap.size X3 X4 := by rw [hX4]; exact hb4.alloc hb4.size _
    have hT4 : Below w0.heap.size w0 X4 := hT3.trans (hB4.mono hT3.size)
    go_upto_region 7 with fail
    rw [← hX4]
    clear hX4 ho4 hb4
    clear hR
    have kk4 := hT4.size
    obtain ⟨pl, p0, p1, p2⟩ := hQ.out.1.below hT4
    have hD4 := fun w1 (hb : Below X4.heap.size X4 w1) => hA4 a4 n4 c4 w4.heap.size w1 (hP4.below hb) (hf4.below hb)
    go_cut [13] (fun s4 wx => ∃ bo, s4 = .pointer (some ⟨bo, 0, none⟩) ∧ Mk 61 X4 bo W H tw wx)
    case first =>
      go_region_held3 (fun w' => Below X4.heap.size X4 w' ∧ X4.heap.size ≤ w'.heap.size ∧ (∀ b o, b < X4.heap.size → w'.cell? ⟨b, o, none⟩ = X4.cell? ⟨b, o, none⟩)) (first | exact keepStart _ | assumption | exact ⟨by assumption, by assumption, by assumption⟩ | exact keepCall (by assumption) (by assumption) | exact keepAlloc (by assumption) | (refine keepSet ?_ (keepSet ?_ (keepSet ?_ (keepSet ?_ ?_))) <;> first | assumption | omega | (simp; done) | (simp; omega)) | (refine keepSet ?_ (keepSet ?_ (keepSet ?_ ?_)) <;> first | assumption | omega | (simp; done) | (simp; omega)) | (refine keepSet ?_ (keepSet ?_ ?_) <;> first | assumption | omega | (simp; done) | (simp; omega)) | (refine keepSet ?_ ?_ <;> first | assumption | omega | (simp; done) | (simp; omega)) | ((refine keepOf ?_; ((repeat' (first | (refine bel_set ?_ ?_ _) | (refine bel_al ?_ ?_ _) | exact Below.refl _ _ | assumption | exact And.left (by assumption) | (refine below_drewN ?_ _) | (refine Below.drew ?_))) <;> (first | omega | (simp; done) | (simp; omega))))))
        (first | (go_at_call 30; (with_reducible refine (hD4 _ (And.left (by assumption))).mono ?_); rintro e w5 ⟨a5, n5, c5, rfl, hb5, ho5⟩; have hI := keepCall (n := X4.heap.size) (W1 := X4) (by assumption) hb5; obtain ⟨hc, hf⟩ := bcell hb5; have hz := hb5.size; (try simp at hz); (try simp only [World.size_drew, World.cell?_drew] at hc); (try simp only [World.size_drew, World.frozen?_drew] at hf); first | (have hs := Nat.lt_of_succ_le hz) | (have hs := Nat.lt_of_lt_of_le hs hz) | skip))
      all_goals go_wp2_with fail
      all_goals go_meet
      all_goals first
        | exact ⟨_, rfl, Mk.start1 (undrewN hb5) ho5⟩
        | exact ⟨_, rfl, Mk.start2 (undrewN hb5) ho5⟩
        | exact ⟨_, rfl, Mk.start1 (undrew hb5) ho5⟩
        | exact ⟨_, rfl, Mk.start2 (undrew hb5) ho5⟩
    case rest =>
      obtain ⟨bo, rfl, a5, n5, c5, hN5, ho5, hne5, hbo5, hb5⟩ := hcut
      obtain ⟨X5, hX5⟩ : ∃ V, V = wc := ⟨_, rfl⟩
      subst hX5
      have hT5 := hT4.trans (hb5.mono hT4.size)
      have hPV5 := (((hP1.below hB2).below hB3).below hB4).below hb5
      have hvX := (((hf1.below hB2).below hB3).below hB4).below hb5
      have hnr := specNear_any W H D a1 n1 c1 w1.heap.size vs a5 n5 c5 bo tw 1 X5 hPV5 hvX hN5.pv ho5.fc b1 b2 b3 b4 b5 d1 d2 hvl htwl (by omega) (by omega)
      clear p0 p1 p2 pl
      go_wp2_with fail
      refine hnr.mono ?_
      rintro e w6 ⟨a6, n6, c6, rfl, hb6, ho6⟩
      have hbT := hT5.trans (hb6.mono hT5.size)
      obtain ⟨_, r0, r1, r2, rf⟩ := hQ.out.2.2.1.below hbT
      have s9 := hbT.size
      have z1 := hb0.size
      have z2 := hT5.size
      go_wp2_with fail
      refine bodyPost_ret (v := ?v6) ?hr6 rfl ?post6
      case hr6 => (simp [results, Try.results16, go_sem, r0, r1, r2, rf]; try rfl)
      case post6 =>
        refine ⟨_, _, _, rfl, ?_, ?_⟩
        · have hbb := hQ.out.2.2.2.trans (hbT.mono hQ.out.2.2.2.size); ((repeat' (first | (refine bel_set ?_ ?_ _) | (refine bel_al ?_ ?_ _) | exact Below.refl _ _ | assumption | (refine below_drewN ?_ _) | (refine Below.drew ?_) | (refine Below.trans ?_ (Below.mono hbb ?_)))) <;> (first | omega | (simp; done) | (simp; omega)))
        · (refine OC.mono (base := ?bb) ?hh ?hl; (case hh => ((repeat' (first | (refine OC.set ?_ _ ?_) | (refine OC.alloc ?_ _) | exact ho6 | (refine OC.drewN ?_ _))) <;> (first | omega | (simp; done) | (simp; omega)))); (case hl => (first | omega | (simp; done) | (simp; omega))))
end Go.Proofs.Ytblaojflcemfdaa

set_option linter.unusedVariables false
set_option linter.unusedSimpArgs false
namespace Go.Proofs.Ytblaojflcemfdaa
open Go.FX Go.RowKit Go.WideShapes Go.ChangeShapes
attribute [local go_sem ↓] Go.wp_at_zero Go.wp_at_succ
set_option maxHeartbeats 4000000 in
theorem implCoarse_no1 (W H W' H' D l : Int) (a : Option Addr) (n c : Nat) (a' : Option Addr) (n' c' : Nat) (w : World) (hS : ∀ w1, Calls Try.prog 18 #[.agg #[.int .i64 W, .int .i64 H, .slice a n c], .agg #[.int .i64 W', .int .i64 H', .slice a' n' c'], .int .i64 D] w1 (RVol 61 0 0 0 [] false w1)) :
    Calls Try.prog 7 #[.agg #[.int .i64 W, .int .i64 H, .slice a n c], .agg #[.int .i64 W', .int .i64 H', .slice a' n' c'], .int .i64 D, .int .i64 l] w (RPic 61 0 0 [] false w) := by
  go_enter Try.func7, Try.ntmps7
  go_wp2_with fail
  refine (hS _).mono ?_
  rintro e w1 ⟨a1, n1, c1, rfl, hb1, ho1⟩
  have hn := (Nv.new _ _ _ _ _).below hb1
  have s1 := hb1.size
  simp only [World.size_alloc] at hn s1
  obtain ⟨X, hX⟩ : ∃ X, X = w1.alloc (.cells #[.int .i64 0, .int .i64 0, .int .i64 0, .slice a1 n1 c1] 44) := ⟨_, rfl⟩
  have hnX : Nv X (w.heap.size + 1 + 1) (.int .i64 0) (.int .i64 0) (.slice none 0 0) := by rw [hX]; exact hn.alloc _
  have hbX : Below w.heap.size w X := by
    rw [hX]; exact ((below3 _ _ _ _).trans (hb1.mono (by simp; omega))).alloc (by omega) _
  obtain ⟨l1, q0, q1, q2, qf⟩ := id hnX
  go_upto_region 2 with fail
  rw [← hX]
  clear hX
  go_wp2_with fail
  refine bodyPost_ret (v := ?v) ?hr rfl ?post
  case hr => (simp [results, Try.results7, go_sem, q0, q1, q2, qf]; try rfl)
  case post => exact ⟨_, _, _, rfl, by ((repeat' (first | (refine bel_set ?_ ?_ _) | (refine bel_al ?_ ?_ _) | exact Below.refl _ _ | assumption | (refine below_drewN ?_ _) | (refine Below.drew ?_) | (refine Below.trans ?_ (Below.mono hbX ?_)))) <;> (first | omega | (simp; done) | (simp; omega))), OC.nil _ _ _⟩
set_option maxHeartbeats 4000000 in
theorem implCoarse_no2 (W H W' H' D l : Int) (a : Option Addr) (n c : Nat) (a' : Option Addr) (n' c' : Nat) (Wv Hv Dv : Int) (vs : List Nat) (w : World) (hl : l < 1) (hS : ∀ w1, Below w.heap.size w w1 → Calls Try.prog 18 #[.agg #[.int .i64 W, .int .i64 H, .slice a n c], .agg #[.int .i64 W', .int .i64 H', .slice a' n' c'], .int .i64 D] w1 (RVol 61 Wv Hv Dv vs true w1)) :
    Calls Try.prog 7 #[.agg #[.int .i64 W, .int .i64 H, .slice a n c], .agg #[.int .i64 W', .int .i64 H', .slice a' n' c'], .int .i64 D, .int .i64 l] w (RPic 61 0 0 [] false w) := by
  have g3 : decide (l < 1) = true := decide_eq_true hl
  go_enter Try.func7, Try.ntmps7
  go_wp2_with fail
  refine (hS _ (below3 _ _ _ _)).mono ?_
  rintro e w1 ⟨a1, n1, c1, rfl, hb1, ho1⟩
  have hn := (Nv.new _ _ _ _ _).below hb1
  have s1 := hb1.size
  simp only [World.size_alloc] at hn s1
  obtain ⟨X, hX⟩ : ∃ X, X = w1.alloc (.cells #[.int .i64 Wv, .int .i64 Hv, .int .i64 Dv, .slice a1 n1 c1] 44) := ⟨_, rfl⟩
  have hnX : Nv X (w.heap.size + 1 + 1) (.int .i64 0) (.int .i64 0) (.slice none 0 0) := by rw [hX]; exact hn.alloc _
  have hbX : Below w.heap.size w X := by
    rw [hX]; exact ((below3 _ _ _ _).trans (hb1.mono (by simp; omega))).alloc (by omega) _
  obtain ⟨l1, q0, q1, q2, qf⟩ := id hnX
  go_upto_region 2 with fail
  rw [← hX]
  clear hX
  go_wp2_with fail
  refine bodyPost_ret (v := ?v) ?hr rfl ?post
  case hr => (simp [results, Try.results7, go_sem, q0, q1, q2, qf]; try rfl)
  case post => exact ⟨_, _, _, rfl, by ((repeat' (first | (refine bel_set ?_ ?_ _) | (refine bel_al ?_ ?_ _) | exact Below.refl _ _ | assumption | (refine below_drewN ?_ _) | (refine Below.drew ?_) | (refine Below.trans ?_ (Below.mono hbX ?_)))) <;> (first | omega | (simp; done) | (simp; omega))), OC.nil _ _ _⟩
set_option maxHeartbeats 4000000 in
theorem implCoarse_no3 (W H W' H' D l : Int) (a : Option Addr) (n c : Nat) (a' : Option Addr) (n' c' : Nat) (Wv Hv Dv : Int) (vs : List Nat) (w : World) (hl : l > 4) (hS : ∀ w1, Below w.heap.size w w1 → Calls Try.prog 18 #[.agg #[.int .i64 W, .int .i64 H, .slice a n c], .agg #[.int .i64 W', .int .i64 H', .slice a' n' c'], .int .i64 D] w1 (RVol 61 Wv Hv Dv vs true w1)) :
    Calls Try.prog 7 #[.agg #[.int .i64 W, .int .i64 H, .slice a n c], .agg #[.int .i64 W', .int .i64 H', .slice a' n' c'], .int .i64 D, .int .i64 l] w (RPic 61 0 0 [] false w) := by
  have g1 : ¬ l < 1 := by omega
  have g3 : decide (l < 1) = false := decide_eq_false g1
  have g4 : decide (4 < l) = true := decide_eq_true hl
  have g5 : decide (l > 4) = true := decide_eq_true hl
  go_enter Try.func7, Try.ntmps7
  go_wp2_with fail
  refine (hS _ (below3 _ _ _ _)).mono ?_
  rintro e w1 ⟨a1, n1, c1, rfl, hb1, ho1⟩
  have hn := (Nv.new _ _ _ _ _).below hb1
  have s1 := hb1.size
  simp only [World.size_alloc] at hn s1
  obtain ⟨X, hX⟩ : ∃ X, X = w1.alloc (.cells #[.int .i64 Wv, .int .i64 Hv, .int .i64 Dv, .slice a1 n1 c1] 44) := ⟨_, rfl⟩
  have hnX : Nv X (w.heap.size + 1 + 1) (.int .i64 0) (.int .i64 0) (.slice none 0 0) := by rw [hX]; exact hn.alloc _
  have hbX : Below w.heap.size w X := by
    rw [hX]; exact ((below3 _ _ _ _).trans (hb1.mono (by simp; omega))).alloc (by omega) _
  obtain ⟨l1, q0, q1, q2, qf⟩ := id hnX
  go_upto_region 2 with fail
  rw [← hX]
  clear hX
  go_wp2_with fail
  refine bodyPost_ret (v := ?v) ?hr rfl ?post
  case hr => (simp [results, Try.results7, go_sem, q0, q1, q2, qf]; try rfl)
  case post => exact ⟨_, _, _, rfl, by ((repeat' (first | (refine bel_set ?_ ?_ _) | (refine bel_al ?_ ?_ _) | exact Below.refl _ _ | assumption | (refine below_drewN ?_ _) | (refine Below.drew ?_) | (refine Below.trans ?_ (Below.mono hbX ?_)))) <;> (first | omega | (simp; done) | (simp; omega))), OC.nil _ _ _⟩
set_option maxHeartbeats 4000000 in
theorem specCoarse_no (W H W' H' D l : Int) (a : Option Addr) (n c : Nat) (a' : Option Addr) (n' c' : Nat) (w : World) (hnc : n ≤ c) (hcm : c ≤ maxLen) (hnc' : n' ≤ c') (hcm' : c' ≤ maxLen) (hbad : (pairB W H n W' H' n' && deepB D) = false ∨ inB l 1 4 = false) :
    Calls Try.prog 5 #[.agg #[.int .i64 W, .int .i64 H, .slice a n c], .agg #[.int .i64 W', .int .i64 H', .slice a' n' c'], .int .i64 D, .int .i64 l] w (RPic 61 0 0 [] false w) := by
  have hP := ((Pv.new w W H (.slice a n c) 30).alloc (.cells #[.int .i64 W', .int .i64 H', .slice a' n' c'] 30)).alloc (.cells #[.int .i64 0, .int .i64 0, .slice none 0 0] 27)
  have hQ := (Pv.new (w.alloc (.cells #[.int .i64 W, .int .i64 H, .slice a n c] 30)) W' H' (.slice a' n' c') 30).alloc (.cells #[.int .i64 0, .int .i64 0, .slice none 0 0] 27)
  simp only [World.size_alloc] at hQ
  have h1 := fun w1 hp hq => specPair_any W H a n c w.heap.size W' H' a' n' c' (w.heap.size + 1) D w1 hp hq (by omega) (by unfold maxLen at hcm; omega) (by unfold maxLen at hcm'; omega)
  cases hv : (pairB W H n W' H' n' && deepB D) with
  | false =>
    have hv' := Lib.hid hv
    rw [hv] at h1
    clear hv hbad
    go_enter Try.func5, Try.ntmps5
    go_wp2_with fail
    refine (h1 _ hP hQ).mono ?_
    rintro e w1 ⟨k, rfl, rfl⟩
    go_wp2_with fail
    refine bodyPost_ret (v := ?v) ?hr rfl ?post
    case hr => (simp [results, Try.results5, go_sem]; try rfl)
    case post => exact ⟨_, _, _, rfl, by ((repeat' (first | (refine bel_set ?_ ?_ _) | (refine bel_al ?_ ?_ _) | exact Below.refl _ _ | assumption | (refine below_drewN ?_ _) | (refine Below.drew ?_))) <;> (first | omega | (simp; done) | (simp; omega))), OC.nil _ _ _⟩
  | true =>
    have hin := Lib.hid (show inB l 1 4 = false by rcases hbad with h | h; · rw [h] at hv; cases hv
                                                   · exact h)
    rw [hv] at h1
    clear hv hbad
    go_enter Try.func5, Try.ntmps5
    go_wp2_with fail
    refine (h1 _ hP hQ).mono ?_
    rintro e w1 ⟨k, rfl, rfl⟩
    go_wp2_with fail
    refine (specIn_any _ _ _ _).mono ?_
    rintro e w' ⟨rfl, rfl⟩
    rw [hin.out]
    go_wp2_with fail
    refine bodyPost_ret (v := ?v) ?hr rfl ?post
    case hr => (simp [results, Try.results5, go_sem]; try rfl)
    case post => exact ⟨_, _, _, rfl, by ((repeat' (first | (refine bel_set ?_ ?_ _) | (refine bel_al ?_ ?_ _) | exact Below.refl _ _ | assumption | (refine below_drewN ?_ _) | (refine Below.drew ?_))) <;> (first | omega | (simp; done) | (simp; omega))), OC.nil _ _ _⟩
set_option maxHeartbeats 4000000 in
theorem specCoarseToFine_any (L W H D : Nat) (l : Int) (hL : L ≤ 3) (hl1 : l = (L : Int) + 1) (a : Option Addr) (n c : Nat) (cs : List Nat) (a' : Option Addr) (n' c' : Nat) (cs' : List Nat) (w : World) (hv : FC w (.slice a n c) cs) (hv' : FC w (.slice a' n' c') cs') (b1 : 1 ≤ W) (b2 : W ≤ 24) (b3 : 1 ≤ H) (b4 : H ≤ 24) (b5 : H * W ≤ 256) (hl : cs.length = H * W) (hl' : cs'.length = H * W) (d1 : 1 ≤ D) (d2 : D ≤ 8) :
    Calls Try.prog 5 #[.agg #[.int .i64 W, .int .i64 H, .slice a n c], .agg #[.int .i64 W, .int .i64 H, .slice a' n' c'], .int .i64 D, .int .i64 l] w (RPic 61 W H (coarse L W H D cs cs') true w) := by
  obtain ⟨en, hnc, hcm⟩ := hv.sized
  obtain ⟨en', hnc', hcm'⟩ := hv'.sized
  have hP := ((Pv.new w W H (.slice a n c) 30).alloc (.cells #[.int .i64 W, .int .i64 H, .slice a' n' c'] 30)).alloc (.cells #[.int .i64 0, .int .i64 0, .slice none 0 0] 27)
  have hQ := (Pv.new (w.alloc (.cells #[.int .i64 W, .int .i64 H, .slice a n c] 30)) W H (.slice a' n' c') 30).alloc (.cells #[.int .i64 0, .int .i64 0, .slice none 0 0] 27)
  have hN := Nv.new ((w.alloc (.cells #[.int .i64 W, .int .i64 H, .slice a n c] 30)).alloc (.cells #[.int .i64 W, .int .i64 H, .slice a' n' c'] 30)) (.int .i64 0) (.int .i64 0) (.slice none 0 0) 27
  simp only [World.size_alloc] at hQ hN
  obtain ⟨w0, hw0⟩ : ∃ u, u = ((w.alloc (.cells #[.int .i64 W, .int .i64 H, .slice a n c] 30)).alloc (.cells #[.int .i64 W, .int .i64 H, .slice a' n' c'] 30)).alloc (.cells #[.int .i64 0, .int .i64 0, .slice none 0 0] 27) := ⟨_, rfl⟩
  have hb0 : Below w.heap.size w w0 := by rw [hw0]; exact below3 _ _ _ _
  rw [← hw0] at hP hQ hN
  have h1 := fun w1 hp hq => specPair_any W H a n c w.heap.size W H a' n' c' (w.heap.size + 1) D w1 hp hq (by omega) (by unfold maxLen at hcm; omega) (by unfold maxLen at hcm'; omega)
  have hgood : (pairB W H n W H n' && deepB D) = true := by
    unfold pairB
    rw [en, en', validB_mk b1 b2 b3 b4 b5 hl, validB_mk b1 b2 b3 b4 b5 hl']
    simp [deepB]; omega
  rw [hgood] at h1
  have hin := Lib.hid (show inB l 1 4 = true by simp [inB]; omega)
  have h3 := fun w1 (hb : Below w.heap.size w w1) hp hq => specCoarse_any L W H D l a n c cs a' n' c' cs' w.heap.size (w.heap.size + 1) w1 hL hl1 hp hq (hv.below hb) (hv'.below hb) b1 b2 b3 b4 b5 hl hl' d1 d2
  clear hgood en en' hl hl' hv hv' hL hl1
  have l3 := hN.1
  have hPQ := Lib.hid (And.intro hP hQ)
  go_enter Try.func5, Try.ntmps5
  go_wp2_with fail
  rw [← hw0]
  clear hw0
  refine (h1 _ hP hQ).mono ?_
  rintro e w1 ⟨k, rfl, rfl⟩
  clear hP hQ
  go_wp2_with fail
  refine (specIn_any _ _ _ _).mono ?_
  rintro e w' ⟨rfl, rfl⟩
  rw [hin.out]
  go_wp2_with fail
  refine (h3 _ (below_drewN hb0 _) (hPQ.out.1.drewN _) (hPQ.out.2.drewN _)).mono ?_
  rintro e w3 ⟨a3, n3, c3, rfl, hb3, ho3⟩
  have hN3 := hN.below (undrewN hb3)
  have s3 := (undrewN hb3).size
  have s0 := hb0.size
  have hbT := hb0.trans ((undrewN hb3).mono hb0.size)
  obtain ⟨_, r0, r1, r2, rf⟩ := hN3
  go_wp2_with fail
  refine bodyPost_ret (v := ?v) ?hr rfl ?post
  case hr => (simp [results, Try.results5, go_sem, r0, r1, r2, rf]; try rfl)
  case post =>
    refine ⟨_, _, _, rfl, ?_, ?_⟩
    · ((repeat' (first | (refine bel_set ?_ ?_ _) | (refine bel_al ?_ ?_ _) | exact Below.refl _ _ | assumption | (refine below_drewN ?_ _) | (refine Below.drew ?_) | (refine Below.trans ?_ (Below.mono hbT ?_)))) <;> (first | omega | (simp; done) | (simp; omega)))
    · (refine OC.mono (base := ?bb) ?hh ?hl; (case hh => ((repeat' (first | (refine OC.set ?_ _ ?_) | (refine OC.alloc ?_ _) | exact ho3 | (refine OC.drewN ?_ _))) <;> (first | omega | (simp; done) | (simp; omega)))); (case hl => (first | omega | (simp; done) | (simp; omega))))
theorem pairCoarseToFine (W H : Int) (cs : List Nat) (W' H' : Int) (cs' : List Nat) (D l : Int) :
    ∃ (W2 H2 : Int) (cs2 : List Nat) (ok : Bool),
      (∀ a n c a' n' c' w, FC w (.slice a n c) cs → FC w (.slice a' n' c') cs' → Calls Try.prog 5 #[.agg #[.int .i64 W, .int .i64 H, .slice a n c], .agg #[.int .i64 W', .int .i64 H', .slice a' n' c'], .int .i64 D, .int .i64 l] w (RPic 61 W2 H2 cs2 ok w)) ∧
      (∀ a n c a' n' c' w, FC w (.slice a n c) cs → FC w (.slice a' n' c') cs' → Calls Try.prog 7 #[.agg #[.int .i64 W, .int .i64 H, .slice a n c], .agg #[.int .i64 W', .int .i64 H', .slice a' n' c'], .int .i64 D, .int .i64 l] w (RPic 61 W2 H2 cs2 ok w)) ∧ cs2.length ≤ 256 := by
  cases hg : (pairB W H cs.length W' H' cs'.length && deepB D) with
  | false =>
    refine ⟨0, 0, [], false, fun a n c a' n' c' w hv hv' => ?_, fun a n c a' n' c' w hv hv' => ?_, by simp⟩
    · obtain ⟨rfl, h1, h2⟩ := hv.sized
      obtain ⟨rfl, h3, h4⟩ := hv'.sized
      exact specCoarse_no W H W' H' D l a _ c a' _ c' w h1 h2 h3 h4 (.inl hg)
    · obtain ⟨rfl, h1, h2⟩ := hv.sized
      obtain ⟨rfl, h3, h4⟩ := hv'.sized
      have hor : pairB W H cs.length W' H' cs'.length = false ∨ deepB D = false := by
        cases h1 : pairB W H cs.length W' H' cs'.length <;> cases h2 : deepB D <;> simp_all
      exact implCoarse_no1 W H W' H' D l a _ c a' _ c' w fun w2 => implSquareVolume_of _ _ _ _ _ _ _ _ _ _ _ _ _ _ _ _ w2 fun w1 hb => implCompare_no W H a _ c W' H' a' _ c' D _ w1 h1 h2 h3 h4 hor
  | true =>
    simp only [Bool.and_eq_true] at hg
    obtain ⟨hval, hdp⟩ := hg
    unfold pairB at hval
    simp only [Bool.and_eq_true, decide_eq_true_eq] at hval
    obtain ⟨hv, hv', rfl, rfl⟩ := hval
    obtain ⟨Wn, Hn, rfl, rfl, b1, b2, b3, b4, b5, hl⟩ := validB_parts hv
    obtain ⟨Wm, Hm, e1, e2, _, _, _, _, _, hl'⟩ := validB_parts hv'
    obtain rfl : Wm = Wn := by omega
    obtain rfl : Hm = Hn := by omega
    have hD : 1 ≤ D ∧ D ≤ 8 := by unfold deepB at hdp; simp at hdp; omega
    obtain ⟨Dn, rfl⟩ := Int.eq_ofNat_of_zero_le (by omega : 0 ≤ D)
    have hSq := fun a n c a' n' c' w hv hv' => implSquareVolume_any Wm Hm Dn a n c cs a' n' c' cs' w hv hv' b1 b2 b3 b4 b5 hl hl' (by omega) (by omega)
    by_cases hin : 1 ≤ l ∧ l ≤ 4
    · obtain ⟨L, hL⟩ := Int.eq_ofNat_of_zero_le (a := l - 1) (by omega)
      exact ⟨_, _, _, _, fun a n c a' n' c' w hv hv' => specCoarseToFine_any L Wm Hm Dn l (by omega) (by omega) a n c cs a' n' c' cs' w hv hv' b1 b2 b3 b4 b5 hl hl' (by omega) (by omega), fun a n c a' n' c' w hv hv' => implCoarse_any L Wm Hm Dn l a n c cs a' n' c' cs' w (by omega) (by omega) hv hv' b1 b2 b3 b4 b5 hl hl' (by omega) (by omega), by rw [coarse_len]; exact b5⟩
    · refine ⟨0, 0, [], false, fun a n c a' n' c' w hv hv' => ?_, fun a n c a' n' c' w hv hv' => ?_, by simp⟩
      · obtain ⟨en, h1, h2⟩ := hv.sized
        obtain ⟨en', h3, h4⟩ := hv'.sized
        exact specCoarse_no Wm Hm Wm Hm Dn l a n c a' n' c' w h1 h2 h3 h4 (.inr (by simp [inB]; omega))
      · by_cases hlt : l < 1
        · exact implCoarse_no2 Wm Hm Wm Hm Dn l a n c a' n' c' _ _ _ _ w hlt fun w1 hb => hSq a n c a' n' c' w1 (hv.below hb) (hv'.below hb)
        · exact implCoarse_no3 Wm Hm Wm Hm Dn l a n c a' n' c' _ _ _ _ w (by omega) fun w1 hb => hSq a n c a' n' c' w1 (hv.below hb) (hv'.below hb)
end Go.Proofs.Ytblaojflcemfdaa

