import Derived.Test.YtbiobmdibiplfaaPbs
import Derived.Test.YtbiobmdibiplfaaVa
set_option linter.unusedVariables false
set_option linter.unusedSimpArgs false
namespace Go.FX
open Go Go.RowKit
/-- A picture in the making that is stored anew. -/
theorem Mk.renew {E : TypeId} {w0 w1 : World} {bo B : Nat} {W H : Int} {x y z : Value} {a : Option Addr} {n c : Nat} {cs : List Nat} (hN : Nv w1 bo x y z) (ho : OC w1 B E (.slice a n c) cs) (hB : w0.heap.size ≤ B) (hbo : w0.heap.size ≤ bo) (hlt : bo < B) (hb : Below w0.heap.size w0 w1) :
    Mk E w0 bo W H cs (((w1.setCell ⟨bo, 0, none⟩ (.int .i64 W)).setCell ⟨bo, 1, none⟩ (.int .i64 H)).setCell ⟨bo, 2, none⟩ (.slice a n c)) := by
  refine ⟨a, n, c, hN.set0.set1.set2, OC.mono (((ho.set _ hlt).set _ hlt).set _ hlt) hB, fun e => ?_, hbo, ((hb.setCell (by exact hbo) _).setCell (by exact hbo) _).setCell (by exact hbo) _⟩
  have := (ho.lt _ e).1
  omega
end Go.FX
namespace Go.Proofs.Ytbiobmdibiplfaa
open Go.FX Go.RowKit Go.WideShapes Go.ChangeShapes
attribute [local go_sem ↓] Go.wp_at_zero Go.wp_at_succ
def blurL (W H : Nat) (cs : List Nat) : List Nat := gridL W (blurF W H (gridL W (blurF W H cs 1 0) (H * W)) 0 1) (H * W)
def blurN (W H : Nat) (cs : List Nat) : Nat → List Nat
  | 0 => cs
  | k + 1 => blurL W H (blurN W H cs k)
theorem blurN_len {W H : Nat} {cs : List Nat} (hl : cs.length = H * W) : ∀ k, (blurN W H cs k).length = H * W
  | 0 => hl
  | k + 1 => by unfold blurN blurL; rw [gridL_len]

theorem aboutB_fn (W H : Nat) (a : Option Addr) (n c : Nat) (cs : List Nat) (w : World) (hv : FC w (.slice a n c) cs) (b1 : 1 ≤ W) (b2 : W ≤ 24) (b3 : 1 ≤ H) (b4 : H ≤ 24) (hl : cs.length = H * W) :
    GreyFn Try.prog 107 #[.agg #[.int .i64 W, .int .i64 H, .slice a n c]] #[] W H (atC W H cs) w := fun w1 x y hb hx hy =>
  about_any W H (.slice a n c) cs x y w1 (hv.below hb) b1 b2 b3 b4 hl (by omega) (by omega) (by omega) (by omega)
set_option maxRecDepth 100000 in
set_option maxHeartbeats 8000000 in
theorem implBlurPicture_any (W H : Nat) (a : Option Addr) (n c : Nat) (cs : List Nat) (R : Nat) (hR : R ≤ 8) (w : World) (hv : FC w (.slice a n c) cs) (b1 : 1 ≤ W) (b2 : W ≤ 24) (b3 : 1 ≤ H) (b4 : H ≤ 24) (b5 : H * W ≤ 256) (hl : cs.length = H * W) :
    Calls Try.prog 51 #[.agg #[.int .i64 W, .int .i64 H, .slice a n c], .int .i64 R] w (RPic 49 W H (blurN W H cs R) true w) := by
  obtain ⟨rfl, hnc, hcm⟩ := hv.sized
  have hval := Lib.hid (validB_mk b1 b2 b3 b4 b5 hl)
  have h1 := fun w1 => validPic_any W H (.slice a cs.length c) cs.length w1 ⟨a, c, rfl, hnc, hcm⟩
  have hG := aboutB_fn W H a _ c cs w hv b1 b2 b3 b4 hl
  have hd := fun w1 (hb : Below w.heap.size w w1) => draw_any W H b1 b2 b3 b4 b5 _ _ _ _ w1 (enters_of Try.func107 (by kernel_rfl) rfl) (hG.later hb)
  rw [gridL_at W H cs hl] at hd
  have hdA := fun (L : List Nat) (hL : L.length = H * W) a n c w1 (hv1 : FC w1 (.slice a n c) L) => draw_any W H b1 b2 b3 b4 b5 _ _ _ _ w1 (enters_of Try.func108 (by kernel_rfl) rfl) (blurredAlong_fn W H a n c L w1 hv1 b1 b2 b3 b4 hL)
  have hdD := fun (L : List Nat) (hL : L.length = H * W) a n c w1 (hv1 : FC w1 (.slice a n c) L) => draw_any W H b1 b2 b3 b4 b5 _ _ _ _ w1 (enters_of Try.func109 (by kernel_rfl) rfl) (blurredDown_fn W H a n c L w1 hv1 b1 b2 b3 b4 hL)
  have hlen := Lib.hid (fun k => blurN_len hl k)
  have r1 : ¬ (R : Int) < 0 := by omega
  have r2 : ¬ (R : Int) > 8 := by omega
  obtain ⟨w0, hw0⟩ : ∃ u, u = (w.alloc (.cells #[.int .i64 W, .int .i64 H, .slice a cs.length c] 27)).alloc (.cells #[.int .i64 0, .int .i64 0, .slice none 0 0] 27) := ⟨_, rfl⟩
  have hP0 : Pv w0 w.heap.size W H (.slice a cs.length c) := by rw [hw0]; exact (Pv.new _ _ _ _ _).alloc _
  have hN0 : Nv w0 (w.heap.size + 1) (.int .i64 0) (.int .i64 0) (.slice none 0 0) := by
    have h := Nv.new (w.alloc (.cells #[.int .i64 W, .int .i64 H, .slice a cs.length c] 27)) (.int .i64 0) (.int .i64 0) (.slice none 0 0) 27
    rw [hw0]; simpa only [World.size_alloc] using h
  have hb0 : Below w.heap.size w w0 := by rw [hw0]; exact below2 _ _ _
  have hpv := Lib.hid (And.intro hP0 (And.intro hN0 hb0))
  have hlt0 : w.heap.size + 1 < w0.heap.size := hN0.1
  clear hl hG hP0 hN0 hv
  go_enter Try.func51, Try.ntmps51
  go_wp2_with fail
  rw [← hw0]
  clear hw0
  refine (h1 _).mono ?_
  rintro e w1 ⟨rfl, hb1⟩
  rw [hval.out]
  obtain ⟨_, p0, p1, p2⟩ := hpv.out.1.below hb1
  have s1 := hb1.size
  go_wp2_with fail
  refine (hd _ (hb0.trans (hb1.mono hb0.size))).mono ?_
  rintro e w2 ⟨a1, n1, c1, rfl, hb2, ho2⟩
  have hb02 := hb1.trans (hb2.mono s1)
  have hmk := Lib.hid (Mk.start1 (W := (W : Int)) (H := (H : Int)) (T := 27) hb02 (ho2.mono s1))
  obtain ⟨bo, hbo⟩ : ∃ b, b = w2.heap.size := ⟨_, rfl⟩
  rw [← hbo] at hmk
  have hbo0 : w0.heap.size ≤ bo := by rw [hbo]; exact hb02.size
  clear ho2 hb2 hb02 hb1 p0 p1 p2 s1
  go_wp2_with fail
  rw [← hbo]
  clear hbo
  go_loopw [27] (fun i wr => ∃ k : Nat, k ≤ R ∧ i = .int .i64 k ∧ Hid (Mk 49 w0 bo W H (blurN W H cs k) wr)) (fun i _ => R - (intOf i).toNat)
  case atStart => exact ⟨0, Nat.zero_le _, rfl, hmk⟩
  case round =>
    clear hmk
    obtain ⟨k, hk, rfl, hmk⟩ := hrel
    obtain ⟨a2, n2, c2, hN, ho, hne, hbo, hbl⟩ := hmk.out
    by_cases hlk : k < R
    · obtain ⟨_, p0, p1, p2⟩ := hpv.out.1.below hbl
      obtain ⟨jl, j0, j1, j2, jf⟩ := id hN
      have hA := hdA _ (hlen.out k) a2 n2 c2 wr ho.fc
      go_wp2_with fail
      refine hA.mono ?_
      rintro e w3 ⟨a3, n3, c3, rfl, hb3, ho3⟩
      have hN3 := hN.below hb3
      obtain ⟨_, i0, i1, i2, jf3⟩ := id hN3
      have hmk3 := Mk.renew (W := (W : Int)) (H := (H : Int)) hN3 ho3 hbl.size hbo jl (hbl.trans (hb3.mono hbl.size))
      obtain ⟨X, hX⟩ : ∃ X, X = ((w3.setCell ⟨bo, 0, none⟩ (.int .i64 W)).setCell ⟨bo, 1, none⟩ (.int .i64 H)).setCell ⟨bo, 2, none⟩ (.slice a3 n3 c3) := ⟨_, rfl⟩
      rw [← hX] at hmk3
      go_upto_region 7 with fail
      rw [← hX]
      obtain ⟨a4, n4, c4, hN4, ho4, hne4, hbo4, hbl4⟩ := id hmk3
      obtain ⟨_, p0', p1', p2'⟩ := hpv.out.1.below hbl4
      obtain ⟨jl4, k0, k1, k2, kf⟩ := id hN4
      clear hX p0 p1 p2 j0 j1 j2 jf i0 i1 i2 jf3 hN3 hb3 ho3 hmk3
      have hD := hdD _ (by rw [gridL_len]) a4 n4 c4 X ho4.fc
      go_wp2_with fail
      refine hD.mono ?_
      rintro e w5 ⟨a5, n5, c5, rfl, hb5, ho5⟩
      have hN5 := hN4.below hb5
      obtain ⟨_, i0, i1, i2, jf5⟩ := id hN5
      have hmk5 := Lib.hid (Mk.renew (W := (W : Int)) (H := (H : Int)) hN5 ho5 hbl4.size hbo jl4 (hbl4.trans (hb5.mono hbl4.size)))
      clear hN hN4 ho ho4 hne hne4 hbl hbl4 hb5 ho5 hmk hN5 hA hD
      go_wp2_with fail
      go_roundw
      case rel => exact ⟨k + 1, by omega, by go_num, hmk5⟩
      case measure => simp [intOf]; omega
    · obtain rfl : k = R := by omega
      obtain ⟨_, f0, f1, f2, f3⟩ := hN
      obtain ⟨_, r0, r1, r2, rf⟩ := hpv.out.2.1.below hbl
      have hoc := Lib.hid ho
      clear ho
      go_wp2_with fail
      refine bodyPost_ret (v := ?v) ?hr rfl ?post
      case hr => (simp [results, Try.results51, go_sem, f0, f1, f2, r0, r1, r2, rf]; try rfl)
      case post =>
        have h0 := hpv.out.2.2
        have hoo := hoc.out
        refine ⟨_, _, _, rfl, ?_, ?_⟩
        · ((repeat' (first | (refine bel_set ?_ ?_ _) | (refine bel_al ?_ ?_ _) | exact Below.refl _ _ | assumption | (refine below_drewN ?_ _) | (refine Below.drew ?_) | (refine Below.trans ?_ (Below.mono hbl ?_)))) <;> (first | omega | (simp; done) | (simp; omega)))
        · (refine OC.mono (base := ?bb) ?hh ?hl; (case hh => ((repeat' (first | (refine OC.set ?_ _ ?_) | (refine OC.alloc ?_ _) | exact hoo | (refine OC.drewN ?_ _))) <;> (first | omega | (simp; done) | (simp; omega)))); (case hl => (first | omega | (simp; done) | (simp; omega))))
theorem implBlurPicture_no (W H : Int) (a : Option Addr) (n c : Nat) (R : Int) (w : World) (hnc : n ≤ c) (hcm : c ≤ maxLen) (hbad : validB W H n = false ∨ R < 0 ∨ R > 8) :
    Calls Try.prog 51 #[.agg #[.int .i64 W, .int .i64 H, .slice a n c], .int .i64 R] w (RPic 49 0 0 [] false w) := by
  have h1 := fun w1 => validPic_any W H (.slice a n c) n w1 ⟨a, c, rfl, hnc, hcm⟩
  cases hv : validB W H n with
  | false =>
    have hv := Lib.hid hv
    clear hbad
    go_enter Try.func51, Try.ntmps51
    go_wp2_with fail
    refine (h1 _).mono ?_
    rintro e w1 ⟨rfl, hb1⟩
    rw [hv.out]
    have hn := (Nv.new _ _ _ _ _).below hb1
    have s1 := hb1.size
    simp only [World.size_alloc] at hn s1
    obtain ⟨l1, q0, q1, q2, qf⟩ := id hn
    go_wp2_with fail
    refine bodyPost_ret (v := ?v) ?hr rfl ?post
    case hr => (simp [results, Try.results51, go_sem, q0, q1, q2, qf]; try rfl)
    case post => exact ⟨_, _, _, rfl, by ((repeat' (first | (refine bel_set ?_ ?_ _) | (refine bel_al ?_ ?_ _) | exact Below.refl _ _ | assumption | (refine below_drewN ?_ _) | (refine Below.drew ?_) | (refine Below.trans ?_ (Below.mono hb1 ?_)))) <;> (first | omega | (simp; done) | (simp; omega))), OC.nil _ _ _⟩
  | true =>
    have hR : R < 0 ∨ R > 8 := by rcases hbad with h | h; · rw [h] at hv; cases hv
                                  · exact h
    have hv := Lib.hid hv
    clear hbad
    by_cases h0 : R < 0
    · clear hR
      go_enter Try.func51, Try.ntmps51
      go_wp2_with fail
      refine (h1 _).mono ?_
      rintro e w1 ⟨rfl, hb1⟩
      rw [hv.out]
      have hn := (Nv.new _ _ _ _ _).below hb1
      have s1 := hb1.size
      simp only [World.size_alloc] at hn s1
      obtain ⟨l1, q0, q1, q2, qf⟩ := id hn
      go_wp2_with fail
      refine bodyPost_ret (v := ?v) ?hr rfl ?post
      case hr => (simp [results, Try.results51, go_sem, q0, q1, q2, qf]; try rfl)
      case post => exact ⟨_, _, _, rfl, by ((repeat' (first | (refine bel_set ?_ ?_ _) | (refine bel_al ?_ ?_ _) | exact Below.refl _ _ | assumption | (refine below_drewN ?_ _) | (refine Below.drew ?_) | (refine Below.trans ?_ (Below.mono hb1 ?_)))) <;> (first | omega | (simp; done) | (simp; omega))), OC.nil _ _ _⟩
    · have h8 : R > 8 := by omega
      clear hR
      go_enter Try.func51, Try.ntmps51
      go_wp2_with fail
      refine (h1 _).mono ?_
      rintro e w1 ⟨rfl, hb1⟩
      rw [hv.out]
      have hn := (Nv.new _ _ _ _ _).below hb1
      have s1 := hb1.size
      simp only [World.size_alloc] at hn s1
      obtain ⟨l1, q0, q1, q2, qf⟩ := id hn
      go_wp2_with fail
      refine bodyPost_ret (v := ?v) ?hr rfl ?post
      case hr => (simp [results, Try.results51, go_sem, q0, q1, q2, qf]; try rfl)
      case post => exact ⟨_, _, _, rfl, by ((repeat' (first | (refine bel_set ?_ ?_ _) | (refine bel_al ?_ ?_ _) | exact Below.refl _ _ | assumption | (refine below_drewN ?_ _) | (refine Below.drew ?_) | (refine Below.trans ?_ (Below.mono hb1 ?_)))) <;> (first | omega | (simp; done) | (simp; omega))), OC.nil _ _ _⟩
set_option maxRecDepth 100000 in
set_option maxHeartbeats 8000000 in
theorem specBlurPicture_any (W H : Nat) (a : Option Addr) (n c : Nat) (cs : List Nat) (R : Nat) (hR : R ≤ 8) (w : World) (hv : FC w (.slice a n c) cs) (b1 : 1 ≤ W) (b2 : W ≤ 24) (b3 : 1 ≤ H) (b4 : H ≤ 24) (b5 : H * W ≤ 256) (hl : cs.length = H * W) :
    Calls Try.prog 50 #[.agg #[.int .i64 W, .int .i64 H, .slice a n c], .int .i64 R] w (RPic 49 W H (blurN W H cs R) true w) := by
  obtain ⟨rfl, hnc, hcm⟩ := hv.sized
  have hval := Lib.hid (validB_mk b1 b2 b3 b4 b5 hl)
  have hin := Lib.hid (show inB (R : Int) 0 8 = true by simp [inB]; omega)
  have h1 := fun w1 hp => specIs_any W H a cs.length c w.heap.size w1 hp (by unfold maxLen at hcm; omega)
  have h3 := fun w1 (hb : Below w.heap.size w w1) hp => specOwn_any W H a cs.length c w.heap.size cs w1 hp (hv.below hb) (by rw [hl]; exact Nat.mul_pos b3 b1) (by omega)
  have hdB := fun (L : List Nat) (hL : L.length = H * W) a n c bp w1 (dx dy : Int) x1 x2 y1 y2 hp (hv1 : FC w1 (.slice a n c) L) => specBlur_any W H a n c bp L dx dy x1 x2 y1 y2 w1 hp hv1 b1 b2 b3 b4 b5 hL
  have hlen := Lib.hid (fun k => blurN_len hl k)
  clear hl
  have hP1 := (Pv.new w W H (.slice a cs.length c) 27).alloc (.cells #[.int .i64 0, .int .i64 0, .slice none 0 0] 27)
  have hN1 := Nv.new (w.alloc (.cells #[.int .i64 W, .int .i64 H, .slice a cs.length c] 27)) (.int .i64 0) (.int .i64 0) (.slice none 0 0) 27
  simp only [World.size_alloc] at hN1
  go_enter Try.func50, Try.ntmps50
  go_wp2_with fail
  refine (h1 _ hP1).mono ?_
  rintro e w1 ⟨k0, rfl, rfl⟩
  rw [hval.out]
  go_wp2_with fail
  refine (specIn_any _ _ _ _).mono ?_
  rintro e w' ⟨rfl, rfl⟩
  rw [hin.out]
  obtain ⟨w0, hw0⟩ : ∃ w0, w0 = ((w.alloc (.cells #[.int .i64 W, .int .i64 H, .slice a cs.length c] 27)).alloc (.cells #[.int .i64 0, .int .i64 0, .slice none 0 0] 27)).drewN k0 := ⟨_, rfl⟩
  rw [← hw0]
  have hP0 : Pv w0 w.heap.size W H (.slice a cs.length c) := by rw [hw0]; exact hP1.drewN k0
  have hN0 : Nv w0 (w.heap.size + 1) (.int .i64 0) (.int .i64 0) (.slice none 0 0) := by rw [hw0]; exact hN1.drewN k0
  have hb0 : Below w.heap.size w w0 := by rw [hw0]; exact below_drewN (below2 _ _ _) _
  have hlt0 : w.heap.size + 1 < w0.heap.size := hN0.1
  have hpv := Lib.hid (And.intro hP0 (And.intro hN0 hb0))
  have ho := h3 w0 hb0 hP0
  clear hw0 hP1 hN1 hP0 hN0 hv h1 h3
  go_wp2_with fail
  refine ho.mono ?_
  rintro e w2 ⟨a1, n1, c1, rfl, hb2, ho2⟩
  have hmk := Lib.hid (Mk.start1 (W := (W : Int)) (H := (H : Int)) (T := 27) hb2 ho2)
  obtain ⟨bo, hbo⟩ : ∃ b, b = w2.heap.size := ⟨_, rfl⟩
  rw [← hbo] at hmk
  clear ho2 hb2 ho
  go_wp2_with fail
  rw [← hbo]
  clear hbo
  go_loopw [7] (fun i wr => ∃ k : Nat, k ≤ R ∧ i = .int .i64 k ∧ Hid (Mk 49 w0 bo W H (blurN W H cs k) wr)) (fun i _ => R - (intOf i).toNat)
  case atStart => exact ⟨0, Nat.zero_le _, rfl, hmk⟩
  case round =>
    clear hmk
    obtain ⟨k, hk, rfl, hmk⟩ := hrel
    obtain ⟨a2, n2, c2, hN, ho, hne, hbo, hbl⟩ := hmk.out
    by_cases hlk : k < R
    · obtain ⟨jl, j0, j1, j2, jf⟩ := id hN
      have hPo : Pv wr bo W H (.slice a2 n2 c2) := ⟨jl, j0, j1, j2⟩
      have hA := hdB _ (hlen.out k) a2 n2 c2 bo wr 1 0 (by omega) (by omega) (by omega) (by omega) hPo ho.fc
      go_wp2_with fail
      refine hA.mono ?_
      rintro e w3 ⟨a3, n3, c3, rfl, hb3, ho3⟩
      obtain ⟨X, hX⟩ : ∃ X, X = w3.alloc (.cells #[.int .i64 W, .int .i64 H, .slice a3 n3 c3] 27) := ⟨_, rfl⟩
      have hPX : Pv X w3.heap.size W H (.slice a3 n3 c3) := by rw [hX]; exact Pv.new _ _ _ _ _
      have hoX : FC X (.slice a3 n3 c3) (gridL W (blurF W H (blurN W H cs k) 1 0) (H * W)) := by rw [hX]; exact (ho3.alloc _).fc
      have hbX : Below wr.heap.size wr X := by rw [hX]; exact hb3.alloc hb3.size _
      go_upto_region 8 with fail
      rw [← hX]
      have hNX := hN.below hbX
      obtain ⟨_, i0, i1, i2, jfX⟩ := id hNX
      clear hX j0 j1 j2 jf hb3 ho3
      have hD := hdB _ (by rw [gridL_len]) a3 n3 c3 w3.heap.size X 0 1 (by omega) (by omega) (by omega) (by omega) hPX hoX
      go_wp2_with fail
      refine hD.mono ?_
      rintro e w5 ⟨a5, n5, c5, rfl, hb5, ho5⟩
      have hN5 := hNX.below hb5
      obtain ⟨_, i0, i1, i2, jf5⟩ := id hN5
      have hblX := hbl.trans (hbX.mono hbl.size)
      have hmk5 := Lib.hid (Mk.renew (W := (W : Int)) (H := (H : Int)) hN5 ho5 hblX.size hbo (Nat.lt_of_lt_of_le jl hbX.size) (hblX.trans (hb5.mono hblX.size)))
      clear hN hNX ho hne hbl hb5 ho5 hmk hN5 hA hD hblX hbX hPX hoX
      go_wp2_with fail
      go_roundw
      case rel => exact ⟨k + 1, by omega, by go_num, hmk5⟩
      case measure => simp [intOf]; omega
    · obtain rfl : k = R := by omega
      obtain ⟨_, f0, f1, f2, f3⟩ := hN
      obtain ⟨_, r0, r1, r2, rf⟩ := hpv.out.2.1.below hbl
      have hoc := Lib.hid ho
      clear ho
      go_wp2_with fail
      refine bodyPost_ret (v := ?v) ?hr rfl ?post
      case hr => (simp [results, Try.results50, go_sem, f0, f1, f2, r0, r1, r2, rf]; try rfl)
      case post =>
        have h0 := hpv.out.2.2
        have hoo := hoc.out
        refine ⟨_, _, _, rfl, ?_, ?_⟩
        · ((repeat' (first | (refine bel_set ?_ ?_ _) | (refine bel_al ?_ ?_ _) | exact Below.refl _ _ | assumption | (refine below_drewN ?_ _) | (refine Below.drew ?_) | (refine Below.trans ?_ (Below.mono hbl ?_)))) <;> (first | omega | (simp; done) | (simp; omega)))
        · (refine OC.mono (base := ?bb) ?hh ?hl; (case hh => ((repeat' (first | (refine OC.set ?_ _ ?_) | (refine OC.alloc ?_ _) | exact hoo | (refine OC.drewN ?_ _))) <;> (first | omega | (simp; done) | (simp; omega)))); (case hl => (first | omega | (simp; done) | (simp; omega))))
theorem specBlurPicture_no (W H : Int) (a : Option Addr) (n c : Nat) (R : Int) (w : World) (hnc : n ≤ c) (hcm : c ≤ maxLen) (hbad : validB W H n = false ∨ inB R 0 8 = false) :
    Calls Try.prog 50 #[.agg #[.int .i64 W, .int .i64 H, .slice a n c], .int .i64 R] w (RPic 49 0 0 [] false w) := by
  have h1 := fun w1 hp => specIs_any W H a n c w.heap.size w1 hp (by unfold maxLen at hcm; omega)
  cases hv : validB W H n with
  | false =>
    have hv := Lib.hid hv
    go_enter Try.func50, Try.ntmps50
    go_wp2_with fail
    refine (h1 _ ((Pv.new _ _ _ _ _).alloc _)).mono ?_
    rintro e w1 ⟨k, rfl, rfl⟩
    rw [hv.out]
    go_wp2_with fail
    refine bodyPost_ret (v := ?v) ?hr rfl ?post
    case hr => (simp [results, Try.results50, go_sem]; try rfl)
    case post => exact ⟨_, _, _, rfl, by ((repeat' (first | (refine bel_set ?_ ?_ _) | (refine bel_al ?_ ?_ _) | exact Below.refl _ _ | assumption | (refine below_drewN ?_ _) | (refine Below.drew ?_))) <;> (first | omega | (simp; done) | (simp; omega))), OC.nil _ _ _⟩
  | true =>
    have hin := Lib.hid (show inB R 0 8 = false by rcases hbad with h | h; · rw [h] at hv; cases hv
                                                   · exact h)
    have hv := Lib.hid hv
    clear hbad
    go_enter Try.func50, Try.ntmps50
    go_wp2_with fail
    refine (h1 _ ((Pv.new _ _ _ _ _).alloc _)).mono ?_
    rintro e w1 ⟨k, rfl, rfl⟩
    rw [hv.out]
    go_wp2_with fail
    refine (specIn_any _ _ _ _).mono ?_
    rintro e w' ⟨rfl, rfl⟩
    rw [hin.out]
    go_wp2_with fail
    refine bodyPost_ret (v := ?v) ?hr rfl ?post
    case hr => (simp [results, Try.results50, go_sem]; try rfl)
    case post => exact ⟨_, _, _, rfl, by ((repeat' (first | (refine bel_set ?_ ?_ _) | (refine bel_al ?_ ?_ _) | exact Below.refl _ _ | assumption | (refine below_drewN ?_ _) | (refine Below.drew ?_))) <;> (first | omega | (simp; done) | (simp; omega))), OC.nil _ _ _⟩
theorem pairBlurPicture (W H : Int) (cs : List Nat) (R : Int) :
    ∃ (W' H' : Int) (cs' : List Nat) (ok : Bool),
      (∀ a n c w, FC w (.slice a n c) cs → Calls Try.prog 50 #[.agg #[.int .i64 W, .int .i64 H, .slice a n c], .int .i64 R] w (RPic 49 W' H' cs' ok w)) ∧
      (∀ a n c w, FC w (.slice a n c) cs → Calls Try.prog 51 #[.agg #[.int .i64 W, .int .i64 H, .slice a n c], .int .i64 R] w (RPic 49 W' H' cs' ok w)) ∧ cs'.length ≤ 256 := by
  by_cases hbad : validB W H cs.length = false ∨ inB R 0 8 = false
  · refine ⟨0, 0, [], false, fun a n c w hv => ?_, fun a n c w hv => ?_, by simp⟩
    · obtain ⟨rfl, h1, h2⟩ := hv.sized
      exact specBlurPicture_no W H a _ c R w h1 h2 hbad
    · obtain ⟨rfl, h1, h2⟩ := hv.sized
      exact implBlurPicture_no W H a _ c R w h1 h2 (by
        rcases hbad with h | h
        · exact .inl h
        · right; simp [inB] at h; omega)
  · have hv : validB W H cs.length = true := by cases h : validB W H cs.length; · exact absurd (.inl h) hbad
                                                · rfl
    have hd : inB R 0 8 = true := by cases h : inB R 0 8; · exact absurd (.inr h) hbad
                                     · rfl
    obtain ⟨Wn, Hn, rfl, rfl, b1, b2, b3, b4, b5, hl⟩ := validB_parts hv
    have rd : 0 ≤ R ∧ R ≤ 8 := by simpa [inB] using hd
    obtain ⟨rn, rfl⟩ := Int.eq_ofNat_of_zero_le rd.1
    exact ⟨_, _, _, _, fun a n c w hv => specBlurPicture_any Wn Hn a n c cs rn (by omega) w hv b1 b2 b3 b4 b5 hl, fun a n c w hv => implBlurPicture_any Wn Hn a n c cs rn (by omega) w hv b1 b2 b3 b4 b5 hl, by rw [blurN_len hl]; exact b5⟩
end Go.Proofs.Ytbiobmdibiplfaa
