import Derived.Test.YthnidpmolafmaaaWa
import Derived.Test.YthnidpmolafmaaaWp
import Derived.Test.YthnidpmolafmaaaPk
import Derived.Deep.DrawnRows
set_option linter.unusedVariables false
set_option linter.unusedSimpArgs false
namespace Go.Proofs.Ythnidpmolafmaaa
open Go.FX Go.RowKit Go.WideShapes Go.ChangeShapes
attribute [local go_sem ↓] Go.wp_at_zero Go.wp_at_succ

theorem fiF (k : Int) : Fl .f32 (fi k) (fi k) := ⟨fi_lt k, cn_of_not (fi_not k)⟩
def rouF (W H : Nat) (cs : List Nat) (x y : Int) : Nat := fi (placeI (atC W H cs x y))
set_option maxHeartbeats 1000000 in
theorem rounded_fn (W H : Nat) (a : Option Addr) (n c : Nat) (cs : List Nat) (w : World) (hv : FC w (.slice a n c) cs) (b1 : 1 ≤ W) (b2 : W ≤ 24) (b3 : 1 ≤ H) (b4 : H ≤ 24) (hl : cs.length = H * W) :
    GreyFn Try.prog 73 #[.agg #[.int .i64 W, .int .i64 H, .slice a n c]] #[] W H (rouF W H cs) w := fun w1 x y hb hx hy => by
  have hat := fun w2 (h : Below w1.heap.size w1 w2) => mapAt_any W H (.slice a n c) cs x y w2 ((hv.below hb).below h) b1 b2 b4 hl hx hy
  have hE : Hid (rouF W H cs x y = fi (placeI (atC W H cs x y))) := Lib.hid rfl
  clear hv hl hb
  show Calls Try.prog 73 #[.agg #[.int .i64 W, .int .i64 H, .slice a n c], .int .i64 x, .int .i64 y] w1 _
  go_enter Try.func73, Try.ntmps73
  go_wp2_with fail
  refine (hat _ (below1 _ _)).mono ?_
  rintro e w2 ⟨r, rfl, hb2, hr⟩
  have hp := Lib.hid (placeI_fl hr)
  have s2 := hb2.size
  simp only [World.size_alloc] at s2
  go_wp2_with fail
  refine (placeOf_any _ _).mono ?_
  rintro e w3 ⟨n3, rfl, rfl⟩
  rw [hp.out]
  go_wp2_with fail
  go_ret
  exact ⟨_, rfl, by ((repeat' (first | (refine bel_set ?_ ?_ _) | (refine bel_al ?_ ?_ _) | exact Below.refl _ _ | assumption | (refine below_drewN ?_ _) | (refine Below.drew ?_) | (refine Below.trans ?_ (Below.mono hb2 ?_)))) <;> (first | omega | (simp; done) | (simp; omega))), by rw [hE.out]; exact fiF _⟩
set_option maxHeartbeats 1000000 in
theorem implRoundMap_of (W H : Int) (a : Option Addr) (n c : Nat) (W' H' : Int) (cs' : List Nat) (ok : Bool) (w : World)
    (h : ∀ w1, Below w.heap.size w w1 → Calls Try.prog 72 #[.agg #[.int .i64 W, .int .i64 H, .slice a n c], .func (.func 73) #[.agg #[.int .i64 W, .int .i64 H, .slice a n c]] #[]] w1 (RPic 35 W' H' cs' ok w1)) :
    Calls Try.prog 31 #[.agg #[.int .i64 W, .int .i64 H, .slice a n c]] w (RPic 35 W' H' cs' ok w) := by
  go_enter Try.func31, Try.ntmps31
  go_wp2_with fail
  refine (h _ (below2 _ _ _)).mono ?_
  rintro e w1 ⟨a1, n1, c1, rfl, hb1, ho1⟩
  obtain ⟨l1, q0, q1, q2, qf⟩ := (Nv.new _ _ _ _ _).below hb1
  have s1 := hb1.size
  simp only [World.size_alloc] at l1 q0 q1 q2 qf s1
  go_wp2_with fail
  refine bodyPost_ret (v := ?v) ?hr rfl ?post
  case hr => (simp [results, Try.results31, go_sem, q0, q1, q2, qf]; try rfl)
  case post =>
    refine ⟨_, _, _, rfl, ?_, ?_⟩
    · ((repeat' (first | (refine bel_set ?_ ?_ _) | (refine bel_al ?_ ?_ _) | exact Below.refl _ _ | assumption | (refine below_drewN ?_ _) | (refine Below.drew ?_) | (refine Below.trans ?_ (Below.mono hb1 ?_)))) <;> (first | omega | (simp; done) | (simp; omega)))
    · (refine OC.mono (base := ?bb) ?hh ?hl; (case hh => ((repeat' (first | (refine OC.set ?_ _ ?_) | (refine OC.alloc ?_ _) | exact ho1 | (refine OC.drewN ?_ _))) <;> (first | omega | (simp; done) | (simp; omega)))); (case hl => (first | omega | (simp; done) | (simp; omega))))
theorem implRoundMap_any (W H : Nat) (a : Option Addr) (n c : Nat) (cs : List Nat) (w : World) (hv : FC w (.slice a n c) cs) (b1 : 1 ≤ W) (b2 : W ≤ 24) (b3 : 1 ≤ H) (b4 : H ≤ 24) (b5 : H * W ≤ 256) (hl : cs.length = H * W) :
    Calls Try.prog 31 #[.agg #[.int .i64 W, .int .i64 H, .slice a n c]] w (RPic 35 W H (gridL W (rouF W H cs) (H * W)) true w) := by
  obtain ⟨rfl, hnc, hcm⟩ := hv.sized
  have hG := rounded_fn W H a _ c cs w hv b1 b2 b3 b4 hl
  refine implRoundMap_of _ _ _ _ _ _ _ _ _ w fun w1 hb1 => redraw_of _ _ _ _ _ _ _ _ _ _ _ _ w1 fun w3 hb3 => redrawAs_of _ _ _ _ _ _ _ _ _ _ _ _ _ _ w3 fun w4 hb4 => ?_
  exact drawFrom_any W H a cs.length c (validB_mk b1 b2 b3 b4 b5 hl) hnc hcm W H b1 b2 b3 b4 b5 _ _ _ _ w4 (enters_of Try.func73 (by kernel_rfl) rfl) (hG.later (hb1.trans ((hb3.trans (hb4.mono hb3.size)).mono hb1.size)))
theorem implRoundMap_no (W H : Int) (a : Option Addr) (n c : Nat) (w : World) (hnc : n ≤ c) (hcm : c ≤ maxLen) (hval : validB W H n = false) :
    Calls Try.prog 31 #[.agg #[.int .i64 W, .int .i64 H, .slice a n c]] w (RPic 35 0 0 [] false w) :=
  implRoundMap_of _ _ _ _ _ _ _ _ _ w fun w1 hb1 => redraw_of _ _ _ _ _ _ _ _ _ _ _ _ w1 fun w3 hb3 => redrawAs_of _ _ _ _ _ _ _ _ _ _ _ _ _ _ w3 fun w4 hb4 => drawFrom_no W H a n c hnc hcm W H (.inl hval) _ _ _ w4
def rouI (cs : List Nat) (i : Nat) : Nat := fi (placeI (cs.getD i 0))
theorem rou_cells (W H : Nat) (cs : List Nat) (b1 : 1 ≤ W) (hl : cs.length = H * W) : gridL W (rouF W H cs) (H * W) = seqL (rouI cs) cs.length := by
  rw [gridL_seq, hl]
  exact seqL_congr fun i hi => by unfold rouF rouI; rw [atC_lin cs b1 hi]
set_option maxRecDepth 100000 in
set_option maxHeartbeats 8000000 in
theorem specRoundMap_any (W H : Nat) (a : Option Addr) (n c : Nat) (cs : List Nat) (w : World) (hv : FC w (.slice a n c) cs) (b1 : 1 ≤ W) (b2 : W ≤ 24) (b3 : 1 ≤ H) (b4 : H ≤ 24) (b5 : H * W ≤ 256) (hl : cs.length = H * W) :
    Calls Try.prog 30 #[.agg #[.int .i64 W, .int .i64 H, .slice a n c]] w (RPic 35 W H (gridL W (rouF W H cs) (H * W)) true w) := by
  obtain ⟨rfl, hnc, hcm⟩ := hv.sized
  have hval := Lib.hid (validB_mk b1 b2 b3 b4 b5 hl)
  have h1 := fun w1 hp => specMIs_any W H a cs.length c w.heap.size w1 hp (by unfold maxLen at hcm; omega)
  have h256 : cs.length ≤ 256 := by omega
  have h0 : 0 < cs.length := by rw [hl]; exact Nat.mul_pos b3 b1
  have h3 := fun w1 (hb : Below w.heap.size w w1) hp => specMOwn_any W H a cs.length c w.heap.size cs w1 hp (hv.below hb) h0 (by omega)
  rw [rou_cells W H cs b1 hl]
  have hl' := Lib.hid hl
  clear hl
  go_enter Try.func30, Try.ntmps30
  go_wp2_with fail
  have hP1 := (Pv.new w W H (.slice a cs.length c) 26).alloc (.cells #[.int .i64 0, .int .i64 0, .slice none 0 0] 26)
  have hN := Nv.new (w.alloc (.cells #[.int .i64 W, .int .i64 H, .slice a cs.length c] 26)) (.int .i64 0) (.int .i64 0) (.slice none 0 0) 26
  simp only [World.size_alloc] at hN
  refine (h1 _ hP1).mono ?_
  rintro e w1 ⟨k0, rfl, rfl⟩
  rw [hval.out]
  obtain ⟨w0, hw0⟩ : ∃ w0, w0 = ((w.alloc (.cells #[.int .i64 W, .int .i64 H, .slice a cs.length c] 26)).alloc (.cells #[.int .i64 0, .int .i64 0, .slice none 0 0] 26)).drewN k0 := ⟨_, rfl⟩
  rw [← hw0]
  have hp0 : Pv w0 w.heap.size W H (.slice a cs.length c) := by rw [hw0]; exact hP1.drewN k0
  have hn0 : Nv w0 (w.heap.size + 1) (.int .i64 0) (.int .i64 0) (.slice none 0 0) := by rw [hw0]; exact hN.drewN k0
  have hb0 : Below w.heap.size w w0 := by rw [hw0]; exact below_drewN (below2 _ _ _) _
  have hlt0 : w.heap.size + 1 < w0.heap.size := hn0.1
  clear hw0 hP1 hN
  have h3 := h3 w0 hb0 hp0
  have hpv := Lib.hid (And.intro hp0 (And.intro (hv.below hb0) (And.intro hn0 hb0)))
  clear hp0 hn0 hb0 hv h1
  go_wp2_with fail
  refine h3.mono ?_
  rintro e w1 ⟨a1, n1, c1, rfl, hb1, ho1⟩
  obtain ⟨bo, hbo0⟩ : ∃ b, b = w1.heap.size := ⟨_, rfl⟩
  have hmk := Lib.hid (Mk.start1 (W := (W : Int)) (H := (H : Int)) (T := 26) hb1 ho1)
  rw [← hbo0] at hmk
  have hln := ho1.fc.sized.1
  clear hb1 ho1 h3
  subst hln
  go_wp2_with fail
  rw [← hbo0]
  clear hbo0
  go_loopw [13] (fun i wr => ∃ k : Nat, k ≤ cs.length ∧ i = .int .i64 k ∧ Hid (Mk 35 w0 bo W H (part2 (rouI cs) cs k) wr)) (fun i _ => cs.length - (intOf i).toNat)
  case atStart => exact ⟨0, Nat.zero_le _, rfl, by rw [part2_zero]; exact hmk⟩
  case round =>
    clear hmk
    obtain ⟨k, hk, rfl, hmk⟩ := hrel
    obtain ⟨a2, n2, c2, hN, ho, hne, hbo, hbl⟩ := hmk.out
    by_cases hlk : k < cs.length
    · obtain ⟨_, e0, e1, e2⟩ := hpv.out.1.below hbl
      have hlen := part2_len (rouI cs) cs k (by omega)
      obtain ⟨g, cap, eg, hn2, rr⟩ := OC.own_form ho (by rw [hlen]; omega)
      obtain ⟨rfl, _, rfl⟩ := Value.slice.inj eg
      clear eg
      rw [hlen] at hn2
      subst hn2
      obtain ⟨zold, holdF, hold⟩ := ho.row_at (k := k) (by rw [hlen]; omega)
      obtain ⟨_, j0, j1, j2, jf⟩ := id hN
      obtain ⟨b1', off1, cc1, z1, ev1, _, _, hbb, hz1f, hz1c⟩ := (hpv.out.2.1.below hbl).cell hlk
      simp only [Value.slice.injEq, true_and] at ev1
      obtain ⟨rfl, rfl⟩ := ev1
      have hbb0 : b1' < w0.heap.size := by
        obtain ⟨bb', off', _, _, ev', _, _, hb', _, _⟩ := hpv.out.2.1.cell hlk
        simp only [Value.slice.injEq, Option.some.injEq, Addr.mk.injEq, and_true] at ev'
        rw [ev'.1.1]; exact hb'
      have hgb : w0.heap.size ≤ g := (ho.lt g rfl).1
      have hgo : g ≠ bo := fun e => hne (by rw [e]; rfl)
      have hbp0 : w.heap.size < w0.heap.size := by omega
      obtain ⟨x1, hx1⟩ : ∃ x, x = cs.getD k 0 := ⟨_, rfl⟩
      rw [← hx1] at hz1f
      have hpl := Lib.hid (placeI_fl hz1f)
      have hF : Hid (fi (placeI x1) = rouI cs k) := Lib.hid (by rw [hx1]; rfl)
      clear hx1
      have hset := Lib.hid (part2_set (rouI cs) cs k (by omega))
      have hput := Lib.hid (Mk.put hN ho hne hbo hbl (k := k) (by rw [hlen]; omega) (fiF (placeI x1)))
      have hfz : wr.frozen? ⟨g, k, none⟩ = false := rr _
      have i1 : (0 : Int) ≤ (k : Int) := Int.natCast_nonneg _
      have i2 : (k : Int) < (cs.length : Int) := by omega
      have hbo2 : bo < wr.heap.size := hN.1
      clear hN ho hne hbl holdF hlen rr hz1f
      go_wp2_with fail
      go_region_held3 (fun w' => (∀ b o, b < w0.heap.size → w'.cell? ⟨b, o, none⟩ = wr.cell? ⟨b, o, none⟩) ∧ w'.cell? ⟨bo, 2, none⟩ = some (.slice (some ⟨g, 0, none⟩) cs.length c2))
        (first | exact ⟨fun _ _ _ => rfl, by assumption⟩ | exact ⟨fun b o h => World.cell?_setCell_far _ _ _ _ (by simp; omega), (World.cell?_setCell_far _ _ _ _ (by simp; omega)).trans (by assumption)⟩)
        ((go_at_call 71; (with_reducible refine (specPlace_any _ _).mono ?_); rintro e w2 ⟨n2, rfl, rfl⟩; rw [hpl.out]))
      have hM := hput.out
      rw [hF.out, hset.out] at hM
      rw [← hF.out] at hM
      have hM := Lib.hid hM
      clear hput hset
      go_wp2_with fail
      go_roundw
      case rel => exact ⟨k + 1, by omega, by go_num, by first | exact hM | exact Lib.hid (hM.out.drewN _)⟩
      case measure => simp [intOf]; omega
    · obtain rfl : k = cs.length := by omega
      obtain ⟨_, f0, f1, f2, f3⟩ := hN
      obtain ⟨_, r0, r1, r2, rf⟩ := hpv.out.2.2.1.below hbl
      have hoc := Lib.hid ho
      clear ho
      go_wp2_with fail
      refine bodyPost_ret (v := ?v) ?hr rfl ?post
      case hr => (simp [results, Try.results30, go_sem, f0, f1, f2, r0, r1, r2, rf]; try rfl)
      case post =>
        have h0 := hpv.out.2.2.2
        have hoo := hoc.out
        rw [part2_end] at hoo
        refine ⟨_, _, _, rfl, ?_, ?_⟩
        · ((repeat' (first | (refine bel_set ?_ ?_ _) | (refine bel_al ?_ ?_ _) | exact Below.refl _ _ | assumption | (refine below_drewN ?_ _) | (refine Below.drew ?_) | (refine Below.trans ?_ (Below.mono hbl ?_)))) <;> (first | omega | (simp; done) | (simp; omega)))
        · (refine OC.mono (base := ?bb) ?hh ?hl; (case hh => ((repeat' (first | (refine OC.set ?_ _ ?_) | (refine OC.alloc ?_ _) | exact hoo | (refine OC.drewN ?_ _))) <;> (first | omega | (simp; done) | (simp; omega)))); (case hl => (first | omega | (simp; done) | (simp; omega))))
theorem specRoundMap_no (W H : Int) (a : Option Addr) (n c : Nat) (w : World) (hnc : n ≤ c) (hcm : c ≤ maxLen) (hval : validB W H n = false) :
    Calls Try.prog 30 #[.agg #[.int .i64 W, .int .i64 H, .slice a n c]] w (RPic 35 0 0 [] false w) := by
  have h1 := fun w1 hp => specMIs_any W H a n c w.heap.size w1 hp (by unfold maxLen at hcm; omega)
  have hval := Lib.hid hval
  go_enter Try.func30, Try.ntmps30
  go_wp2_with fail
  refine (h1 _ ((Pv.new _ _ _ _ _).alloc _)).mono ?_
  rintro e w1 ⟨k, rfl, rfl⟩
  rw [hval.out]
  go_wp2_with fail
  refine bodyPost_ret (v := ?v) ?hr rfl ?post
  case hr => (simp [results, Try.results30, go_sem]; try rfl)
  case post => exact ⟨_, _, _, rfl, by ((repeat' (first | (refine bel_set ?_ ?_ _) | (refine bel_al ?_ ?_ _) | exact Below.refl _ _ | assumption | (refine below_drewN ?_ _) | (refine Below.drew ?_))) <;> (first | omega | (simp; done) | (simp; omega))), OC.nil _ _ _⟩
theorem pairRoundMap (W H : Int) (cs : List Nat) :
    ∃ (W' H' : Int) (cs' : List Nat) (ok : Bool),
      (∀ a n c w, FC w (.slice a n c) cs → Calls Try.prog 30 #[.agg #[.int .i64 W, .int .i64 H, .slice a n c]] w (RPic 35 W' H' cs' ok w)) ∧
      (∀ a n c w, FC w (.slice a n c) cs → Calls Try.prog 31 #[.agg #[.int .i64 W, .int .i64 H, .slice a n c]] w (RPic 35 W' H' cs' ok w)) ∧ cs'.length ≤ 256 := by
  cases hval : validB W H cs.length with
  | true =>
    obtain ⟨wn, hn, rfl, rfl, b1, b2, b3, b4, b5, hl⟩ := validB_parts hval
    exact ⟨_, _, _, _, fun a n c w hv => specRoundMap_any wn hn a n c cs w hv b1 b2 b3 b4 b5 hl, fun a n c w hv => implRoundMap_any wn hn a n c cs w hv b1 b2 b3 b4 b5 hl, by rw [gridL_len]; exact b5⟩
  | false =>
    refine ⟨0, 0, [], false, fun a n c w hv => ?_, fun a n c w hv => ?_, by simp⟩
    · obtain ⟨rfl, h1, h2⟩ := hv.sized
      exact specRoundMap_no W H a _ c w h1 h2 hval
    · obtain ⟨rfl, h1, h2⟩ := hv.sized
      exact implRoundMap_no W H a _ c w h1 h2 hval
end Go.Proofs.Ythnidpmolafmaaa
