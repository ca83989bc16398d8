import Derived.Test.YtaclgmafcakiiaaWj
import Derived.Test.YtaclgmafcakiiaaWa
set_option linter.unusedVariables false
set_option linter.unusedSimpArgs false
namespace Go.FX
open Go Go.RowKit
theorem fl0w : Fl .f32 0 0 := ⟨by decide, by decide⟩
def sharpV (row : List Nat) : Nat := sharpF row (winI row fun _ => true)
end Go.FX
namespace Go.Proofs.Ytaclgmafcakiiaa
open Go.FX Go.RowKit Go.WideShapes Go.ChangeShapes
attribute [local go_sem ↓] Go.wp_at_zero Go.wp_at_succ
set_option maxHeartbeats 2000000 in
theorem implSharpMap_of (W H D : Int) (a : Option Addr) (n c : Nat) (W' H' : Int) (cs' : List Nat) (ok : Bool) (w : World)
    (h : ∀ w1, Below w.heap.size w w1 → Calls Try.prog 24 #[.agg #[.int .i64 W, .int .i64 H, .int .i64 D, .slice a n c], .func (.func 25) #[] #[]] w1 (RPic 37 W' H' cs' ok w1)) :
    Calls Try.prog 9 #[.agg #[.int .i64 W, .int .i64 H, .int .i64 D, .slice a n c]] w (RPic 37 W' H' cs' ok w) := by
  go_enter Try.func9, Try.ntmps9
  go_wp2_with fail
  refine (h _ (by ((repeat' (first | (refine bel_set ?_ ?_ _) | (refine bel_al ?_ ?_ _) | exact Below.refl _ _ | assumption | (refine below_drewN ?_ _) | (refine Below.drew ?_))) <;> (first | omega | (simp; done) | (simp; omega))))).mono ?_
  rintro e w1 ⟨a1, n1, c1, rfl, hb1, ho1⟩
  have hn := (Nv.new _ _ _ _ _).below hb1
  have s1 := hb1.size
  simp only [World.size_alloc] at hn s1
  obtain ⟨l1, q0, q1, q2, qf⟩ := id hn
  go_wp2_with fail
  refine bodyPost_ret (v := ?v) ?hr rfl ?post
  case hr => (simp [results, Try.results9, go_sem, q0, q1, q2, qf]; try rfl)
  case post =>
    refine ⟨_, _, _, rfl, ?_, ?_⟩
    · ((repeat' (first | (refine bel_set ?_ ?_ _) | (refine bel_al ?_ ?_ _) | exact Below.refl _ _ | assumption | (refine below_drewN ?_ _) | (refine Below.drew ?_) | (refine Below.trans ?_ (Below.mono hb1 ?_)))) <;> (first | omega | (simp; done) | (simp; omega)))
    · (refine OC.mono (base := ?bb) ?hh ?hl; (case hh => ((repeat' (first | (refine OC.set ?_ _ ?_) | (refine OC.alloc ?_ _) | exact ho1 | (refine OC.drewN ?_ _))) <;> (first | omega | (simp; done) | (simp; omega)))); (case hl => (first | omega | (simp; done) | (simp; omega))))
theorem specSharpMap_no (W H D : Int) (a : Option Addr) (n c : Nat) (w : World) (hcm : c ≤ maxLen) (hnc : n ≤ c) (hv : volB W H D n = false) :
    Calls Try.prog 7 #[.agg #[.int .i64 W, .int .i64 H, .int .i64 D, .slice a n c]] w (RPic 37 0 0 [] false w) := by
  have h1 := fun w1 hp => specVIs_any W H D a n c w.heap.size w1 hp (by unfold maxLen at hcm; omega)
  have hv := Lib.hid hv
  go_enter Try.func7, Try.ntmps7
  go_wp2_with fail
  refine (h1 _ ((Pw.new _ _ _ _ _ _).alloc _)).mono ?_
  rintro e w1 ⟨k, rfl, rfl⟩
  rw [hv.out]
  go_wp2_with fail
  refine bodyPost_ret (v := ?v) ?hr rfl ?post
  case hr => (simp [results, Try.results7, go_sem]; try rfl)
  case post => exact ⟨_, _, _, rfl, by ((repeat' (first | (refine bel_set ?_ ?_ _) | (refine bel_al ?_ ?_ _) | exact Below.refl _ _ | assumption | (refine below_drewN ?_ _) | (refine Below.drew ?_))) <;> (first | omega | (simp; done) | (simp; omega))), OC.nil _ _ _⟩
theorem sharpFn_any (D : Nat) (d2 : D ≤ 8) (w : World) : TellFn Try.prog 25 #[] #[] D sharpV w := by
  intro w1 v row hb hv hl
  have hlt := winI_lt row (fun _ => true)
  exact sharpen_any v row _ w1 hv (by omega) hlt.1 hlt.2
set_option maxRecDepth 100000 in
set_option maxHeartbeats 8000000 in
theorem specSharpMap_any (W H D : Nat) (a : Option Addr) (n c : Nat) (cs : List Nat) (w : World) (hv : FC w (.slice a n c) cs) (b1 : 1 ≤ W) (b2 : W ≤ 24) (b3 : 1 ≤ H) (b4 : H ≤ 24) (b5 : H * W ≤ 256) (d1 : 1 ≤ D) (d2 : D ≤ 8) (hl : cs.length = H * W * D) :
    Calls Try.prog 7 #[.agg #[.int .i64 W, .int .i64 H, .int .i64 D, .slice a n c]] w (RPic 37 W H (seqL (fun i => sharpV (rowC D cs i)) (H * W)) true w) := by
  obtain ⟨rfl, hnc, hcm⟩ := hv.sized
  have hval := Lib.hid (volB_mk b1 b2 b3 b4 b5 d1 d2 hl)
  have h1 := fun w1 hp => specVIs_any W H D a cs.length c w.heap.size w1 hp (by unfold maxLen at hcm; omega)
  have h3 := fun w1 => specMFlat_any W H 0 0 fl0w w1 b1 b2 b3 b4 b5
  have hsw := fun w1 k hp hv hk => specSharp_any W H D a cs.length c w.heap.size cs k w1 hp hv hk b5 d1 d2 hl
  have h0 : 0 < H * W := Nat.mul_pos b3 b1
  obtain ⟨N, hN⟩ : ∃ N, N = H * W := ⟨_, rfl⟩
  rw [← hN] at h3 hsw h0 b5 hl ⊢
  obtain ⟨os, hos⟩ : ∃ os, os = seqL (fun _ => 0) N := ⟨_, rfl⟩
  have hol : os.length = N := by rw [hos, seqL_len]
  rw [← hos] at h3
  clear hos hl hN
  go_enter Try.func7, Try.ntmps7
  go_wp2_with fail
  have hP1 := (Pw.new w W H D (.slice a cs.length c) 30).alloc (.cells #[.int .i64 0, .int .i64 0, .slice none 0 0] 27)
  have hN1 := Nv.new (w.alloc (.cells #[.int .i64 W, .int .i64 H, .int .i64 D, .slice a cs.length c] 30)) (.int .i64 0) (.int .i64 0) (.slice none 0 0) 27
  simp only [World.size_alloc] at hN1
  refine (h1 _ hP1).mono ?_
  rintro e w1 ⟨k0, rfl, rfl⟩
  rw [hval.out]
  obtain ⟨w0, hw0⟩ : ∃ w0, w0 = ((w.alloc (.cells #[.int .i64 W, .int .i64 H, .int .i64 D, .slice a cs.length c] 30)).alloc (.cells #[.int .i64 0, .int .i64 0, .slice none 0 0] 27)).drewN k0 := ⟨_, rfl⟩
  rw [← hw0]
  have hp0 : Pw w0 w.heap.size W H D (.slice a cs.length c) := by rw [hw0]; exact hP1.drewN k0
  have hn0 : Nv w0 (w.heap.size + 1) (.int .i64 0) (.int .i64 0) (.slice none 0 0) := by rw [hw0]; exact hN1.drewN k0
  have hb0 : Below w.heap.size w w0 := by rw [hw0]; exact below_drewN (below2 _ _ _) _
  have hlt0 : w.heap.size + 1 < w0.heap.size := hn0.1
  clear hw0 hP1 hN1
  obtain ⟨hp1, p0, p1, p2, p3⟩ := id hp0
  have hpv := Lib.hid (And.intro hp0 (And.intro (hv.below hb0) (And.intro hn0 hb0)))
  clear hp0 hn0 hb0 hv h1
  go_wp2_with fail
  refine (h3 _).mono ?_
  rintro e w1 ⟨a1, n1, c1, rfl, hb1, ho1⟩
  obtain ⟨bo, hbo0⟩ : ∃ b, b = w1.heap.size := ⟨_, rfl⟩
  have hmk := Lib.hid (Mk.start1 (W := (W : Int)) (H := (H : Int)) (T := 27) hb1 ho1)
  rw [← hbo0] at hmk
  have hln := ho1.fc.sized.1.trans hol
  clear hb1 ho1 h3
  subst hln
  go_wp2_with fail
  rw [← hbo0]
  clear hbo0 p0 p1 p2 p3
  go_loopw [17] (fun i wr => ∃ k : Nat, k ≤ n1 ∧ i = .int .i64 k ∧ Hid (Mk 37 w0 bo W H (part2 (fun i => sharpV (rowC D cs i)) os k) wr)) (fun i _ => n1 - (intOf i).toNat)
  case atStart => exact ⟨0, Nat.zero_le _, rfl, by rw [part2_zero]; exact hmk⟩
  case round =>
    clear hmk
    obtain ⟨k, hk, rfl, hmk⟩ := hrel
    obtain ⟨a2, n2, c2, hN, ho, hne, hbo, hbl⟩ := hmk.out
    by_cases hlk : k < n1
    · obtain ⟨lv, e0, e1, e2, e3⟩ := hpv.out.1.below hbl
      have hlen := part2_len (fun i => sharpV (rowC D cs i)) os k (by omega)
      obtain ⟨g, cap, eg, hn2, rr⟩ := OC.own_form ho (by rw [hlen]; omega)
      obtain ⟨rfl, _, rfl⟩ := Value.slice.inj eg
      clear eg
      rw [hlen, hol] at hn2
      subst hn2
      obtain ⟨zold, holdF, hold⟩ := ho.row_at (k := k) (by rw [hlen]; omega)
      obtain ⟨_, j0, j1, j2, jf⟩ := id hN
      have hset := Lib.hid (part2_set (fun i => sharpV (rowC D cs i)) os k (by omega))
      have hput := Lib.hid (fun (r c : Nat) (hr : Fl .f32 r c) => Mk.put hN ho hne hbo hbl (k := k) (by rw [hlen]; omega) hr)
      have hfz : wr.frozen? ⟨g, k, none⟩ = false := rr _
      have hcall := fun m => hsw (wr.drewN m) k ((hpv.out.1.below hbl).drewN m) ((hpv.out.2.1.below hbl).drewN m) hlk
      have hV : Hid (sharpF (rowC D cs k) (winI (rowC D cs k) fun _ => true) = sharpV (rowC D cs k)) := Lib.hid rfl
      generalize sharpF (rowC D cs k) (winI (rowC D cs k) fun _ => true) = S at hcall hV
      have hol' := Lib.hid hol
      have g5 : (0 : Int) ≤ (k : Int) := Int.natCast_nonneg _
      have g6 : (k : Int) < (n2 : Int) := by omega
      clear hN ho hne hbl holdF hlen rr hol e0 e1 e2 e3 j0 j1 jf
      go_wp2_with fail
      refine wp_region_cls_tail 6 (by kernel_rfl) (by kernel_rfl) (by rfl) (by kernel_rfl) (by kernel_rfl) (fun w' => ∃ n, w' = wr.drewN n) ⟨1, rfl⟩ [Eq1 ?q9868u0, Eq1 ?q9868u1, Eq1 ?q9868u2, Eq1 ?q9868u3, FloatIs .f32 (S), Eq1 ?q9868u5] ?q9868main
      case q9868main =>
        simp only [List.take_succ_cons, List.take_zero]
        (refine wpR_pure ?_ (fun w hw => ?_) ?_; rfl; (obtain ⟨nn, rfl⟩ := hw; go_simp; (try with_reducible rfl)); (try simp only [Act.put, List.setIfInBounds_toArray, List.set_cons_zero, List.set_cons_succ]))
        (refine wpR_pure ?_ (fun w hw => ?_) ?_; rfl; (obtain ⟨nn, rfl⟩ := hw; go_simp; (try with_reducible rfl)); (try simp only [Act.put, List.setIfInBounds_toArray, List.set_cons_zero, List.set_cons_succ]))
        (refine wpR_pure ?_ (fun w hw => ?_) ?_; rfl; (obtain ⟨nn, rfl⟩ := hw; go_simp; (try with_reducible rfl)); (try simp only [Act.put, List.setIfInBounds_toArray, List.set_cons_zero, List.set_cons_succ]))
        (refine wpR_pure ?_ (fun w hw => ?_) ?_; rfl; (obtain ⟨nn, rfl⟩ := hw; go_simp; (try with_reducible rfl)); (try simp only [Act.put, List.setIfInBounds_toArray, List.set_cons_zero, List.set_cons_succ]))
        (refine wpR_cls ?_ (fun w hw => ?_) ?_; rfl; (obtain ⟨nn, rfl⟩ := hw; go_simp; refine (hcall _).mono ?_; rintro _ _ ⟨_, nm, rfl, rfl, hcr⟩; exact ⟨_, rfl, ⟨_, rfl, hcr⟩, nn + nm, by simp⟩); (rintro _ ⟨_, rfl, _⟩; (try simp only [Act.put, List.setIfInBounds_toArray, List.set_cons_zero, List.set_cons_succ])))
        (refine wpR_pure ?_ (fun w hw => ?_) ?_; rfl; (obtain ⟨nn, rfl⟩ := hw; go_simp; (try with_reducible rfl)); (try simp only [Act.put, List.setIfInBounds_toArray, List.set_cons_zero, List.set_cons_succ]))
        refine wpR_nil ?_
        rintro w' ⟨nn, rfl⟩
        refine wpAny_last 6 _ (by kernel_rfl) rfl rfl (by kernel_rfl) fun K hK => ?_
        go_simp
        refine hK _ _ ?_
        have hM := hput.out _ _ (show Fl .f32 _ S by assumption)
        rw [hV.out, hset.out] at hM
        have hM := Lib.hid hM
        clear hput hset
        go_wp2_with fail
        go_roundw
        case rel => exact ⟨k + 1, by omega, by go_num, by first | exact hM | exact Lib.hid (hM.out.drewN _)⟩
        case measure => simp [intOf]; omega
    · obtain rfl : k = n1 := by omega
      obtain ⟨_, f0, f1, f2, f3⟩ := hN
      obtain ⟨_, r0, r1, r2, rf⟩ := hpv.out.2.2.1.below hbl
      have hoc := Lib.hid ho
      clear ho
      go_wp2_with fail
      refine bodyPost_ret (v := ?v) ?hr rfl ?post
      case hr => (simp [results, Try.results7, go_sem, f0, f1, f2, r0, r1, r2, rf]; try rfl)
      case post =>
        have h0 := hpv.out.2.2.2
        have hoo := hoc.out
        rw [← hol, part2_end, hol] at hoo
        refine ⟨_, _, _, rfl, ?_, ?_⟩
        · ((repeat' (first | (refine bel_set ?_ ?_ _) | (refine bel_al ?_ ?_ _) | exact Below.refl _ _ | assumption | (refine below_drewN ?_ _) | (refine Below.drew ?_) | (refine Below.trans ?_ (Below.mono hbl ?_)))) <;> (first | omega | (simp; done) | (simp; omega)))
        · (refine OC.mono (base := ?bb) ?hh ?hl; (case hh => ((repeat' (first | (refine OC.set ?_ _ ?_) | (refine OC.alloc ?_ _) | exact hoo | (refine OC.drewN ?_ _))) <;> (first | omega | (simp; done) | (simp; omega)))); (case hl => (first | omega | (simp; done) | (simp; omega))))
theorem pairSharpMap (W H D : Int) (cs : List Nat) :
    ∃ (W' H' : Int) (cs' : List Nat) (ok : Bool),
      (∀ a n c w, FC w (.slice a n c) cs → Calls Try.prog 7 #[.agg #[.int .i64 W, .int .i64 H, .int .i64 D, .slice a n c]] w (RPic 37 W' H' cs' ok w)) ∧
      (∀ a n c w, FC w (.slice a n c) cs → Calls Try.prog 9 #[.agg #[.int .i64 W, .int .i64 H, .int .i64 D, .slice a n c]] w (RPic 37 W' H' cs' ok w)) ∧ cs'.length ≤ 256 := by
  cases hv : volB W H D cs.length with
  | false =>
    refine ⟨0, 0, [], false, fun a n c w hv' => ?_, fun a n c w hv' => ?_, by simp⟩
    · obtain ⟨rfl, h1, h2⟩ := hv'.sized
      exact specSharpMap_no W H D a _ c w h2 h1 hv
    · obtain ⟨rfl, h1, h2⟩ := hv'.sized
      exact implSharpMap_of _ _ _ _ _ _ _ _ _ _ w fun w1 _ => tellWinners_no W H D a _ c _ _ _ w1 h1 h2 hv
  | true =>
    obtain ⟨Wn, Hn, Dn, rfl, rfl, rfl, b1, b2, b3, b4, b5, d1, d2, hl⟩ := volB_parts hv
    refine ⟨_, _, _, _, fun a n c w hv => specSharpMap_any Wn Hn Dn a n c cs w hv b1 b2 b3 b4 b5 d1 d2 hl, fun a n c w hv => ?_, by rw [seqL_len]; exact b5⟩
    rw [← tell_cells Wn Hn Dn cs sharpV b1]
    exact implSharpMap_of _ _ _ _ _ _ _ _ _ _ w fun w1 hb => tellWinners_any Wn Hn Dn a n c cs _ _ _ sharpV w1 (hv.below hb) b1 b2 b3 b4 b5 d1 d2 hl (enters_of Try.func25 (by kernel_rfl) rfl) (sharpFn_any _ d2 _)
end Go.Proofs.Ytaclgmafcakiiaa
