import Derived.Test.YthnidpmolafmaaaWa
import Derived.Test.YthnidpmolafmaaaPk
import Derived.Deep.DrawnRows
set_option linter.unusedVariables false
set_option linter.unusedSimpArgs false
namespace Go.Proofs.Ythnidpmolafmaaa
open Go.FX Go.RowKit Go.WideShapes Go.ChangeShapes
attribute [local go_sem ↓] Go.wp_at_zero Go.wp_at_succ

set_option maxHeartbeats 1000000 in
theorem implMirrorMap_of (W H : Int) (a : Option Addr) (n c : Nat) (W' H' : Int) (cs' : List Nat) (ok : Bool) (w : World)
    (h : ∀ w1, Below w.heap.size w w1 → Calls Try.prog 52 #[.agg #[.int .i64 W, .int .i64 H, .slice a n c]] w1 (RPic 35 W' H' cs' ok w1)) :
    Calls Try.prog 18 #[.agg #[.int .i64 W, .int .i64 H, .slice a n c]] w (RPic 35 W' H' cs' ok w) := by
  go_enter Try.func18, Try.ntmps18
  go_wp2_with fail
  refine (mapPic_any _ _ _ _ _ _).mono ?_
  rintro e w0 ⟨rfl, hb0⟩
  have hn0 := (Nv.new _ _ _ _ _).below hb0
  have s0 := hb0.size
  simp only [World.size_alloc] at hn0 s0
  obtain ⟨l0, r0, r1, r2, rf⟩ := id hn0
  go_wp2_with fail
  refine (h _ (by ((repeat' (first | (refine bel_set ?_ ?_ _) | (refine bel_al ?_ ?_ _) | exact Below.refl _ _ | assumption | (refine below_drewN ?_ _) | (refine Below.drew ?_) | (refine Below.trans ?_ (Below.mono hb0 ?_)))) <;> (first | omega | (simp; done) | (simp; omega))))).mono ?_
  rintro e w1 ⟨a1, n1, c1, rfl, hb1, ho1⟩
  have hn := hn0.below hb1
  have s1 := hb1.size
  obtain ⟨l1, q0, q1, q2, qf⟩ := id hn
  go_wp2_with fail
  refine (mapOf_any _ _ _ _ _ _).mono ?_
  rintro e w2 ⟨rfl, hb2⟩
  obtain ⟨l2, p0, p1, p2, pf⟩ := (hn.alloc _).below hb2
  have s2 := hb2.size
  simp only [World.size_alloc] at s2
  go_wp2_with fail
  refine bodyPost_ret (v := ?v) ?hr rfl ?post
  case hr => (simp [results, Try.results18, go_sem, p0, p1, p2, pf]; try rfl)
  case post =>
    refine ⟨_, _, _, rfl, ?_, ?_⟩
    · ((repeat' (first | (refine bel_set ?_ ?_ _) | (refine bel_al ?_ ?_ _) | exact Below.refl _ _ | assumption | (refine below_drewN ?_ _) | (refine Below.drew ?_) | (refine Below.trans ?_ (Below.mono hb2 ?_)) | (refine Below.trans ?_ (Below.mono hb1 ?_)) | (refine Below.trans ?_ (Below.mono hb0 ?_)))) <;> (first | omega | (simp; done) | (simp; omega)))
    · (refine OC.mono (base := ?bb) ?hh ?hl; (case hh => ((repeat' (first | (refine OC.set ?_ _ ?_) | (refine OC.alloc ?_ _) | exact ho1 | (refine OC.drewN ?_ _) | (refine OC.below ?_ hb2))) <;> (first | omega | (simp; done) | (simp; omega)))); (case hl => (first | omega | (simp; done) | (simp; omega))))
def mirF (W H : Nat) (cs : List Nat) (i : Nat) : Nat := atC W H cs ((W : Int) - 1 - ((i % W : Nat) : Int)) ((i / W : Nat) : Int)
set_option maxRecDepth 100000 in
set_option maxHeartbeats 8000000 in
theorem specMirrorMap_any (W H : Nat) (a : Option Addr) (n c : Nat) (cs : List Nat) (w : World) (hv : FC w (.slice a n c) cs) (b1 : 1 ≤ W) (b2 : W ≤ 24) (b3 : 1 ≤ H) (b4 : H ≤ 24) (b5 : H * W ≤ 256) (hl : cs.length = H * W) :
    Calls Try.prog 16 #[.agg #[.int .i64 W, .int .i64 H, .slice a n c]] w (RPic 35 W H (gridL W (fun x y => atC W H cs ((W : Int) - 1 - x) y) (H * W)) true w) := by
  obtain ⟨rfl, hnc, hcm⟩ := hv.sized
  have hval := Lib.hid (validB_mk b1 b2 b3 b4 b5 hl)
  have h1 := fun w1 hp => specMIs_any W H a cs.length c w.heap.size w1 hp (by unfold maxLen at hcm; omega)
  have h256 : cs.length ≤ 256 := by omega
  have h0 : 0 < cs.length := by rw [hl]; exact Nat.mul_pos b3 b1
  have h3 := fun w1 (hb : Below w.heap.size w w1) hp => specMOwn_any W H a cs.length c w.heap.size cs w1 hp (hv.below hb) h0 (by omega)
  rw [gridL_seq, ← hl]
  change Calls _ _ _ _ (RPic _ _ _ (seqL (mirF W H cs) cs.length) true w)
  have hl' := Lib.hid hl
  clear hl
  go_enter Try.func16, Try.ntmps16
  go_wp2_with fail
  have hP1 := (Pv.new w W H (.slice a cs.length c) 26).alloc (.cells #[.int .i64 0, .int .i64 0, .slice none 0 0] 26)
  have hN := Nv.new (w.alloc (.cells #[.int .i64 W, .int .i64 H, .slice a cs.length c] 26)) (.int .i64 0) (.int .i64 0) (.slice none 0 0) 26
  simp only [World.size_alloc] at hN
  refine (h1 _ hP1).mono ?_
  rintro e w1 ⟨k0, rfl, rfl⟩
  rw [hval.out]
  obtain ⟨w0, hw0⟩ : ∃ w0, w0 = ((w.alloc (.cells #[.int .i64 W, .int .i64 H, .slice a cs.length c] 26)).alloc (.cells #[.int .i64 0, .int .i64 0, .slice none 0 0] 26)).drewN k0 := ⟨_, rfl⟩
  rw [← hw0]
  have hp0 : Pv w0 w.heap.size W H (.slice a cs.length c) := by rw [hw0]; exact hP1.drewN k0
  have hn0 : Nv w0 (w.heap.size + 1) (.int .i64 0) (.int .i64 0) (.slice none 0 0) := by rw [hw0]; exact hN.drewN k0
  have hb0 : Below w.heap.size w w0 := by rw [hw0]; exact below_drewN (below2 _ _ _) _
  have hlt0 : w.heap.size + 1 < w0.heap.size := hn0.1
  clear hw0 hP1 hN
  have h3 := h3 w0 hb0 hp0
  have hpv := Lib.hid (And.intro hp0 (And.intro (hv.below hb0) (And.intro hn0 hb0)))
  clear hp0 hn0 hb0 hv h1
  go_wp2_with fail
  refine h3.mono ?_
  rintro e w1 ⟨a1, n1, c1, rfl, hb1, ho1⟩
  obtain ⟨bo, hbo0⟩ : ∃ b, b = w1.heap.size := ⟨_, rfl⟩
  have hmk := Lib.hid (Mk.start1 (W := (W : Int)) (H := (H : Int)) (T := 26) hb1 ho1)
  rw [← hbo0] at hmk
  have hln := ho1.fc.sized.1
  clear hb1 ho1 h3
  subst hln
  go_wp2_with fail
  rw [← hbo0]
  clear hbo0
  go_loopw [14] (fun i wr => ∃ k : Nat, k ≤ cs.length ∧ i = .int .i64 k ∧ Hid (Mk 35 w0 bo W H (part2 (mirF W H cs) cs k) wr)) (fun i _ => cs.length - (intOf i).toNat)
  case atStart => exact ⟨0, Nat.zero_le _, rfl, by rw [part2_zero]; exact hmk⟩
  case round =>
    clear hmk
    obtain ⟨k, hk, rfl, hmk⟩ := hrel
    obtain ⟨a2, n2, c2, hN, ho, hne, hbo, hbl⟩ := hmk.out
    by_cases hlk : k < cs.length
    · obtain ⟨_, e0, e1, e2⟩ := hpv.out.1.below hbl
      have hlen := part2_len (mirF W H cs) cs k (by omega)
      obtain ⟨g, cap, eg, hn2, rr⟩ := OC.own_form ho (by rw [hlen]; omega)
      obtain ⟨rfl, _, rfl⟩ := Value.slice.inj eg
      clear eg
      rw [hlen] at hn2
      subst hn2
      obtain ⟨zold, holdF, hold⟩ := ho.row_at (k := k) (by rw [hlen]; omega)
      obtain ⟨_, j0, j1, j2, jf⟩ := id hN
      have hkl : k < H * W := by have := hl'.out; omega
      obtain ⟨x, hx⟩ : ∃ x, x = k % W := ⟨_, rfl⟩
      obtain ⟨y, hy⟩ : ∃ y, y = k / W := ⟨_, rfl⟩
      have hxl : x < W := by rw [hx]; exact Nat.mod_lt _ (by omega)
      have hyl : y < H := by rw [hy]; exact Nat.div_lt_of_lt_mul (by rw [Nat.mul_comm]; exact hkl)
      have hdm : y * W + x = k := by rw [hx, hy, Nat.mul_comm]; exact Nat.div_add_mod _ _
      have hmod : (k : Int) % (W : Int) = (x : Int) := by rw [hx, Int.natCast_emod]
      have hF : mirF W H cs k = cs.getD (y * W + (W - 1 - x)) 0 := by
        unfold mirF
        rw [← hx, ← hy, show (W : Int) - 1 - (x : Int) = ((W - 1 - x : Nat) : Int) by omega]
        exact atC_nat cs (by omega) hyl
      have hql : y * W + (W - 1 - x) < cs.length := by
        have h1 : y * W + W ≤ H * W := by rw [← Nat.succ_mul]; exact Nat.mul_le_mul_right _ hyl
        have := hl'.out
        omega
      obtain ⟨b1', off1, cc1, z1, ev1, _, _, _, hz1f, hz1c⟩ := (hpv.out.2.1.below hbl).cell hql
      simp only [Value.slice.injEq, true_and] at ev1
      obtain ⟨rfl, rfl⟩ := ev1
      rw [← hF] at hz1f
      have hset := Lib.hid (part2_set (mirF W H cs) cs k (by omega))
      have hput := Lib.hid (Mk.put hN ho hne hbo hbl (k := k) (by rw [hlen]; omega) hz1f)
      have hfz : wr.frozen? ⟨g, k, none⟩ = false := rr _
      have i1 : (0 : Int) ≤ (k : Int) := Int.natCast_nonneg _
      have i2 : (k : Int) < (cs.length : Int) := by omega
      generalize y * W = yw at hdm hql hz1c
      have s1 : IntKind.i64.wrap ((k : Int) - (x : Int)) = (k : Int) - (x : Int) := IntWalk.i64_in _ (by omega)
      have s2 : IntKind.i64.wrap ((k : Int) - (x : Int) + (W : Int)) = (k : Int) - (x : Int) + (W : Int) := IntWalk.i64_in _ (by omega)
      have s3 : IntKind.i64.wrap ((k : Int) - (x : Int) + (W : Int) - 1) = (k : Int) - (x : Int) + (W : Int) - 1 := IntWalk.i64_in _ (by omega)
      have s4 : IntKind.i64.wrap ((k : Int) - (x : Int) + (W : Int) - 1 - (x : Int)) = (k : Int) - (x : Int) + (W : Int) - 1 - (x : Int) := IntWalk.i64_in _ (by omega)
      have n0 : 0 ≤ (k : Int) - (x : Int) + (W : Int) - 1 - (x : Int) := by omega
      have n1 : (k : Int) - (x : Int) + (W : Int) - 1 - (x : Int) < (cs.length : Int) := by omega
      have n2 : ((k : Int) - (x : Int) + (W : Int) - 1 - (x : Int)).toNat = yw + (W - 1 - x) := by omega
      have hW1 : (1 : Int) ≤ (W : Int) := by omega
      have n3 : (x : Int) ≤ (k : Int) - (x : Int) + (W : Int) - 1 := by omega
      clear hN ho hne hbl holdF hlen rr hx hy hF hz1f hdm hql
      go_wp2_with fail
      try rw [hmod]
      clear hmod
      refine wp_region_cls_tail 17 (by kernel_rfl) (by kernel_rfl) (by rfl) (by kernel_rfl) (by kernel_rfl) (fun w' => ∃ n, w' = wr.drewN n) ⟨1, rfl⟩ [Eq1 ?q9048u0, Eq1 ?q9048u1, Eq1 ?q9048u2, Eq1 ?q9048u3, Eq1 ?q9048u4, Eq1 ?q9048u5, Eq1 ?q9048u6, Eq1 ?q9048u7, Eq1 ?q9048u8, Eq1 ?q9048u9, Eq1 ?q9048u10, Eq1 ?q9048u11, Eq1 ?q9048u12, Eq1 ?q9048u13, Eq1 ?q9048u14, Eq1 ?q9048u15, Eq1 ?q9048u16] ?q9048main
      case q9048main =>
        simp only [List.take_succ_cons, List.take_zero]
        (refine wpR_pure ?_ (fun w hw => ?_) ?_; rfl; (obtain ⟨nn, rfl⟩ := hw; go_simp; (try with_reducible rfl)); (try simp only [Act.put, List.setIfInBounds_toArray, List.set_cons_zero, List.set_cons_succ]))
        (refine wpR_pure ?_ (fun w hw => ?_) ?_; rfl; (obtain ⟨nn, rfl⟩ := hw; go_simp; (try with_reducible rfl)); (try simp only [Act.put, List.setIfInBounds_toArray, List.set_cons_zero, List.set_cons_succ]))
        (refine wpR_pure ?_ (fun w hw => ?_) ?_; rfl; (obtain ⟨nn, rfl⟩ := hw; go_simp; (try with_reducible rfl)); (try simp only [Act.put, List.setIfInBounds_toArray, List.set_cons_zero, List.set_cons_succ]))
        (refine wpR_pure ?_ (fun w hw => ?_) ?_; rfl; (obtain ⟨nn, rfl⟩ := hw; go_simp; (try with_reducible rfl)); (try simp only [Act.put, List.setIfInBounds_toArray, List.set_cons_zero, List.set_cons_succ]))
        (refine wpR_pure ?_ (fun w hw => ?_) ?_; rfl; (obtain ⟨nn, rfl⟩ := hw; go_simp; (try with_reducible rfl)); (try simp only [Act.put, List.setIfInBounds_toArray, List.set_cons_zero, List.set_cons_succ]))
        (refine wpR_pure ?_ (fun w hw => ?_) ?_; rfl; (obtain ⟨nn, rfl⟩ := hw; go_simp; (try with_reducible rfl)); (try simp only [Act.put, List.setIfInBounds_toArray, List.set_cons_zero, List.set_cons_succ]))
        (refine wpR_pure ?_ (fun w hw => ?_) ?_; rfl; (obtain ⟨nn, rfl⟩ := hw; go_simp; (try with_reducible rfl)); (try simp only [Act.put, List.setIfInBounds_toArray, List.set_cons_zero, List.set_cons_succ]))
        (refine wpR_pure ?_ (fun w hw => ?_) ?_; rfl; (obtain ⟨nn, rfl⟩ := hw; go_simp; (try with_reducible rfl)); (try simp only [Act.put, List.setIfInBounds_toArray, List.set_cons_zero, List.set_cons_succ]))
        (refine wpR_pure ?_ (fun w hw => ?_) ?_; rfl; (obtain ⟨nn, rfl⟩ := hw; go_simp; (try with_reducible rfl)); (try simp only [Act.put, List.setIfInBounds_toArray, List.set_cons_zero, List.set_cons_succ]))
        (refine wpR_pure ?_ (fun w hw => ?_) ?_; rfl; (obtain ⟨nn, rfl⟩ := hw; go_simp; (try with_reducible rfl)); (try simp only [Act.put, List.setIfInBounds_toArray, List.set_cons_zero, List.set_cons_succ]))
        (refine wpR_pure ?_ (fun w hw => ?_) ?_; rfl; (obtain ⟨nn, rfl⟩ := hw; go_simp; (try with_reducible rfl)); (try simp only [Act.put, List.setIfInBounds_toArray, List.set_cons_zero, List.set_cons_succ]))
        (refine wpR_pure ?_ (fun w hw => ?_) ?_; rfl; (obtain ⟨nn, rfl⟩ := hw; go_simp; (try with_reducible rfl)); (try simp only [Act.put, List.setIfInBounds_toArray, List.set_cons_zero, List.set_cons_succ]))
        (refine wpR_pure ?_ (fun w hw => ?_) ?_; rfl; (obtain ⟨nn, rfl⟩ := hw; go_simp; (try with_reducible rfl)); (try simp only [Act.put, List.setIfInBounds_toArray, List.set_cons_zero, List.set_cons_succ]))
        (refine wpR_pure ?_ (fun w hw => ?_) ?_; rfl; (obtain ⟨nn, rfl⟩ := hw; go_simp; (try with_reducible rfl)); (try simp only [Act.put, List.setIfInBounds_toArray, List.set_cons_zero, List.set_cons_succ]))
        (refine wpR_pure ?_ (fun w hw => ?_) ?_; rfl; (obtain ⟨nn, rfl⟩ := hw; go_simp; (try with_reducible rfl)); (try simp only [Act.put, List.setIfInBounds_toArray, List.set_cons_zero, List.set_cons_succ]))
        (refine wpR_pure ?_ (fun w hw => ?_) ?_; rfl; (obtain ⟨nn, rfl⟩ := hw; go_simp; (try with_reducible rfl)); (try simp only [Act.put, List.setIfInBounds_toArray, List.set_cons_zero, List.set_cons_succ]))
        (refine wpR_pure ?_ (fun w hw => ?_) ?_; rfl; (obtain ⟨nn, rfl⟩ := hw; go_simp; (try with_reducible rfl)); (try simp only [Act.put, List.setIfInBounds_toArray, List.set_cons_zero, List.set_cons_succ]))
        refine wpR_nil ?_
        rintro w' ⟨nn, rfl⟩
        refine wpAny_last 17 _ (by kernel_rfl) rfl rfl (by kernel_rfl) fun K hK => ?_
        go_simp
        refine hK _ _ ?_
        have hM := hput.out
        rw [hset.out] at hM
        have hM := Lib.hid hM
        clear hput hset s1 s2 s3 s4 n0 n1 n2 n3
        go_wp2_with fail
        go_roundw
        case rel => exact ⟨k + 1, by omega, by go_num, by first | exact hM | exact Lib.hid (hM.out.drewN _)⟩
        case measure => simp [intOf]; omega
    · obtain rfl : k = cs.length := by omega
      obtain ⟨_, f0, f1, f2, f3⟩ := hN
      obtain ⟨_, r0, r1, r2, rf⟩ := hpv.out.2.2.1.below hbl
      have hoc := Lib.hid ho
      clear ho
      go_wp2_with fail
      refine bodyPost_ret (v := ?v) ?hr rfl ?post
      case hr => (simp [results, Try.results16, go_sem, f0, f1, f2, r0, r1, r2, rf]; try rfl)
      case post =>
        have h0 := hpv.out.2.2.2
        have hoo := hoc.out
        rw [part2_end] at hoo
        refine ⟨_, _, _, rfl, ?_, ?_⟩
        · ((repeat' (first | (refine bel_set ?_ ?_ _) | (refine bel_al ?_ ?_ _) | exact Below.refl _ _ | assumption | (refine below_drewN ?_ _) | (refine Below.drew ?_) | (refine Below.trans ?_ (Below.mono hbl ?_)))) <;> (first | omega | (simp; done) | (simp; omega)))
        · (refine OC.mono (base := ?bb) ?hh ?hl; (case hh => ((repeat' (first | (refine OC.set ?_ _ ?_) | (refine OC.alloc ?_ _) | exact hoo | (refine OC.drewN ?_ _))) <;> (first | omega | (simp; done) | (simp; omega)))); (case hl => (first | omega | (simp; done) | (simp; omega))))
theorem specMirrorMap_no (W H : Int) (a : Option Addr) (n c : Nat) (w : World) (hnc : n ≤ c) (hcm : c ≤ maxLen) (hval : validB W H n = false) :
    Calls Try.prog 16 #[.agg #[.int .i64 W, .int .i64 H, .slice a n c]] w (RPic 35 0 0 [] false w) := by
  have h1 := fun w1 hp => specMIs_any W H a n c w.heap.size w1 hp (by unfold maxLen at hcm; omega)
  have hval := Lib.hid hval
  go_enter Try.func16, Try.ntmps16
  go_wp2_with fail
  refine (h1 _ ((Pv.new _ _ _ _ _).alloc _)).mono ?_
  rintro e w1 ⟨k, rfl, rfl⟩
  rw [hval.out]
  go_wp2_with fail
  refine bodyPost_ret (v := ?v) ?hr rfl ?post
  case hr => (simp [results, Try.results16, go_sem]; try rfl)
  case post => exact ⟨_, _, _, rfl, by ((repeat' (first | (refine bel_set ?_ ?_ _) | (refine bel_al ?_ ?_ _) | exact Below.refl _ _ | assumption | (refine below_drewN ?_ _) | (refine Below.drew ?_))) <;> (first | omega | (simp; done) | (simp; omega))), OC.nil _ _ _⟩
theorem pairMirrorMap (W H : Int) (cs : List Nat) :
    ∃ (W' H' : Int) (cs' : List Nat) (ok : Bool),
      (∀ a n c w, FC w (.slice a n c) cs → Calls Try.prog 16 #[.agg #[.int .i64 W, .int .i64 H, .slice a n c]] w (RPic 35 W' H' cs' ok w)) ∧
      (∀ a n c w, FC w (.slice a n c) cs → Calls Try.prog 18 #[.agg #[.int .i64 W, .int .i64 H, .slice a n c]] w (RPic 35 W' H' cs' ok w)) ∧ cs'.length ≤ 256 := by
  cases hval : validB W H cs.length with
  | true =>
    obtain ⟨wn, hn, rfl, rfl, b1, b2, b3, b4, b5, hl⟩ := validB_parts hval
    exact ⟨_, _, _, _, fun a n c w hv => specMirrorMap_any wn hn a n c cs w hv b1 b2 b3 b4 b5 hl, fun a n c w hv => implMirrorMap_of _ _ _ _ _ _ _ _ _ w fun w1 hb => implMirrorPicture_any wn hn a n c cs w1 (hv.below hb) b1 b2 b3 b4 b5 hl, by rw [gridL_len]; exact b5⟩
  | false =>
    refine ⟨0, 0, [], false, fun a n c w hv => ?_, fun a n c w hv => ?_, by simp⟩
    · obtain ⟨rfl, h1, h2⟩ := hv.sized
      exact specMirrorMap_no W H a _ c w h1 h2 hval
    · obtain ⟨rfl, h1, h2⟩ := hv.sized
      exact implMirrorMap_of _ _ _ _ _ _ _ _ _ w fun w1 hb => implMirrorPicture_no W H a _ c w1 h1 h2 hval
end Go.Proofs.Ythnidpmolafmaaa
