import Derived.Test.YtmgdofengamcmaaR4
set_option linter.unusedVariables false
set_option linter.unusedSimpArgs false
namespace Go.Proofs.Ytmgdofengamcmaa
open Go.FX Go.RowKit Go.WideShapes Go.ChangeShapes

set_option maxRecDepth 100000 in
set_option maxHeartbeats 4000000 in
theorem specSizes_any (W H D : Int) (a : Option Addr) (n c b : Nat) (W' H' D' : Int) (a' : Option Addr) (n' c' b' : Nat) (w : World) (hp : Pw w b W H D (.slice a n c)) (hp' : Pw w b' W' H' D' (.slice a' n' c')) (hbb : b ≠ b') (hn : n ≤ 9223372036854775807) (hn' : n' ≤ 9223372036854775807) :
    Calls Try.prog 65 #[.pointer (some ⟨b, 0, none⟩), .pointer (some ⟨b', 0, none⟩)] w (RB (alikeB W H D n W' H' D' n') w) := by
  obtain ⟨ok, hok⟩ : ∃ ok : Nat → Bool, ok = fun p => if p = b then volB W H D n else volB W' H' D' n' := ⟨_, rfl⟩
  have ho1 : ok b = volB W H D n := by rw [hok]; simp
  have ho2 : ok b' = volB W' H' D' n' := by rw [hok]; simp [hbb.symm]
  have hall : ∀ k p, (p = b ∨ p = b') → Calls Try.prog 72 #[.pointer (some ⟨p, 0, none⟩)] (w.drewN k) (RB (ok p) (w.drewN k)) := fun k p hpb => by
    rcases hpb with rfl | rfl
    · rw [ho1]; exact specVIs_any W H D a n c _ (w.drewN k) (hp.drewN k) hn
    · rw [ho2]; exact specVIs_any W' H' D' a' n' c' _ (w.drewN k) (hp'.drewN k) hn'
  obtain ⟨_, p0, p1, p2, p3⟩ := id hp
  obtain ⟨_, q0, q1, q2, q3⟩ := id hp'
  clear hp hp' hok
  cases v1 : volB W H D n with
  | false =>
    have o1 := Lib.hid (ho1.trans v1)
    have o2 := o1
    clear ho1 ho2
    go_enter Try.func65, Try.ntmps65
    go_wp2_with fail
    go_quiet ((go_at_call 72; exact Calls.quiet_of ((hall _ _ (by first | exact .inl rfl | exact .inr rfl)).mono fun _ _ ⟨m, he, hw⟩ => ⟨he.trans (by first | rw [o1.out] | rw [o2.out]), m, hw⟩)))
    go_wp2
    go_ret
    exact ⟨_, by simp [alikeB, v1], rfl⟩
  | true =>
    have o1 := Lib.hid (ho1.trans v1)
    cases v2 : volB W' H' D' n' with
    | false =>
      have o2 := Lib.hid (ho2.trans v2)
      clear ho1 ho2
      go_enter Try.func65, Try.ntmps65
      go_wp2_with fail
      go_quiet ((go_at_call 72; exact Calls.quiet_of ((hall _ _ (by first | exact .inl rfl | exact .inr rfl)).mono fun _ _ ⟨m, he, hw⟩ => ⟨he.trans (by first | rw [o1.out] | rw [o2.out]), m, hw⟩)))
      go_wp2
      go_ret
      exact ⟨_, by simp [alikeB, v1, v2], rfl⟩
    | true =>
      have o2 := Lib.hid (ho2.trans v2)
      clear ho1 ho2
      by_cases e1 : W = W'
      · subst e1
        by_cases e2 : H = H'
        · subst e2
          by_cases e3 : D = D'
          · subst e3
            go_enter Try.func65, Try.ntmps65
            go_wp2_with fail
            go_quiet ((go_at_call 72; exact Calls.quiet_of ((hall _ _ (by first | exact .inl rfl | exact .inr rfl)).mono fun _ _ ⟨m, he, hw⟩ => ⟨he.trans (by first | rw [o1.out] | rw [o2.out]), m, hw⟩)))
            go_wp2
            go_ret
            exact ⟨_, by simp [alikeB, v1, v2], rfl⟩
          ·
            have f1 : (D == D') = false := by simpa using e3
            have f2 : decide (D = D') = false := by simpa using e3
            have ee := Lib.hid e3
            clear e3
            go_enter Try.func65, Try.ntmps65
            go_wp2_with fail
            go_quiet ((go_at_call 72; exact Calls.quiet_of ((hall _ _ (by first | exact .inl rfl | exact .inr rfl)).mono fun _ _ ⟨m, he, hw⟩ => ⟨he.trans (by first | rw [o1.out] | rw [o2.out]), m, hw⟩)))
            go_wp2
            go_ret
            exact ⟨_, by simp [alikeB, v1, v2, f2], rfl⟩
        ·
          have f1 : (H == H') = false := by simpa using e2
          have f2 : decide (H = H') = false := by simpa using e2
          have ee := Lib.hid e2
          clear e2
          go_enter Try.func65, Try.ntmps65
          go_wp2_with fail
          go_quiet ((go_at_call 72; exact Calls.quiet_of ((hall _ _ (by first | exact .inl rfl | exact .inr rfl)).mono fun _ _ ⟨m, he, hw⟩ => ⟨he.trans (by first | rw [o1.out] | rw [o2.out]), m, hw⟩)))
          go_wp2
          go_ret
          exact ⟨_, by simp [alikeB, v1, v2, f2], rfl⟩
      ·
        have f1 : (W == W') = false := by simpa using e1
        have f2 : decide (W = W') = false := by simpa using e1
        have ee := Lib.hid e1
        clear e1
        go_enter Try.func65, Try.ntmps65
        go_wp2_with fail
        go_quiet ((go_at_call 72; exact Calls.quiet_of ((hall _ _ (by first | exact .inl rfl | exact .inr rfl)).mono fun _ _ ⟨m, he, hw⟩ => ⟨he.trans (by first | rw [o1.out] | rw [o2.out]), m, hw⟩)))
        go_wp2
        go_ret
        exact ⟨_, by simp [alikeB, v1, v2, f2], rfl⟩
def addF (cs cs' : List Nat) (i : Nat) : Nat := fop .add .f32 (cs.getD i 0) (cs'.getD i 0)
set_option maxRecDepth 100000 in
set_option maxHeartbeats 8000000 in
theorem specSum4_any (W H D : Int) (a : Option Addr) (n c bp : Nat) (cs : List Nat) (a' : Option Addr) (n' c' bq : Nat) (cs' : List Nat) (w : World) (hp : Pw w bp W H D (.slice a n c)) (hq : Pw w bq W H D (.slice a' n' c')) (hv : FC w (.slice a n c) cs) (hv' : FC w (.slice a' n' c') cs') (hcl : cs.length ≤ 2048) (hcp : 0 < cs.length) (hll : cs'.length = cs.length) :
    Calls Try.prog 66 #[.pointer (some ⟨bp, 0, none⟩), .pointer (some ⟨bq, 0, none⟩)] w (RVol1 22 W H D (seqL (addF cs cs') cs.length) w) := by
  obtain ⟨rfl, hnc, hcm⟩ := hv.sized
  obtain ⟨rfl, hnc', hcm'⟩ := hv'.sized
  have h3 := fun w1 hp => specNew4_any W H D a cs.length c bp w1 hp hcl
  have hll := Lib.hid hll
  obtain ⟨os, hos⟩ : ∃ os, os = List.replicate cs.length 0 := ⟨_, rfl⟩
  have hol : os.length = cs.length := by rw [hos, List.length_replicate]
  rw [← hos] at h3
  clear hos
  go_enter Try.func66, Try.ntmps66
  go_wp2_with fail
  obtain ⟨w0, hw0⟩ : ∃ w0, w0 = w.alloc (.cells #[.int .i64 0, .int .i64 0, .int .i64 0, .slice none 0 0] 41) := ⟨_, rfl⟩
  rw [← hw0]
  have hp0 : Pw w0 bp W H D (.slice a cs.length c) := by rw [hw0]; exact hp.alloc _
  have hq0 : Pw w0 bq W H D (.slice a' cs'.length c') := by rw [hw0]; exact hq.alloc _
  have hv0 : FC w0 (.slice a cs.length c) cs := by rw [hw0]; exact hv.alloc _
  have hv0' : FC w0 (.slice a' cs'.length c') cs' := by rw [hw0]; exact hv'.alloc _
  have hn0 : Nw w0 w.heap.size (.int .i64 0) (.int .i64 0) (.int .i64 0) (.slice none 0 0) := by rw [hw0]; exact Nw.new _ _ _ _ _ _
  have hb0 : Below w.heap.size w w0 := by rw [hw0]; exact below1 _ _
  have hlt0 : w.heap.size < w0.heap.size := hn0.1
  clear hw0 hp hq hv hv'
  refine (h3 _ hp0).mono ?_
  rintro e w1 ⟨a1, n1, c1, rfl, hb1, ho1⟩
  obtain ⟨bo, hbo0⟩ : ∃ b, b = w1.heap.size := ⟨_, rfl⟩
  have hmk := Lib.hid (Mv.start1 (W := W) (H := H) (D := D) (T := 41) hb1 ho1)
  rw [← hbo0] at hmk
  have hln := ho1.fc.sized.1.trans hol
  have hpv := Lib.hid (And.intro hp0 (And.intro hq0 (And.intro hn0 (And.intro hv0 (And.intro hv0' hb0)))))
  clear hb1 ho1 hn0 hb0 hp0 hq0 h3 hv0 hv0'
  subst hln
  go_wp2_with fail
  rw [← hbo0]
  clear hbo0
  obtain ⟨_, e0, e1, e2, e3⟩ := hpv.out.1.below (hmk.out.choose_spec.choose_spec.choose_spec.2.2.2.2)
  go_loopw [6] (fun i wr => ∃ k : Nat, k ≤ cs.length ∧ i = .int .i64 k ∧ Hid (Mv 22 w0 bo W H D (partL (addF cs cs') os k) wr)) (fun i _ => cs.length - (intOf i).toNat)
  case atStart => exact ⟨0, Nat.zero_le _, rfl, by rw [partL_zero]; exact hmk⟩
  case round =>
    clear hmk e0 e1 e2 e3
    obtain ⟨k, hk, rfl, hmk⟩ := hrel
    obtain ⟨a2, n2, c2, hN, ho, hne, hbo, hbl⟩ := hmk.out
    obtain ⟨_, e0, e1, e2, e3⟩ := hpv.out.1.below hbl
    by_cases hlk : k < cs.length
    · have hlen := partL_len (addF cs cs') os k (by omega)
      obtain ⟨g, cap, eg, hn2, rr⟩ := OC.own_form ho (by rw [hlen]; omega)
      obtain ⟨rfl, _, rfl⟩ := Value.slice.inj eg
      clear eg
      rw [hlen, hol] at hn2
      subst hn2
      obtain ⟨zold, holdF, hold⟩ := ho.row_at (k := k) (by rw [hlen]; omega)
      obtain ⟨_, j0, j1, j2, j3, jf⟩ := id hN
      obtain ⟨_, g0, g1, g2, g3⟩ := hpv.out.2.1.below hbl
      obtain ⟨b1', off1, cc1, z1, ev1, _, _, _, hz1f, hz1c⟩ := (hpv.out.2.2.2.1.below hbl).cell hlk
      obtain ⟨b2', off2, cc2, z2, ev2, _, _, _, hz2f, hz2c⟩ := (hpv.out.2.2.2.2.1.below hbl).cell (k := k) (by rw [hll.out]; exact hlk)
      simp only [Value.slice.injEq, true_and] at ev1 ev2
      obtain ⟨rfl, rfl⟩ := ev1
      obtain ⟨rfl, rfl⟩ := ev2
      obtain ⟨x1, hx1⟩ : ∃ x, x = cs.getD k 0 := ⟨_, rfl⟩
      obtain ⟨x2, hx2⟩ : ∃ x, x = cs'.getD k 0 := ⟨_, rfl⟩
      rw [← hx1] at hz1f
      rw [← hx2] at hz2f
      have hset := Lib.hid (partL_set (addF cs cs') os k (by omega))
      have hput := Lib.hid (fun (r : Nat) (hr : Fl .f32 r (fop .add .f32 x1 x2)) => Mv.put hN ho hne hbo hbl (k := k) (by rw [hlen]; omega) hr)
      have hfz : wr.frozen? ⟨g, k, none⟩ = false := rr _
      have i1 : (0 : Int) ≤ (k : Int) := Int.natCast_nonneg _
      have i2 : (k : Int) < (cs.length : Int) := by omega
      have i3 : (k : Int) < (cs'.length : Int) := by have := hll.out; omega
      have hx1' := Lib.hid hx1
      have hx2' := Lib.hid hx2
      have hol' := Lib.hid hol
      clear hN ho hne hbl holdF hlen hmk rr hx1 hx2 hol
      go_wp2_with fail
      refine wp_region_cls_tail 19 (by kernel_rfl) (by kernel_rfl) (by rfl) (by kernel_rfl) (by kernel_rfl) (fun w' => ∃ n, w' = wr.drewN n) ⟨1, rfl⟩ [Eq1 ?q9077u0, Eq1 ?q9077u1, Eq1 ?q9077u2, Eq1 ?q9077u3, Eq1 ?q9077u4, Eq1 ?q9077u5, Eq1 ?q9077u6, Eq1 ?q9077u7, Eq1 ?q9077u8, Eq1 ?q9077u9, Eq1 ?q9077u10, Eq1 ?q9077u11, Eq1 ?q9077u12, Eq1 ?q9077u13, Eq1 ?q9077u14, Eq1 ?q9077u15, Eq1 ?q9077u16, FloatIs .f32 (fop .add .f32 x1 x2), Eq1 ?q9077u18] ?q9077main
      case q9077main =>
        simp only [List.take_succ_cons, List.take_zero]
        (refine wpR_pure ?_ (fun w hw => ?_) ?_; rfl; (obtain ⟨nn, rfl⟩ := hw; go_simp; (try with_reducible rfl)); (try simp only [Act.put, List.setIfInBounds_toArray, List.set_cons_zero, List.set_cons_succ]))
        (refine wpR_pure ?_ (fun w hw => ?_) ?_; rfl; (obtain ⟨nn, rfl⟩ := hw; go_simp; (try with_reducible rfl)); (try simp only [Act.put, List.setIfInBounds_toArray, List.set_cons_zero, List.set_cons_succ]))
        (refine wpR_pure ?_ (fun w hw => ?_) ?_; rfl; (obtain ⟨nn, rfl⟩ := hw; go_simp; (try with_reducible rfl)); (try simp only [Act.put, List.setIfInBounds_toArray, List.set_cons_zero, List.set_cons_succ]))
        (refine wpR_pure ?_ (fun w hw => ?_) ?_; rfl; (obtain ⟨nn, rfl⟩ := hw; go_simp; (try with_reducible rfl)); (try simp only [Act.put, List.setIfInBounds_toArray, List.set_cons_zero, List.set_cons_succ]))
        (refine wpR_pure ?_ (fun w hw => ?_) ?_; rfl; (obtain ⟨nn, rfl⟩ := hw; go_simp; (try with_reducible rfl)); (try simp only [Act.put, List.setIfInBounds_toArray, List.set_cons_zero, List.set_cons_succ]))
        (refine wpR_pure ?_ (fun w hw => ?_) ?_; rfl; (obtain ⟨nn, rfl⟩ := hw; go_simp; (try with_reducible rfl)); (try simp only [Act.put, List.setIfInBounds_toArray, List.set_cons_zero, List.set_cons_succ]))
        (refine wpR_pure ?_ (fun w hw => ?_) ?_; rfl; (obtain ⟨nn, rfl⟩ := hw; go_simp; (try with_reducible rfl)); (try simp only [Act.put, List.setIfInBounds_toArray, List.set_cons_zero, List.set_cons_succ]))
        (refine wpR_pure ?_ (fun w hw => ?_) ?_; rfl; (obtain ⟨nn, rfl⟩ := hw; go_simp; (try with_reducible rfl)); (try simp only [Act.put, List.setIfInBounds_toArray, List.set_cons_zero, List.set_cons_succ]))
        (refine wpR_pure ?_ (fun w hw => ?_) ?_; rfl; (obtain ⟨nn, rfl⟩ := hw; go_simp; (try with_reducible rfl)); (try simp only [Act.put, List.setIfInBounds_toArray, List.set_cons_zero, List.set_cons_succ]))
        (refine wpR_pure ?_ (fun w hw => ?_) ?_; rfl; (obtain ⟨nn, rfl⟩ := hw; go_simp; (try with_reducible rfl)); (try simp only [Act.put, List.setIfInBounds_toArray, List.set_cons_zero, List.set_cons_succ]))
        (refine wpR_pure ?_ (fun w hw => ?_) ?_; rfl; (obtain ⟨nn, rfl⟩ := hw; go_simp; (try with_reducible rfl)); (try simp only [Act.put, List.setIfInBounds_toArray, List.set_cons_zero, List.set_cons_succ]))
        (refine wpR_pure ?_ (fun w hw => ?_) ?_; rfl; (obtain ⟨nn, rfl⟩ := hw; go_simp; (try with_reducible rfl)); (try simp only [Act.put, List.setIfInBounds_toArray, List.set_cons_zero, List.set_cons_succ]))
        (refine wpR_pure ?_ (fun w hw => ?_) ?_; rfl; (obtain ⟨nn, rfl⟩ := hw; go_simp; (try with_reducible rfl)); (try simp only [Act.put, List.setIfInBounds_toArray, List.set_cons_zero, List.set_cons_succ]))
        (refine wpR_pure ?_ (fun w hw => ?_) ?_; rfl; (obtain ⟨nn, rfl⟩ := hw; go_simp; (try with_reducible rfl)); (try simp only [Act.put, List.setIfInBounds_toArray, List.set_cons_zero, List.set_cons_succ]))
        (refine wpR_pure ?_ (fun w hw => ?_) ?_; rfl; (obtain ⟨nn, rfl⟩ := hw; go_simp; (try with_reducible rfl)); (try simp only [Act.put, List.setIfInBounds_toArray, List.set_cons_zero, List.set_cons_succ]))
        (refine wpR_pure ?_ (fun w hw => ?_) ?_; rfl; (obtain ⟨nn, rfl⟩ := hw; go_simp; (try with_reducible rfl)); (try simp only [Act.put, List.setIfInBounds_toArray, List.set_cons_zero, List.set_cons_succ]))
        (refine wpR_pure ?_ (fun w hw => ?_) ?_; rfl; (obtain ⟨nn, rfl⟩ := hw; go_simp; (try with_reducible rfl)); (try simp only [Act.put, List.setIfInBounds_toArray, List.set_cons_zero, List.set_cons_succ]))
        (refine wpR_cls ?_ (fun w hw => ?_) ?_; rfl; (obtain ⟨nn, rfl⟩ := hw; go_simp; exact ⟨⟨_, rfl⟩, _, rfl, Fl.flR (by assumption) (by assumption) _⟩); (rintro _ ⟨_, rfl, _⟩; (try simp only [Act.put, List.setIfInBounds_toArray, List.set_cons_zero, List.set_cons_succ])))
        (refine wpR_pure ?_ (fun w hw => ?_) ?_; rfl; (obtain ⟨nn, rfl⟩ := hw; go_simp; (try with_reducible rfl)); (try simp only [Act.put, List.setIfInBounds_toArray, List.set_cons_zero, List.set_cons_succ]))
        refine wpR_nil ?_
        rintro w' ⟨nn, rfl⟩
        refine wpAny_last 19 _ (by kernel_rfl) rfl rfl (by kernel_rfl) fun K hK => ?_
        go_simp
        refine hK _ _ ?_
        have hM := hput.out _ (by assumption)
        have he : fop .add .f32 x1 x2 = addF cs cs' k := by rw [hx1'.out, hx2'.out]; rfl
        rw [he, hset.out] at hM
        have hM := Lib.hid hM
        clear hput hset he
        go_wp2_with fail
        go_roundw
        case rel => exact ⟨k + 1, by omega, by go_num, by first | exact hM | exact Lib.hid (hM.out.drewN _)⟩
        case measure => simp [intOf]; omega
    · obtain rfl : k = cs.length := by omega
      obtain ⟨_, f0, f1, f2, f3, f4⟩ := hN
      obtain ⟨_, r0, r1, r2, r3, rf⟩ := hpv.out.2.2.1.below hbl
      have hoc := Lib.hid ho
      clear ho
      go_wp2_with fail
      refine bodyPost_ret (v := ?v) ?hr rfl ?post
      case hr => (simp [results, Try.results66, go_sem, f0, f1, f2, f3, r0, r1, r2, r3, rf]; try rfl)
      case post =>
        have h0 := hpv.out.2.2.2.2.2
        have hoo := hoc.out
        rw [← hol, partL_end, hol] at hoo
        refine ⟨_, _, _, rfl, ?_, ?_⟩
        · ((repeat' (first | (refine bel_set ?_ ?_ _) | (refine bel_al ?_ ?_ _) | exact Below.refl _ _ | assumption | (refine below_drewN ?_ _) | (refine Below.drew ?_) | (refine Below.trans ?_ (Below.mono hbl ?_)))) <;> (first | omega | (simp; done) | (simp; omega)))
        · (refine OC.mono (base := ?bb) ?hh ?hl; (case hh => ((repeat' (first | (refine OC.set ?_ _ ?_) | (refine OC.alloc ?_ _) | exact hoo | (refine OC.drewN ?_ _))) <;> (first | omega | (simp; done) | (simp; omega)))); (case hl => (first | omega | (simp; done) | (simp; omega))))
theorem add_cells (W H D : Nat) (cs cs' : List Nat) (hl : cs.length = H * W * D) : cubeL W D (fun x y d => fop .add .f32 (costC W D cs x y d) (costC W D cs' x y d)) (H * W * D) = seqL (addF cs cs') cs.length := by
  rw [hl]
  refine seqL_congr fun i hi => ?_
  obtain ⟨_, _, _, h4⟩ := cube_place hi
  show fop .add .f32 (cs.getD ((i / D / W * W + i / D % W) * D + i % D) 0) (cs'.getD ((i / D / W * W + i / D % W) * D + i % D) 0) = _
  rw [← h4]; rfl
set_option maxRecDepth 100000 in
set_option maxHeartbeats 4000000 in
theorem add_fn (W H D : Nat) (a : Option Addr) (n c : Nat) (cs : List Nat) (a' : Option Addr) (n' c' : Nat) (cs' : List Nat) (bp bq : Nat) (w : World) (hv : FC w (.slice a n c) cs) (hp : Pw w bp W H D (.slice a n c)) (hv' : FC w (.slice a' n' c') cs') (hp' : Pw w bq W H D (.slice a' n' c')) (b1 : 1 ≤ W) (b2 : W ≤ 24) (b3 : 1 ≤ H) (b4 : H ≤ 24) (b5 : H * W ≤ 256) (d1 : 1 ≤ D) (d2 : D ≤ 8) (hl : cs.length = H * W * D) (hl' : cs'.length = H * W * D) :
    CostFn Try.prog 70 #[] #[.pointer (some ⟨bp, 0, none⟩), .pointer (some ⟨bq, 0, none⟩)] W H D (fun x y d => fop .add .f32 (costC W D cs x y d) (costC W D cs' x y d)) w := fun w1 x y d hb hx hy hd => by
  have hat := fun w2 (h : Below w1.heap.size w1 w2) => at_any W H D (.slice a n c) cs x y d w2 ((hv.below hb).below h) b1 b2 b4 b5 d1 d2 hl hx hy hd
  have hat' := fun w2 (h : Below w1.heap.size w1 w2) => at_any W H D (.slice a' n' c') cs' x y d w2 ((hv'.below hb).below h) b1 b2 b4 b5 d1 d2 hl' hx hy hd
  obtain ⟨l0, p0, p1, p2, p3⟩ := hp.below hb
  obtain ⟨l1, q0, q1, q2, q3⟩ := hp'.below hb
  clear hv hp hv' hp' hl hl' hb
  show Calls Try.prog 70 #[.int .i64 x, .int .i64 y, .int .i64 d, .pointer (some ⟨bp, 0, none⟩), .pointer (some ⟨bq, 0, none⟩)] w1 _
  go_enter Try.func70, Try.ntmps70
  go_upto_region 1 with fail
  refine wp_region_cls (by kernel_rfl) (by kernel_rfl) (by kernel_rfl) (by kernel_rfl) (fun w' => Below w1.heap.size w1 w') (below_drewN (Below.refl _ _) 1) [Eq1 ?q4679u0, Eq1 ?q4679u1, Eq1 ?q4679u2, Eq1 ?q4679u3, FloatIs .f32 (costC W D cs x y d), Eq1 ?q4679u5, Eq1 ?q4679u6, Eq1 ?q4679u7, Eq1 ?q4679u8, FloatIs .f32 (costC W D cs' x y d), FloatIs .f32 (fop .add .f32 (costC W D cs x y d) (costC W D cs' x y d)), FloatIs .f32 (fop .add .f32 (costC W D cs x y d) (costC W D cs' x y d))] ?q4679main
  case q4679main =>
    (refine wpR_pure ?_ (fun w hw => ?_) ?_; rfl; (obtain ⟨hwc, hwf⟩ := bcell2 hw; go_simp; (try with_reducible rfl)); (try simp only [Act.put, List.setIfInBounds_toArray, List.set_cons_zero, List.set_cons_succ]))
    (refine wpR_pure ?_ (fun w hw => ?_) ?_; rfl; (obtain ⟨hwc, hwf⟩ := bcell2 hw; go_simp; (try with_reducible rfl)); (try simp only [Act.put, List.setIfInBounds_toArray, List.set_cons_zero, List.set_cons_succ]))
    (refine wpR_pure ?_ (fun w hw => ?_) ?_; rfl; (obtain ⟨hwc, hwf⟩ := bcell2 hw; go_simp; (try with_reducible rfl)); (try simp only [Act.put, List.setIfInBounds_toArray, List.set_cons_zero, List.set_cons_succ]))
    (refine wpR_pure ?_ (fun w hw => ?_) ?_; rfl; (obtain ⟨hwc, hwf⟩ := bcell2 hw; go_simp; (try with_reducible rfl)); (try simp only [Act.put, List.setIfInBounds_toArray, List.set_cons_zero, List.set_cons_succ]))
    (refine wpR_cls ?_ (fun w hw => ?_) ?_; rfl; (go_simp; refine (hat _ hw).mono ?_; rintro _ _ ⟨_, rfl, hcb, hcr⟩; exact ⟨_, rfl, ⟨_, rfl, hcr⟩, Below.trans hw (hcb.mono hw.size)⟩); (rintro _ ⟨_, rfl, _⟩; (try simp only [Act.put, List.setIfInBounds_toArray, List.set_cons_zero, List.set_cons_succ])))
    (refine wpR_pure ?_ (fun w hw => ?_) ?_; rfl; (obtain ⟨hwc, hwf⟩ := bcell2 hw; go_simp; (try with_reducible rfl)); (try simp only [Act.put, List.setIfInBounds_toArray, List.set_cons_zero, List.set_cons_succ]))
    (refine wpR_pure ?_ (fun w hw => ?_) ?_; rfl; (obtain ⟨hwc, hwf⟩ := bcell2 hw; go_simp; (try with_reducible rfl)); (try simp only [Act.put, List.setIfInBounds_toArray, List.set_cons_zero, List.set_cons_succ]))
    (refine wpR_pure ?_ (fun w hw => ?_) ?_; rfl; (obtain ⟨hwc, hwf⟩ := bcell2 hw; go_simp; (try with_reducible rfl)); (try simp only [Act.put, List.setIfInBounds_toArray, List.set_cons_zero, List.set_cons_succ]))
    (refine wpR_pure ?_ (fun w hw => ?_) ?_; rfl; (obtain ⟨hwc, hwf⟩ := bcell2 hw; go_simp; (try with_reducible rfl)); (try simp only [Act.put, List.setIfInBounds_toArray, List.set_cons_zero, List.set_cons_succ]))
    (refine wpR_cls ?_ (fun w hw => ?_) ?_; rfl; (go_simp; refine (hat' _ hw).mono ?_; rintro _ _ ⟨_, rfl, hcb, hcr⟩; exact ⟨_, rfl, ⟨_, rfl, hcr⟩, Below.trans hw (hcb.mono hw.size)⟩); (rintro _ ⟨_, rfl, _⟩; (try simp only [Act.put, List.setIfInBounds_toArray, List.set_cons_zero, List.set_cons_succ])))
    (refine wpR_cls ?_ (fun w hw => ?_) ?_; rfl; (go_simp; exact ⟨below_drewN hw _, _, rfl, Fl.flR (by assumption) (by assumption) _⟩); (rintro _ ⟨_, rfl, _⟩; (try simp only [Act.put, List.setIfInBounds_toArray, List.set_cons_zero, List.set_cons_succ])))
    (refine wpR_cls ?_ (fun w hw => ?_) ?_; rfl; (go_simp; first | exact ⟨_, rfl, by assumption⟩ | exact ⟨hw, _, rfl, by assumption⟩); (rintro _ ⟨_, rfl, _⟩; (try simp only [Act.put, List.setIfInBounds_toArray, List.set_cons_zero, List.set_cons_succ])))
    refine wpR_nil ?_
    intro w' hw'
    go_wp2_with fail
    go_ret
    exact ⟨_, rfl, hw', by assumption⟩
set_option maxHeartbeats 2000000 in
theorem specAddVolumes_any (W H D : Nat) (a : Option Addr) (n c : Nat) (cs : List Nat) (a' : Option Addr) (n' c' : Nat) (cs' : List Nat) (w : World) (hv : FC w (.slice a n c) cs) (hv' : FC w (.slice a' n' c') cs') (b1 : 1 ≤ W) (b2 : W ≤ 24) (b3 : 1 ≤ H) (b4 : H ≤ 24) (b5 : H * W ≤ 256) (d1 : 1 ≤ D) (d2 : D ≤ 8) (hl : cs.length = H * W * D) (hl' : cs'.length = H * W * D) :
    Calls Try.prog 24 #[.agg #[.int .i64 W, .int .i64 H, .int .i64 D, .slice a n c], .agg #[.int .i64 W, .int .i64 H, .int .i64 D, .slice a' n' c']] w (RVol 22 W H D (seqL (addF cs cs') cs.length) true w) := by
  obtain ⟨rfl, hnc, hcm⟩ := hv.sized
  obtain ⟨rfl, hnc', hcm'⟩ := hv'.sized
  have hval := Lib.hid (alikeB_self (volB_mk b1 b2 b3 b4 b5 d1 d2 hl) (volB_mk b1 b2 b3 b4 b5 d1 d2 hl'))
  have h1 := fun w1 hp hp' => specSizes_any W H D a cs.length c w.heap.size W H D a' cs'.length c' (w.heap.size + 1) w1 hp hp' (by omega) (by unfold maxLen at hcm; omega) (by unfold maxLen at hcm'; omega)
  have hcl : cs.length ≤ 2048 := by rw [hl]; exact Nat.mul_le_mul b5 d2
  have hcp : 0 < cs.length := by rw [hl]; exact Nat.mul_pos (Nat.mul_pos b3 b1) d1
  have h3 := fun w1 (hb : Below w.heap.size w w1) hp hq => specSum4_any W H D a cs.length c w.heap.size cs a' cs'.length c' (w.heap.size + 1) cs' w1 hp hq (hv.below hb) (hv'.below hb) hcl hcp (hl'.trans hl.symm)
  clear hl hl'
  go_enter Try.func24, Try.ntmps24
  go_wp2_with fail
  have hP1 := ((Pw.new w W H D (.slice a cs.length c) 41).alloc (.cells #[.int .i64 W, .int .i64 H, .int .i64 D, .slice a' cs'.length c'] 41)).alloc (.cells #[.int .i64 0, .int .i64 0, .int .i64 0, .slice none 0 0] 41)
  have hP2 := (Pw.new (w.alloc (.cells #[.int .i64 W, .int .i64 H, .int .i64 D, .slice a cs.length c] 41)) W H D (.slice a' cs'.length c') 41).alloc (.cells #[.int .i64 0, .int .i64 0, .int .i64 0, .slice none 0 0] 41)
  have hN := Nw.new ((w.alloc (.cells #[.int .i64 W, .int .i64 H, .int .i64 D, .slice a cs.length c] 41)).alloc (.cells #[.int .i64 W, .int .i64 H, .int .i64 D, .slice a' cs'.length c'] 41)) (.int .i64 0) (.int .i64 0) (.int .i64 0) (.slice none 0 0) 41
  simp only [World.size_alloc] at hP2 hN
  refine (h1 _ hP1 hP2).mono ?_
  rintro e w1 ⟨k, rfl, rfl⟩
  rw [hval.out]
  go_wp2_with fail
  refine (h3 _ (by ((repeat' (first | (refine bel_set ?_ ?_ _) | (refine bel_al ?_ ?_ _) | exact Below.refl _ _ | assumption | (refine below_drewN ?_ _) | (refine Below.drew ?_))) <;> (first | omega | (simp; done) | (simp; omega)))) (hP1.drewN _) (hP2.drewN _)).mono ?_
  rintro e w2 ⟨a2, n2, c2, rfl, hb2, ho2⟩
  have hn := (hN.drewN k).below hb2
  have s2 := hb2.size
  simp only [World.size_alloc, World.heap_drewN] at s2
  obtain ⟨l2, q0, q1, q2, q3, qf⟩ := id hn
  go_wp2_with fail
  refine bodyPost_ret (v := ?v) ?hr rfl ?post
  case hr => (simp [results, Try.results24, go_sem, q0, q1, q2, q3, qf]; try rfl)
  case post =>
    refine ⟨_, _, _, rfl, ?_, ?_⟩
    · ((repeat' (first | (refine bel_set ?_ ?_ _) | (refine bel_al ?_ ?_ _) | exact Below.refl _ _ | assumption | (refine below_drewN ?_ _) | (refine Below.drew ?_) | (refine Below.trans ?_ (Below.mono hb2 ?_)))) <;> (first | omega | (simp; done) | (simp; omega)))
    · (refine OC.mono (base := ?bb) ?hh ?hl; (case hh => ((repeat' (first | (refine OC.set ?_ _ ?_) | (refine OC.alloc ?_ _) | exact ho2 | (refine OC.drewN ?_ _))) <;> (first | omega | (simp; done) | (simp; omega)))); (case hl => (first | omega | (simp; done) | (simp; omega))))
set_option maxHeartbeats 2000000 in
theorem implAddVolumes_any (W H D : Nat) (a : Option Addr) (n c : Nat) (cs : List Nat) (a' : Option Addr) (n' c' : Nat) (cs' : List Nat) (w : World) (hv : FC w (.slice a n c) cs) (hv' : FC w (.slice a' n' c') cs') (b1 : 1 ≤ W) (b2 : W ≤ 24) (b3 : 1 ≤ H) (b4 : H ≤ 24) (b5 : H * W ≤ 256) (d1 : 1 ≤ D) (d2 : D ≤ 8) (hl : cs.length = H * W * D) (hl' : cs'.length = H * W * D) :
    Calls Try.prog 26 #[.agg #[.int .i64 W, .int .i64 H, .int .i64 D, .slice a n c], .agg #[.int .i64 W, .int .i64 H, .int .i64 D, .slice a' n' c']] w (RVol 22 W H D (seqL (addF cs cs') cs.length) true w) := by
  obtain ⟨rfl, hnc, hcm⟩ := hv.sized
  obtain ⟨rfl, hnc', hcm'⟩ := hv'.sized
  have hval := volB_mk b1 b2 b3 b4 b5 d1 d2 hl
  have hval' := Lib.hid (volB_mk b1 b2 b3 b4 b5 d1 d2 hl')
  have h1 := fun w1 => validVol_any W H D (.slice a' cs'.length c') cs'.length w1 ⟨a', c', rfl, hnc', hcm'⟩
  have hd := fun w1 (hb : Below w.heap.size w w1) hp hp' => buildFrom_any W H D a cs.length c hval hnc hcm b1 b2 b3 b4 b5 d1 d2 _ _ _ _ w1 (enters_of Try.func70 (by kernel_rfl) rfl) (add_fn W H D a _ c cs a' _ c' cs' w.heap.size (w.heap.size + 1) w1 (hv.below hb) hp (hv'.below hb) hp' b1 b2 b3 b4 b5 d1 d2 hl hl')
  rw [add_cells W H D cs cs' hl] at hd
  clear hl hl' hval
  go_enter Try.func26, Try.ntmps26
  go_wp2_with fail
  refine (h1 _).mono ?_
  rintro e w1 ⟨rfl, hb1⟩
  rw [hval'.out]
  have hP := (((Pw.new w W H D (.slice a cs.length c) 41).alloc _).alloc _).below hb1
  have hQ := ((Pw.new (w.alloc (.cells #[.int .i64 W, .int .i64 H, .int .i64 D, .slice a cs.length c] 41)) W H D (.slice a' cs'.length c') 41).alloc _).below hb1
  have hn := (Nw.new _ _ _ _ _ _).below hb1
  have s1 := hb1.size
  simp only [World.size_alloc] at hQ hn s1
  obtain ⟨l1, p0, p1, p2, p3⟩ := id hP
  obtain ⟨l2, q0, q1, q2, q3⟩ := id hQ
  go_wp2_with fail
  refine (hasSize_any _ _ _ _ _ _ _ _ _ _ _ _ _).mono ?_
  rintro e w2 ⟨rfl, hb2⟩
  rw [show (decide ((W : Int) = W) && (decide ((H : Int) = H) && decide ((D : Int) = D))) = true by simp]
  have hP2 := hP.below hb2
  have hQ2 := hQ.below hb2
  have hn2 := hn.below hb2
  have s2 := hb2.size
  obtain ⟨l3, p4, p5, p6, p7⟩ := id hP2
  go_wp2_with fail
  refine (hd _ (by ((repeat' (first | (refine bel_set ?_ ?_ _) | (refine bel_al ?_ ?_ _) | exact Below.refl _ _ | assumption | (refine below_drewN ?_ _) | (refine Below.drew ?_) | (refine Below.trans ?_ (Below.mono hb2 ?_)) | (refine Below.trans ?_ (Below.mono hb1 ?_)))) <;> (first | omega | (simp; done) | (simp; omega)))) hP2 hQ2).mono ?_
  rintro e w3 ⟨a3, n3, c3, rfl, hb3, ho3⟩
  obtain ⟨l4, r0, r1, r2, r3, rf⟩ := hn2.below hb3
  have s3 := hb3.size
  go_wp2_with fail
  refine bodyPost_ret (v := ?v) ?hr rfl ?post
  case hr => (simp [results, Try.results26, go_sem, r0, r1, r2, r3, rf]; try rfl)
  case post =>
    refine ⟨_, _, _, rfl, ?_, ?_⟩
    · ((repeat' (first | (refine bel_set ?_ ?_ _) | (refine bel_al ?_ ?_ _) | exact Below.refl _ _ | assumption | (refine below_drewN ?_ _) | (refine Below.drew ?_) | (refine Below.trans ?_ (Below.mono hb3 ?_)) | (refine Below.trans ?_ (Below.mono hb2 ?_)) | (refine Below.trans ?_ (Below.mono hb1 ?_)))) <;> (first | omega | (simp; done) | (simp; omega)))
    · (refine OC.mono (base := ?bb) ?hh ?hl; (case hh => ((repeat' (first | (refine OC.set ?_ _ ?_) | (refine OC.alloc ?_ _) | exact ho3 | (refine OC.drewN ?_ _))) <;> (first | omega | (simp; done) | (simp; omega)))); (case hl => (first | omega | (simp; done) | (simp; omega))))
set_option maxHeartbeats 2000000 in
theorem implAddVolumes_no (W H D : Int) (a : Option Addr) (n c : Nat) (W' H' D' : Int) (a' : Option Addr) (n' c' : Nat) (w : World) (hnc : n ≤ c) (hcm : c ≤ maxLen) (hnc' : n' ≤ c') (hcm' : c' ≤ maxLen) (hval : alikeB W H D n W' H' D' n' = false) :
    Calls Try.prog 26 #[.agg #[.int .i64 W, .int .i64 H, .int .i64 D, .slice a n c], .agg #[.int .i64 W', .int .i64 H', .int .i64 D', .slice a' n' c']] w (RVol 22 0 0 0 [] false w) := by
  have h1 := fun w1 => validVol_any W' H' D' (.slice a' n' c') n' w1 ⟨a', c', rfl, hnc', hcm'⟩
  cases hv' : volB W' H' D' n' with
  | false =>
    have hv' := Lib.hid hv'
    go_enter Try.func26, Try.ntmps26
    go_wp2_with fail
    refine (h1 _).mono ?_
    rintro e w1 ⟨rfl, hb1⟩
    rw [hv'.out]
    have hn := (Nw.new _ _ _ _ _ _).below hb1
    have s1 := hb1.size
    simp only [World.size_alloc] at hn s1
    obtain ⟨l1, q0, q1, q2, q3, qf⟩ := id hn
    go_wp2_with fail
    refine bodyPost_ret (v := ?v1) ?hr1 rfl ?post1
    case hr1 => (simp [results, Try.results26, go_sem, q0, q1, q2, q3, qf]; try rfl)
    case post1 => exact ⟨_, _, _, rfl, by ((repeat' (first | (refine bel_set ?_ ?_ _) | (refine bel_al ?_ ?_ _) | exact Below.refl _ _ | assumption | (refine below_drewN ?_ _) | (refine Below.drew ?_) | (refine Below.trans ?_ (Below.mono hb1 ?_)))) <;> (first | omega | (simp; done) | (simp; omega))), OC.nil _ _ _⟩
  | true =>
    cases hsz : (decide (W = W') && (decide (H = H') && decide (D = D'))) with
    | false =>
      have hv' := Lib.hid hv'
      have hsz := Lib.hid hsz
      go_enter Try.func26, Try.ntmps26
      go_wp2_with fail
      refine (h1 _).mono ?_
      rintro e w1 ⟨rfl, hb1⟩
      rw [hv'.out]
      have hP := (((Pw.new w W H D (.slice a n c) 41).alloc _).alloc _).below hb1
      have hQ := ((Pw.new (w.alloc (.cells #[.int .i64 W, .int .i64 H, .int .i64 D, .slice a n c] 41)) W' H' D' (.slice a' n' c') 41).alloc _).below hb1
      have hn := (Nw.new _ _ _ _ _ _).below hb1
      have s1 := hb1.size
      simp only [World.size_alloc] at hQ hn s1
      obtain ⟨l1, p0, p1, p2, p3⟩ := id hP
      obtain ⟨l2, q0, q1, q2, q3⟩ := id hQ
      go_wp2_with fail
      refine (hasSize_any _ _ _ _ _ _ _ _ _ _ _ _ _).mono ?_
      rintro e w2 ⟨rfl, hb2⟩
      rw [hsz.out]
      obtain ⟨l4, r0, r1, r2, r3, rf⟩ := hn.below hb2
      have s2 := hb2.size
      go_wp2_with fail
      refine bodyPost_ret (v := ?v2) ?hr2 rfl ?post2
      case hr2 => (simp [results, Try.results26, go_sem, r0, r1, r2, r3, rf]; try rfl)
      case post2 => exact ⟨_, _, _, rfl, by ((repeat' (first | (refine bel_set ?_ ?_ _) | (refine bel_al ?_ ?_ _) | exact Below.refl _ _ | assumption | (refine below_drewN ?_ _) | (refine Below.drew ?_) | (refine Below.trans ?_ (Below.mono hb2 ?_)) | (refine Below.trans ?_ (Below.mono hb1 ?_)))) <;> (first | omega | (simp; done) | (simp; omega))), OC.nil _ _ _⟩
    | true =>
      have hv : volB W H D n = false := by
        cases h : volB W H D n with
        | false => rfl
        | true => unfold alikeB at hval; rw [h, hv', hsz] at hval; cases hval
      have hd := fun w1 first cap => buildFrom_no W H D a n c hnc hcm hv (.func 70) first cap w1
      have hv' := Lib.hid hv'
      have hsz := Lib.hid hsz
      clear hv hval
      go_enter Try.func26, Try.ntmps26
      go_wp2_with fail
      refine (h1 _).mono ?_
      rintro e w1 ⟨rfl, hb1⟩
      rw [hv'.out]
      have hP := (((Pw.new w W H D (.slice a n c) 41).alloc _).alloc _).below hb1
      have hQ := ((Pw.new (w.alloc (.cells #[.int .i64 W, .int .i64 H, .int .i64 D, .slice a n c] 41)) W' H' D' (.slice a' n' c') 41).alloc _).below hb1
      have hn := (Nw.new _ _ _ _ _ _).below hb1
      have s1 := hb1.size
      simp only [World.size_alloc] at hQ hn s1
      obtain ⟨l1, p0, p1, p2, p3⟩ := id hP
      obtain ⟨l2, q0, q1, q2, q3⟩ := id hQ
      go_wp2_with fail
      refine (hasSize_any _ _ _ _ _ _ _ _ _ _ _ _ _).mono ?_
      rintro e w2 ⟨rfl, hb2⟩
      rw [hsz.out]
      have hn2 := hn.below hb2
      have s2 := hb2.size
      obtain ⟨l3, p4, p5, p6, p7⟩ := hP.below hb2
      go_wp2_with fail
      refine (hd _ _ _).mono ?_
      rintro e w3 ⟨a3, n3, c3, rfl, hb3, ho3⟩
      obtain ⟨l4, r0, r1, r2, r3, rf⟩ := hn2.below hb3
      have s3 := hb3.size
      go_wp2_with fail
      refine bodyPost_ret (v := ?v3) ?hr3 rfl ?post3
      case hr3 => (simp [results, Try.results26, go_sem, r0, r1, r2, r3, rf]; try rfl)
      case post3 =>
        refine ⟨_, _, _, rfl, ?_, ?_⟩
        · ((repeat' (first | (refine bel_set ?_ ?_ _) | (refine bel_al ?_ ?_ _) | exact Below.refl _ _ | assumption | (refine below_drewN ?_ _) | (refine Below.drew ?_) | (refine Below.trans ?_ (Below.mono hb3 ?_)) | (refine Below.trans ?_ (Below.mono hb2 ?_)) | (refine Below.trans ?_ (Below.mono hb1 ?_)))) <;> (first | omega | (simp; done) | (simp; omega)))
        · (refine OC.mono (base := ?bb) ?hh ?hl; (case hh => ((repeat' (first | (refine OC.set ?_ _ ?_) | (refine OC.alloc ?_ _) | exact ho3 | (refine OC.drewN ?_ _))) <;> (first | omega | (simp; done) | (simp; omega)))); (case hl => (first | omega | (simp; done) | (simp; omega))))
theorem specAddVolumes_no (W H D : Int) (a : Option Addr) (n c : Nat) (W' H' D' : Int) (a' : Option Addr) (n' c' : Nat) (w : World) (hnc : n ≤ c) (hcm : c ≤ maxLen) (hnc' : n' ≤ c') (hcm' : c' ≤ maxLen) (hval : alikeB W H D n W' H' D' n' = false) :
    Calls Try.prog 24 #[.agg #[.int .i64 W, .int .i64 H, .int .i64 D, .slice a n c], .agg #[.int .i64 W', .int .i64 H', .int .i64 D', .slice a' n' c']] w (RVol 22 0 0 0 [] false w) := by
  have h1 := fun w1 hp hp' => specSizes_any W H D a n c w.heap.size W' H' D' a' n' c' (w.heap.size + 1) w1 hp hp' (by omega) (by unfold maxLen at hcm; omega) (by unfold maxLen at hcm'; omega)
  have hval := Lib.hid hval
  go_enter Try.func24, Try.ntmps24
  go_wp2_with fail
  have hP1 := ((Pw.new w W H D (.slice a n c) 41).alloc (.cells #[.int .i64 W', .int .i64 H', .int .i64 D', .slice a' n' c'] 41)).alloc (.cells #[.int .i64 0, .int .i64 0, .int .i64 0, .slice none 0 0] 41)
  have hP2 := (Pw.new (w.alloc (.cells #[.int .i64 W, .int .i64 H, .int .i64 D, .slice a n c] 41)) W' H' D' (.slice a' n' c') 41).alloc (.cells #[.int .i64 0, .int .i64 0, .int .i64 0, .slice none 0 0] 41)
  simp only [World.size_alloc] at hP2
  refine (h1 _ hP1 hP2).mono ?_
  rintro e w1 ⟨k, rfl, rfl⟩
  rw [hval.out]
  go_wp2_with fail
  refine bodyPost_ret (v := ?v) ?hr rfl ?post
  case hr => (simp [results, Try.results24, go_sem]; try rfl)
  case post => exact ⟨_, _, _, rfl, by ((repeat' (first | (refine bel_set ?_ ?_ _) | (refine bel_al ?_ ?_ _) | exact Below.refl _ _ | assumption | (refine below_drewN ?_ _) | (refine Below.drew ?_))) <;> (first | omega | (simp; done) | (simp; omega))), OC.nil _ _ _⟩
theorem pairAddVolumes (W H D : Int) (cs : List Nat) (W' H' D' : Int) (cs' : List Nat) :
    ∃ (W2 H2 D2 : Int) (cs2 : List Nat) (ok : Bool),
      (∀ a n c a' n' c' w, FC w (.slice a n c) cs → FC w (.slice a' n' c') cs' → Calls Try.prog 24 #[.agg #[.int .i64 W, .int .i64 H, .int .i64 D, .slice a n c], .agg #[.int .i64 W', .int .i64 H', .int .i64 D', .slice a' n' c']] w (RVol 22 W2 H2 D2 cs2 ok w)) ∧
      (∀ a n c a' n' c' w, FC w (.slice a n c) cs → FC w (.slice a' n' c') cs' → Calls Try.prog 26 #[.agg #[.int .i64 W, .int .i64 H, .int .i64 D, .slice a n c], .agg #[.int .i64 W', .int .i64 H', .int .i64 D', .slice a' n' c']] w (RVol 22 W2 H2 D2 cs2 ok w)) ∧ cs2.length ≤ 2048 := by
  cases hv : alikeB W H D cs.length W' H' D' cs'.length with
  | false =>
    refine ⟨0, 0, 0, [], false, fun a n c a' n' c' w hv hv' => ?_, fun a n c a' n' c' w hv hv' => ?_, by simp⟩
    · obtain ⟨rfl, h1, h2⟩ := hv.sized
      obtain ⟨rfl, h3, h4⟩ := hv'.sized
      exact specAddVolumes_no W H D a _ c W' H' D' a' _ c' w h1 h2 h3 h4 (by assumption)
    · obtain ⟨rfl, h1, h2⟩ := hv.sized
      obtain ⟨rfl, h3, h4⟩ := hv'.sized
      exact implAddVolumes_no W H D a _ c W' H' D' a' _ c' w h1 h2 h3 h4 (by assumption)
  | true =>
    unfold alikeB at hv
    simp only [Bool.and_eq_true, decide_eq_true_eq] at hv
    obtain ⟨hv, hv', rfl, rfl, rfl⟩ := hv
    obtain ⟨Wn, Hn, Dn, rfl, rfl, rfl, b1, b2, b3, b4, b5, d1, d2, hl⟩ := volB_parts hv
    obtain ⟨Wm, Hm, Dm, e1, e2, e3, _, _, _, _, _, _, _, hl'⟩ := volB_parts hv'
    obtain rfl : Wm = Wn := by omega
    obtain rfl : Hm = Hn := by omega
    obtain rfl : Dm = Dn := by omega
    exact ⟨_, _, _, _, _, fun a n c a' n' c' w hv hv' => specAddVolumes_any Wm Hm Dm a n c cs a' n' c' cs' w hv hv' b1 b2 b3 b4 b5 d1 d2 hl hl', fun a n c a' n' c' w hv hv' => implAddVolumes_any Wm Hm Dm a n c cs a' n' c' cs' w hv hv' b1 b2 b3 b4 b5 d1 d2 hl hl', by rw [seqL_len, hl]; exact Nat.mul_le_mul b5 d2⟩
end Go.Proofs.Ytmgdofengamcmaa
