import Derived.Test.YthchdjfieofeaaaLz
import Derived.Test.YthchdjfieofeaaaVa
import Derived.Test.YthchdjfieofeaaaRc
import Derived.Deep.DrawnRows
set_option linter.unusedVariables false
set_option linter.unusedSimpArgs false
namespace Go.Proofs.Ythchdjfieofeaaa
open Go.FX Go.RowKit Go.WideShapes Go.ChangeShapes

theorem fiFl3 (k : Int) : Fl .f32 (fi k) (fi k) := ⟨fi_lt k, cn_of_not (fi_not k)⟩
theorem flZ : Fl .f32 0 0 := ⟨by decide, by decide⟩
def shareF (cs cs' : List Nat) (mc : Nat) : Nat := fop .quo .f32 (fi (cntN (unF cs cs' mc) cs.length : Nat)) (fi (cs.length : Nat))
theorem specSz_any {x c : Nat} (w : World) (hx : Fl .f32 x c) : Calls Try.prog 70 #[.float .f32 x] w (RF .f32 (sizeF c) w) := by
  have hl : le2 x 0 = le2 c 0 := by unfold le2; rw [hx.order flZ]
  cases t1 : le2 x 0 with
  | false =>
    have e : Hid (sizeF c = c) := Lib.hid (by unfold sizeF; rw [← hl, t1]; rfl)
    unfold le2 at t1
    go_enter Try.func70, Try.ntmps70
    go_wp2_with fail
    go_ret
    exact ⟨_, 0, rfl, by first | rfl | simp, by rw [e.out]; exact hx⟩
  | true =>
    have e : Hid (sizeF c = fop .sub .f32 0 c) := Lib.hid (by unfold sizeF; rw [← hl, t1]; rfl)
    have hx' := Lib.hid hx
    unfold le2 at t1
    clear hl hx
    go_enter Try.func70, Try.ntmps70
    go_wp2_with fail
    go_ret
    exact ⟨_, _, rfl, rfl, by rw [e.out]; exact flZ.flR hx'.out _⟩
set_option maxHeartbeats 4000000 in
theorem implWrongShare_of (W H : Int) (a : Option Addr) (n c : Nat) (W' H' : Int) (a' : Option Addr) (n' c' : Nat) (m N : Nat) (w : World)
    (h : ∀ w1, Below w.heap.size w w1 → Calls Try.prog 73 #[.agg #[.int .i64 W, .int .i64 H, .slice a n c], .agg #[.int .i64 W', .int .i64 H', .slice a' n' c'], .float .f32 m] w1 (fun e w' => e = .returned (.tuple #[.int .i64 (N : Nat), .bool true]) ∧ Below w1.heap.size w1 w')) :
    Calls Try.prog 36 #[.agg #[.int .i64 W, .int .i64 H, .slice a n c], .agg #[.int .i64 W', .int .i64 H', .slice a' n' c'], .float .f32 m] w (RFBb (fop .quo .f32 (fi (N : Nat)) (fi (n : Nat))) true w) := by
  have hP0 := (Pv.new w W H (.slice a n c) 42).alloc (.cells #[.int .i64 W', .int .i64 H', .slice a' n' c'] 42)
  have hQ1 := Pv.new (w.alloc (.cells #[.int .i64 W, .int .i64 H, .slice a n c] 42)) W' H' (.slice a' n' c') 42
  have hb0 := below2 w (.cells #[.int .i64 W, .int .i64 H, .slice a n c] 42) (.cells #[.int .i64 W', .int .i64 H', .slice a' n' c'] 42)
  obtain ⟨w0, hw0⟩ : ∃ w0, w0 = ((w.alloc (.cells #[.int .i64 W, .int .i64 H, .slice a n c] 42)).alloc (.cells #[.int .i64 W', .int .i64 H', .slice a' n' c'] 42)) := ⟨_, rfl⟩
  rw [← hw0] at hP0 hb0
  have hQ0 : Pv w0 (w.heap.size + 1) W' H' (.slice a' n' c') := by rw [hw0]; simpa using hQ1
  clear hQ1
  go_enter Try.func36, Try.ntmps36
  go_upto_region 1 with fail
  rw [← hw0]
  clear hw0
  obtain ⟨lp, p0, p1, p2⟩ := id hP0
  obtain ⟨lq, q0, q1, q2⟩ := id hQ0
  have hp := Lib.hid (And.intro hP0 (And.intro hQ0 hb0))
  have h' := Lib.hid h
  clear hP0 hQ0 hb0 h
  go_region_held3 (fun w' => Below w0.heap.size w0 w' ∧ w0.heap.size ≤ w'.heap.size ∧ (∀ b o, b < w0.heap.size → w'.cell? ⟨b, o, none⟩ = w0.cell? ⟨b, o, none⟩)) (first | exact keepStart _ | assumption | exact ⟨by assumption, by assumption, by assumption⟩ | exact keepCall (by assumption) (by assumption) | exact keepAlloc (by assumption) | (refine keepSet ?_ (keepSet ?_ (keepSet ?_ (keepSet ?_ ?_))) <;> first | assumption | omega | (simp; done) | (simp; omega)) | (refine keepSet ?_ (keepSet ?_ (keepSet ?_ ?_)) <;> first | assumption | omega | (simp; done) | (simp; omega)) | (refine keepSet ?_ (keepSet ?_ ?_) <;> first | assumption | omega | (simp; done) | (simp; omega)) | (refine keepSet ?_ ?_ <;> first | assumption | omega | (simp; done) | (simp; omega)))
    (first
      | (go_at_call 59; (with_reducible refine (mapPic_any _ _ _ _ _ _).mono ?_); rintro e w1 ⟨rfl, hb1⟩; have hI := keepCall (n := w0.heap.size) (W1 := w0) (by assumption) hb1; obtain ⟨hc, hf⟩ := bcell hb1; have hz := hb1.size; (try simp at hz); (try simp only [World.size_drew, World.cell?_drew] at hc); (try simp only [World.size_drew, World.frozen?_drew] at hf); first | (have hs := Nat.lt_of_succ_le hz) | (have hs := Nat.lt_of_lt_of_le hs hz) | skip)
      | (go_at_call 73; (with_reducible refine (h'.out _ (hp.out.2.2.trans ((And.left (by assumption) : Below w0.heap.size w0 _).mono hp.out.2.2.size))).mono ?_); rintro e w2 ⟨rfl, hb2⟩; have hI := keepCall (n := w0.heap.size) (W1 := w0) (by assumption) hb2; obtain ⟨hc, hf⟩ := bcell hb2; have hz := hb2.size; (try simp at hz); (try simp only [World.size_drew, World.cell?_drew] at hc); (try simp only [World.size_drew, World.frozen?_drew] at hf); first | (have hs := Nat.lt_of_succ_le hz) | (have hs := Nat.lt_of_lt_of_le hs hz) | skip))
  have hbR : Below w0.heap.size w0 w2 := And.left (by assumption)
  have hbW : Below w.heap.size w w2 := hp.out.2.2.trans (hbR.mono hp.out.2.2.size)
  go_wp2_with fail
  go_ret2
  exact ⟨_, rfl, by first | exact below_drewN hbW _ | exact hbW, (fiFl3 _).flR (fiFl3 _) _⟩
set_option maxHeartbeats 4000000 in
theorem implWrongShare_no (W H : Int) (a : Option Addr) (n c : Nat) (W' H' : Int) (a' : Option Addr) (n' c' : Nat) (m : Nat) (w : World) (hnc : n ≤ c) (hcm : c ≤ maxLen) (hnc' : n' ≤ c') (hcm' : c' ≤ maxLen) (hval : pairB W H n W' H' n' = false) :
    Calls Try.prog 36 #[.agg #[.int .i64 W, .int .i64 H, .slice a n c], .agg #[.int .i64 W', .int .i64 H', .slice a' n' c'], .float .f32 m] w (RFBb 0 false w) := by
  have h := fun w1 => implCountUnlike_no W H a n c W' H' a' n' c' m w1 hnc hcm hnc' hcm' hval
  have hP0 := (Pv.new w W H (.slice a n c) 42).alloc (.cells #[.int .i64 W', .int .i64 H', .slice a' n' c'] 42)
  have hQ1 := Pv.new (w.alloc (.cells #[.int .i64 W, .int .i64 H, .slice a n c] 42)) W' H' (.slice a' n' c') 42
  have hb0 := below2 w (.cells #[.int .i64 W, .int .i64 H, .slice a n c] 42) (.cells #[.int .i64 W', .int .i64 H', .slice a' n' c'] 42)
  obtain ⟨w0, hw0⟩ : ∃ w0, w0 = ((w.alloc (.cells #[.int .i64 W, .int .i64 H, .slice a n c] 42)).alloc (.cells #[.int .i64 W', .int .i64 H', .slice a' n' c'] 42)) := ⟨_, rfl⟩
  rw [← hw0] at hP0 hb0
  have hQ0 : Pv w0 (w.heap.size + 1) W' H' (.slice a' n' c') := by rw [hw0]; simpa using hQ1
  clear hQ1
  go_enter Try.func36, Try.ntmps36
  go_upto_region 1 with fail
  rw [← hw0]
  clear hw0
  obtain ⟨lp, p0, p1, p2⟩ := id hP0
  obtain ⟨lq, q0, q1, q2⟩ := id hQ0
  have hp := Lib.hid (And.intro hP0 (And.intro hQ0 hb0))
  clear hP0 hQ0 hb0
  go_region_held3 (fun w' => Below w0.heap.size w0 w' ∧ w0.heap.size ≤ w'.heap.size ∧ (∀ b o, b < w0.heap.size → w'.cell? ⟨b, o, none⟩ = w0.cell? ⟨b, o, none⟩)) (first | exact keepStart _ | assumption | exact ⟨by assumption, by assumption, by assumption⟩ | exact keepCall (by assumption) (by assumption) | exact keepAlloc (by assumption) | (refine keepSet ?_ (keepSet ?_ (keepSet ?_ (keepSet ?_ ?_))) <;> first | assumption | omega | (simp; done) | (simp; omega)) | (refine keepSet ?_ (keepSet ?_ (keepSet ?_ ?_)) <;> first | assumption | omega | (simp; done) | (simp; omega)) | (refine keepSet ?_ (keepSet ?_ ?_) <;> first | assumption | omega | (simp; done) | (simp; omega)) | (refine keepSet ?_ ?_ <;> first | assumption | omega | (simp; done) | (simp; omega)))
    (first
      | (go_at_call 59; (with_reducible refine (mapPic_any _ _ _ _ _ _).mono ?_); rintro e w1 ⟨rfl, hb1⟩; have hI := keepCall (n := w0.heap.size) (W1 := w0) (by assumption) hb1; obtain ⟨hc, hf⟩ := bcell hb1; have hz := hb1.size; (try simp at hz); (try simp only [World.size_drew, World.cell?_drew] at hc); (try simp only [World.size_drew, World.frozen?_drew] at hf); first | (have hs := Nat.lt_of_succ_le hz) | (have hs := Nat.lt_of_lt_of_le hs hz) | skip)
      | (go_at_call 73; (with_reducible refine (h _).mono ?_); rintro e w2 ⟨rfl, hb2⟩; have hI := keepCall (n := w0.heap.size) (W1 := w0) (by assumption) hb2; obtain ⟨hc, hf⟩ := bcell hb2; have hz := hb2.size; (try simp at hz); (try simp only [World.size_drew, World.cell?_drew] at hc); (try simp only [World.size_drew, World.frozen?_drew] at hf); first | (have hs := Nat.lt_of_succ_le hz) | (have hs := Nat.lt_of_lt_of_le hs hz) | skip))
  have hbR : Below w0.heap.size w0 w2 := And.left (by assumption)
  have hbW : Below w.heap.size w w2 := hp.out.2.2.trans (hbR.mono hp.out.2.2.size)
  go_wp2_with fail
  go_ret2
  exact ⟨_, rfl, by first | exact below_drewN hbW _ | exact hbW, flZ⟩
set_option maxRecDepth 100000 in
set_option maxHeartbeats 4000000 in
theorem specWrongShare_any (W H : Nat) (a : Option Addr) (n c : Nat) (cs : List Nat) (a' : Option Addr) (n' c' : Nat) (cs' : List Nat) (m mc : Nat) (hm : Fl .f32 m mc) (w : World) (hv : FC w (.slice a n c) cs) (hv' : FC w (.slice a' n' c') cs') (b1 : 1 ≤ W) (b2 : W ≤ 24) (b3 : 1 ≤ H) (b4 : H ≤ 24) (b5 : H * W ≤ 256) (hl : cs.length = H * W) (hl' : cs'.length = H * W) :
    Calls Try.prog 35 #[.agg #[.int .i64 W, .int .i64 H, .slice a n c], .agg #[.int .i64 W, .int .i64 H, .slice a' n' c'], .float .f32 m] w (RFBb (shareF cs cs' mc) true w) := by
  obtain ⟨rfl, hnc, hcm⟩ := hv.sized
  obtain ⟨rfl, hnc', hcm'⟩ := hv'.sized
  have o1 := Lib.hid (validB_mk b1 b2 b3 b4 b5 hl)
  have o2 := Lib.hid (validB_mk b1 b2 b3 b4 b5 hl')
  have h0 := fun w1 hp => specMIs_any W H a cs.length c w.heap.size w1 hp (by unfold maxLen at hcm; omega)
  have h1 := fun w1 hp => specMIs_any W H a' cs'.length c' (w.heap.size + 1) w1 hp (by unfold maxLen at hcm'; omega)
  have hP0 := (Pv.new w (W : Int) (H : Int) (.slice a cs.length c) 42).alloc (.cells #[.int .i64 (W : Int), .int .i64 (H : Int), .slice a' cs'.length c'] 42)
  have hQ1 := Pv.new (w.alloc (.cells #[.int .i64 W, .int .i64 H, .slice a cs.length c] 42)) (W : Int) (H : Int) (.slice a' cs'.length c') 42
  have hb0 := below2 w (.cells #[.int .i64 W, .int .i64 H, .slice a cs.length c] 42) (.cells #[.int .i64 (W : Int), .int .i64 (H : Int), .slice a' cs'.length c'] 42)
  obtain ⟨w0, hw0⟩ : ∃ w0, w0 = ((w.alloc (.cells #[.int .i64 W, .int .i64 H, .slice a cs.length c] 42)).alloc (.cells #[.int .i64 (W : Int), .int .i64 (H : Int), .slice a' cs'.length c'] 42)) := ⟨_, rfl⟩
  rw [← hw0] at hP0 hb0
  have hQ0 : Pv w0 (w.heap.size + 1) (W : Int) (H : Int) (.slice a' cs'.length c') := by rw [hw0]; simpa using hQ1
  clear hQ1
  have hL := Lib.hid (And.intro (hv.below hb0) (hv'.below hb0))
  have hll := Lib.hid (hl'.trans hl.symm)
  have h256 : cs.length ≤ 256 := by omega
  clear hv hv' hl hl'
  go_enter Try.func35, Try.ntmps35
  go_upto_region 1 with fail
  rw [← hw0]
  clear hw0
  obtain ⟨lp, p0, p1, p2⟩ := id hP0
  obtain ⟨lq, q0, q1, q2⟩ := id hQ0
  have hb0 := Lib.hid hb0
  have hm' := Lib.hid hm
  clear hm
  go_wp2_with fail
  refine (h0 _ hP0).mono ?_
  rintro e w1 ⟨k0, rfl, rfl⟩
  rw [o1.out]
  go_wp2_with fail
  refine (h1 _ (hQ0.drewN k0)).mono ?_
  rintro e w1 ⟨k1, rfl, rfl⟩
  rw [o2.out]
  clear hP0 hQ0 h0 h1
  go_wp2_with fail
  go_loopw [8, 33] (fun s i wr => ∃ (k N n : Nat), k ≤ cs.length ∧ i = .int .i64 k ∧ s = .int .i64 N ∧ wr = w0.drewN n ∧ Hid (N = cntN (unF cs cs' mc) k)) (fun _ i _ => cs.length - (intOf i).toNat)
  case atStart => exact ⟨0, 0, _, Nat.zero_le _, rfl, rfl, by first | rfl | (simp only [World.drewN_drewN]; rfl), Lib.hid rfl⟩
  case round =>
    obtain ⟨k, N, n0, hk, rfl, rfl, hwr, hN⟩ := hrel
    have r0 : wr.cell? ⟨w.heap.size, 2, none⟩ = some (.slice a cs.length c) := by rw [hwr]; exact p2
    have r1 : wr.cell? ⟨w.heap.size + 1, 2, none⟩ = some (.slice a' cs'.length c') := by rw [hwr]; exact q2
    have hwr' := Lib.hid hwr
    by_cases hlk : k < cs.length
    · obtain ⟨b1', off1, cc1, z1, ev1, _, _, hbb, hz1f, hz1c0⟩ := hL.out.1.cell hlk
      obtain ⟨b2', off2, cc2, z2, ev2, _, _, hbb2, hz2f, hz2c0⟩ := hL.out.2.cell (k := k) (by rw [hll.out]; exact hlk)
      simp only [Value.slice.injEq, true_and] at ev1 ev2
      obtain ⟨rfl, rfl⟩ := ev1
      obtain ⟨rfl, rfl⟩ := ev2
      have hz1c : wr.cell? ⟨b1', off1 + k, none⟩ = some (.float .f32 z1) := by rw [hwr]; exact hz1c0
      have hz2c : wr.cell? ⟨b2', off2 + k, none⟩ = some (.float .f32 z2) := by rw [hwr]; exact hz2c0
      obtain ⟨c1, hc1⟩ : ∃ x, x = cs.getD k 0 := ⟨_, rfl⟩
      obtain ⟨c2, hc2⟩ : ∃ x, x = cs'.getD k 0 := ⟨_, rfl⟩
      rw [← hc1] at hz1f
      rw [← hc2] at hz2f
      obtain ⟨d, hd⟩ : ∃ d, d = fop .sub .f32 c1 c2 := ⟨_, rfl⟩
      have hU : Hid (nearB d mc = unF cs cs' mc k) := Lib.hid (by rw [hd, hc1, hc2]; rfl)
      have hdl : d < 4294967296 := by rw [hd, ← (hz1f.flR (op := .sub) hz2f w0).eq]; exact cn_lt (hz1f.flR (op := .sub) hz2f w0).1
      have hd' := Lib.hid hd
      have i3 : (k : Int) < (cs'.length : Int) := by rw [hll.out]; omega
      have i2 : (k : Int) < (cs.length : Int) := by omega
      have hle := cntN_le (unF cs cs' mc) k
      rw [← hN.out] at hle
      have i5 : IntKind.i64.wrap ((N : Int) + 1) = ((N + 1 : Nat) : Int) := by rw [IntWalk.i64_in _ (by omega)]; omega
      have hcmp : ∀ b, nearB d mc = b → Hid (∀ r, Fl .f32 r (sizeF d) → (FloatKind.f32.format.order r m == some Ordering.lt || FloatKind.f32.format.order r m == some Ordering.eq) = b) := fun b hb => Lib.hid fun r hr => by
        rw [hr.order hm'.out, ← hb]
        exact le2_size d mc hdl
      have hsz := fun (r : Nat) (hr : Fl .f32 r d) (w1 : World) => specSz_any (c := d) w1 hr
      clear hz1c0 hz2c0 hwr hc1 hc2 hd
      cases hb : nearB d mc with
      | true =>
        have hcm1 := hcmp _ hb
        have hu : Hid (cntN (unF cs cs' mc) (k + 1) = N) := Lib.hid (by rw [cntN_yes (by rw [← hU.out, hb]), hN.out])
        clear hcmp hb
        go_upto_region 7 with fail
        refine wp_region_cls (by kernel_rfl) (by kernel_rfl) (by kernel_rfl) (by kernel_rfl) (fun w' => ∃ n, w' = wr.drewN n) ⟨1, rfl⟩ [Eq1 ?q6695u0, Eq1 ?q6695u1, Eq1 ?q6695u2, Eq1 ?q6695u3, Eq1 ?q6695u4, Eq1 ?q6695u5, Eq1 ?q6695u6, Eq1 ?q6695u7, Eq1 ?q6695u8, Eq1 ?q6695u9, FloatIs .f32 (d), FloatIs .f32 (sizeF d), Eq1 ?q6695u12, Eq1 (.bool true), Eq1 ?q6695u14] ?q6695main
        case q6695main =>
          (refine wpR_pure ?_ (fun w hw => ?_) ?_; rfl; (obtain ⟨nn, rfl⟩ := hw; go_simp; (try with_reducible rfl)); (try simp only [Act.put, List.setIfInBounds_toArray, List.set_cons_zero, List.set_cons_succ]))
          (refine wpR_pure ?_ (fun w hw => ?_) ?_; rfl; (obtain ⟨nn, rfl⟩ := hw; go_simp; (try with_reducible rfl)); (try simp only [Act.put, List.setIfInBounds_toArray, List.set_cons_zero, List.set_cons_succ]))
          (refine wpR_pure ?_ (fun w hw => ?_) ?_; rfl; (obtain ⟨nn, rfl⟩ := hw; go_simp; (try with_reducible rfl)); (try simp only [Act.put, List.setIfInBounds_toArray, List.set_cons_zero, List.set_cons_succ]))
          (refine wpR_pure ?_ (fun w hw => ?_) ?_; rfl; (obtain ⟨nn, rfl⟩ := hw; go_simp; (try with_reducible rfl)); (try simp only [Act.put, List.setIfInBounds_toArray, List.set_cons_zero, List.set_cons_succ]))
          (refine wpR_pure ?_ (fun w hw => ?_) ?_; rfl; (obtain ⟨nn, rfl⟩ := hw; go_simp; (try with_reducible rfl)); (try simp only [Act.put, List.setIfInBounds_toArray, List.set_cons_zero, List.set_cons_succ]))
          (refine wpR_pure ?_ (fun w hw => ?_) ?_; rfl; (obtain ⟨nn, rfl⟩ := hw; go_simp; (try with_reducible rfl)); (try simp only [Act.put, List.setIfInBounds_toArray, List.set_cons_zero, List.set_cons_succ]))
          (refine wpR_pure ?_ (fun w hw => ?_) ?_; rfl; (obtain ⟨nn, rfl⟩ := hw; go_simp; (try with_reducible rfl)); (try simp only [Act.put, List.setIfInBounds_toArray, List.set_cons_zero, List.set_cons_succ]))
          (refine wpR_pure ?_ (fun w hw => ?_) ?_; rfl; (obtain ⟨nn, rfl⟩ := hw; go_simp; (try with_reducible rfl)); (try simp only [Act.put, List.setIfInBounds_toArray, List.set_cons_zero, List.set_cons_succ]))
          (refine wpR_pure ?_ (fun w hw => ?_) ?_; rfl; (obtain ⟨nn, rfl⟩ := hw; go_simp; (try with_reducible rfl)); (try simp only [Act.put, List.setIfInBounds_toArray, List.set_cons_zero, List.set_cons_succ]))
          (refine wpR_pure ?_ (fun w hw => ?_) ?_; rfl; (obtain ⟨nn, rfl⟩ := hw; go_simp; (try with_reducible rfl)); (try simp only [Act.put, List.setIfInBounds_toArray, List.set_cons_zero, List.set_cons_succ]))
          (refine wpR_cls ?_ (fun w hw => ?_) ?_; rfl; (obtain ⟨nn, rfl⟩ := hw; go_simp; exact ⟨⟨_, rfl⟩, _, rfl, (by rw [hd'.out]; exact hz1f.flR hz2f _)⟩); (rintro _ ⟨_, rfl, _⟩; (try simp only [Act.put, List.setIfInBounds_toArray, List.set_cons_zero, List.set_cons_succ])))
          (refine wpR_cls ?_ (fun w hw => ?_) ?_; rfl; (obtain ⟨nn, rfl⟩ := hw; go_simp; refine (hsz _ (by assumption) _).mono ?_; rintro _ _ ⟨_, nm, rfl, rfl, hcr⟩; exact ⟨_, rfl, ⟨_, rfl, hcr⟩, nn + nm, by simp⟩); (rintro _ ⟨_, rfl, _⟩; (try simp only [Act.put, List.setIfInBounds_toArray, List.set_cons_zero, List.set_cons_succ])))
          (refine wpR_pure ?_ (fun w hw => ?_) ?_; rfl; (obtain ⟨nn, rfl⟩ := hw; go_simp; (try with_reducible rfl)); (try simp only [Act.put, List.setIfInBounds_toArray, List.set_cons_zero, List.set_cons_succ]))
          (refine wpR_pure ?_ (fun w hw => ?_) ?_; rfl; (obtain ⟨nn, rfl⟩ := hw; have hq := hcm1.out _ (by assumption); go_simp; (try with_reducible rfl)); (try simp only [Act.put, List.setIfInBounds_toArray, List.set_cons_zero, List.set_cons_succ]))
          (refine wpR_pure ?_ (fun w hw => ?_) ?_; rfl; (obtain ⟨nn, rfl⟩ := hw; go_simp; (try with_reducible rfl)); (try simp only [Act.put, List.setIfInBounds_toArray, List.set_cons_zero, List.set_cons_succ]))
          refine wpR_nil ?_
          rintro w' ⟨nn, rfl⟩
          go_wp2_with fail
          go_roundw
          case rel => exact ⟨k + 1, N, _, by omega, by go_num, rfl, by rw [hwr'.out]; first | rfl | (simp only [World.drewN_drewN]; rfl), Lib.hid hu.out.symm⟩
          case measure => simp [intOf]; omega
      | false =>
        have hcm1 := hcmp _ hb
        have hu : Hid (cntN (unF cs cs' mc) (k + 1) = N + 1) := Lib.hid (by rw [cntN_no (by rw [← hU.out, hb]), hN.out])
        clear hcmp hb
        go_upto_region 7 with fail
        refine wp_region_cls (by kernel_rfl) (by kernel_rfl) (by kernel_rfl) (by kernel_rfl) (fun w' => ∃ n, w' = wr.drewN n) ⟨1, rfl⟩ [Eq1 ?q7423u0, Eq1 ?q7423u1, Eq1 ?q7423u2, Eq1 ?q7423u3, Eq1 ?q7423u4, Eq1 ?q7423u5, Eq1 ?q7423u6, Eq1 ?q7423u7, Eq1 ?q7423u8, Eq1 ?q7423u9, FloatIs .f32 (d), FloatIs .f32 (sizeF d), Eq1 ?q7423u12, Eq1 (.bool false), Eq1 ?q7423u14] ?q7423main
        case q7423main =>
          (refine wpR_pure ?_ (fun w hw => ?_) ?_; rfl; (obtain ⟨nn, rfl⟩ := hw; go_simp; (try with_reducible rfl)); (try simp only [Act.put, List.setIfInBounds_toArray, List.set_cons_zero, List.set_cons_succ]))
          (refine wpR_pure ?_ (fun w hw => ?_) ?_; rfl; (obtain ⟨nn, rfl⟩ := hw; go_simp; (try with_reducible rfl)); (try simp only [Act.put, List.setIfInBounds_toArray, List.set_cons_zero, List.set_cons_succ]))
          (refine wpR_pure ?_ (fun w hw => ?_) ?_; rfl; (obtain ⟨nn, rfl⟩ := hw; go_simp; (try with_reducible rfl)); (try simp only [Act.put, List.setIfInBounds_toArray, List.set_cons_zero, List.set_cons_succ]))
          (refine wpR_pure ?_ (fun w hw => ?_) ?_; rfl; (obtain ⟨nn, rfl⟩ := hw; go_simp; (try with_reducible rfl)); (try simp only [Act.put, List.setIfInBounds_toArray, List.set_cons_zero, List.set_cons_succ]))
          (refine wpR_pure ?_ (fun w hw => ?_) ?_; rfl; (obtain ⟨nn, rfl⟩ := hw; go_simp; (try with_reducible rfl)); (try simp only [Act.put, List.setIfInBounds_toArray, List.set_cons_zero, List.set_cons_succ]))
          (refine wpR_pure ?_ (fun w hw => ?_) ?_; rfl; (obtain ⟨nn, rfl⟩ := hw; go_simp; (try with_reducible rfl)); (try simp only [Act.put, List.setIfInBounds_toArray, List.set_cons_zero, List.set_cons_succ]))
          (refine wpR_pure ?_ (fun w hw => ?_) ?_; rfl; (obtain ⟨nn, rfl⟩ := hw; go_simp; (try with_reducible rfl)); (try simp only [Act.put, List.setIfInBounds_toArray, List.set_cons_zero, List.set_cons_succ]))
          (refine wpR_pure ?_ (fun w hw => ?_) ?_; rfl; (obtain ⟨nn, rfl⟩ := hw; go_simp; (try with_reducible rfl)); (try simp only [Act.put, List.setIfInBounds_toArray, List.set_cons_zero, List.set_cons_succ]))
          (refine wpR_pure ?_ (fun w hw => ?_) ?_; rfl; (obtain ⟨nn, rfl⟩ := hw; go_simp; (try with_reducible rfl)); (try simp only [Act.put, List.setIfInBounds_toArray, List.set_cons_zero, List.set_cons_succ]))
          (refine wpR_pure ?_ (fun w hw => ?_) ?_; rfl; (obtain ⟨nn, rfl⟩ := hw; go_simp; (try with_reducible rfl)); (try simp only [Act.put, List.setIfInBounds_toArray, List.set_cons_zero, List.set_cons_succ]))
          (refine wpR_cls ?_ (fun w hw => ?_) ?_; rfl; (obtain ⟨nn, rfl⟩ := hw; go_simp; exact ⟨⟨_, rfl⟩, _, rfl, (by rw [hd'.out]; exact hz1f.flR hz2f _)⟩); (rintro _ ⟨_, rfl, _⟩; (try simp only [Act.put, List.setIfInBounds_toArray, List.set_cons_zero, List.set_cons_succ])))
          (refine wpR_cls ?_ (fun w hw => ?_) ?_; rfl; (obtain ⟨nn, rfl⟩ := hw; go_simp; refine (hsz _ (by assumption) _).mono ?_; rintro _ _ ⟨_, nm, rfl, rfl, hcr⟩; exact ⟨_, rfl, ⟨_, rfl, hcr⟩, nn + nm, by simp⟩); (rintro _ ⟨_, rfl, _⟩; (try simp only [Act.put, List.setIfInBounds_toArray, List.set_cons_zero, List.set_cons_succ])))
          (refine wpR_pure ?_ (fun w hw => ?_) ?_; rfl; (obtain ⟨nn, rfl⟩ := hw; go_simp; (try with_reducible rfl)); (try simp only [Act.put, List.setIfInBounds_toArray, List.set_cons_zero, List.set_cons_succ]))
          (refine wpR_pure ?_ (fun w hw => ?_) ?_; rfl; (obtain ⟨nn, rfl⟩ := hw; have hq := hcm1.out _ (by assumption); go_simp; (try with_reducible rfl)); (try simp only [Act.put, List.setIfInBounds_toArray, List.set_cons_zero, List.set_cons_succ]))
          (refine wpR_pure ?_ (fun w hw => ?_) ?_; rfl; (obtain ⟨nn, rfl⟩ := hw; go_simp; (try with_reducible rfl)); (try simp only [Act.put, List.setIfInBounds_toArray, List.set_cons_zero, List.set_cons_succ]))
          refine wpR_nil ?_
          rintro w' ⟨nn, rfl⟩
          go_wp2_with fail
          go_roundw
          case rel => exact ⟨k + 1, N + 1, _, by omega, by go_num, by first | rfl | go_num, by rw [hwr'.out]; first | rfl | (simp only [World.drewN_drewN]; rfl), Lib.hid hu.out.symm⟩
          case measure => simp [intOf]; omega
    · obtain rfl : k = cs.length := by omega
      have hNe := hN
      go_wp2_with fail
      go_ret2
      refine ⟨_, rfl, ?_, ?_⟩
      · first | exact below_drewN hb0.out _ | (rw [hwr'.out]; exact below_drewN (below_drewN hb0.out _) _)
      · unfold shareF; rw [← hN.out]; exact (fiFl3 _).flR (fiFl3 _) _
set_option maxHeartbeats 4000000 in
theorem specWrongShare_no (W H : Int) (a : Option Addr) (n c : Nat) (W' H' : Int) (a' : Option Addr) (n' c' : Nat) (m : Nat) (w : World) (hnc : n ≤ c) (hcm : c ≤ maxLen) (hnc' : n' ≤ c') (hcm' : c' ≤ maxLen) (hval : pairB W H n W' H' n' = false) :
    Calls Try.prog 35 #[.agg #[.int .i64 W, .int .i64 H, .slice a n c], .agg #[.int .i64 W', .int .i64 H', .slice a' n' c'], .float .f32 m] w (RFBb 0 false w) := by
  have h0 := fun w1 hp => specMIs_any W H a n c w.heap.size w1 hp (by unfold maxLen at hcm; omega)
  have h1 := fun w1 hp => specMIs_any W' H' a' n' c' (w.heap.size + 1) w1 hp (by unfold maxLen at hcm'; omega)
  have hP0 := (Pv.new w W H (.slice a n c) 42).alloc (.cells #[.int .i64 W', .int .i64 H', .slice a' n' c'] 42)
  have hQ1 := Pv.new (w.alloc (.cells #[.int .i64 W, .int .i64 H, .slice a n c] 42)) W' H' (.slice a' n' c') 42
  have hb0 := below2 w (.cells #[.int .i64 W, .int .i64 H, .slice a n c] 42) (.cells #[.int .i64 W', .int .i64 H', .slice a' n' c'] 42)
  obtain ⟨w0, hw0⟩ : ∃ w0, w0 = ((w.alloc (.cells #[.int .i64 W, .int .i64 H, .slice a n c] 42)).alloc (.cells #[.int .i64 W', .int .i64 H', .slice a' n' c'] 42)) := ⟨_, rfl⟩
  rw [← hw0] at hP0 hb0
  have hQ0 : Pv w0 (w.heap.size + 1) W' H' (.slice a' n' c') := by rw [hw0]; simpa using hQ1
  clear hQ1
  obtain ⟨lp, p0, p1, p2⟩ := id hP0
  obtain ⟨lq, q0, q1, q2⟩ := id hQ0
  have hb0 := Lib.hid hb0
  cases v1 : validB W H n with
  | false =>
    have o1 := Lib.hid v1
    clear v1 hval
    go_enter Try.func35, Try.ntmps35
    go_upto_region 1 with fail
    rw [← hw0]
    clear hw0
    go_wp2_with fail
    refine (h0 _ hP0).mono ?_
    rintro e w1 ⟨k0, rfl, rfl⟩
    rw [o1.out]
    go_wp2_with fail
    go_ret2
    exact ⟨_, rfl, below_drewN hb0.out _, flZ⟩
  | true =>
    cases v2 : validB W' H' n' with
    | false =>
      have o1 := Lib.hid v1
      have o2 := Lib.hid v2
      clear v1 v2 hval
      go_enter Try.func35, Try.ntmps35
      go_upto_region 1 with fail
      rw [← hw0]
      clear hw0
      go_wp2_with fail
      refine (h0 _ hP0).mono ?_
      rintro e w1 ⟨k0, rfl, rfl⟩
      rw [o1.out]
      go_wp2_with fail
      refine (h1 _ (hQ0.drewN k0)).mono ?_
      rintro e w1 ⟨k1, rfl, rfl⟩
      rw [o2.out]
      go_wp2_with fail
      go_ret2
      exact ⟨_, rfl, below_drewN hb0.out _, flZ⟩
    | true =>
      have hne : ¬ (W = W' ∧ H = H') := fun h => by
        unfold pairB at hval
        rw [v1, v2, decide_eq_true h.1, decide_eq_true h.2] at hval
        simp at hval
      have o1 := Lib.hid v1
      have o2 := Lib.hid v2
      clear v1 v2 hval
      by_cases e1 : W = W'
      · have e2 : ¬ H = H' := fun h => hne ⟨e1, h⟩
        subst e1
        have f2 : (H == H') = false := by simpa using e2
        clear hne
        go_enter Try.func35, Try.ntmps35
        go_upto_region 1 with fail
        rw [← hw0]
        clear hw0
        go_wp2_with fail
        refine (h0 _ hP0).mono ?_
        rintro e w1 ⟨k0, rfl, rfl⟩
        rw [o1.out]
        go_wp2_with fail
        refine (h1 _ (hQ0.drewN k0)).mono ?_
        rintro e w1 ⟨k1, rfl, rfl⟩
        rw [o2.out]
        go_wp2_with fail
        go_ret2
        exact ⟨_, rfl, below_drewN hb0.out _, flZ⟩
      · have f1 : (W == W') = false := by simpa using e1
        clear hne
        go_enter Try.func35, Try.ntmps35
        go_upto_region 1 with fail
        rw [← hw0]
        clear hw0
        go_wp2_with fail
        refine (h0 _ hP0).mono ?_
        rintro e w1 ⟨k0, rfl, rfl⟩
        rw [o1.out]
        go_wp2_with fail
        refine (h1 _ (hQ0.drewN k0)).mono ?_
        rintro e w1 ⟨k1, rfl, rfl⟩
        rw [o2.out]
        go_wp2_with fail
        go_ret2
        exact ⟨_, rfl, below_drewN hb0.out _, flZ⟩
theorem pairWrongShare (W H : Int) (cs : List Nat) (W' H' : Int) (cs' : List Nat) (m : Nat) (hm : m < width .f32) :
    ∃ (g : Nat) (ok : Bool),
      (∀ a n c a' n' c' w, FC w (.slice a n c) cs → FC w (.slice a' n' c') cs' → Calls Try.prog 35 #[.agg #[.int .i64 W, .int .i64 H, .slice a n c], .agg #[.int .i64 W', .int .i64 H', .slice a' n' c'], .float .f32 m] w (RFBb g ok w)) ∧
      (∀ a n c a' n' c' w, FC w (.slice a n c) cs → FC w (.slice a' n' c') cs' → Calls Try.prog 36 #[.agg #[.int .i64 W, .int .i64 H, .slice a n c], .agg #[.int .i64 W', .int .i64 H', .slice a' n' c'], .float .f32 m] w (RFBb g ok w)) := by
  cases hval : pairB W H cs.length W' H' cs'.length with
  | false =>
    refine ⟨0, false, fun a n c a' n' c' w hv hv' => ?_, fun a n c a' n' c' w hv hv' => ?_⟩
    · obtain ⟨rfl, h1, h2⟩ := hv.sized
      obtain ⟨rfl, h3, h4⟩ := hv'.sized
      exact specWrongShare_no W H a _ c W' H' a' _ c' m w h1 h2 h3 h4 hval
    · obtain ⟨rfl, h1, h2⟩ := hv.sized
      obtain ⟨rfl, h3, h4⟩ := hv'.sized
      exact implWrongShare_no W H a _ c W' H' a' _ c' m w h1 h2 h3 h4 hval
  | true =>
    unfold pairB at hval
    simp only [Bool.and_eq_true, decide_eq_true_eq] at hval
    obtain ⟨hv, hv', rfl, rfl⟩ := hval
    obtain ⟨Wn, Hn, rfl, rfl, b1, b2, b3, b4, b5, hl⟩ := validB_parts hv
    obtain ⟨Wm, Hm, e1, e2, _, _, _, _, _, hl'⟩ := validB_parts hv'
    obtain rfl : Wm = Wn := by omega
    obtain rfl : Hm = Hn := by omega
    refine ⟨shareF cs cs' (cn .f32 m), true, fun a n c a' n' c' w hv hv' => specWrongShare_any Wm Hm a n c cs a' n' c' cs' m _ (Fl.of hm) w hv hv' b1 b2 b3 b4 b5 hl hl', fun a n c a' n' c' w hv hv' => ?_⟩
    obtain ⟨N, hN⟩ : ∃ N, N = cntN (unF cs cs' (cn .f32 m)) cs.length := ⟨_, rfl⟩
    have h0 := fun w1 (hb : Below w.heap.size w w1) => implCountUnlike_any Wm Hm a n c cs a' n' c' cs' m _ (Fl.of hm) w1 (hv.below hb) (hv'.below hb) b1 b2 b3 b4 b5 hl hl'
    rw [← hN] at h0
    have h := implWrongShare_of (Wm : Int) (Hm : Int) a n c (Wm : Int) (Hm : Int) a' n' c' m N w h0
    have hn := hv.sized.1
    unfold shareF
    rw [← hN, ← hn]
    exact h
end Go.Proofs.Ythchdjfieofeaaa
