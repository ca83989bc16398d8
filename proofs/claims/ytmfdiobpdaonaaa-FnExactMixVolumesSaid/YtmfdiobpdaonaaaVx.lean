import Derived.Test.YtmfdiobpdaonaaaVt
import Derived.Test.YtmfdiobpdaonaaaRc
import Derived.IntWalk
set_option linter.unusedVariables false
set_option linter.unusedSimpArgs false
namespace Go.Proofs.Ytmfdiobpdaonaaa
open Go.FX Go.RowKit Go.WideShapes Go.ChangeShapes

def mixF (c1 c2 s : Nat) : Nat := fop .add .f32 (fop .mul .f32 c1 s) (fop .mul .f32 c2 (fop .sub .f32 1065353216 s))
theorem oneFl : Fl .f32 1065353216 1065353216 := ⟨by decide, by decide⟩
set_option maxRecDepth 100000 in
set_option maxHeartbeats 4000000 in
theorem mix_fn (W H D : Nat) (a : Option Addr) (n c : Nat) (cs : List Nat) (a' : Option Addr) (n' c' : Nat) (cs' : List Nat) (s sc : Nat) (hs : Fl .f32 s sc) (bp bm bq : Nat) (w : World) (hv : FC w (.slice a n c) cs) (hp : Pw w bp W H D (.slice a n c)) (hv' : FC w (.slice a' n' c') cs') (hp' : Pw w bq W H D (.slice a' n' c')) (hlb : bm < w.heap.size) (hcb : w.cell? ⟨bm, 0, none⟩ = some (.float .f32 s)) (b1 : 1 ≤ W) (b2 : W ≤ 24) (b3 : 1 ≤ H) (b4 : H ≤ 24) (b5 : H * W ≤ 256) (d1 : 1 ≤ D) (d2 : D ≤ 8) (hl : cs.length = H * W * D) (hl' : cs'.length = H * W * D) :
    CostFn Try.prog 86 #[] #[.pointer (some ⟨bp, 0, none⟩), .pointer (some ⟨bm, 0, none⟩), .pointer (some ⟨bq, 0, none⟩)] W H D (fun x y d => mixF (costC W D cs x y d) (costC W D cs' x y d) sc) w := fun w1 x y d hb hx hy hd => by
  have hat := fun w2 (h : Below w1.heap.size w1 w2) => at_any W H D (.slice a n c) cs x y d w2 ((hv.below hb).below h) b1 b2 b4 b5 d1 d2 hl hx hy hd
  have hat' := fun w2 (h : Below w1.heap.size w1 w2) => at_any W H D (.slice a' n' c') cs' x y d w2 ((hv'.below hb).below h) b1 b2 b4 b5 d1 d2 hl' hx hy hd
  obtain ⟨l0, p0, p1, p2, p3⟩ := hp.below hb
  obtain ⟨l1, q0, q1, q2, q3⟩ := hp'.below hb
  have q := (bcell hb).1 bm 0 hlb
  rw [hcb] at q
  have lb1 : bm < w1.heap.size := Nat.lt_of_lt_of_le hlb hb.size
  have h1f := oneFl
  clear hcb hv hp hv' hp' hl hl' hb
  show Calls Try.prog 86 #[.int .i64 x, .int .i64 y, .int .i64 d, .pointer (some ⟨bp, 0, none⟩), .pointer (some ⟨bm, 0, none⟩), .pointer (some ⟨bq, 0, none⟩)] w1 _
  go_enter Try.func86, Try.ntmps86
  go_upto_region 1 with fail
  refine wp_region_cls (by kernel_rfl) (by kernel_rfl) (by kernel_rfl) (by kernel_rfl) (fun w' => Below w1.heap.size w1 w') (below_drewN (Below.refl _ _) 1) [Eq1 ?q1186u0, Eq1 ?q1186u1, Eq1 ?q1186u2, Eq1 ?q1186u3, FloatIs .f32 (costC W D cs x y d), Eq1 ?q1186u5, FloatIs .f32 (fop .mul .f32 (costC W D cs x y d) sc), Eq1 ?q1186u7, Eq1 ?q1186u8, Eq1 ?q1186u9, Eq1 ?q1186u10, FloatIs .f32 (costC W D cs' x y d), Eq1 ?q1186u12, FloatIs .f32 (fop .sub .f32 1065353216 sc), FloatIs .f32 (fop .mul .f32 (costC W D cs' x y d) (fop .sub .f32 1065353216 sc)), FloatIs .f32 (mixF (costC W D cs x y d) (costC W D cs' x y d) sc), FloatIs .f32 (mixF (costC W D cs x y d) (costC W D cs' x y d) sc)] ?q1186main
  case q1186main =>
    (refine wpR_pure ?_ (fun w hw => ?_) ?_; rfl; (obtain ⟨hwc, hwf⟩ := bcell2 hw; go_simp; (try with_reducible rfl)); (try simp only [Act.put, List.setIfInBounds_toArray, List.set_cons_zero, List.set_cons_succ]))
    (refine wpR_pure ?_ (fun w hw => ?_) ?_; rfl; (obtain ⟨hwc, hwf⟩ := bcell2 hw; go_simp; (try with_reducible rfl)); (try simp only [Act.put, List.setIfInBounds_toArray, List.set_cons_zero, List.set_cons_succ]))
    (refine wpR_pure ?_ (fun w hw => ?_) ?_; rfl; (obtain ⟨hwc, hwf⟩ := bcell2 hw; go_simp; (try with_reducible rfl)); (try simp only [Act.put, List.setIfInBounds_toArray, List.set_cons_zero, List.set_cons_succ]))
    (refine wpR_pure ?_ (fun w hw => ?_) ?_; rfl; (obtain ⟨hwc, hwf⟩ := bcell2 hw; go_simp; (try with_reducible rfl)); (try simp only [Act.put, List.setIfInBounds_toArray, List.set_cons_zero, List.set_cons_succ]))
    (refine wpR_cls ?_ (fun w hw => ?_) ?_; rfl; (go_simp; refine (hat _ hw).mono ?_; rintro _ _ ⟨_, rfl, hcb, hcr⟩; exact ⟨_, rfl, ⟨_, rfl, hcr⟩, Below.trans hw (hcb.mono hw.size)⟩); (rintro _ ⟨_, rfl, _⟩; (try simp only [Act.put, List.setIfInBounds_toArray, List.set_cons_zero, List.set_cons_succ])))
    (refine wpR_pure ?_ (fun w hw => ?_) ?_; rfl; (obtain ⟨hwc, hwf⟩ := bcell2 hw; go_simp; (try with_reducible rfl)); (try simp only [Act.put, List.setIfInBounds_toArray, List.set_cons_zero, List.set_cons_succ]))
    (refine wpR_cls ?_ (fun w hw => ?_) ?_; rfl; (go_simp; exact ⟨below_drewN hw _, _, rfl, Fl.flR (by assumption) (by assumption) _⟩); (rintro _ ⟨_, rfl, _⟩; (try simp only [Act.put, List.setIfInBounds_toArray, List.set_cons_zero, List.set_cons_succ])))
    (refine wpR_pure ?_ (fun w hw => ?_) ?_; rfl; (obtain ⟨hwc, hwf⟩ := bcell2 hw; go_simp; (try with_reducible rfl)); (try simp only [Act.put, List.setIfInBounds_toArray, List.set_cons_zero, List.set_cons_succ]))
    (refine wpR_pure ?_ (fun w hw => ?_) ?_; rfl; (obtain ⟨hwc, hwf⟩ := bcell2 hw; go_simp; (try with_reducible rfl)); (try simp only [Act.put, List.setIfInBounds_toArray, List.set_cons_zero, List.set_cons_succ]))
    (refine wpR_pure ?_ (fun w hw => ?_) ?_; rfl; (obtain ⟨hwc, hwf⟩ := bcell2 hw; go_simp; (try with_reducible rfl)); (try simp only [Act.put, List.setIfInBounds_toArray, List.set_cons_zero, List.set_cons_succ]))
    (refine wpR_pure ?_ (fun w hw => ?_) ?_; rfl; (obtain ⟨hwc, hwf⟩ := bcell2 hw; go_simp; (try with_reducible rfl)); (try simp only [Act.put, List.setIfInBounds_toArray, List.set_cons_zero, List.set_cons_succ]))
    (refine wpR_cls ?_ (fun w hw => ?_) ?_; rfl; (go_simp; refine (hat' _ hw).mono ?_; rintro _ _ ⟨_, rfl, hcb, hcr⟩; exact ⟨_, rfl, ⟨_, rfl, hcr⟩, Below.trans hw (hcb.mono hw.size)⟩); (rintro _ ⟨_, rfl, _⟩; (try simp only [Act.put, List.setIfInBounds_toArray, List.set_cons_zero, List.set_cons_succ])))
    (refine wpR_pure ?_ (fun w hw => ?_) ?_; rfl; (obtain ⟨hwc, hwf⟩ := bcell2 hw; go_simp; (try with_reducible rfl)); (try simp only [Act.put, List.setIfInBounds_toArray, List.set_cons_zero, List.set_cons_succ]))
    (refine wpR_cls ?_ (fun w hw => ?_) ?_; rfl; (go_simp; exact ⟨below_drewN hw _, _, rfl, Fl.flR (by assumption) (by assumption) _⟩); (rintro _ ⟨_, rfl, _⟩; (try simp only [Act.put, List.setIfInBounds_toArray, List.set_cons_zero, List.set_cons_succ])))
    (refine wpR_cls ?_ (fun w hw => ?_) ?_; rfl; (go_simp; exact ⟨below_drewN hw _, _, rfl, Fl.flR (by assumption) (by assumption) _⟩); (rintro _ ⟨_, rfl, _⟩; (try simp only [Act.put, List.setIfInBounds_toArray, List.set_cons_zero, List.set_cons_succ])))
    (refine wpR_cls ?_ (fun w hw => ?_) ?_; rfl; (go_simp; exact ⟨below_drewN hw _, _, rfl, Fl.flR (by assumption) (by assumption) _⟩); (rintro _ ⟨_, rfl, _⟩; (try simp only [Act.put, List.setIfInBounds_toArray, List.set_cons_zero, List.set_cons_succ])))
    (refine wpR_cls ?_ (fun w hw => ?_) ?_; rfl; (go_simp; first | exact ⟨_, rfl, by assumption⟩ | exact ⟨hw, _, rfl, by assumption⟩); (rintro _ ⟨_, rfl, _⟩; (try simp only [Act.put, List.setIfInBounds_toArray, List.set_cons_zero, List.set_cons_succ])))
    refine wpR_nil ?_
    intro w' hw'
    go_wp2_with fail
    go_ret
    exact ⟨_, rfl, hw', by assumption⟩
def alikeB (W H D : Int) (n : Nat) (W' H' D' : Int) (n' : Nat) : Bool := volB W H D n && (volB W' H' D' n' && (decide (W = W') && (decide (H = H') && decide (D = D'))))
set_option maxRecDepth 100000 in
set_option maxHeartbeats 4000000 in
theorem specAlike_any (W H D : Int) (a : Option Addr) (n c b : Nat) (W' H' D' : Int) (a' : Option Addr) (n' c' b' : Nat) (w : World) (hp : Pw w b W H D (.slice a n c)) (hp' : Pw w b' W' H' D' (.slice a' n' c')) (hbb : b ≠ b') (hn : n ≤ 9223372036854775807) (hn' : n' ≤ 9223372036854775807) :
    Calls Try.prog 84 #[.pointer (some ⟨b, 0, none⟩), .pointer (some ⟨b', 0, none⟩)] w (RB (alikeB W H D n W' H' D' n') w) := by
  obtain ⟨ok, hok⟩ : ∃ ok : Nat → Bool, ok = fun p => if p = b then volB W H D n else volB W' H' D' n' := ⟨_, rfl⟩
  have ho1 : ok b = volB W H D n := by rw [hok]; simp
  have ho2 : ok b' = volB W' H' D' n' := by rw [hok]; simp [hbb.symm]
  have hall : ∀ k p, (p = b ∨ p = b') → Calls Try.prog 56 #[.pointer (some ⟨p, 0, none⟩)] (w.drewN k) (RB (ok p) (w.drewN k)) := fun k p hpb => by
    rcases hpb with rfl | rfl
    · rw [ho1]; exact specVIs_any W H D a n c _ (w.drewN k) (hp.drewN k) hn
    · rw [ho2]; exact specVIs_any W' H' D' a' n' c' _ (w.drewN k) (hp'.drewN k) hn'
  obtain ⟨_, p0, p1, p2, p3⟩ := id hp
  obtain ⟨_, q0, q1, q2, q3⟩ := id hp'
  clear hp hp' hok
  cases v1 : volB W H D n with
  | false =>
    have o1 := Lib.hid (ho1.trans v1)
    have o2 := o1
    clear ho1 ho2
    go_enter Try.func84, Try.ntmps84
    go_wp2_with fail
    go_quiet ((go_at_call 56; exact Calls.quiet_of ((hall _ _ (by first | exact .inl rfl | exact .inr rfl)).mono fun _ _ ⟨m, he, hw⟩ => ⟨he.trans (by first | rw [o1.out] | rw [o2.out]), m, hw⟩)))
    go_wp2
    go_ret
    exact ⟨_, by simp [alikeB, v1], rfl⟩
  | true =>
    have o1 := Lib.hid (ho1.trans v1)
    cases v2 : volB W' H' D' n' with
    | false =>
      have o2 := Lib.hid (ho2.trans v2)
      clear ho1 ho2
      go_enter Try.func84, Try.ntmps84
      go_wp2_with fail
      go_quiet ((go_at_call 56; exact Calls.quiet_of ((hall _ _ (by first | exact .inl rfl | exact .inr rfl)).mono fun _ _ ⟨m, he, hw⟩ => ⟨he.trans (by first | rw [o1.out] | rw [o2.out]), m, hw⟩)))
      go_wp2
      go_ret
      exact ⟨_, by simp [alikeB, v1, v2], rfl⟩
    | true =>
      have o2 := Lib.hid (ho2.trans v2)
      clear ho1 ho2
      by_cases e1 : W = W'
      · subst e1
        by_cases e2 : H = H'
        · subst e2
          by_cases e3 : D = D'
          · subst e3
            go_enter Try.func84, Try.ntmps84
            go_wp2_with fail
            go_quiet ((go_at_call 56; exact Calls.quiet_of ((hall _ _ (by first | exact .inl rfl | exact .inr rfl)).mono fun _ _ ⟨m, he, hw⟩ => ⟨he.trans (by first | rw [o1.out] | rw [o2.out]), m, hw⟩)))
            go_wp2
            go_ret
            exact ⟨_, by simp [alikeB, v1, v2], rfl⟩
          ·
            have f1 : (D == D') = false := by simpa using e3
            have f2 : decide (D = D') = false := by simpa using e3
            have ee := Lib.hid e3
            clear e3
            go_enter Try.func84, Try.ntmps84
            go_wp2_with fail
            go_quiet ((go_at_call 56; exact Calls.quiet_of ((hall _ _ (by first | exact .inl rfl | exact .inr rfl)).mono fun _ _ ⟨m, he, hw⟩ => ⟨he.trans (by first | rw [o1.out] | rw [o2.out]), m, hw⟩)))
            go_wp2
            go_ret
            exact ⟨_, by simp [alikeB, v1, v2, f2], rfl⟩
        ·
          have f1 : (H == H') = false := by simpa using e2
          have f2 : decide (H = H') = false := by simpa using e2
          have ee := Lib.hid e2
          clear e2
          go_enter Try.func84, Try.ntmps84
          go_wp2_with fail
          go_quiet ((go_at_call 56; exact Calls.quiet_of ((hall _ _ (by first | exact .inl rfl | exact .inr rfl)).mono fun _ _ ⟨m, he, hw⟩ => ⟨he.trans (by first | rw [o1.out] | rw [o2.out]), m, hw⟩)))
          go_wp2
          go_ret
          exact ⟨_, by simp [alikeB, v1, v2, f2], rfl⟩
      ·
        have f1 : (W == W') = false := by simpa using e1
        have f2 : decide (W = W') = false := by simpa using e1
        have ee := Lib.hid e1
        clear e1
        go_enter Try.func84, Try.ntmps84
        go_wp2_with fail
        go_quiet ((go_at_call 56; exact Calls.quiet_of ((hall _ _ (by first | exact .inl rfl | exact .inr rfl)).mono fun _ _ ⟨m, he, hw⟩ => ⟨he.trans (by first | rw [o1.out] | rw [o2.out]), m, hw⟩)))
        go_wp2
        go_ret
        exact ⟨_, by simp [alikeB, v1, v2, f2], rfl⟩
theorem alikeB_self {W H D : Nat} {n n' : Nat} (h : volB W H D n = true) (h' : volB W H D n' = true) : alikeB W H D n W H D n' = true := by simp [alikeB, h, h']
set_option maxRecDepth 100000 in
set_option maxHeartbeats 8000000 in
theorem specMixVolumes_any (W H D : Nat) (a : Option Addr) (n c : Nat) (cs : List Nat) (a' : Option Addr) (n' c' : Nat) (cs' : List Nat) (s sc : Nat) (hs : Fl .f32 s sc) (w : World) (hv : FC w (.slice a n c) cs) (hv' : FC w (.slice a' n' c') cs') (b1 : 1 ≤ W) (b2 : W ≤ 24) (b3 : 1 ≤ H) (b4 : H ≤ 24) (b5 : H * W ≤ 256) (d1 : 1 ≤ D) (d2 : D ≤ 8) (hl : cs.length = H * W * D) (hl' : cs'.length = H * W * D) :
    Calls Try.prog 47 #[.agg #[.int .i64 W, .int .i64 H, .int .i64 D, .slice a n c], .agg #[.int .i64 W, .int .i64 H, .int .i64 D, .slice a' n' c'], .float .f32 s] w (RVol 39 W H D (seqL (fun i => mixF (cs.getD i 0) (cs'.getD i 0) sc) cs.length) true w) := by
  obtain ⟨rfl, hnc, hcm⟩ := hv.sized
  obtain ⟨rfl, hnc', hcm'⟩ := hv'.sized
  have hval := Lib.hid (alikeB_self (volB_mk b1 b2 b3 b4 b5 d1 d2 hl) (volB_mk b1 b2 b3 b4 b5 d1 d2 hl'))
  have h1 := fun w1 hp hp' => specAlike_any W H D a cs.length c w.heap.size W H D a' cs'.length c' (w.heap.size + 1) w1 hp hp' (by omega) (by unfold maxLen at hcm; omega) (by unfold maxLen at hcm'; omega)
  have hcl : cs.length ≤ 2048 := by rw [hl]; exact Nat.mul_le_mul b5 d2
  have hcp : 0 < cs.length := by rw [hl]; exact Nat.mul_pos (Nat.mul_pos b3 b1) d1
  have hll := Lib.hid (hl'.trans hl.symm)
  have h3 := fun w1 (hb : Below w.heap.size w w1) hp => specVOwn_any W H D a cs.length c w.heap.size cs w1 hp (hv.below hb) hcp hcl
  have h1f := oneFl
  clear hl hl'
  go_enter Try.func47, Try.ntmps47
  go_wp2_with fail
  have hP1 := ((Pw.new w W H D (.slice a cs.length c) 27).alloc (.cells #[.int .i64 W, .int .i64 H, .int .i64 D, .slice a' cs'.length c'] 27)).alloc (.cells #[.int .i64 0, .int .i64 0, .int .i64 0, .slice none 0 0] 27)
  have hP2 := (Pw.new (w.alloc (.cells #[.int .i64 W, .int .i64 H, .int .i64 D, .slice a cs.length c] 27)) W H D (.slice a' cs'.length c') 27).alloc (.cells #[.int .i64 0, .int .i64 0, .int .i64 0, .slice none 0 0] 27)
  have hN := Nw.new ((w.alloc (.cells #[.int .i64 W, .int .i64 H, .int .i64 D, .slice a cs.length c] 27)).alloc (.cells #[.int .i64 W, .int .i64 H, .int .i64 D, .slice a' cs'.length c'] 27)) (.int .i64 0) (.int .i64 0) (.int .i64 0) (.slice none 0 0) 27
  simp only [World.size_alloc] at hP2 hN
  refine (h1 _ hP1 hP2).mono ?_
  rintro e w1 ⟨k, rfl, rfl⟩
  rw [hval.out]
  go_wp2_with fail
  obtain ⟨w0, hw0⟩ : ∃ w0, w0 = (((w.alloc (.cells #[.int .i64 W, .int .i64 H, .int .i64 D, .slice a cs.length c] 27)).alloc (.cells #[.int .i64 W, .int .i64 H, .int .i64 D, .slice a' cs'.length c'] 27)).alloc (.cells #[.int .i64 0, .int .i64 0, .int .i64 0, .slice none 0 0] 27)).drewN k := ⟨_, rfl⟩
  rw [← hw0]
  have hp0 : Pw w0 w.heap.size W H D (.slice a cs.length c) := by rw [hw0]; exact hP1.drewN k
  have hq0 : Pw w0 (w.heap.size + 1) W H D (.slice a' cs'.length c') := by rw [hw0]; exact hP2.drewN k
  have hn0 : Nw w0 (w.heap.size + 1 + 1) (.int .i64 0) (.int .i64 0) (.int .i64 0) (.slice none 0 0) := by rw [hw0]; exact hN.drewN k
  have hb0 : Below w.heap.size w w0 := by rw [hw0]; exact below_drewN (below3 _ _ _ _) _
  have hlt0 : w.heap.size + 1 + 1 < w0.heap.size := hn0.1
  clear hw0 hP1 hP2 hN
  refine (h3 _ hb0 hp0).mono ?_
  rintro e w1 ⟨a1, n1, c1, rfl, hb1, ho1⟩
  obtain ⟨bo, hbo0⟩ : ∃ b, b = w1.heap.size := ⟨_, rfl⟩
  have hmk := Lib.hid (Mv.start1 (W := (W : Int)) (H := (H : Int)) (D := (D : Int)) (T := 27) hb1 ho1)
  rw [← hbo0] at hmk
  have hln := ho1.fc.sized.1
  have hpv := Lib.hid (And.intro hp0 (And.intro hq0 (And.intro hn0 (And.intro (hv.below hb0) (And.intro (hv'.below hb0) hb0)))))
  clear hb1 ho1 hn0 hb0 hp0 hq0 h3 h1 hv hv'
  subst hln
  go_wp2_with fail
  rw [← hbo0]
  clear hbo0
  go_loopw [17] (fun i wr => ∃ k : Nat, k ≤ cs.length ∧ i = .int .i64 k ∧ Hid (Mv 39 w0 bo W H D (partL (fun i => mixF (cs.getD i 0) (cs'.getD i 0) sc) cs k) wr)) (fun i _ => cs.length - (intOf i).toNat)
  case atStart => exact ⟨0, Nat.zero_le _, rfl, by rw [partL_zero]; exact hmk⟩
  case round =>
    clear hmk
    obtain ⟨k, hk, rfl, hmk⟩ := hrel
    obtain ⟨a2, n2, c2, hN, ho, hne, hbo, hbl⟩ := hmk.out
    by_cases hlk : k < cs.length
    · have hlen := partL_len (fun i => mixF (cs.getD i 0) (cs'.getD i 0) sc) cs k hk
      obtain ⟨g, cap, eg, hn2, rr⟩ := OC.own_form ho (by rw [hlen]; omega)
      obtain ⟨rfl, _, rfl⟩ := Value.slice.inj eg
      clear eg
      rw [hlen] at hn2
      subst hn2
      obtain ⟨zold, holdF, hold⟩ := ho.row_at (k := k) (by rw [hlen]; omega)
      obtain ⟨_, j0, j1, j2, j3, jf⟩ := id hN
      obtain ⟨_, e0, e1, e2, e3⟩ := hpv.out.1.below hbl
      obtain ⟨_, g0, g1, g2, g3⟩ := hpv.out.2.1.below hbl
      obtain ⟨b1', off1, cc1, z1, ev1, _, _, _, hz1f, hz1c⟩ := (hpv.out.2.2.2.1.below hbl).cell hlk
      obtain ⟨b2', off2, cc2, z2, ev2, _, _, _, hz2f, hz2c⟩ := (hpv.out.2.2.2.2.1.below hbl).cell (k := k) (by rw [hll.out]; exact hlk)
      simp only [Value.slice.injEq, true_and] at ev1 ev2
      obtain ⟨rfl, rfl⟩ := ev1
      obtain ⟨rfl, rfl⟩ := ev2
      obtain ⟨x1, hx1⟩ : ∃ x, x = cs.getD k 0 := ⟨_, rfl⟩
      obtain ⟨x2, hx2⟩ : ∃ x, x = cs'.getD k 0 := ⟨_, rfl⟩
      rw [← hx1] at hz1f
      rw [← hx2] at hz2f
      have hset := Lib.hid (partL_set (fun i => mixF (cs.getD i 0) (cs'.getD i 0) sc) cs k hlk)
      have hput := Lib.hid (fun (r : Nat) (hr : Fl .f32 r (mixF x1 x2 sc)) => Mv.put hN ho hne hbo hbl (k := k) (by rw [hlen]; exact hlk) hr)
      have hfz : wr.frozen? ⟨g, k, none⟩ = false := rr _
      have i1 : (0 : Int) ≤ (k : Int) := Int.natCast_nonneg _
      have i2 : (k : Int) < (cs.length : Int) := by omega
      have i3 : (k : Int) < (cs'.length : Int) := by have := hll.out; omega
      have hx1' := Lib.hid hx1
      have hx2' := Lib.hid hx2
      clear hN ho hne hbl holdF hlen hmk rr hx1 hx2
      go_wp2_with fail
      refine wp_region_cls_tail 20 (by kernel_rfl) (by kernel_rfl) (by rfl) (by kernel_rfl) (by kernel_rfl) (fun w' => ∃ n, w' = wr.drewN n) ⟨1, rfl⟩ [Eq1 ?q2213u0, Eq1 ?q2213u1, Eq1 ?q2213u2, Eq1 ?q2213u3, Eq1 ?q2213u4, Eq1 ?q2213u5, Eq1 ?q2213u6, Eq1 ?q2213u7, Eq1 ?q2213u8, FloatIs .f32 (fop .mul .f32 x1 sc), Eq1 ?q2213u10, Eq1 ?q2213u11, Eq1 ?q2213u12, Eq1 ?q2213u13, Eq1 ?q2213u14, Eq1 ?q2213u15, FloatIs .f32 (fop .sub .f32 1065353216 sc), FloatIs .f32 (fop .mul .f32 x2 (fop .sub .f32 1065353216 sc)), FloatIs .f32 (mixF x1 x2 sc), Eq1 ?q2213u19] ?q2213main
      case q2213main =>
        simp only [List.take_succ_cons, List.take_zero]
        (refine wpR_pure ?_ (fun w hw => ?_) ?_; rfl; (obtain ⟨nn, rfl⟩ := hw; go_simp; (try with_reducible rfl)); (try simp only [Act.put, List.setIfInBounds_toArray, List.set_cons_zero, List.set_cons_succ]))
        (refine wpR_pure ?_ (fun w hw => ?_) ?_; rfl; (obtain ⟨nn, rfl⟩ := hw; go_simp; (try with_reducible rfl)); (try simp only [Act.put, List.setIfInBounds_toArray, List.set_cons_zero, List.set_cons_succ]))
        (refine wpR_pure ?_ (fun w hw => ?_) ?_; rfl; (obtain ⟨nn, rfl⟩ := hw; go_simp; (try with_reducible rfl)); (try simp only [Act.put, List.setIfInBounds_toArray, List.set_cons_zero, List.set_cons_succ]))
        (refine wpR_pure ?_ (fun w hw => ?_) ?_; rfl; (obtain ⟨nn, rfl⟩ := hw; go_simp; (try with_reducible rfl)); (try simp only [Act.put, List.setIfInBounds_toArray, List.set_cons_zero, List.set_cons_succ]))
        (refine wpR_pure ?_ (fun w hw => ?_) ?_; rfl; (obtain ⟨nn, rfl⟩ := hw; go_simp; (try with_reducible rfl)); (try simp only [Act.put, List.setIfInBounds_toArray, List.set_cons_zero, List.set_cons_succ]))
        (refine wpR_pure ?_ (fun w hw => ?_) ?_; rfl; (obtain ⟨nn, rfl⟩ := hw; go_simp; (try with_reducible rfl)); (try simp only [Act.put, List.setIfInBounds_toArray, List.set_cons_zero, List.set_cons_succ]))
        (refine wpR_pure ?_ (fun w hw => ?_) ?_; rfl; (obtain ⟨nn, rfl⟩ := hw; go_simp; (try with_reducible rfl)); (try simp only [Act.put, List.setIfInBounds_toArray, List.set_cons_zero, List.set_cons_succ]))
        (refine wpR_pure ?_ (fun w hw => ?_) ?_; rfl; (obtain ⟨nn, rfl⟩ := hw; go_simp; (try with_reducible rfl)); (try simp only [Act.put, List.setIfInBounds_toArray, List.set_cons_zero, List.set_cons_succ]))
        (refine wpR_pure ?_ (fun w hw => ?_) ?_; rfl; (obtain ⟨nn, rfl⟩ := hw; go_simp; (try with_reducible rfl)); (try simp only [Act.put, List.setIfInBounds_toArray, List.set_cons_zero, List.set_cons_succ]))
        (refine wpR_cls ?_ (fun w hw => ?_) ?_; rfl; (obtain ⟨nn, rfl⟩ := hw; go_simp; exact ⟨⟨_, rfl⟩, _, rfl, Fl.flR (by assumption) (by assumption) _⟩); (rintro _ ⟨_, rfl, _⟩; (try simp only [Act.put, List.setIfInBounds_toArray, List.set_cons_zero, List.set_cons_succ])))
        (refine wpR_pure ?_ (fun w hw => ?_) ?_; rfl; (obtain ⟨nn, rfl⟩ := hw; go_simp; (try with_reducible rfl)); (try simp only [Act.put, List.setIfInBounds_toArray, List.set_cons_zero, List.set_cons_succ]))
        (refine wpR_pure ?_ (fun w hw => ?_) ?_; rfl; (obtain ⟨nn, rfl⟩ := hw; go_simp; (try with_reducible rfl)); (try simp only [Act.put, List.setIfInBounds_toArray, List.set_cons_zero, List.set_cons_succ]))
        (refine wpR_pure ?_ (fun w hw => ?_) ?_; rfl; (obtain ⟨nn, rfl⟩ := hw; go_simp; (try with_reducible rfl)); (try simp only [Act.put, List.setIfInBounds_toArray, List.set_cons_zero, List.set_cons_succ]))
        (refine wpR_pure ?_ (fun w hw => ?_) ?_; rfl; (obtain ⟨nn, rfl⟩ := hw; go_simp; (try with_reducible rfl)); (try simp only [Act.put, List.setIfInBounds_toArray, List.set_cons_zero, List.set_cons_succ]))
        (refine wpR_pure ?_ (fun w hw => ?_) ?_; rfl; (obtain ⟨nn, rfl⟩ := hw; go_simp; (try with_reducible rfl)); (try simp only [Act.put, List.setIfInBounds_toArray, List.set_cons_zero, List.set_cons_succ]))
        (refine wpR_pure ?_ (fun w hw => ?_) ?_; rfl; (obtain ⟨nn, rfl⟩ := hw; go_simp; (try with_reducible rfl)); (try simp only [Act.put, List.setIfInBounds_toArray, List.set_cons_zero, List.set_cons_succ]))
        (refine wpR_cls ?_ (fun w hw => ?_) ?_; rfl; (obtain ⟨nn, rfl⟩ := hw; go_simp; exact ⟨⟨_, rfl⟩, _, rfl, Fl.flR (by assumption) (by assumption) _⟩); (rintro _ ⟨_, rfl, _⟩; (try simp only [Act.put, List.setIfInBounds_toArray, List.set_cons_zero, List.set_cons_succ])))
        (refine wpR_cls ?_ (fun w hw => ?_) ?_; rfl; (obtain ⟨nn, rfl⟩ := hw; go_simp; exact ⟨⟨_, rfl⟩, _, rfl, Fl.flR (by assumption) (by assumption) _⟩); (rintro _ ⟨_, rfl, _⟩; (try simp only [Act.put, List.setIfInBounds_toArray, List.set_cons_zero, List.set_cons_succ])))
        (refine wpR_cls ?_ (fun w hw => ?_) ?_; rfl; (obtain ⟨nn, rfl⟩ := hw; go_simp; exact ⟨⟨_, rfl⟩, _, rfl, Fl.flR (by assumption) (by assumption) _⟩); (rintro _ ⟨_, rfl, _⟩; (try simp only [Act.put, List.setIfInBounds_toArray, List.set_cons_zero, List.set_cons_succ])))
        (refine wpR_pure ?_ (fun w hw => ?_) ?_; rfl; (obtain ⟨nn, rfl⟩ := hw; go_simp; (try with_reducible rfl)); (try simp only [Act.put, List.setIfInBounds_toArray, List.set_cons_zero, List.set_cons_succ]))
        refine wpR_nil ?_
        rintro w' ⟨nn, rfl⟩
        refine wpAny_last 20 _ (by kernel_rfl) rfl rfl (by kernel_rfl) fun K hK => ?_
        go_simp
        refine hK _ _ ?_
        have hM := hput.out _ (by assumption)
        have hs := hset.out
        rw [← hx1'.out, ← hx2'.out] at hs
        rw [hs] at hM
        have hM := Lib.hid hM
        clear hput hset hs
        go_wp2_with fail
        go_roundw
        case rel => exact ⟨k + 1, by omega, by go_num, by first | exact hM | exact Lib.hid (hM.out.drewN _)⟩
        case measure => simp [intOf]; omega
    · obtain rfl : k = cs.length := by omega
      obtain ⟨_, f0, f1, f2, f3, f4⟩ := hN
      obtain ⟨_, r0, r1, r2, r3, rf⟩ := hpv.out.2.2.1.below hbl
      have hoc := Lib.hid ho
      clear ho
      go_wp2_with fail
      refine bodyPost_ret (v := ?v) ?hr rfl ?post
      case hr => (simp [results, Try.results47, go_sem, f0, f1, f2, f3, r0, r1, r2, r3, rf]; try rfl)
      case post =>
        have h0 := hpv.out.2.2.2.2.2
        have hoo := hoc.out
        rw [partL_end] at hoo
        refine ⟨_, _, _, rfl, ?_, ?_⟩
        · ((repeat' (first | (refine bel_set ?_ ?_ _) | (refine bel_al ?_ ?_ _) | exact Below.refl _ _ | assumption | (refine below_drewN ?_ _) | (refine Below.drew ?_) | (refine Below.trans ?_ (Below.mono hbl ?_)))) <;> (first | omega | (simp; done) | (simp; omega)))
        · (refine OC.mono (base := ?bb) ?hh ?hl; (case hh => ((repeat' (first | (refine OC.set ?_ _ ?_) | (refine OC.alloc ?_ _) | exact hoo | (refine OC.drewN ?_ _))) <;> (first | omega | (simp; done) | (simp; omega)))); (case hl => (first | omega | (simp; done) | (simp; omega))))
end Go.Proofs.Ytmfdiobpdaonaaa
