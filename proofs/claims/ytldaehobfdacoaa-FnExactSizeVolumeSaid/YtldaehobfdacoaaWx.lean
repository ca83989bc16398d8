import Derived.Test.YtldaehobfdacoaaWq
import Derived.Test.YtldaehobfdacoaaWz
import Derived.Test.YtldaehobfdacoaaLy
set_option linter.unusedVariables false
set_option linter.unusedSimpArgs false
namespace Go.Proofs.Ytldaehobfdacoaa
open Go.FX Go.RowKit Go.WideShapes Go.ChangeShapes

def szF (c : Nat) : Nat := cn .f32 (c % 2147483648)
theorem szF_of {r c : Nat} (hr : Fl .f32 r (sizeF c)) (hc : c < 4294967296) : Fl .f32 r (szF c) := ⟨hr.1, by rw [hr.eq, ← hr.canon, sizeF_abs c hc]; rfl⟩
theorem absolute_fn : UnFn Try.prog 80 szF := fun w1 r c h => by
  have h' := Lib.hid h
  clear h
  go_enter Try.func80, Try.ntmps80
  go_wp2
  go_ret
  exact ⟨_, rfl, by first | exact Below.refl _ _ | exact below_drewN (Below.refl _ _) _ | exact below_drewN (below_drewN (Below.refl _ _) _) _, by rw [andNot_abs _ (cvR_lt' r w1)]; exact abs_narrow h'.out _ _⟩
set_option maxHeartbeats 2000000 in
theorem cmpSz_fn (W H D : Nat) (a : Option Addr) (n c : Nat) (cs : List Nat) (a' : Option Addr) (n' c' : Nat) (cs' : List Nat) (bf bp bq : Nat) (w : World) (hf : Fv w bf 80) (hv : FC w (.slice a n c) cs) (hp : Pv w bp W H (.slice a n c)) (hv' : FC w (.slice a' n' c') cs') (hp' : Pv w bq W H (.slice a' n' c')) (b1 : 1 ≤ W) (b2 : W ≤ 24) (b3 : 1 ≤ H) (b4 : H ≤ 24) (hl : cs.length = H * W) (hl' : cs'.length = H * W) (d2 : D ≤ 8) :
    CostFn Try.prog 114 #[] #[.pointer (some ⟨bf, 0, none⟩), .pointer (some ⟨bp, 0, none⟩), .pointer (some ⟨bq, 0, none⟩)] W H D (cmpF W H szF cs cs') w := fun w1 x y d hb hx hy hd => by
  have hat := fun w2 (h : Below w1.heap.size w1 w2) => about_any W H (.slice a n c) cs x y w2 ((hv.below hb).below h) b1 b2 b3 b4 hl (by omega) (by omega) (by omega) (by omega)
  have hat' := fun w2 (h : Below w1.heap.size w1 w2) => about_any W H (.slice a' n' c') cs' ((x : Int) - d) y w2 ((hv'.below hb).below h) b1 b2 b3 b4 hl' (by omega) (by omega) (by omega) (by omega)
  have hsq := fun (r : Nat) (w2 : World) (h : Below w1.heap.size w1 w2) (hr : Fl .f32 r (fop .sub .f32 (atC W H cs x y) (atC W H cs' ((x : Int) - d) y))) => absolute_fn w2 r _ hr
  obtain ⟨g1, e1⟩ : ∃ g, g = atC W H cs x y := ⟨_, rfl⟩
  obtain ⟨g2, e2⟩ : ∃ g, g = atC W H cs' ((x : Int) - d) y := ⟨_, rfl⟩
  have hE : Hid (cmpF W H szF cs cs' x y d = szF (fop .sub .f32 g1 g2)) := Lib.hid (by rw [e1, e2]; rfl)
  rw [← e1] at hat hsq
  rw [← e2] at hat' hsq
  obtain ⟨_, f0⟩ := hf.below hb
  obtain ⟨_, p0, p1, p2⟩ := hp.below hb
  obtain ⟨_, q0, q1, q2⟩ := hp'.below hb
  have m1 : IntKind.i64.wrap ((x : Int) - d) = (x : Int) - d := IntWalk.i64_in _ (by omega)
  clear hv hp hv' hp' hl hl' hb hf e1 e2
  show Calls Try.prog 114 #[.int .i64 x, .int .i64 y, .int .i64 d, .pointer (some ⟨bf, 0, none⟩), .pointer (some ⟨bp, 0, none⟩), .pointer (some ⟨bq, 0, none⟩)] w1 _
  go_enter Try.func114, Try.ntmps114
  go_upto_region 1 with fail
  refine wp_region_cls (by kernel_rfl) (by kernel_rfl) (by kernel_rfl) (by kernel_rfl) (fun w' => Below w1.heap.size w1 w') (below_drewN (Below.refl _ _) 1) [Eq1 ?q4364u0, Eq1 ?q4364u1, Eq1 ?q4364u2, Eq1 ?q4364u3, FloatIs .f32 (g1), Eq1 ?q4364u5, Eq1 ?q4364u6, Eq1 ?q4364u7, Eq1 ?q4364u8, Eq1 ?q4364u9, FloatIs .f32 (g2), FloatIs .f32 (fop .sub .f32 g1 g2), FloatIs .f32 (szF (fop .sub .f32 g1 g2)), FloatIs .f32 (szF (fop .sub .f32 g1 g2))] ?q4364main
  case q4364main =>
    (refine wpR_pure ?_ (fun w hw => ?_) ?_; rfl; (obtain ⟨hwc, hwf⟩ := bcell2 hw; go_simp; (try with_reducible rfl)); (try simp only [Act.put, List.setIfInBounds_toArray, List.set_cons_zero, List.set_cons_succ]))
    (refine wpR_pure ?_ (fun w hw => ?_) ?_; rfl; (obtain ⟨hwc, hwf⟩ := bcell2 hw; go_simp; (try with_reducible rfl)); (try simp only [Act.put, List.setIfInBounds_toArray, List.set_cons_zero, List.set_cons_succ]))
    (refine wpR_pure ?_ (fun w hw => ?_) ?_; rfl; (obtain ⟨hwc, hwf⟩ := bcell2 hw; go_simp; (try with_reducible rfl)); (try simp only [Act.put, List.setIfInBounds_toArray, List.set_cons_zero, List.set_cons_succ]))
    (refine wpR_pure ?_ (fun w hw => ?_) ?_; rfl; (obtain ⟨hwc, hwf⟩ := bcell2 hw; go_simp; (try with_reducible rfl)); (try simp only [Act.put, List.setIfInBounds_toArray, List.set_cons_zero, List.set_cons_succ]))
    (refine wpR_cls ?_ (fun w hw => ?_) ?_; rfl; (go_simp; refine (hat _ hw).mono ?_; rintro _ _ ⟨_, rfl, hcb, hcr⟩; exact ⟨_, rfl, ⟨_, rfl, hcr⟩, Below.trans hw (hcb.mono hw.size)⟩); (rintro _ ⟨_, rfl, _⟩; (try simp only [Act.put, List.setIfInBounds_toArray, List.set_cons_zero, List.set_cons_succ])))
    (refine wpR_pure ?_ (fun w hw => ?_) ?_; rfl; (obtain ⟨hwc, hwf⟩ := bcell2 hw; go_simp; (try with_reducible rfl)); (try simp only [Act.put, List.setIfInBounds_toArray, List.set_cons_zero, List.set_cons_succ]))
    (refine wpR_pure ?_ (fun w hw => ?_) ?_; rfl; (obtain ⟨hwc, hwf⟩ := bcell2 hw; go_simp; (try with_reducible rfl)); (try simp only [Act.put, List.setIfInBounds_toArray, List.set_cons_zero, List.set_cons_succ]))
    (refine wpR_pure ?_ (fun w hw => ?_) ?_; rfl; (obtain ⟨hwc, hwf⟩ := bcell2 hw; go_simp; (try with_reducible rfl)); (try simp only [Act.put, List.setIfInBounds_toArray, List.set_cons_zero, List.set_cons_succ]))
    (refine wpR_pure ?_ (fun w hw => ?_) ?_; rfl; (obtain ⟨hwc, hwf⟩ := bcell2 hw; go_simp; (try with_reducible rfl)); (try simp only [Act.put, List.setIfInBounds_toArray, List.set_cons_zero, List.set_cons_succ]))
    (refine wpR_pure ?_ (fun w hw => ?_) ?_; rfl; (obtain ⟨hwc, hwf⟩ := bcell2 hw; go_simp; (try with_reducible rfl)); (try simp only [Act.put, List.setIfInBounds_toArray, List.set_cons_zero, List.set_cons_succ]))
    (refine wpR_cls ?_ (fun w hw => ?_) ?_; rfl; (go_simp; refine (hat' _ hw).mono ?_; rintro _ _ ⟨_, rfl, hcb, hcr⟩; exact ⟨_, rfl, ⟨_, rfl, hcr⟩, Below.trans hw (hcb.mono hw.size)⟩); (rintro _ ⟨_, rfl, _⟩; (try simp only [Act.put, List.setIfInBounds_toArray, List.set_cons_zero, List.set_cons_succ])))
    (refine wpR_cls ?_ (fun w hw => ?_) ?_; rfl; (go_simp; exact ⟨below_drewN hw _, _, rfl, Fl.flR (by assumption) (by assumption) _⟩); (rintro _ ⟨_, rfl, _⟩; (try simp only [Act.put, List.setIfInBounds_toArray, List.set_cons_zero, List.set_cons_succ])))
    (refine wpR_cls ?_ (fun w hw => ?_) ?_; rfl; (go_simp; refine (hsq _ _ hw (by assumption)).mono ?_; rintro _ _ ⟨_, rfl, hcb, hcr⟩; exact ⟨_, rfl, ⟨_, rfl, hcr⟩, Below.trans hw (hcb.mono hw.size)⟩); (rintro _ ⟨_, rfl, _⟩; (try simp only [Act.put, List.setIfInBounds_toArray, List.set_cons_zero, List.set_cons_succ])))
    (refine wpR_cls ?_ (fun w hw => ?_) ?_; rfl; (go_simp; first | exact ⟨_, rfl, by assumption⟩ | exact ⟨hw, _, rfl, by assumption⟩); (rintro _ ⟨_, rfl, _⟩; (try simp only [Act.put, List.setIfInBounds_toArray, List.set_cons_zero, List.set_cons_succ])))
    refine wpR_nil ?_
    intro w' hw'
    go_wp2_with fail
    go_ret
    exact ⟨_, rfl, by assumption, by rw [hE.out]; assumption⟩
set_option maxHeartbeats 1000000 in
theorem implSizeVolume_of (W H : Int) (a : Option Addr) (n c : Nat) (W' H' : Int) (a' : Option Addr) (n' c' : Nat) (D : Int) (W2 H2 D2 : Int) (cs2 : List Nat) (ok : Bool) (w : World)
    (h : ∀ w1, Below w.heap.size w w1 → Calls Try.prog 78 #[.agg #[.int .i64 W, .int .i64 H, .slice a n c], .agg #[.int .i64 W', .int .i64 H', .slice a' n' c'], .int .i64 D, .func (.func 80) #[] #[]] w1 (RVol 55 W2 H2 D2 cs2 ok w1)) :
    Calls Try.prog 44 #[.agg #[.int .i64 W, .int .i64 H, .slice a n c], .agg #[.int .i64 W', .int .i64 H', .slice a' n' c'], .int .i64 D] w (RVol 55 W2 H2 D2 cs2 ok w) := by
  go_enter Try.func44, Try.ntmps44
  go_wp2_with fail
  refine (h _ (below3 _ _ _ _)).mono ?_
  rintro e w1 ⟨a1, n1, c1, rfl, hb1, ho1⟩
  obtain ⟨l1, q0, q1, q2, q3, qf⟩ := (Nw.new _ _ _ _ _ _).below hb1
  have s1 := hb1.size
  simp only [World.size_alloc] at l1 q0 q1 q2 q3 qf s1
  go_wp2_with fail
  refine bodyPost_ret (v := ?v) ?hr rfl ?post
  case hr => (simp [results, Try.results44, go_sem, q0, q1, q2, q3, qf]; try rfl)
  case post =>
    refine ⟨_, _, _, rfl, ?_, ?_⟩
    · ((repeat' (first | (refine bel_set ?_ ?_ _) | (refine bel_al ?_ ?_ _) | exact Below.refl _ _ | assumption | (refine below_drewN ?_ _) | (refine Below.drew ?_) | (refine Below.trans ?_ (Below.mono hb1 ?_)))) <;> (first | omega | (simp; done) | (simp; omega)))
    · (refine OC.mono (base := ?bb) ?hh ?hl; (case hh => ((repeat' (first | (refine OC.set ?_ _ ?_) | (refine OC.alloc ?_ _) | exact ho1 | (refine OC.drewN ?_ _))) <;> (first | omega | (simp; done) | (simp; omega)))); (case hl => (first | omega | (simp; done) | (simp; omega))))
theorem implSizeVolume_any (W H D : Nat) (a : Option Addr) (n c : Nat) (cs : List Nat) (a' : Option Addr) (n' c' : Nat) (cs' : List Nat) (w : World) (hv : FC w (.slice a n c) cs) (hv' : FC w (.slice a' n' c') cs') (b1 : 1 ≤ W) (b2 : W ≤ 24) (b3 : 1 ≤ H) (b4 : H ≤ 24) (b5 : H * W ≤ 256) (hl : cs.length = H * W) (hl' : cs'.length = H * W) (d1 : 1 ≤ D) (d2 : D ≤ 8) :
    Calls Try.prog 44 #[.agg #[.int .i64 W, .int .i64 H, .slice a n c], .agg #[.int .i64 W, .int .i64 H, .slice a' n' c'], .int .i64 D] w (RVol 55 W H D (cubeL W D (cmpF W H szF cs cs') (H * W * D)) true w) := by
  obtain ⟨rfl, hnc, hcm⟩ := hv.sized
  obtain ⟨rfl, hnc', hcm'⟩ := hv'.sized
  have hpair : pairB W H cs.length W H cs'.length = true := by unfold pairB; rw [validB_mk b1 b2 b3 b4 b5 hl, validB_mk b1 b2 b3 b4 b5 hl']; simp
  refine implSizeVolume_of _ _ _ _ _ _ _ _ _ _ _ _ _ _ _ _ w fun w1 hb => implCompare_of _ _ _ _ _ _ _ _ _ _ _ _ _ w1 hnc hcm hnc' hcm' hpair (by unfold deepB; simp; omega) fun w2 bf bp bq hb2 hf hp hq => ?_
  have hbb := hb.trans (hb2.mono hb.size)
  exact build_any W H D b1 b2 b3 b4 b5 d1 d2 _ _ _ _ w2 (enters_of Try.func114 (by kernel_rfl) rfl) (cmpSz_fn W H D a _ c cs a' _ c' cs' bf bp bq w2 hf (hv.below hbb) hp (hv'.below hbb) hq b1 b2 b3 b4 hl hl' d2)
set_option maxRecDepth 100000 in
set_option maxHeartbeats 8000000 in
theorem specCmpSz_any (W H D : Nat) (a0 : Option Addr) (n0 c0 bp : Nat) (cs : List Nat) (a' : Option Addr) (n' c' bq : Nat) (cs' : List Nat) (w : World) (hp : Pv w bp W H (.slice a0 n0 c0)) (hv : FC w (.slice a0 n0 c0) cs) (hq : Pv w bq W H (.slice a' n' c')) (hv' : FC w (.slice a' n' c') cs') (b1 : 1 ≤ W) (b2 : W ≤ 24) (b3 : 1 ≤ H) (b4 : H ≤ 24) (b5 : H * W ≤ 256) (hl : cs.length = H * W) (hl' : cs'.length = H * W) (d1 : 1 ≤ D) (d2 : D ≤ 8) :
    Calls Try.prog 77 #[.pointer (some ⟨bp, 0, none⟩), .pointer (some ⟨bq, 0, none⟩), .int .i64 D, .bool false] w (RVol1 55 W H D (cubeL W D (cmpF W H szF cs cs') (H * W * D)) w) := by
  obtain ⟨i0, hi, hz0, hz1, hz2⟩ := info_parts info_f32
  obtain ⟨rfl, hnc, hcm⟩ := hv.sized
  obtain ⟨rfl, hnc', hcm'⟩ := hv'.sized
  have hll := Lib.hid (And.intro hl hl')
  have hmax : Hid (H * W * D ≤ 256 * 8) := Lib.hid (Nat.mul_le_mul b5 d2)
  clear hl hl'
  go_enter Try.func77, Try.ntmps77
  go_upto_region 1 with fail
  obtain ⟨w0, hw0⟩ : ∃ w0, w0 = w.alloc (.cells #[.int .i64 0, .int .i64 0, .int .i64 0, .slice none 0 0] 34) := ⟨_, rfl⟩
  rw [← hw0]
  have hp0 : Pv w0 bp W H (.slice a0 cs.length c0) := by rw [hw0]; exact hp.alloc _
  have hv0 : FC w0 (.slice a0 cs.length c0) cs := by rw [hw0]; exact hv.alloc _
  have hq0 : Pv w0 bq W H (.slice a' cs'.length c') := by rw [hw0]; exact hq.alloc _
  have hv0' : FC w0 (.slice a' cs'.length c') cs' := by rw [hw0]; exact hv'.alloc _
  have hn0 : Nw w0 w.heap.size (.int .i64 0) (.int .i64 0) (.int .i64 0) (.slice none 0 0) := by rw [hw0]; exact Nw.new _ _ _ _ _ _
  have hb0 : Below w.heap.size w w0 := by rw [hw0]; exact below1 _ _
  have hlt0 : w.heap.size < w0.heap.size := hn0.1
  clear hw0 hp hv hq hv'
  obtain ⟨hp1, p0, p1, p2⟩ := id hp0
  have hpv := Lib.hid (And.intro hp0 (And.intro hv0 (And.intro hn0 (And.intro hq0 (And.intro hv0' hb0)))))
  clear hp0 hv0 hn0 hb0 hq0 hv0'
  go_region_held3 (fun w' => Below w0.heap.size w0 w' ∧ w0.heap.size ≤ w'.heap.size ∧ (∀ b o, b < w0.heap.size → w'.cell? ⟨b, o, none⟩ = w0.cell? ⟨b, o, none⟩)) (first | exact keepStart _ | assumption | exact ⟨by assumption, by assumption, by assumption⟩ | exact keepCall (by assumption) (by assumption) | exact keepAlloc (by assumption) | (refine keepSet ?_ (keepSet ?_ (keepSet ?_ (keepSet ?_ ?_))) <;> first | assumption | omega | (simp; done) | (simp; omega)) | (refine keepSet ?_ (keepSet ?_ (keepSet ?_ ?_)) <;> first | assumption | omega | (simp; done) | (simp; omega)) | (refine keepSet ?_ (keepSet ?_ ?_) <;> first | assumption | omega | (simp; done) | (simp; omega)) | (refine keepSet ?_ ?_ <;> first | assumption | omega | (simp; done) | (simp; omega)) | ((refine keepOf ?_; ((repeat' (first | (refine bel_set ?_ ?_ _) | (refine bel_al ?_ ?_ _) | exact Below.refl _ _ | assumption | exact And.left (by assumption) | (refine below_drewN ?_ _) | (refine Below.drew ?_))) <;> (first | omega | (simp; done) | (simp; omega)))))) (fail)
  obtain ⟨bo, hbo0⟩ : ∃ b, b = w0.heap.size := ⟨_, rfl⟩
  have hmk := Lib.hid (Mv.start0 (E := 55) (w0 := w0) (W := (W : Int)) (H := (H : Int)) (D := (D : Int)) (T := 34))
  go_wp2_with fail
  rw [← hbo0] at hmk ⊢
  have hbo1 : w0.heap.size ≤ bo := by omega
  clear hbo0
  go_loopw [10] (fun i wr => ∃ y : Nat, y ≤ H ∧ i = .int .i64 y ∧ Hid (Mv 55 w0 bo W H D (cubeL W D (cmpF W H szF cs cs') ((y * W + 0) * D + 0)) wr)) (fun i _ => H - (intOf i).toNat)
  case atStart => exact ⟨0, Nat.zero_le _, rfl, by rw [show cubeL W D (cmpF W H szF cs cs') ((0 * W + 0) * D + 0) = [] by simp [cubeL, seqL]]; first | exact hmk | exact Lib.hid (hmk.out.drewN 1)⟩
  case round =>
    clear hmk
    obtain ⟨y, hy, rfl, hmk⟩ := hrel
    have hbl := hmk.out.choose_spec.choose_spec.choose_spec.2.2.2.2
    obtain ⟨_, e0, e1, e2⟩ := hpv.out.1.below hbl
    by_cases hly : y < H
    · clear hbl
      go_wp2_with fail
      clear e0 e1 e2
      go_loopw [11] (fun i wr => ∃ x : Nat, x ≤ W ∧ i = .int .i64 x ∧ Hid (Mv 55 w0 bo W H D (cubeL W D (cmpF W H szF cs cs') ((y * W + x) * D + 0)) wr)) (fun i _ => W - (intOf i).toNat)
      case atStart => exact ⟨0, Nat.zero_le _, rfl, hmk⟩
      case round =>
        clear hmk
        obtain ⟨x, hx, rfl, hmk⟩ := hrel
        have hbl := hmk.out.choose_spec.choose_spec.choose_spec.2.2.2.2
        obtain ⟨_, e0, e1, e2⟩ := hpv.out.1.below hbl
        by_cases hlx : x < W
        · clear hbl
          go_wp2_with fail
          clear e0 e1 e2
          go_loopw [12] (fun i wr => ∃ d : Nat, d ≤ D ∧ i = .int .i64 d ∧ Hid (Mv 55 w0 bo W H D (cubeL W D (cmpF W H szF cs cs') ((y * W + x) * D + d)) wr)) (fun i _ => D - (intOf i).toNat)
          case atStart => exact ⟨0, Nat.zero_le _, rfl, hmk⟩
          case round =>
            clear hmk
            obtain ⟨d, hd, rfl, hmk⟩ := hrel
            obtain ⟨a, n, c, hN, ⟨zs, hz, hzm, hrow⟩, hne, hbo, hbl⟩ := hmk.out
            by_cases hld : d < D
            · have hlen : zs.length = (y * W + x) * D + d := by rw [← cubeL_len W D (cmpF W H szF cs cs') ((y * W + x) * D + d), ← hzm, List.length_map]
              have hle : zs.length + 1 ≤ 2048 := by
                have h1 := (cost_lt (W := W) (H := H) (D := D) hlx hly hld).1
                have := hmax.out
                omega
              have hh := Lib.hid (And.intro hz (And.intro hzm (And.intro hle (And.intro hbl hN))))
              have hat := fun w1 (hb1 : Below wr.heap.size wr w1) => specAt_any W H a0 cs.length c0 bp cs x y w1 ((hpv.out.1.below hbl).below hb1) ((hpv.out.2.1.below hbl).below hb1) b1 b2 b3 b4 hll.out.1
              have hat' := fun w1 (hb1 : Below wr.heap.size wr w1) => specAt_any W H a' cs'.length c' bq cs' ((x : Int) - d) y w1 ((hpv.out.2.2.2.1.below hbl).below hb1) ((hpv.out.2.2.2.2.1.below hbl).below hb1) b1 b2 b3 b4 hll.out.2
              have hrowA : ∀ (o : Obj) (m : Nat), ((wr.alloc o).drewN m).ownsRow w0.heap.size 55 1 (.slice a n c) zs.length (zs.map (.float .f32)) := fun o m => hrow.alloc o
              have hsz : w0.heap.size ≤ wr.heap.size := hbl.size
              have k2 : wr.cell? ⟨bo, 3, none⟩ = some (.slice a n c) := hN.2.2.2.2.1
              have hbo2 : bo < wr.heap.size := hN.1
              have m7 : IntKind.i64.wrap ((x : Int) - d) = (x : Int) - d := IntWalk.i64_in _ (by omega)
              clear hlen hzm hz hbl hmk hN hle
              go_wp2_with fail
              refine (hat _ (Below.refl _ _)).mono ?_
              rintro e w2 ⟨r1, n1, rfl, rfl, hr1⟩
              have hr1' := Lib.hid hr1
              clear hr1
              go_wp2_with fail
              refine (hat' _ (below_drewN (Below.refl _ _) _)).mono ?_
              rintro e w2 ⟨r2, n2, rfl, rfl, hr2⟩
              have hr2' := Lib.hid hr2
              clear hr2 hat hat'
              have hse := fun (w5 : World) => hr1'.out.flR (op := .sub) hr2'.out w5
              have hsz := fun (w5 w6 : World) => specSz_any w6 (hse w5)
              have hcl : fop .sub .f32 (atC W H cs x y) (atC W H cs' ((x : Int) - d) y) < 4294967296 := by rw [← (hse wr).eq]; exact cn_lt (hse wr).1
              clear hse
              go_wp2_with fail
              go_region_law
                (first
                  | (refine step_append_lies _ (by rfl) _ _ _ (by rfl) w0.heap.size 55 i0 _ 1 4 Try.underlying22 hi hz0 hz1 hz2 rfl (by omega) (.slice a n c) zs.length (zs.map (.float .f32)) (by rfl) (hrowA _ _)
                      ⟨wr.heap.size, 0, none⟩ 1 1 [.float .f32 _] (by rfl) (by rfl) (World.news_of_block (cs := #[.float .f32 _]) (t := 55) (fr := (0, 0)) (heap_alloc_new wr _)) (by simp [Value.oneCell'])
                      (by omega) (by have := hh.out.2.2.1; unfold maxLen; omega) (by have := hh.out.2.2.1; omega) (by simp; omega) (wr.heap.size + 1) (by simp) ?_; intro gg cap w3 hown3 hgrow hat3 hlt3; have hN3 := Mv.nw3 hh.out.2.2.2.2 hne hgrow; have j2 := hN3.2.2.2.2.1; have jf := hN3.2.2.2.2.2 3)
                  | (refine step_plain rfl ?_; go_wp2_with (go_at_call 112; refine (hsz _ _).mono ?_; rintro e w9 ⟨rz, nz, rfl, rfl, hrz⟩; have hrz' := Lib.hid hrz; clear hrz)))
              all_goals
                have hM : Mv 55 w0 bo W H D (cubeL W D (cmpF W H szF cs cs') ((y * W + x) * D + (d + 1))) (w3.setCell ⟨bo, 3, none⟩ (.slice (some ⟨gg, 0, none⟩) (zs.length + 1) cap)) := by
                  rw [cubeL_step W D _ y hlx hld]
                  exact Mv.step hh.out.2.2.2.2 hrow hh.out.1 hh.out.2.1 hne hbo hh.out.2.2.2.1 (szF_of hrz'.out hcl) hown3 hgrow hat3
                have hM := Lib.hid hM
                clear hgrow hown3 hat3 hrow hrowA
                go_wp2_with fail
                go_roundw
                case rel => exact ⟨d + 1, by omega, by go_num, by first | exact hM | exact Lib.hid (hM.out.drewN _)⟩
                case measure => simp [intOf]; omega
            · obtain rfl : d = D := by omega
              rw [cubeL_cell] at hmk
              have hN := Lib.hid (And.intro hN (And.intro hz (And.intro hzm (And.intro hrow (And.intro hne (And.intro hbo hbl))))))
              go_wp2_with fail
              go_roundw
              case rel => exact ⟨x + 1, by omega, by go_num, hmk⟩
              case measure => simp [intOf]; omega
        · obtain rfl : x = W := by omega
          rw [cubeL_row] at hmk
          clear hbl
          go_wp2_with fail
          go_roundw
          case rel => exact ⟨y + 1, by omega, by go_num, hmk⟩
          case measure => simp [intOf]; omega
    · obtain rfl : y = H := by omega
      obtain ⟨a, n, c, hN, hoc, hne, hbo, _⟩ := hmk.out
      obtain ⟨_, f0, f1, f2, f3, f4⟩ := hN
      obtain ⟨_, r0, r1, r2, r3, rf⟩ := hpv.out.2.2.1.below hbl
      have hoc := Lib.hid hoc
      go_wp2_with fail
      refine bodyPost_ret (v := ?v) ?hr rfl ?post
      case hr => (simp [results, Try.results77, go_sem, f0, f1, f2, f3, r0, r1, r2, r3, rf]; try rfl)
      case post =>
        have h0 := hpv.out.2.2.2.2.2
        have ho := hoc.out
        rw [Nat.add_zero, Nat.add_zero] at ho
        refine ⟨_, _, _, rfl, ?_, ?_⟩
        · ((repeat' (first | (refine bel_set ?_ ?_ _) | (refine bel_al ?_ ?_ _) | exact Below.refl _ _ | assumption | (refine below_drewN ?_ _) | (refine Below.drew ?_) | (refine Below.trans ?_ (Below.mono hbl ?_)))) <;> (first | omega | (simp; done) | (simp; omega)))
        · (refine OC.mono (base := ?bb) ?hh ?hl; (case hh => ((repeat' (first | (refine OC.set ?_ _ ?_) | (refine OC.alloc ?_ _) | exact ho | (refine OC.drewN ?_ _))) <;> (first | omega | (simp; done) | (simp; omega)))); (case hl => (first | omega | (simp; done) | (simp; omega))))
set_option maxHeartbeats 2000000 in
theorem specSizeVolume_any (W H D : Nat) (a : Option Addr) (n c : Nat) (cs : List Nat) (a' : Option Addr) (n' c' : Nat) (cs' : List Nat) (w : World) (hv : FC w (.slice a n c) cs) (hv' : FC w (.slice a' n' c') cs') (b1 : 1 ≤ W) (b2 : W ≤ 24) (b3 : 1 ≤ H) (b4 : H ≤ 24) (b5 : H * W ≤ 256) (hl : cs.length = H * W) (hl' : cs'.length = H * W) (d1 : 1 ≤ D) (d2 : D ≤ 8) :
    Calls Try.prog 43 #[.agg #[.int .i64 W, .int .i64 H, .slice a n c], .agg #[.int .i64 W, .int .i64 H, .slice a' n' c'], .int .i64 D] w (RVol 55 W H D (cubeL W D (cmpF W H szF cs cs') (H * W * D)) true w) := by
  obtain ⟨rfl, hnc, hcm⟩ := hv.sized
  obtain ⟨rfl, hnc', hcm'⟩ := hv'.sized
  have hval : Hid ((pairB W H cs.length W H cs'.length && deepB D) = true) := Lib.hid (by unfold pairB deepB; rw [validB_mk b1 b2 b3 b4 b5 hl, validB_mk b1 b2 b3 b4 b5 hl']; simp; omega)
  have h0 := fun w1 hp hq => specPair_any W H a cs.length c w.heap.size W H a' cs'.length c' (w.heap.size + 1) D w1 hp hq (by omega) (by unfold maxLen at hcm; omega) (by unfold maxLen at hcm'; omega)
  have h3 := fun w1 (hb : Below w.heap.size w w1) hp hq => specCmpSz_any W H D a cs.length c w.heap.size cs a' cs'.length c' (w.heap.size + 1) cs' w1 hp (hv.below hb) hq (hv'.below hb) b1 b2 b3 b4 b5 hl hl' d1 d2
  have hP := ((Pv.new w W H (.slice a cs.length c) 27).alloc (.cells #[.int .i64 W, .int .i64 H, .slice a' cs'.length c'] 27)).alloc (.cells #[.int .i64 0, .int .i64 0, .int .i64 0, .slice none 0 0] 34)
  have hQ := (Pv.new (w.alloc (.cells #[.int .i64 W, .int .i64 H, .slice a cs.length c] 27)) W H (.slice a' cs'.length c') 27).alloc (.cells #[.int .i64 0, .int .i64 0, .int .i64 0, .slice none 0 0] 34)
  have hN := Nw.new ((w.alloc (.cells #[.int .i64 W, .int .i64 H, .slice a cs.length c] 27)).alloc (.cells #[.int .i64 W, .int .i64 H, .slice a' cs'.length c'] 27)) (.int .i64 0) (.int .i64 0) (.int .i64 0) (.slice none 0 0) 34
  simp only [World.size_alloc] at hQ hN
  have hb0 := below3 w (.cells #[.int .i64 W, .int .i64 H, .slice a cs.length c] 27) (.cells #[.int .i64 W, .int .i64 H, .slice a' cs'.length c'] 27) (.cells #[.int .i64 0, .int .i64 0, .int .i64 0, .slice none 0 0] 34)
  obtain ⟨w0, hw0⟩ : ∃ w0, w0 = (((w.alloc (.cells #[.int .i64 W, .int .i64 H, .slice a cs.length c] 27)).alloc (.cells #[.int .i64 W, .int .i64 H, .slice a' cs'.length c'] 27)).alloc (.cells #[.int .i64 0, .int .i64 0, .int .i64 0, .slice none 0 0] 34)) := ⟨_, rfl⟩
  rw [← hw0] at hP hQ hN hb0
  clear hl hl' hv hv'
  go_enter Try.func43, Try.ntmps43
  go_upto_region 1 with fail
  rw [← hw0]
  clear hw0
  go_wp2_with fail
  refine (h0 _ hP hQ).mono ?_
  rintro e w1 ⟨k, rfl, rfl⟩
  rw [hval.out]
  have hP2 := hP.drewN k
  have hQ2 := hQ.drewN k
  have hN2 := hN.drewN k
  have hb2 := below_drewN hb0 k
  clear hP hQ hN hb0
  go_wp2_with fail
  refine (h3 _ hb2 hP2 hQ2).mono ?_
  rintro e w3 ⟨a2, n2, c2, rfl, hb3, ho3⟩
  obtain ⟨l2, q0, q1, q2, q3, qf⟩ := hN2.below hb3
  have s2 := hb3.size
  have s3 := hb2.size
  have s4 := hN2.1
  simp only [World.heap_drewN] at s2 s3 s4
  go_wp2_with fail
  refine bodyPost_ret (v := ?v) ?hr rfl ?post
  case hr => (simp [results, Try.results43, go_sem, q0, q1, q2, q3, qf]; try rfl)
  case post =>
    refine ⟨_, _, _, rfl, ?_, ?_⟩
    · have := hb2.trans (hb3.mono hb2.size)
      ((repeat' (first | (refine bel_set ?_ ?_ _) | (refine bel_al ?_ ?_ _) | exact Below.refl _ _ | assumption | (refine below_drewN ?_ _) | (refine Below.drew ?_))) <;> (first | omega | (simp; done) | (simp; omega)))
    · (refine OC.mono (base := ?bb) ?hh ?hl; (case hh => ((repeat' (first | (refine OC.set ?_ _ ?_) | (refine OC.alloc ?_ _) | exact ho3 | (refine OC.drewN ?_ _))) <;> (first | omega | (simp; done) | (simp; omega)))); (case hl => (first | omega | (simp; done) | (simp; omega))))
theorem specSizeVolume_no (W H : Int) (a : Option Addr) (n c : Nat) (W' H' : Int) (a' : Option Addr) (n' c' : Nat) (D : Int) (w : World) (hnc : n ≤ c) (hcm : c ≤ maxLen) (hnc' : n' ≤ c') (hcm' : c' ≤ maxLen) (hval0 : pairB W H n W' H' n' = false ∨ deepB D = false) :
    Calls Try.prog 43 #[.agg #[.int .i64 W, .int .i64 H, .slice a n c], .agg #[.int .i64 W', .int .i64 H', .slice a' n' c'], .int .i64 D] w (RVol 55 0 0 0 [] false w) := by
  have hval : Hid ((pairB W H n W' H' n' && deepB D) = false) := Lib.hid (by rcases hval0 with h | h <;> rw [h] <;> simp)
  have h0 := fun w1 hp hq => specPair_any W H a n c w.heap.size W' H' a' n' c' (w.heap.size + 1) D w1 hp hq (by omega) (by unfold maxLen at hcm; omega) (by unfold maxLen at hcm'; omega)
  have hP := ((Pv.new w W H (.slice a n c) 27).alloc (.cells #[.int .i64 W', .int .i64 H', .slice a' n' c'] 27)).alloc (.cells #[.int .i64 0, .int .i64 0, .int .i64 0, .slice none 0 0] 34)
  have hQ := (Pv.new (w.alloc (.cells #[.int .i64 W, .int .i64 H, .slice a n c] 27)) W' H' (.slice a' n' c') 27).alloc (.cells #[.int .i64 0, .int .i64 0, .int .i64 0, .slice none 0 0] 34)
  simp only [World.size_alloc] at hQ
  clear hval0
  go_enter Try.func43, Try.ntmps43
  go_wp2_with fail
  refine (h0 _ hP hQ).mono ?_
  rintro e w1 ⟨k, rfl, rfl⟩
  rw [hval.out]
  go_wp2_with fail
  refine bodyPost_ret (v := ?v) ?hr rfl ?post
  case hr => (simp [results, Try.results43, go_sem]; try rfl)
  case post => exact ⟨_, _, _, rfl, by ((repeat' (first | (refine bel_set ?_ ?_ _) | (refine bel_al ?_ ?_ _) | exact Below.refl _ _ | assumption | (refine below_drewN ?_ _) | (refine Below.drew ?_))) <;> (first | omega | (simp; done) | (simp; omega))), OC.nil _ _ _⟩
theorem pairSizeVolume (W H : Int) (cs : List Nat) (W' H' : Int) (cs' : List Nat) (D : Int) :
    ∃ (W2 H2 D2 : Int) (cs2 : List Nat) (ok : Bool),
      (∀ a n c a' n' c' w, FC w (.slice a n c) cs → FC w (.slice a' n' c') cs' → Calls Try.prog 43 #[.agg #[.int .i64 W, .int .i64 H, .slice a n c], .agg #[.int .i64 W', .int .i64 H', .slice a' n' c'], .int .i64 D] w (RVol 55 W2 H2 D2 cs2 ok w)) ∧
      (∀ a n c a' n' c' w, FC w (.slice a n c) cs → FC w (.slice a' n' c') cs' → Calls Try.prog 44 #[.agg #[.int .i64 W, .int .i64 H, .slice a n c], .agg #[.int .i64 W', .int .i64 H', .slice a' n' c'], .int .i64 D] w (RVol 55 W2 H2 D2 cs2 ok w)) ∧ cs2.length ≤ 2048 := by
  by_cases hgood : pairB W H cs.length W' H' cs'.length = true ∧ deepB D = true
  · obtain ⟨hval, hdp⟩ := hgood
    unfold pairB at hval
    simp only [Bool.and_eq_true, decide_eq_true_eq] at hval
    obtain ⟨hv, hv', rfl, rfl⟩ := hval
    obtain ⟨Wn, Hn, rfl, rfl, b1, b2, b3, b4, b5, hl⟩ := validB_parts hv
    obtain ⟨Wm, Hm, e1, e2, _, _, _, _, _, hl'⟩ := validB_parts hv'
    obtain rfl : Wm = Wn := by omega
    obtain rfl : Hm = Hn := by omega
    have hD : 1 ≤ D ∧ D ≤ 8 := by unfold deepB at hdp; simp at hdp; omega
    obtain ⟨Dn, rfl⟩ := Int.eq_ofNat_of_zero_le (by omega : 0 ≤ D)
    exact ⟨_, _, _, _, _, fun a n c a' n' c' w hv hv' => specSizeVolume_any Wm Hm Dn a n c cs a' n' c' cs' w hv hv' b1 b2 b3 b4 b5 hl hl' (by omega) (by omega), fun a n c a' n' c' w hv hv' => implSizeVolume_any Wm Hm Dn a n c cs a' n' c' cs' w hv hv' b1 b2 b3 b4 b5 hl hl' (by omega) (by omega), by rw [cubeL_len]; exact Nat.mul_le_mul b5 (by omega : Dn ≤ 8)⟩
  · have hor : pairB W H cs.length W' H' cs'.length = false ∨ deepB D = false := by
      cases h1 : pairB W H cs.length W' H' cs'.length <;> cases h2 : deepB D <;> simp_all
    refine ⟨0, 0, 0, [], false, fun a n c a' n' c' w hv hv' => ?_, fun a n c a' n' c' w hv hv' => ?_, by simp⟩
    · obtain ⟨rfl, h1, h2⟩ := hv.sized
      obtain ⟨rfl, h3, h4⟩ := hv'.sized
      exact specSizeVolume_no W H a _ c W' H' a' _ c' D w h1 h2 h3 h4 hor
    · obtain ⟨rfl, h1, h2⟩ := hv.sized
      obtain ⟨rfl, h3, h4⟩ := hv'.sized
      exact implSizeVolume_of _ _ _ _ _ _ _ _ _ _ _ _ _ _ _ _ w fun w1 hb => implCompare_no W H a _ c W' H' a' _ c' D _ w1 h1 h2 h3 h4 hor
end Go.Proofs.Ytldaehobfdacoaa
