import Derived.Test.YthchdjfieofeaaaPr
import Derived.Test.YthchdjfieofeaaaPc
import Derived.Test.YthchdjfieofeaaaPj
import Derived.IntWalk
set_option linter.unusedVariables false
set_option linter.unusedSimpArgs false
namespace Go.Proofs.Ythchdjfieofeaaa
open Go.FX Go.RowKit Go.WideShapes Go.ChangeShapes

def normF (g lo hi : Nat) : Nat := fop .quo .f32 (fop .sub .f32 g lo) (fop .sub .f32 hi lo)
set_option maxRecDepth 100000 in
set_option maxHeartbeats 4000000 in
theorem norm_fn (W H : Nat) (a : Option Addr) (n c : Nat) (cs : List Nat) (rl rh cl ch : Nat) (hlo : Fl .f32 rl cl) (hhi : Fl .f32 rh ch) (bp bl bh : Nat) (w : World) (hv : FC w (.slice a n c) cs) (hp : Pv w bp W H (.slice a n c)) (ll : bl < w.heap.size) (cl0 : w.cell? ⟨bl, 0, none⟩ = some (.float .f32 rl)) (lh : bh < w.heap.size) (ch0 : w.cell? ⟨bh, 0, none⟩ = some (.float .f32 rh)) (b1 : 1 ≤ W) (b2 : W ≤ 24) (b3 : 1 ≤ H) (b4 : H ≤ 24) (hl : cs.length = H * W) :
    GreyFn Try.prog 53 #[] #[.pointer (some ⟨bp, 0, none⟩), .pointer (some ⟨bl, 0, none⟩), .pointer (some ⟨bh, 0, none⟩)] W H (fun x y => normF (atC W H cs x y) cl ch) w := fun w1 x y hb hx hy => by
  have hat := fun w2 (h : Below w1.heap.size w1 w2) => about_any W H (.slice a n c) cs x y w2 ((hv.below hb).below h) b1 b2 b3 b4 hl (by omega) (by omega) (by omega) (by omega)
  obtain ⟨l0, p0, p1, p2⟩ := hp.below hb
  have q := (bcell hb).1 bl 0 ll
  rw [cl0] at q
  have q' := (bcell hb).1 bh 0 lh
  rw [ch0] at q'
  have lb1 : bl < w1.heap.size := Nat.lt_of_lt_of_le ll hb.size
  have lb2 : bh < w1.heap.size := Nat.lt_of_lt_of_le lh hb.size
  obtain ⟨g1, e1⟩ : ∃ g, g = atC W H cs x y := ⟨_, rfl⟩
  rw [← e1] at hat
  have hE : Hid (normF (atC W H cs x y) cl ch = fop .quo .f32 (fop .sub .f32 g1 cl) (fop .sub .f32 ch cl)) := Lib.hid (by rw [e1]; rfl)
  clear hv hp hl hb e1 cl0 ch0
  show Calls Try.prog 53 #[.int .i64 x, .int .i64 y, .pointer (some ⟨bp, 0, none⟩), .pointer (some ⟨bl, 0, none⟩), .pointer (some ⟨bh, 0, none⟩)] w1 _
  go_enter Try.func53, Try.ntmps53
  go_upto_region 1 with fail
  refine wp_region_cls (by kernel_rfl) (by kernel_rfl) (by kernel_rfl) (by kernel_rfl) (fun w' => Below w1.heap.size w1 w') (below_drewN (Below.refl _ _) 1) [Eq1 ?q7002u0, Eq1 ?q7002u1, Eq1 ?q7002u2, FloatIs .f32 (g1), Eq1 ?q7002u4, FloatIs .f32 (fop .sub .f32 g1 cl), Eq1 ?q7002u6, Eq1 ?q7002u7, FloatIs .f32 (fop .sub .f32 ch cl), FloatIs .f32 (fop .quo .f32 (fop .sub .f32 g1 cl) (fop .sub .f32 ch cl)), FloatIs .f32 (fop .quo .f32 (fop .sub .f32 g1 cl) (fop .sub .f32 ch cl))] ?q7002main
  case q7002main =>
    (refine wpR_pure ?_ (fun w hw => ?_) ?_; rfl; (obtain ⟨hwc, hwf⟩ := bcell2 hw; go_simp; (try with_reducible rfl)); (try simp only [Act.put, List.setIfInBounds_toArray, List.set_cons_zero, List.set_cons_succ]))
    (refine wpR_pure ?_ (fun w hw => ?_) ?_; rfl; (obtain ⟨hwc, hwf⟩ := bcell2 hw; go_simp; (try with_reducible rfl)); (try simp only [Act.put, List.setIfInBounds_toArray, List.set_cons_zero, List.set_cons_succ]))
    (refine wpR_pure ?_ (fun w hw => ?_) ?_; rfl; (obtain ⟨hwc, hwf⟩ := bcell2 hw; go_simp; (try with_reducible rfl)); (try simp only [Act.put, List.setIfInBounds_toArray, List.set_cons_zero, List.set_cons_succ]))
    (refine wpR_cls ?_ (fun w hw => ?_) ?_; rfl; (go_simp; refine (hat _ hw).mono ?_; rintro _ _ ⟨_, rfl, hcb, hcr⟩; exact ⟨_, rfl, ⟨_, rfl, hcr⟩, Below.trans hw (hcb.mono hw.size)⟩); (rintro _ ⟨_, rfl, _⟩; (try simp only [Act.put, List.setIfInBounds_toArray, List.set_cons_zero, List.set_cons_succ])))
    (refine wpR_pure ?_ (fun w hw => ?_) ?_; rfl; (obtain ⟨hwc, hwf⟩ := bcell2 hw; go_simp; (try with_reducible rfl)); (try simp only [Act.put, List.setIfInBounds_toArray, List.set_cons_zero, List.set_cons_succ]))
    (refine wpR_cls ?_ (fun w hw => ?_) ?_; rfl; (go_simp; exact ⟨below_drewN hw _, _, rfl, Fl.flR (by assumption) (by assumption) _⟩); (rintro _ ⟨_, rfl, _⟩; (try simp only [Act.put, List.setIfInBounds_toArray, List.set_cons_zero, List.set_cons_succ])))
    (refine wpR_pure ?_ (fun w hw => ?_) ?_; rfl; (obtain ⟨hwc, hwf⟩ := bcell2 hw; go_simp; (try with_reducible rfl)); (try simp only [Act.put, List.setIfInBounds_toArray, List.set_cons_zero, List.set_cons_succ]))
    (refine wpR_pure ?_ (fun w hw => ?_) ?_; rfl; (obtain ⟨hwc, hwf⟩ := bcell2 hw; go_simp; (try with_reducible rfl)); (try simp only [Act.put, List.setIfInBounds_toArray, List.set_cons_zero, List.set_cons_succ]))
    (refine wpR_cls ?_ (fun w hw => ?_) ?_; rfl; (go_simp; exact ⟨below_drewN hw _, _, rfl, Fl.flR (by assumption) (by assumption) _⟩); (rintro _ ⟨_, rfl, _⟩; (try simp only [Act.put, List.setIfInBounds_toArray, List.set_cons_zero, List.set_cons_succ])))
    (refine wpR_cls ?_ (fun w hw => ?_) ?_; rfl; (go_simp; exact ⟨below_drewN hw _, _, rfl, Fl.flR (by assumption) (by assumption) _⟩); (rintro _ ⟨_, rfl, _⟩; (try simp only [Act.put, List.setIfInBounds_toArray, List.set_cons_zero, List.set_cons_succ])))
    (refine wpR_cls ?_ (fun w hw => ?_) ?_; rfl; (go_simp; first | exact ⟨_, rfl, by assumption⟩ | exact ⟨hw, _, rfl, by assumption⟩); (rintro _ ⟨_, rfl, _⟩; (try simp only [Act.put, List.setIfInBounds_toArray, List.set_cons_zero, List.set_cons_succ])))
    refine wpR_nil ?_
    intro w' hw'
    go_wp2_with fail
    go_ret
    exact ⟨_, rfl, hw', by rw [hE.out]; assumption⟩
/-- Are the least and the greatest one equal? -/
def rgEq (cs : List Nat) : Bool := FloatKind.f32.format.order (RG cs).1 (RG cs).2.1 == some Ordering.eq
set_option maxHeartbeats 2000000 in
theorem implNormPicture_any (W H : Nat) (a : Option Addr) (n c : Nat) (cs : List Nat) (w : World) (hv : FC w (.slice a n c) cs) (b1 : 1 ≤ W) (b2 : W ≤ 24) (b3 : 1 ≤ H) (b4 : H ≤ 24) (b5 : H * W ≤ 256) (hl : cs.length = H * W) (hs : (RG cs).2.2 = true) (he : rgEq cs = false) :
    Calls Try.prog 19 #[.agg #[.int .i64 W, .int .i64 H, .slice a n c]] w (RPic 26 W H (gridL W (fun x y => normF (atC W H cs x y) (RG cs).1 (RG cs).2.1) (H * W)) true w) := by
  obtain ⟨rfl, hnc, hcm⟩ := hv.sized
  have hval := validB_mk b1 b2 b3 b4 b5 hl
  unfold rgEq at he
  obtain ⟨g1, g2, q, hR⟩ : ∃ g1 g2 q, RG cs = (g1, g2, q) := ⟨_, _, _, rfl⟩
  have h1 := fun w1 (hb : Below w.heap.size w w1) => implRangeOf_any W H a cs.length c cs w1 (hv.below hb) hval
  rw [hR] at h1 hs he ⊢
  change q = true at hs
  subst hs
  change (FloatKind.f32.format.order g1 g2 == some Ordering.eq) = false at he
  show Calls Try.prog _ _ w (RPic _ _ _ (gridL W (fun x y => normF (atC W H cs x y) g1 g2) (H * W)) true w)
  change ∀ w1, _ → Calls _ _ _ w1 (RFFB g1 g2 true w1) at h1
  have hd := fun w1 (hb : Below w.heap.size w w1) rl rh bl bh h3 h4 hp k1 k2 k3 k4 => drawFrom_any W H a cs.length c hval hnc hcm W H b1 b2 b3 b4 b5 _ _ _ _ w1 (enters_of Try.func53 (by kernel_rfl) rfl) (norm_fn W H a _ c cs rl rh g1 g2 h3 h4 w.heap.size bl bh w1 (hv.below hb) hp k1 k2 k3 k4 b1 b2 b3 b4 hl)
  have he := Lib.hid he
  clear hl hval hR
  go_enter Try.func19, Try.ntmps19
  go_wp2_with fail
  refine (h1 _ (below2 _ _ _)).mono ?_
  rintro e w1 ⟨rl, rh, rfl, hb1, h3, h4⟩
  have hO : (FloatKind.f32.format.order rl rh == some Ordering.eq) = false := by rw [h3.order h4]; exact he.out
  have hP := ((Pv.new w W H (.slice a cs.length c) 29).alloc _).below hb1
  have hn := (Nv.new _ _ _ _ _).below hb1
  have s1 := hb1.size
  simp only [World.size_alloc] at hn s1
  obtain ⟨l1, p0, p1, p2⟩ := id hP
  go_wp2_with fail
  refine (hd _ (by ((repeat' (first | (refine bel_set ?_ ?_ _) | (refine bel_al ?_ ?_ _) | exact Below.refl _ _ | assumption | (refine below_drewN ?_ _) | (refine Below.drew ?_) | (refine Below.trans ?_ (Below.mono hb1 ?_)))) <;> (first | omega | (simp; done) | (simp; omega)))) rl rh w1.heap.size (w1.heap.size + 1) h3 h4 ((hP.alloc _).alloc _) (by simp; try omega) (by go_simp) (by simp; try omega) (by go_simp)).mono ?_
  rintro e w3 ⟨a3, n3, c3, rfl, hb3, ho3⟩
  obtain ⟨l4, r0, r1, r2, rf⟩ := ((hn.alloc _).alloc _).below hb3
  have s3 := hb3.size
  simp only [World.size_alloc] at s3
  go_wp2_with fail
  refine bodyPost_ret (v := ?v) ?hr rfl ?post
  case hr => (simp [results, Try.results19, go_sem, r0, r1, r2, rf]; try rfl)
  case post =>
    refine ⟨_, _, _, rfl, ?_, ?_⟩
    · ((repeat' (first | (refine bel_set ?_ ?_ _) | (refine bel_al ?_ ?_ _) | exact Below.refl _ _ | assumption | (refine below_drewN ?_ _) | (refine Below.drew ?_) | (refine Below.trans ?_ (Below.mono hb3 ?_)) | (refine Below.trans ?_ (Below.mono hb1 ?_)))) <;> (first | omega | (simp; done) | (simp; omega)))
    · (refine OC.mono (base := ?bb) ?hh ?hl; (case hh => ((repeat' (first | (refine OC.set ?_ _ ?_) | (refine OC.alloc ?_ _) | exact ho3 | (refine OC.drewN ?_ _))) <;> (first | omega | (simp; done) | (simp; omega)))); (case hl => (first | omega | (simp; done) | (simp; omega))))
set_option maxHeartbeats 2000000 in
theorem implNormPicture_flat (W H : Nat) (a : Option Addr) (n c : Nat) (cs : List Nat) (w : World) (hv : FC w (.slice a n c) cs) (b1 : 1 ≤ W) (b2 : W ≤ 24) (b3 : 1 ≤ H) (b4 : H ≤ 24) (b5 : H * W ≤ 256) (hl : cs.length = H * W) (hs : (RG cs).2.2 = true) (he : rgEq cs = true) :
    Calls Try.prog 19 #[.agg #[.int .i64 W, .int .i64 H, .slice a n c]] w (RPic 26 W H (gridL W (fun x y => 0) (H * W)) true w) := by
  obtain ⟨rfl, hnc, hcm⟩ := hv.sized
  have hval := validB_mk b1 b2 b3 b4 b5 hl
  unfold rgEq at he
  obtain ⟨g1, g2, q, hR⟩ : ∃ g1 g2 q, RG cs = (g1, g2, q) := ⟨_, _, _, rfl⟩
  have h1 := fun w1 (hb : Below w.heap.size w w1) => implRangeOf_any W H a cs.length c cs w1 (hv.below hb) hval
  rw [hR] at h1 hs he
  change q = true at hs
  subst hs
  change (FloatKind.f32.format.order g1 g2 == some Ordering.eq) = true at he
  change ∀ w1, _ → Calls _ _ _ w1 (RFFB g1 g2 true w1) at h1
  have hd := fun w1 => implFlatPicture_any W H 0 0 zeroF w1 b1 b2 b3 b4 b5
  have he := Lib.hid he
  clear hl hval hR
  go_enter Try.func19, Try.ntmps19
  go_wp2_with fail
  refine (h1 _ (below2 _ _ _)).mono ?_
  rintro e w1 ⟨rl, rh, rfl, hb1, h3, h4⟩
  have hO : (FloatKind.f32.format.order rl rh == some Ordering.eq) = true := by rw [h3.order h4]; exact he.out
  have hP := ((Pv.new w W H (.slice a cs.length c) 29).alloc _).below hb1
  have hn := (Nv.new _ _ _ _ _).below hb1
  have s1 := hb1.size
  simp only [World.size_alloc] at hn s1
  obtain ⟨l1, p0, p1, p2⟩ := id hP
  go_wp2_with fail
  refine (hd _).mono ?_
  rintro e w3 ⟨a3, n3, c3, rfl, hb3, ho3⟩
  obtain ⟨l4, r0, r1, r2, rf⟩ := ((hn.alloc _).alloc _).below hb3
  have s3 := hb3.size
  simp only [World.size_alloc] at s3
  go_wp2_with fail
  refine bodyPost_ret (v := ?v) ?hr rfl ?post
  case hr => (simp [results, Try.results19, go_sem, r0, r1, r2, rf]; try rfl)
  case post =>
    refine ⟨_, _, _, rfl, ?_, ?_⟩
    · ((repeat' (first | (refine bel_set ?_ ?_ _) | (refine bel_al ?_ ?_ _) | exact Below.refl _ _ | assumption | (refine below_drewN ?_ _) | (refine Below.drew ?_) | (refine Below.trans ?_ (Below.mono hb3 ?_)) | (refine Below.trans ?_ (Below.mono hb1 ?_)))) <;> (first | omega | (simp; done) | (simp; omega)))
    · (refine OC.mono (base := ?bb) ?hh ?hl; (case hh => ((repeat' (first | (refine OC.set ?_ _ ?_) | (refine OC.alloc ?_ _) | exact ho3 | (refine OC.drewN ?_ _))) <;> (first | omega | (simp; done) | (simp; omega)))); (case hl => (first | omega | (simp; done) | (simp; omega))))
set_option maxHeartbeats 2000000 in
theorem implNormPicture_no (W H : Int) (a : Option Addr) (n c : Nat) (cs : List Nat) (w : World) (hv : FC w (.slice a n c) cs) (hC : validB W H cs.length = true → (RG cs).2.2 = false) :
    Calls Try.prog 19 #[.agg #[.int .i64 W, .int .i64 H, .slice a n c]] w (RPic 26 0 0 [] false w) := by
  obtain ⟨rfl, hnc, hcm⟩ := hv.sized
  have h1 : ∀ w1, Below w.heap.size w w1 → Calls Try.prog 15 #[.agg #[.int .i64 W, .int .i64 H, .slice a cs.length c]] w1 (fun e w' => ∃ r1 r2, e = .returned (.tuple #[.float .f32 r1, .float .f32 r2, .bool false]) ∧ Below w1.heap.size w1 w') := fun w1 hb => by
    cases hval : validB W H cs.length with
    | true =>
      have h := implRangeOf_any W H a cs.length c cs w1 (hv.below hb) hval
      rw [hC hval] at h
      exact h.mono fun e w' ⟨r1, r2, e1, e2, _, _⟩ => ⟨r1, r2, e1, e2⟩
    | false =>
      exact (implRangeOf_no W H a cs.length c w1 hnc hcm hval).mono fun e w' ⟨r1, r2, e1, e2, _, _⟩ => ⟨r1, r2, e1, e2⟩
  clear hC
  go_enter Try.func19, Try.ntmps19
  go_wp2_with fail
  refine (h1 _ (below2 _ _ _)).mono ?_
  rintro e w1 ⟨rl, rh, rfl, hb1⟩
  have hn := (Nv.new _ _ _ _ _).below hb1
  have s1 := hb1.size
  simp only [World.size_alloc] at hn s1
  obtain ⟨l4, r0, r1, r2, rf⟩ := id hn
  obtain ⟨l6, t0, t1, t2, tf⟩ := (hn.alloc (.cells #[.float .f32 rl] 26)).alloc (.cells #[.float .f32 rh] 26)
  have l5 : w.heap.size + 1 < w1.heap.size + 1 := by omega
  have l7 : w.heap.size + 1 ≠ w1.heap.size := by omega
  have l8 : w.heap.size ≠ w1.heap.size := by omega
  go_wp2_with fail
  refine bodyPost_ret (v := ?v) ?hr rfl ?post
  case hr => (simp [results, Try.results19, go_sem, r0, r1, r2, rf, World.cell?_alloc_lt, l4, l5, l7, l8, t0, t1, t2, tf]; try rfl)
  case post => exact ⟨_, _, _, rfl, by ((repeat' (first | (refine bel_set ?_ ?_ _) | (refine bel_al ?_ ?_ _) | exact Below.refl _ _ | assumption | (refine below_drewN ?_ _) | (refine Below.drew ?_) | (refine Below.trans ?_ (Below.mono hb1 ?_)))) <;> (first | omega | (simp; done) | (simp; omega))), OC.nil _ _ _⟩
end Go.Proofs.Ythchdjfieofeaaa
