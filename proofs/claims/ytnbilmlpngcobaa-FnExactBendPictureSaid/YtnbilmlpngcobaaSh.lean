import Derived.Test.YtnbilmlpngcobaaSg
set_option linter.unusedVariables false
set_option linter.unusedSimpArgs false
namespace Go.Proofs.Ytnbilmlpngcobaa
open Go.FX Go.RowKit Go.WideShapes Go.ChangeShapes
set_option maxRecDepth 100000 in
set_option maxHeartbeats 4000000 in
theorem implSample_any (W H : Nat) (a : Option Addr) (n c : Nat) (cs : List Nat) (x y : Nat) (w : World) (hv : FC w (.slice a n c) cs) (b1 : 1 ≤ W) (b2 : W ≤ 24) (b3 : 1 ≤ H) (b4 : H ≤ 24) (b5 : H * W ≤ 256) (hl : cs.length = H * W) (lx : x < width .f32) (ly : y < width .f32) :
    Calls Try.prog 89 #[.agg #[.int .i64 W, .int .i64 H, .slice a n c], .float .f32 x, .float .f32 y] w (RFBb (sel (smpB x && smpB y) (smpF W H cs x y)) (smpB x && smpB y) w) := by
  obtain ⟨rfl, hnc, hcm⟩ := hv.sized
  have hval := Lib.hid (validB_mk b1 b2 b3 b4 b5 hl)
  have h1 := fun w1 => validPic_any W H (.slice a cs.length c) cs.length w1 ⟨a, c, rfl, hnc, hcm⟩
  clear hnc hcm
  cases hx : smpB x with
  | false =>
    have hx' := Lib.hid hx
    rw [show sel (false && smpB y) (smpF W H cs x y) = 0 from rfl, show (false && smpB y) = false from rfl]
    clear hx hl
    go_enter Try.func89, Try.ntmps89
    go_wp2_with fail
    refine (h1 _).mono ?_
    rintro e w1 ⟨rfl, hb1⟩
    have s1 := hb1.size
    simp only [World.size_alloc] at s1
    rw [hval.out]
    go_wp2_with fail
    refine (isSampled_any x lx _).mono ?_
    rintro e w2 ⟨rfl, hb2⟩
    have s2 := hb2.size
    rw [hx'.out]
    go_wp2_with fail
    go_ret2
    exact ⟨_, rfl, by ((repeat' (first | (refine bel_set ?_ ?_ _) | (refine bel_al ?_ ?_ _) | exact Below.refl _ _ | assumption | (refine below_drewN ?_ _) | (refine Below.drew ?_) | (refine Below.trans ?_ (Below.mono hb2 ?_)) | (refine Below.trans ?_ (Below.mono hb1 ?_)))) <;> (first | omega | (simp; done) | (simp; omega))), fl00⟩
  | true =>
    cases hy : smpB y with
    | false =>
      have hx' := Lib.hid hx
      have hy' := Lib.hid hy
      rw [show sel (true && false) (smpF W H cs x y) = 0 from rfl, show (true && false) = false from rfl]
      clear hx hy hl
      go_enter Try.func89, Try.ntmps89
      go_wp2_with fail
      refine (h1 _).mono ?_
      rintro e w1 ⟨rfl, hb1⟩
      have s1 := hb1.size
      simp only [World.size_alloc] at s1
      rw [hval.out]
      go_wp2_with fail
      refine (isSampled_any x lx _).mono ?_
      rintro e w2 ⟨rfl, hb2⟩
      have s2 := hb2.size
      rw [hx'.out]
      go_wp2_with fail
      refine (isSampled_any y ly _).mono ?_
      rintro e w3 ⟨rfl, hb3⟩
      have s3 := hb3.size
      rw [hy'.out]
      go_wp2_with fail
      go_ret2
      exact ⟨_, rfl, by ((repeat' (first | (refine bel_set ?_ ?_ _) | (refine bel_al ?_ ?_ _) | exact Below.refl _ _ | assumption | (refine below_drewN ?_ _) | (refine Below.drew ?_) | (refine Below.trans ?_ (Below.mono hb3 ?_)) | (refine Below.trans ?_ (Below.mono hb2 ?_)) | (refine Below.trans ?_ (Below.mono hb1 ?_)))) <;> (first | omega | (simp; done) | (simp; omega))), fl00⟩
    | true =>
      have hsx := fun w => split_any x lx hx w
      have hsy := fun w => split_any y ly hy w
      obtain ⟨_, gx1, gx2⟩ := flo_int x hx
      obtain ⟨_, gy1, gy2⟩ := flo_int y hy
      have hx' := Lib.hid hx
      have hy' := Lib.hid hy
      have hF : Hid (smpF W H cs x y = betF (betF (atC W H cs (floI x) (floI y)) (atC W H cs (floI x + 1) (floI y)) (lefF x)) (betF (atC W H cs (floI x) (floI y + 1)) (atC W H cs (floI x + 1) (floI y + 1)) (lefF x)) (lefF y)) := Lib.hid rfl
      rw [show sel (true && true) (smpF W H cs x y) = smpF W H cs x y from rfl, show (true && true) = true from rfl]
      rw [hF.out]
      clear hx hy
      have hBC := fun w2 (h : Below w.heap.size w w2) u v s (x1 : -1001 ≤ u) (x2 : u ≤ 1001) (y1 : -1001 ≤ v) (y2 : v ≤ 1001) (hs : Fl .f32 s (lefF x)) => btwCells_any W H a cs.length c cs u v s (lefF x) w2 (hv.below h) b1 b2 b3 b4 hl x1 x2 y1 y2 hs
      generalize floI x = u at *
      generalize floI y = v at *
      generalize lefF x = fx at *
      generalize lefF y = fy at *
      have hB1 := fun w2 h s hs => hBC w2 h u v s (by omega) (by omega) (by omega) (by omega) hs
      have hB2 := fun w2 h s hs => hBC w2 h u (v + 1) s (by omega) (by omega) (by omega) (by omega) hs
      clear hBC hF
      generalize betF (atC W H cs u v) (atC W H cs (u + 1) v) fx = A1 at *
      generalize betF (atC W H cs u (v + 1)) (atC W H cs (u + 1) (v + 1)) fx = A2 at *
      have m1 : IntKind.i64.wrap (v + 1) = v + 1 := IntWalk.i64_in _ (by omega)
      clear hv hl
      go_enter Try.func89, Try.ntmps89
      go_wp2_with fail
      refine (h1 _).mono ?_
      rintro e w1 ⟨rfl, hb1⟩
      have s1 := hb1.size
      simp only [World.size_alloc] at s1
      rw [hval.out]
      go_wp2_with fail
      refine (isSampled_any x lx _).mono ?_
      rintro e w2 ⟨rfl, hb2⟩
      have s2 := hb2.size
      rw [hx'.out]
      go_wp2_with fail
      refine (isSampled_any y ly _).mono ?_
      rintro e w3 ⟨rfl, hb3⟩
      have s3 := hb3.size
      rw [hy'.out]
      have PV := (((Pv.new w (W : Int) (H : Int) (.slice a cs.length c) 47).below hb1).below hb2).below hb3
      have q3 : Below w.heap.size w w3 := by ((repeat' (first | (refine bel_set ?_ ?_ _) | (refine bel_al ?_ ?_ _) | exact Below.refl _ _ | assumption | (refine below_drewN ?_ _) | (refine Below.drew ?_) | (refine Below.trans ?_ (Below.mono hb3 ?_)) | (refine Below.trans ?_ (Below.mono hb2 ?_)) | (refine Below.trans ?_ (Below.mono hb1 ?_)))) <;> (first | omega | (simp; done) | (simp; omega)))
      go_wp2_with fail
      refine (hsx _).mono ?_
      rintro e w4 ⟨rx, k4, rfl, rfl, hrx⟩
      go_wp2_with fail
      refine (hsy _).mono ?_
      rintro e w5 ⟨ry, k5, rfl, hw5, hry⟩
      have PV5 : Pv w5 w.heap.size W H (.slice a cs.length c) := by rw [hw5]; exact (PV.drewN _).drewN _
      have q5 : Below w.heap.size w w5 := by rw [hw5]; exact below_drewN (below_drewN q3 _) _
      obtain ⟨_, p0, p1, p2⟩ := PV5
      have hAB := fun w2 s (h : Below w5.heap.size w5 w2) hs => hB1 w2 (q5.trans (h.mono q5.size)) s hs
      have hCD := fun w2 s (h : Below w5.heap.size w5 w2) hs => hB2 w2 (q5.trans (h.mono q5.size)) s hs
      have hw5' := Lib.hid hw5
      clear hw5 hB1 hB2 PV q3 hb3 hb2 hb1 h1 hsx hsy
      go_wp2_with fail
      refine wp_region_cls (by kernel_rfl) (by kernel_rfl) (by kernel_rfl) (by kernel_rfl) (fun w' => Below w5.heap.size w5 w') (below_drewN (Below.refl _ _) 1) [Eq1 ?q730u0, Eq1 ?q730u1, Eq1 ?q730u2, Eq1 ?q730u3, FloatIs .f32 (A1), Eq1 ?q730u5, Eq1 ?q730u6, Eq1 ?q730u7, Eq1 ?q730u8, Eq1 ?q730u9, FloatIs .f32 (A2), Eq1 ?q730u11, FloatIs .f32 (betF A1 A2 fy), FloatIs .f32 (betF A1 A2 fy), Eq1 ?q730u14] ?q730main
      case q730main =>
        (refine wpR_pure ?_ (fun w hw => ?_) ?_; rfl; (obtain ⟨hwc, hwf⟩ := bcell2 hw; go_simp; (try with_reducible rfl)); (try simp only [Act.put, List.setIfInBounds_toArray, List.set_cons_zero, List.set_cons_succ]))
        (refine wpR_pure ?_ (fun w hw => ?_) ?_; rfl; (obtain ⟨hwc, hwf⟩ := bcell2 hw; go_simp; (try with_reducible rfl)); (try simp only [Act.put, List.setIfInBounds_toArray, List.set_cons_zero, List.set_cons_succ]))
        (refine wpR_pure ?_ (fun w hw => ?_) ?_; rfl; (obtain ⟨hwc, hwf⟩ := bcell2 hw; go_simp; (try with_reducible rfl)); (try simp only [Act.put, List.setIfInBounds_toArray, List.set_cons_zero, List.set_cons_succ]))
        (refine wpR_pure ?_ (fun w hw => ?_) ?_; rfl; (obtain ⟨hwc, hwf⟩ := bcell2 hw; go_simp; (try with_reducible rfl)); (try simp only [Act.put, List.setIfInBounds_toArray, List.set_cons_zero, List.set_cons_succ]))
        (refine wpR_cls ?_ (fun w hw => ?_) ?_; rfl; (go_simp; refine (hAB _ _ hw hrx).mono ?_; rintro _ _ ⟨_, rfl, hcb, hcr⟩; exact ⟨_, rfl, ⟨_, rfl, hcr⟩, Below.trans hw (hcb.mono hw.size)⟩); (rintro _ ⟨_, rfl, _⟩; (try simp only [Act.put, List.setIfInBounds_toArray, List.set_cons_zero, List.set_cons_succ])))
        (refine wpR_pure ?_ (fun w hw => ?_) ?_; rfl; (obtain ⟨hwc, hwf⟩ := bcell2 hw; go_simp; (try with_reducible rfl)); (try simp only [Act.put, List.setIfInBounds_toArray, List.set_cons_zero, List.set_cons_succ]))
        (refine wpR_pure ?_ (fun w hw => ?_) ?_; rfl; (obtain ⟨hwc, hwf⟩ := bcell2 hw; go_simp; (try with_reducible rfl)); (try simp only [Act.put, List.setIfInBounds_toArray, List.set_cons_zero, List.set_cons_succ]))
        (refine wpR_pure ?_ (fun w hw => ?_) ?_; rfl; (obtain ⟨hwc, hwf⟩ := bcell2 hw; go_simp; (try with_reducible rfl)); (try simp only [Act.put, List.setIfInBounds_toArray, List.set_cons_zero, List.set_cons_succ]))
        (refine wpR_pure ?_ (fun w hw => ?_) ?_; rfl; (obtain ⟨hwc, hwf⟩ := bcell2 hw; go_simp; (try with_reducible rfl)); (try simp only [Act.put, List.setIfInBounds_toArray, List.set_cons_zero, List.set_cons_succ]))
        (refine wpR_pure ?_ (fun w hw => ?_) ?_; rfl; (obtain ⟨hwc, hwf⟩ := bcell2 hw; go_simp; (try with_reducible rfl)); (try simp only [Act.put, List.setIfInBounds_toArray, List.set_cons_zero, List.set_cons_succ]))
        (refine wpR_cls ?_ (fun w hw => ?_) ?_; rfl; (go_simp; refine (hCD _ _ hw hrx).mono ?_; rintro _ _ ⟨_, rfl, hcb, hcr⟩; exact ⟨_, rfl, ⟨_, rfl, hcr⟩, Below.trans hw (hcb.mono hw.size)⟩); (rintro _ ⟨_, rfl, _⟩; (try simp only [Act.put, List.setIfInBounds_toArray, List.set_cons_zero, List.set_cons_succ])))
        (refine wpR_pure ?_ (fun w hw => ?_) ?_; rfl; (obtain ⟨hwc, hwf⟩ := bcell2 hw; go_simp; (try with_reducible rfl)); (try simp only [Act.put, List.setIfInBounds_toArray, List.set_cons_zero, List.set_cons_succ]))
        (refine wpR_cls ?_ (fun w hw => ?_) ?_; rfl; (go_simp; refine (between_any (by assumption) (by assumption) hry _).mono ?_; rintro _ _ ⟨_, rfl, hcb, hcr⟩; exact ⟨_, rfl, ⟨_, rfl, hcr⟩, Below.trans hw (hcb.mono hw.size)⟩); (rintro _ ⟨_, rfl, _⟩; (try simp only [Act.put, List.setIfInBounds_toArray, List.set_cons_zero, List.set_cons_succ])))
        (refine wpR_cls ?_ (fun w hw => ?_) ?_; rfl; (go_simp; first | exact ⟨_, rfl, by assumption⟩ | exact ⟨hw, _, rfl, by assumption⟩); (rintro _ ⟨_, rfl, _⟩; (try simp only [Act.put, List.setIfInBounds_toArray, List.set_cons_zero, List.set_cons_succ])))
        (refine wpR_pure ?_ (fun w hw => ?_) ?_; rfl; (obtain ⟨hwc, hwf⟩ := bcell2 hw; go_simp; (try with_reducible rfl)); (try simp only [Act.put, List.setIfInBounds_toArray, List.set_cons_zero, List.set_cons_succ]))
        refine wpR_nil ?_
        intro w' hw'
        go_wp2_with fail
        go_ret2
        exact ⟨_, rfl, q5.trans (hw'.mono q5.size), by assumption⟩
theorem sPlace_any (x : Nat) (lx : x < width .f32) (w : World) : Calls Try.prog 83 #[.float .f32 x] w (fun e w' => e = .returned (.bool (smpB x)) ∧ w = w') := by
  have hE := Lib.hid (place1000 x lx)
  cases hA : (FloatKind.f32.format.order x 3296329728 == some Ordering.gt || FloatKind.f32.format.order x 3296329728 == some Ordering.eq)
  all_goals
    have hA' := Lib.hid hA
    go_enter Try.func83, Try.ntmps83
    go_wp2_with fail
    go_ret
    exact ⟨by rw [← hE.out, hA'.out]; rfl, rfl⟩
end Go.Proofs.Ytnbilmlpngcobaa
