import Derived.Test.YtnbilmlpngcobaaCa
import Derived.Test.YtnbilmlpngcobaaLo
set_option linter.unusedVariables false
set_option linter.unusedSimpArgs false
namespace Go.Proofs.Ytnbilmlpngcobaa
open Go.FX Go.RowKit
def AggIs (c0 c1 c2 : Nat) (v : Value) : Prop := ∃ r0 r1 r2, v = .agg #[.float .f32 r0, .float .f32 r1, .float .f32 r2] ∧ Fl .f32 r0 c0 ∧ Fl .f32 r1 c1 ∧ Fl .f32 r2 c2
theorem ptX_eq (f b x mx d z : Nat) (h : z = depth f b d) : fop .mul .f32 z (fop .quo .f32 (fop .sub .f32 (cn .f32 x) (cn .f32 mx)) (cn .f32 f)) = ptX f b x mx d := by
  unfold ptX; rw [h, fop_cn2, fop_cnr]
end Go.Proofs.Ytnbilmlpngcobaa
namespace Go.Proofs.Ytnbilmlpngcobaa
open Go.FX Go.RowKit Go.WideShapes Go.ChangeShapes

set_option maxRecDepth 100000 in
set_option maxHeartbeats 2000000 in
theorem specPoint_any (f b mx my p x y d : Nat) (w : World) (hp : P4 w p f b mx my) (lf : f < width .f32) (lb : b < width .f32) (lmx : mx < width .f32) (lmy : my < width .f32) (lx : x < width .f32) (ly : y < width .f32) (ld : d < width .f32) :
    Calls Try.prog 158 #[.pointer (some ⟨p, 0, none⟩), .float .f32 x, .float .f32 y, .float .f32 d] w (RVp (ptX f b x mx d) (ptX f b y my d) (depth f b d) (ptOk f b x y d) w) := by
  cases h1 : depOk f b d with
  | false =>
    have h1' := Lib.hid h1
    clear h1
    have e2 : ptOk f b x y d = false := by unfold ptOk; rw [h1'.out]; rfl
    rw [e2]
    clear e2
    have hD := specDepth_any f b mx my p d (w.alloc (.cells #[.float .f32 0, .float .f32 0, .float .f32 0] 85)) (hp.alloc _) lf lb ld
    rw [depV_eq, h1'.out] at hD
    go_enter Try.func158, Try.ntmps158
    go_wp2_with fail
    refine hD.mono ?_
    rintro e w1 ⟨z, k1, rfl, rfl, hz⟩
    go_wp2_with fail
    refine bodyPost_ret (v := ?v1) ?hr1 rfl ?post1
    case hr1 => (simp only [results, Try.results158]; go_simp; try rfl)
    case post1 => exact ⟨_, _, _, rfl, by ((repeat' (first | (refine bel_set ?_ ?_ _) | (refine bel_al ?_ ?_ _) | exact Below.refl _ _ | assumption | (refine below_drewN ?_ _) | (refine Below.drew ?_))) <;> (first | omega | (simp; done) | (simp; omega))), fl00, fl00, fl00⟩
  | true =>
    have h1' := Lib.hid h1
    clear h1
    cases h2 : isF .f32 x with
    | false =>
      have h2' := Lib.hid h2
      clear h2
      have e2 : ptOk f b x y d = false := by unfold ptOk; rw [h1'.out, h2'.out]; rfl
      rw [e2]
      clear e2
      have hD := specDepth_any f b mx my p d (w.alloc (.cells #[.float .f32 0, .float .f32 0, .float .f32 0] 85)) (hp.alloc _) lf lb ld
      rw [depV_eq, h1'.out] at hD
      go_enter Try.func158, Try.ntmps158
      go_wp2_with fail
      refine hD.mono ?_
      rintro e w1 ⟨z, k1, rfl, rfl, hz⟩
      go_wp2_with fail
      refine (caSFin_any _ _).mono ?_
      rintro e w2 ⟨k2, rfl, rfl⟩
      rw [h2'.out]
      go_wp2_with fail
      refine bodyPost_ret (v := ?v2) ?hr2 rfl ?post2
      case hr2 => (simp only [results, Try.results158]; go_simp; try rfl)
      case post2 => exact ⟨_, _, _, rfl, by ((repeat' (first | (refine bel_set ?_ ?_ _) | (refine bel_al ?_ ?_ _) | exact Below.refl _ _ | assumption | (refine below_drewN ?_ _) | (refine Below.drew ?_))) <;> (first | omega | (simp; done) | (simp; omega))), fl00, fl00, fl00⟩
    | true =>
      have h2' := Lib.hid h2
      clear h2
      cases h3 : isF .f32 y with
      | false =>
        have h3' := Lib.hid h3
        clear h3
        have e2 : ptOk f b x y d = false := by unfold ptOk; rw [h1'.out, h2'.out, h3'.out]; rfl
        rw [e2]
        clear e2
        have hD := specDepth_any f b mx my p d (w.alloc (.cells #[.float .f32 0, .float .f32 0, .float .f32 0] 85)) (hp.alloc _) lf lb ld
        rw [depV_eq, h1'.out] at hD
        go_enter Try.func158, Try.ntmps158
        go_wp2_with fail
        refine hD.mono ?_
        rintro e w1 ⟨z, k1, rfl, rfl, hz⟩
        go_wp2_with fail
        refine (caSFin_any _ _).mono ?_
        rintro e w2 ⟨k2, rfl, rfl⟩
        rw [h2'.out]
        go_wp2_with fail
        refine (caSFin_any _ _).mono ?_
        rintro e w3 ⟨k3, rfl, rfl⟩
        rw [h3'.out]
        go_wp2_with fail
        refine bodyPost_ret (v := ?v3) ?hr3 rfl ?post3
        case hr3 => (simp only [results, Try.results158]; go_simp; try rfl)
        case post3 => exact ⟨_, _, _, rfl, by ((repeat' (first | (refine bel_set ?_ ?_ _) | (refine bel_al ?_ ?_ _) | exact Below.refl _ _ | assumption | (refine below_drewN ?_ _) | (refine Below.drew ?_))) <;> (first | omega | (simp; done) | (simp; omega))), fl00, fl00, fl00⟩
      | true =>
        have h3' := Lib.hid h3
        clear h3
        have e2 : ptOk f b x y d = true := by unfold ptOk; rw [h1'.out, h2'.out, h3'.out]; rfl
        rw [e2]
        clear e2
        have hD := specDepth_any f b mx my p d (w.alloc (.cells #[.float .f32 0, .float .f32 0, .float .f32 0] 85)) (hp.alloc _) lf lb ld
        rw [depV_eq, h1'.out] at hD
        go_enter Try.func158, Try.ntmps158
        go_wp2_with fail
        refine hD.mono ?_
        rintro e w1 ⟨z, k1, rfl, rfl, hz⟩
        go_wp2_with fail
        refine (caSFin_any _ _).mono ?_
        rintro e w2 ⟨k2, rfl, rfl⟩
        rw [h2'.out]
        go_wp2_with fail
        refine (caSFin_any _ _).mono ?_
        rintro e w3 ⟨k3, rfl, rfl⟩
        rw [h3'.out]
        go_wp2_with fail
        obtain ⟨ws, hws⟩ : ∃ z, z = (w.alloc (.cells #[.float .f32 0, .float .f32 0, .float .f32 0] 85)).drewN (k1 + k2 + k3) := ⟨_, rfl⟩
        try rw [← hws]
        have PW : P4 ws p f b mx my := by rw [hws]; exact (hp.alloc _).drewN _
        have hff := Fl.of lf
        have hfx := Fl.of lx
        have hfy := Fl.of ly
        have hmx := Fl.of lmx
        have hmy := Fl.of lmy
        have hz' : Fl .f32 z (depth f b d) := hz
        have hsz : w.heap.size < ws.heap.size := by rw [hws]; simp
        have n0 : ws.cell? ⟨w.heap.size, 0, none⟩ = some (.float .f32 0) := by rw [hws]; go_simp
        have n1 : ws.cell? ⟨w.heap.size, 1, none⟩ = some (.float .f32 0) := by rw [hws]; go_simp
        have n2 : ws.cell? ⟨w.heap.size, 2, none⟩ = some (.float .f32 0) := by rw [hws]; go_simp
        have nf : ∀ o, ws.frozen? ⟨w.heap.size, o, none⟩ = false := by intro o; rw [hws]; go_simp
        have bw : Below w.heap.size w ws := by rw [hws]; ((repeat' (first | (refine bel_set ?_ ?_ _) | (refine bel_al ?_ ?_ _) | exact Below.refl _ _ | assumption | (refine below_drewN ?_ _) | (refine Below.drew ?_))) <;> (first | omega | (simp; done) | (simp; omega)))
        have hD' := Lib.hid hD
        clear hws hD
        refine wp_region_mk 27 _ (by kernel_rfl) (by kernel_rfl) (by rfl) rfl (by kernel_rfl) (by kernel_rfl) (by kernel_rfl) (by kernel_rfl) (fun b w' => ∃ k, w' = (cond b (ws.alloc (.cells #[.float .f32 0, .float .f32 0, .float .f32 0] 85)) ws).drewN k) ⟨1, rfl⟩ ⟨_, 0, rfl⟩ (.pointer (some ⟨ws.heap.size, 0, none⟩)) ?q6210mainmk [Eq1 ?q6210u0, Eq1 ?q6210u1, Eq1 ?q6210u2, Eq1 ?q6210u3, Eq1 ?q6210u4, Eq1 ?q6210u5, FloatIs .f32 (fop .sub .f32 (cn .f32 x) (cn .f32 mx)), Eq1 ?q6210u7, Eq1 ?q6210u8, Eq1 ?q6210u9, Eq1 ?q6210u10, FloatIs .f32 (fop .quo .f32 (fop .sub .f32 (cn .f32 x) (cn .f32 mx)) (cn .f32 f)), FloatIs .f32 (fop .mul .f32 (depth f b d) (fop .quo .f32 (fop .sub .f32 (cn .f32 x) (cn .f32 mx)) (cn .f32 f))), Eq1 ?q6210u13, Eq1 ?q6210u14, Eq1 ?q6210u15, Eq1 ?q6210u16, Eq1 ?q6210u17, Eq1 ?q6210u18, FloatIs .f32 (fop .sub .f32 (cn .f32 y) (cn .f32 my)), Eq1 ?q6210u20, Eq1 ?q6210u21, Eq1 ?q6210u22, Eq1 ?q6210u23, FloatIs .f32 (fop .quo .f32 (fop .sub .f32 (cn .f32 y) (cn .f32 my)) (cn .f32 f)), FloatIs .f32 (fop .mul .f32 (depth f b d) (fop .quo .f32 (fop .sub .f32 (cn .f32 y) (cn .f32 my)) (cn .f32 f))), AggIs (fop .mul .f32 (depth f b d) (fop .quo .f32 (fop .sub .f32 (cn .f32 x) (cn .f32 mx)) (cn .f32 f))) (fop .mul .f32 (depth f b d) (fop .quo .f32 (fop .sub .f32 (cn .f32 y) (cn .f32 my)) (cn .f32 f))) (0)] ?q6210main
        case q6210mainmk => rintro a _ ⟨nn, rfl⟩; exact ⟨rfl, _, by first | rfl | (go_simp; done) | (go_simp; rfl), nn, rfl⟩
        case q6210main =>
          intro b0
          obtain ⟨X, hX⟩ : ∃ X, X = cond b0 (ws.alloc (.cells #[.float .f32 0, .float .f32 0, .float .f32 0] 85)) ws := ⟨_, rfl⟩
          change wpR _ _ (fun w' => ∃ k, w' = (cond b0 (ws.alloc (.cells #[.float .f32 0, .float .f32 0, .float .f32 0] 85)) ws).drewN k) _ _ _ _
          rw [← hX]
          replace hX : X = ws ∨ X = ws.alloc (.cells #[.float .f32 0, .float .f32 0, .float .f32 0] 85) := by cases b0; exact .inl hX; exact .inr hX
          have PX : P4 X p f b mx my := (by rcases hX with rfl | rfl; exact PW; exact PW.alloc _); obtain ⟨_, x0, x1, x2, x3⟩ := PX
          clear hX
          simp only [List.take_succ_cons, List.take_zero]
          (refine wpR_pure ?_ (fun w hw => ?_) ?_; rfl; (obtain ⟨nn, rfl⟩ := hw; go_simp; (try with_reducible rfl)); (try simp only [Act.put, List.setIfInBounds_toArray, List.set_cons_zero, List.set_cons_succ]))
          (refine wpR_pure ?_ (fun w hw => ?_) ?_; rfl; (obtain ⟨nn, rfl⟩ := hw; go_simp; (try with_reducible rfl)); (try simp only [Act.put, List.setIfInBounds_toArray, List.set_cons_zero, List.set_cons_succ]))
          (refine wpR_pure ?_ (fun w hw => ?_) ?_; rfl; (obtain ⟨nn, rfl⟩ := hw; go_simp; (try with_reducible rfl)); (try simp only [Act.put, List.setIfInBounds_toArray, List.set_cons_zero, List.set_cons_succ]))
          (refine wpR_pure ?_ (fun w hw => ?_) ?_; rfl; (obtain ⟨nn, rfl⟩ := hw; go_simp; (try with_reducible rfl)); (try simp only [Act.put, List.setIfInBounds_toArray, List.set_cons_zero, List.set_cons_succ]))
          (refine wpR_pure ?_ (fun w hw => ?_) ?_; rfl; (obtain ⟨nn, rfl⟩ := hw; go_simp; (try with_reducible rfl)); (try simp only [Act.put, List.setIfInBounds_toArray, List.set_cons_zero, List.set_cons_succ]))
          (refine wpR_pure ?_ (fun w hw => ?_) ?_; rfl; (obtain ⟨nn, rfl⟩ := hw; go_simp; (try with_reducible rfl)); (try simp only [Act.put, List.setIfInBounds_toArray, List.set_cons_zero, List.set_cons_succ]))
          (refine wpR_cls ?_ (fun w hw => ?_) ?_; rfl; (obtain ⟨nn, rfl⟩ := hw; go_simp; exact ⟨⟨_, rfl⟩, _, rfl, Fl.flR (by assumption) (by assumption) _⟩); (rintro _ ⟨_, rfl, _⟩; (try simp only [Act.put, List.setIfInBounds_toArray, List.set_cons_zero, List.set_cons_succ])))
          (refine wpR_pure ?_ (fun w hw => ?_) ?_; rfl; (obtain ⟨nn, rfl⟩ := hw; go_simp; (try with_reducible rfl)); (try simp only [Act.put, List.setIfInBounds_toArray, List.set_cons_zero, List.set_cons_succ]))
          (refine wpR_pure ?_ (fun w hw => ?_) ?_; rfl; (obtain ⟨nn, rfl⟩ := hw; go_simp; (try with_reducible rfl)); (try simp only [Act.put, List.setIfInBounds_toArray, List.set_cons_zero, List.set_cons_succ]))
          (refine wpR_pure ?_ (fun w hw => ?_) ?_; rfl; (obtain ⟨nn, rfl⟩ := hw; go_simp; (try with_reducible rfl)); (try simp only [Act.put, List.setIfInBounds_toArray, List.set_cons_zero, List.set_cons_succ]))
          (refine wpR_pure ?_ (fun w hw => ?_) ?_; rfl; (obtain ⟨nn, rfl⟩ := hw; go_simp; (try with_reducible rfl)); (try simp only [Act.put, List.setIfInBounds_toArray, List.set_cons_zero, List.set_cons_succ]))
          (refine wpR_cls ?_ (fun w hw => ?_) ?_; rfl; (obtain ⟨nn, rfl⟩ := hw; go_simp; exact ⟨⟨_, rfl⟩, _, rfl, Fl.flR (by assumption) (by assumption) _⟩); (rintro _ ⟨_, rfl, _⟩; (try simp only [Act.put, List.setIfInBounds_toArray, List.set_cons_zero, List.set_cons_succ])))
          (refine wpR_cls ?_ (fun w hw => ?_) ?_; rfl; (obtain ⟨nn, rfl⟩ := hw; go_simp; exact ⟨⟨_, rfl⟩, _, rfl, Fl.flR (by assumption) (by assumption) _⟩); (rintro _ ⟨_, rfl, _⟩; (try simp only [Act.put, List.setIfInBounds_toArray, List.set_cons_zero, List.set_cons_succ])))
          (refine wpR_pure ?_ (fun w hw => ?_) ?_; rfl; (obtain ⟨nn, rfl⟩ := hw; go_simp; (try with_reducible rfl)); (try simp only [Act.put, List.setIfInBounds_toArray, List.set_cons_zero, List.set_cons_succ]))
          (refine wpR_pure ?_ (fun w hw => ?_) ?_; rfl; (obtain ⟨nn, rfl⟩ := hw; go_simp; (try with_reducible rfl)); (try simp only [Act.put, List.setIfInBounds_toArray, List.set_cons_zero, List.set_cons_succ]))
          (refine wpR_pure ?_ (fun w hw => ?_) ?_; rfl; (obtain ⟨nn, rfl⟩ := hw; go_simp; (try with_reducible rfl)); (try simp only [Act.put, List.setIfInBounds_toArray, List.set_cons_zero, List.set_cons_succ]))
          (refine wpR_pure ?_ (fun w hw => ?_) ?_; rfl; (obtain ⟨nn, rfl⟩ := hw; go_simp; (try with_reducible rfl)); (try simp only [Act.put, List.setIfInBounds_toArray, List.set_cons_zero, List.set_cons_succ]))
          (refine wpR_pure ?_ (fun w hw => ?_) ?_; rfl; (obtain ⟨nn, rfl⟩ := hw; go_simp; (try with_reducible rfl)); (try simp only [Act.put, List.setIfInBounds_toArray, List.set_cons_zero, List.set_cons_succ]))
          (refine wpR_pure ?_ (fun w hw => ?_) ?_; rfl; (obtain ⟨nn, rfl⟩ := hw; go_simp; (try with_reducible rfl)); (try simp only [Act.put, List.setIfInBounds_toArray, List.set_cons_zero, List.set_cons_succ]))
          (refine wpR_cls ?_ (fun w hw => ?_) ?_; rfl; (obtain ⟨nn, rfl⟩ := hw; go_simp; exact ⟨⟨_, rfl⟩, _, rfl, Fl.flR (by assumption) (by assumption) _⟩); (rintro _ ⟨_, rfl, _⟩; (try simp only [Act.put, List.setIfInBounds_toArray, List.set_cons_zero, List.set_cons_succ])))
          (refine wpR_pure ?_ (fun w hw => ?_) ?_; rfl; (obtain ⟨nn, rfl⟩ := hw; go_simp; (try with_reducible rfl)); (try simp only [Act.put, List.setIfInBounds_toArray, List.set_cons_zero, List.set_cons_succ]))
          (refine wpR_pure ?_ (fun w hw => ?_) ?_; rfl; (obtain ⟨nn, rfl⟩ := hw; go_simp; (try with_reducible rfl)); (try simp only [Act.put, List.setIfInBounds_toArray, List.set_cons_zero, List.set_cons_succ]))
          (refine wpR_pure ?_ (fun w hw => ?_) ?_; rfl; (obtain ⟨nn, rfl⟩ := hw; go_simp; (try with_reducible rfl)); (try simp only [Act.put, List.setIfInBounds_toArray, List.set_cons_zero, List.set_cons_succ]))
          (refine wpR_pure ?_ (fun w hw => ?_) ?_; rfl; (obtain ⟨nn, rfl⟩ := hw; go_simp; (try with_reducible rfl)); (try simp only [Act.put, List.setIfInBounds_toArray, List.set_cons_zero, List.set_cons_succ]))
          (refine wpR_cls ?_ (fun w hw => ?_) ?_; rfl; (obtain ⟨nn, rfl⟩ := hw; go_simp; exact ⟨⟨_, rfl⟩, _, rfl, Fl.flR (by assumption) (by assumption) _⟩); (rintro _ ⟨_, rfl, _⟩; (try simp only [Act.put, List.setIfInBounds_toArray, List.set_cons_zero, List.set_cons_succ])))
          (refine wpR_cls ?_ (fun w hw => ?_) ?_; rfl; (obtain ⟨nn, rfl⟩ := hw; go_simp; exact ⟨⟨_, rfl⟩, _, rfl, Fl.flR (by assumption) (by assumption) _⟩); (rintro _ ⟨_, rfl, _⟩; (try simp only [Act.put, List.setIfInBounds_toArray, List.set_cons_zero, List.set_cons_succ])))
          (refine wpR_cls ?_ (fun w hw => ?_) ?_; rfl; (obtain ⟨nn, rfl⟩ := hw; go_simp; first | exact ⟨_, _, _, rfl, by assumption, by assumption, by first | assumption | exact fl00⟩ | exact ⟨⟨_, rfl⟩, _, _, _, rfl, by assumption, by assumption, by first | assumption | exact fl00⟩); (rintro _ ⟨_, _, _, rfl, _, _, _⟩; (try simp only [Act.put, List.setIfInBounds_toArray, List.set_cons_zero, List.set_cons_succ])))
          refine wpR_nil ?_
          rintro w' ⟨nn, rfl⟩
          try simp only [Act.put, List.setIfInBounds_toArray, List.set_cons_zero, List.set_cons_succ]
          refine wpAny_last 28 _ (by kernel_rfl) rfl rfl (by kernel_rfl) fun K hK => ?_
          go_simp
          refine hK _ _ ?_
          go_wp2_with fail
          refine bodyPost_ret (v := ?v4) ?hr4 rfl ?post4
          case hr4 => (simp only [results, Try.results158]; go_simp; try rfl)
          case post4 => exact ⟨_, _, _, rfl, by ((repeat' (first | (refine bel_set ?_ ?_ _) | (refine bel_al ?_ ?_ _) | exact Below.refl _ _ | assumption | (refine below_drewN ?_ _) | (refine Below.drew ?_))) <;> (first | omega | (simp; done) | (simp; omega))), (by show Fl FloatKind.f32 _ (ptX f b x mx d); rw [← ptX_eq f b x mx d _ rfl]; assumption), (by show Fl FloatKind.f32 _ (ptX f b y my d); rw [← ptX_eq f b y my d _ rfl]; assumption), hz'⟩
set_option maxRecDepth 100000 in
set_option maxHeartbeats 2000000 in
theorem implPointAt_any (f b mx my x y d : Nat) (w : World) (lf : f < width .f32) (lmx : mx < width .f32) (lmy : my < width .f32) (lx : x < width .f32) (ly : y < width .f32) :
    Calls Try.prog 98 #[.agg #[.float .f32 f, .float .f32 b, .float .f32 mx, .float .f32 my], .float .f32 x, .float .f32 y, .float .f32 d] w (RVp (ptX f b x mx d) (ptX f b y my d) (depth f b d) (okCam f b mx my && ptOk f b x y d) w) := by
  cases h1 : turnOk f b mx my d with
  | false =>
    have h1' := Lib.hid h1
    clear h1
    have e2 : (okCam f b mx my && ptOk f b x y d) = false := by unfold turnOk at h1'; have h := h1'.out; revert h; unfold ptOk; cases okCam f b mx my <;> cases depOk f b d <;> simp
    rw [e2]
    clear e2
    have hD := fun w => implDepthOf_any f b mx my d w
    simp only [turnV_eq, h1'.out] at hD
    go_enter Try.func98, Try.ntmps98
    go_wp2_with fail
    refine (hD _).mono ?_
    rintro e w1 ⟨z, rfl, hb1, hz⟩
    obtain ⟨hc, hf⟩ := bcell hb1
    have hs1 := hb1.size
    simp only [World.size_alloc] at hs1
    go_wp2_with fail
    refine bodyPost_ret (v := ?v5) ?hr5 rfl ?post5
    case hr5 => (simp only [results, Try.results98]; go_simp; try rfl)
    case post5 => exact ⟨_, _, _, rfl, by ((repeat' (first | (refine bel_set ?_ ?_ _) | (refine bel_al ?_ ?_ _) | exact Below.refl _ _ | assumption | (refine below_drewN ?_ _) | (refine Below.drew ?_) | (refine Below.trans ?_ (Below.mono hb1 ?_)))) <;> (first | omega | (simp; done) | (simp; omega))), fl00, fl00, fl00⟩
  | true =>
    have h1' := Lib.hid h1
    clear h1
    cases h2 : isF .f32 x with
    | false =>
      have h2' := Lib.hid h2
      clear h2
      have e2 : (okCam f b mx my && ptOk f b x y d) = false := by unfold turnOk at h1'; have h := h1'.out; revert h; unfold ptOk; cases okCam f b mx my <;> cases depOk f b d <;> simp [h2'.out]
      rw [e2]
      clear e2
      have hD := fun w => implDepthOf_any f b mx my d w
      simp only [turnV_eq, h1'.out] at hD
      go_enter Try.func98, Try.ntmps98
      go_wp2_with fail
      refine (hD _).mono ?_
      rintro e w1 ⟨z, rfl, hb1, hz⟩
      obtain ⟨hc, hf⟩ := bcell hb1
      have hs1 := hb1.size
      simp only [World.size_alloc] at hs1
      go_wp2_with fail
      refine (caFin_any _ _).mono ?_
      rintro e w2 ⟨k2, rfl, rfl⟩
      rw [h2'.out]
      go_wp2_with fail
      refine bodyPost_ret (v := ?v6) ?hr6 rfl ?post6
      case hr6 => (simp only [results, Try.results98]; go_simp; try rfl)
      case post6 => exact ⟨_, _, _, rfl, by ((repeat' (first | (refine bel_set ?_ ?_ _) | (refine bel_al ?_ ?_ _) | exact Below.refl _ _ | assumption | (refine below_drewN ?_ _) | (refine Below.drew ?_) | (refine Below.trans ?_ (Below.mono hb1 ?_)))) <;> (first | omega | (simp; done) | (simp; omega))), fl00, fl00, fl00⟩
    | true =>
      have h2' := Lib.hid h2
      clear h2
      cases h3 : isF .f32 y with
      | false =>
        have h3' := Lib.hid h3
        clear h3
        have e2 : (okCam f b mx my && ptOk f b x y d) = false := by unfold turnOk at h1'; have h := h1'.out; revert h; unfold ptOk; cases okCam f b mx my <;> cases depOk f b d <;> simp [h2'.out, h3'.out]
        rw [e2]
        clear e2
        have hD := fun w => implDepthOf_any f b mx my d w
        simp only [turnV_eq, h1'.out] at hD
        go_enter Try.func98, Try.ntmps98
        go_wp2_with fail
        refine (hD _).mono ?_
        rintro e w1 ⟨z, rfl, hb1, hz⟩
        obtain ⟨hc, hf⟩ := bcell hb1
        have hs1 := hb1.size
        simp only [World.size_alloc] at hs1
        go_wp2_with fail
        refine (caFin_any _ _).mono ?_
        rintro e w2 ⟨k2, rfl, rfl⟩
        rw [h2'.out]
        go_wp2_with fail
        refine (caFin_any _ _).mono ?_
        rintro e w3 ⟨k3, rfl, rfl⟩
        rw [h3'.out]
        go_wp2_with fail
        refine bodyPost_ret (v := ?v7) ?hr7 rfl ?post7
        case hr7 => (simp only [results, Try.results98]; go_simp; try rfl)
        case post7 => exact ⟨_, _, _, rfl, by ((repeat' (first | (refine bel_set ?_ ?_ _) | (refine bel_al ?_ ?_ _) | exact Below.refl _ _ | assumption | (refine below_drewN ?_ _) | (refine Below.drew ?_) | (refine Below.trans ?_ (Below.mono hb1 ?_)))) <;> (first | omega | (simp; done) | (simp; omega))), fl00, fl00, fl00⟩
      | true =>
        have h3' := Lib.hid h3
        clear h3
        have e2 : (okCam f b mx my && ptOk f b x y d) = true := by unfold turnOk at h1'; have h := h1'.out; revert h; unfold ptOk; cases okCam f b mx my <;> cases depOk f b d <;> simp [h2'.out, h3'.out]
        rw [e2]
        clear e2
        have hD := fun w => implDepthOf_any f b mx my d w
        simp only [turnV_eq, h1'.out] at hD
        go_enter Try.func98, Try.ntmps98
        go_wp2_with fail
        refine (hD _).mono ?_
        rintro e w1 ⟨z, rfl, hb1, hz⟩
        obtain ⟨hc, hf⟩ := bcell hb1
        have hs1 := hb1.size
        simp only [World.size_alloc] at hs1
        go_wp2_with fail
        refine (caFin_any _ _).mono ?_
        rintro e w2 ⟨k2, rfl, rfl⟩
        rw [h2'.out]
        go_wp2_with fail
        refine (caFin_any _ _).mono ?_
        rintro e w3 ⟨k3, rfl, rfl⟩
        rw [h3'.out]
        go_wp2_with fail
        refine bodyPost_ret (v := ?v8) ?hr8 rfl ?post8
        case hr8 => (simp only [results, Try.results98]; go_simp; try rfl)
        case post8 =>
          have hz' : Fl .f32 z (depth f b d) := hz
          have hff := Fl.of lf
          have hfx := Fl.of lx
          have hfy := Fl.of ly
          have hmx := Fl.of lmx
          have hmy := Fl.of lmy
          refine ⟨_, _, _, rfl, by ((repeat' (first | (refine bel_set ?_ ?_ _) | (refine bel_al ?_ ?_ _) | exact Below.refl _ _ | assumption | (refine below_drewN ?_ _) | (refine Below.drew ?_) | (refine Below.trans ?_ (Below.mono hb1 ?_)))) <;> (first | omega | (simp; done) | (simp; omega))), ?_, ?_, hz'⟩
          · show Fl FloatKind.f32 _ (ptX f b x mx d); rw [← ptX_eq f b x mx d _ rfl]; exact hz'.flR ((hfx.flR hmx _).flR hff _) _
          · show Fl FloatKind.f32 _ (ptX f b y my d); rw [← ptX_eq f b y my d _ rfl]; exact hz'.flR ((hfy.flR hmy _).flR hff _) _
/-- Three floats and a bool. -/
def R3B (c0 c1 c2 : Nat) (ok : Bool) (w : World) (e : Ending) (w' : World) : Prop := ∃ r0 r1 r2, e = .returned (.tuple #[.float .f32 r0, .float .f32 r1, .float .f32 r2, .bool ok]) ∧ Below w.heap.size w w' ∧ Fl .f32 r0 c0 ∧ Fl .f32 r1 c1 ∧ Fl .f32 r2 c2
def R3p (c0 c1 c2 : Nat) (ok : Bool) (w : World) (e : Ending) (w' : World) : Prop := R3B (sel ok c0) (sel ok c1) (sel ok c2) ok w e w'
def cellF (mx f x z : Nat) : Nat := fop .add .f32 (cn .f32 mx) (fop .mul .f32 (cn .f32 f) (fop .quo .f32 (cn .f32 x) (cn .f32 z)))

def P3 (w : World) (p a b c : Nat) : Prop := p < w.heap.size ∧ w.cell? ⟨p, 0, none⟩ = some (.float .f32 a) ∧ w.cell? ⟨p, 1, none⟩ = some (.float .f32 b) ∧ w.cell? ⟨p, 2, none⟩ = some (.float .f32 c)
theorem P3.below {w w' : World} {p a b c : Nat} (h : P3 w p a b c) (hb : Below w.heap.size w w') : P3 w' p a b c := by
  obtain ⟨h0, h1, h2, h3⟩ := h
  have hc := (bcell hb).1
  exact ⟨Nat.lt_of_lt_of_le h0 hb.size, by rw [hc _ _ h0]; exact h1, by rw [hc _ _ h0]; exact h2, by rw [hc _ _ h0]; exact h3⟩
theorem P3.kept {w w' : World} {p a b c : Nat} {row : Option Nat} (h : P3 w p a b c) (hg : w.grownBy w' row) (hne : row ≠ some p) : P3 w' p a b c := by
  obtain ⟨h0, h1, h2, h3⟩ := h
  have hc : ∀ o, w'.cell? ⟨p, o, none⟩ = w.cell? ⟨p, o, none⟩ := fun o => World.cell?_of_block (hg.block p h0 (fun e => hne e.symm))
  exact ⟨Nat.lt_of_lt_of_le h0 hg.size, by rw [hc]; exact h1, by rw [hc]; exact h2, by rw [hc]; exact h3⟩
theorem P3.alloc {w : World} {p a b c : Nat} (h : P3 w p a b c) (o : Obj) : P3 (w.alloc o) p a b c := h.below (below1 w o)
theorem P3.drewN {w : World} {p a b c : Nat} (h : P3 w p a b c) (n : Nat) : P3 (w.drewN n) p a b c := h
theorem P3.new (w : World) (a b c : Nat) (T : TypeId) : P3 (w.alloc (.cells #[.float .f32 a, .float .f32 b, .float .f32 c] T)) w.heap.size a b c := by
  refine ⟨by simp, ?_, ?_, ?_⟩ <;> go_simp
def heightF (a b c x y : Nat) : Nat := fop .add .f32 (fop .add .f32 (fop .mul .f32 (cn .f32 a) (cn .f32 x)) (fop .mul .f32 (cn .f32 b) (cn .f32 y))) (cn .f32 c)
theorem fl1 : Fl .f32 1065353216 1065353216 := ⟨by decide, by decide⟩
theorem heightF_one (a b c x y : Nat) (lc : c < width .f32) : fop .add .f32 (fop .add .f32 (fop .mul .f32 (cn .f32 a) (cn .f32 x)) (fop .mul .f32 (cn .f32 b) (cn .f32 y))) (fop .mul .f32 (cn .f32 c) 1065353216) = heightF a b c x y := by
  rw [fop_cnl .mul .f32 c 1065353216, fop_mul_one c lc]; rfl
theorem onGround_any (x y : Nat) (w : World) : Calls Try.prog 150 #[.float .f32 x, .float .f32 y] w fun e w' => e = .returned (.agg #[.float .f32 x, .float .f32 y, .float .f32 1065353216]) ∧ Below w.heap.size w w' := by
  go_enter Try.func150, Try.ntmps150
  go_wp2
  refine bodyPost_ret (v := ?v) ?hr rfl ?post
  case hr => (simp [results, Try.results150, go_sem]; rfl)
  case post => exact ⟨rfl, by ((repeat' (first | (refine bel_set ?_ ?_ _) | (refine bel_al ?_ ?_ _) | exact Below.refl _ _ | assumption | (refine below_drewN ?_ _) | (refine Below.drew ?_))) <;> (first | omega | (simp; done) | (simp; omega)))⟩
theorem toPlane_any (a b c : Nat) (w : World) : Calls Try.prog 23 #[.agg #[.float .f32 a, .float .f32 b, .float .f32 c]] w fun e w' => e = .returned (.agg #[.float .f32 a, .float .f32 b, .float .f32 c]) ∧ Below w.heap.size w w' := by
  go_enter Try.func23, Try.ntmps23
  go_wp2
  refine bodyPost_ret (v := ?v) ?hr rfl ?post
  case hr => (simp [results, Try.results23, go_sem]; rfl)
  case post => exact ⟨rfl, by ((repeat' (first | (refine bel_set ?_ ?_ _) | (refine bel_al ?_ ?_ _) | exact Below.refl _ _ | assumption | (refine below_drewN ?_ _) | (refine Below.drew ?_))) <;> (first | omega | (simp; done) | (simp; omega)))⟩
set_option maxHeartbeats 1000000 in
theorem specHeight_any (a b c p x y : Nat) (w : World) (hp : P3 w p a b c) (la : a < width .f32) (lb : b < width .f32) (lc : c < width .f32) (lx : x < width .f32) (ly : y < width .f32) :
    Calls Try.prog 179 #[.pointer (some ⟨p, 0, none⟩), .float .f32 x, .float .f32 y] w (RF .f32 (heightF a b c x y) w) := by
  obtain ⟨l0, p0, p1, p2⟩ := hp
  have h1 := Fl.of la
  have h2 := Fl.of lb
  have h3 := Fl.of lc
  have h4 := Fl.of lx
  have h5 := Fl.of ly
  go_enter Try.func179, Try.ntmps179
  go_wp2_with fail
  refine wp_region_cls (by kernel_rfl) (by kernel_rfl) (by kernel_rfl) (by kernel_rfl) (fun w' => ∃ n, w' = w.drewN n) ⟨1, rfl⟩ [Eq1 ?q9994u0, Eq1 ?q9994u1, Eq1 ?q9994u2, Eq1 ?q9994u3, Eq1 ?q9994u4, FloatIs .f32 (fop .mul .f32 (cn .f32 a) (cn .f32 x)), Eq1 ?q9994u6, Eq1 ?q9994u7, Eq1 ?q9994u8, Eq1 ?q9994u9, Eq1 ?q9994u10, FloatIs .f32 (fop .mul .f32 (cn .f32 b) (cn .f32 y)), FloatIs .f32 (fop .add .f32 (fop .mul .f32 (cn .f32 a) (cn .f32 x)) (fop .mul .f32 (cn .f32 b) (cn .f32 y))), Eq1 ?q9994u13, Eq1 ?q9994u14, Eq1 ?q9994u15, Eq1 ?q9994u16, FloatIs .f32 (heightF a b c x y), FloatIs .f32 (heightF a b c x y)] ?q9994main
  case q9994main =>
    (refine wpR_pure ?_ (fun w hw => ?_) ?_; rfl; (obtain ⟨nn, rfl⟩ := hw; go_simp; (try with_reducible rfl)); (try simp only [Act.put, List.setIfInBounds_toArray, List.set_cons_zero, List.set_cons_succ]))
    (refine wpR_pure ?_ (fun w hw => ?_) ?_; rfl; (obtain ⟨nn, rfl⟩ := hw; go_simp; (try with_reducible rfl)); (try simp only [Act.put, List.setIfInBounds_toArray, List.set_cons_zero, List.set_cons_succ]))
    (refine wpR_pure ?_ (fun w hw => ?_) ?_; rfl; (obtain ⟨nn, rfl⟩ := hw; go_simp; (try with_reducible rfl)); (try simp only [Act.put, List.setIfInBounds_toArray, List.set_cons_zero, List.set_cons_succ]))
    (refine wpR_pure ?_ (fun w hw => ?_) ?_; rfl; (obtain ⟨nn, rfl⟩ := hw; go_simp; (try with_reducible rfl)); (try simp only [Act.put, List.setIfInBounds_toArray, List.set_cons_zero, List.set_cons_succ]))
    (refine wpR_pure ?_ (fun w hw => ?_) ?_; rfl; (obtain ⟨nn, rfl⟩ := hw; go_simp; (try with_reducible rfl)); (try simp only [Act.put, List.setIfInBounds_toArray, List.set_cons_zero, List.set_cons_succ]))
    (refine wpR_cls ?_ (fun w hw => ?_) ?_; rfl; (obtain ⟨nn, rfl⟩ := hw; go_simp; exact ⟨⟨_, rfl⟩, _, rfl, Fl.flR (by assumption) (by assumption) _⟩); (rintro _ ⟨_, rfl, _⟩; (try simp only [Act.put, List.setIfInBounds_toArray, List.set_cons_zero, List.set_cons_succ])))
    (refine wpR_pure ?_ (fun w hw => ?_) ?_; rfl; (obtain ⟨nn, rfl⟩ := hw; go_simp; (try with_reducible rfl)); (try simp only [Act.put, List.setIfInBounds_toArray, List.set_cons_zero, List.set_cons_succ]))
    (refine wpR_pure ?_ (fun w hw => ?_) ?_; rfl; (obtain ⟨nn, rfl⟩ := hw; go_simp; (try with_reducible rfl)); (try simp only [Act.put, List.setIfInBounds_toArray, List.set_cons_zero, List.set_cons_succ]))
    (refine wpR_pure ?_ (fun w hw => ?_) ?_; rfl; (obtain ⟨nn, rfl⟩ := hw; go_simp; (try with_reducible rfl)); (try simp only [Act.put, List.setIfInBounds_toArray, List.set_cons_zero, List.set_cons_succ]))
    (refine wpR_pure ?_ (fun w hw => ?_) ?_; rfl; (obtain ⟨nn, rfl⟩ := hw; go_simp; (try with_reducible rfl)); (try simp only [Act.put, List.setIfInBounds_toArray, List.set_cons_zero, List.set_cons_succ]))
    (refine wpR_pure ?_ (fun w hw => ?_) ?_; rfl; (obtain ⟨nn, rfl⟩ := hw; go_simp; (try with_reducible rfl)); (try simp only [Act.put, List.setIfInBounds_toArray, List.set_cons_zero, List.set_cons_succ]))
    (refine wpR_cls ?_ (fun w hw => ?_) ?_; rfl; (obtain ⟨nn, rfl⟩ := hw; go_simp; exact ⟨⟨_, rfl⟩, _, rfl, Fl.flR (by assumption) (by assumption) _⟩); (rintro _ ⟨_, rfl, _⟩; (try simp only [Act.put, List.setIfInBounds_toArray, List.set_cons_zero, List.set_cons_succ])))
    (refine wpR_cls ?_ (fun w hw => ?_) ?_; rfl; (obtain ⟨nn, rfl⟩ := hw; go_simp; exact ⟨⟨_, rfl⟩, _, rfl, Fl.flR (by assumption) (by assumption) _⟩); (rintro _ ⟨_, rfl, _⟩; (try simp only [Act.put, List.setIfInBounds_toArray, List.set_cons_zero, List.set_cons_succ])))
    (refine wpR_pure ?_ (fun w hw => ?_) ?_; rfl; (obtain ⟨nn, rfl⟩ := hw; go_simp; (try with_reducible rfl)); (try simp only [Act.put, List.setIfInBounds_toArray, List.set_cons_zero, List.set_cons_succ]))
    (refine wpR_pure ?_ (fun w hw => ?_) ?_; rfl; (obtain ⟨nn, rfl⟩ := hw; go_simp; (try with_reducible rfl)); (try simp only [Act.put, List.setIfInBounds_toArray, List.set_cons_zero, List.set_cons_succ]))
    (refine wpR_pure ?_ (fun w hw => ?_) ?_; rfl; (obtain ⟨nn, rfl⟩ := hw; go_simp; (try with_reducible rfl)); (try simp only [Act.put, List.setIfInBounds_toArray, List.set_cons_zero, List.set_cons_succ]))
    (refine wpR_pure ?_ (fun w hw => ?_) ?_; rfl; (obtain ⟨nn, rfl⟩ := hw; go_simp; (try with_reducible rfl)); (try simp only [Act.put, List.setIfInBounds_toArray, List.set_cons_zero, List.set_cons_succ]))
    (refine wpR_cls ?_ (fun w hw => ?_) ?_; rfl; (obtain ⟨nn, rfl⟩ := hw; go_simp; exact ⟨⟨_, rfl⟩, _, rfl, Fl.flR (by assumption) (by assumption) _⟩); (rintro _ ⟨_, rfl, _⟩; (try simp only [Act.put, List.setIfInBounds_toArray, List.set_cons_zero, List.set_cons_succ])))
    (refine wpR_cls ?_ (fun w hw => ?_) ?_; rfl; (obtain ⟨nn, rfl⟩ := hw; go_simp; first | exact ⟨_, rfl, by assumption⟩ | exact ⟨⟨_, rfl⟩, _, rfl, by assumption⟩); (rintro _ ⟨_, rfl, _⟩; (try simp only [Act.put, List.setIfInBounds_toArray, List.set_cons_zero, List.set_cons_succ])))
    refine wpR_nil ?_
    rintro w' ⟨nn, rfl⟩
    go_wp2_with fail
    go_ret
    exact ⟨_, _, rfl, rfl, by assumption⟩
set_option maxHeartbeats 1000000 in
theorem implHeightAt_any (a b c x y : Nat) (w : World) (la : a < width .f32) (lb : b < width .f32) (lc : c < width .f32) (lx : x < width .f32) (ly : y < width .f32) :
    Calls Try.prog 180 #[.agg #[.float .f32 a, .float .f32 b, .float .f32 c], .float .f32 x, .float .f32 y] w (RFb .f32 (heightF a b c x y) w) := by
  rw [← heightF_one a b c x y lc]
  have h1 := Fl.of la
  have h2 := Fl.of lb
  have h3 := Fl.of lc
  have h4 := Fl.of lx
  have h5 := Fl.of ly
  have h6 := fl1
  obtain ⟨W, hW⟩ : ∃ W, W = w.alloc (.cells #[.float .f32 a, .float .f32 b, .float .f32 c] 41) := ⟨_, rfl⟩
  have PW : P3 W w.heap.size a b c := by rw [hW]; exact P3.new _ _ _ _ _
  have bw : Below w.heap.size w W := by rw [hW]; ((repeat' (first | (refine bel_set ?_ ?_ _) | (refine bel_al ?_ ?_ _) | exact Below.refl _ _ | assumption | (refine below_drewN ?_ _) | (refine Below.drew ?_))) <;> (first | omega | (simp; done) | (simp; omega)))
  obtain ⟨l0, p0, p1, p2⟩ := PW
  go_enter Try.func180, Try.ntmps180
  go_upto_region 1 with fail
  rw [← hW]
  clear hW
  go_region_held3 (fun w' => Below W.heap.size W w' ∧ W.heap.size ≤ w'.heap.size ∧ (∀ b o, b < W.heap.size → w'.cell? ⟨b, o, none⟩ = W.cell? ⟨b, o, none⟩)) (first | exact keepStart _ | assumption | exact ⟨by assumption, by assumption, by assumption⟩ | exact keepCall (by assumption) (by assumption) | exact keepAlloc (by assumption) | (refine keepSet ?_ (keepSet ?_ (keepSet ?_ (keepSet ?_ ?_))) <;> first | assumption | omega | (simp; done) | (simp; omega)) | (refine keepSet ?_ (keepSet ?_ (keepSet ?_ ?_)) <;> first | assumption | omega | (simp; done) | (simp; omega)) | (refine keepSet ?_ (keepSet ?_ ?_) <;> first | assumption | omega | (simp; done) | (simp; omega)) | (refine keepSet ?_ ?_ <;> first | assumption | omega | (simp; done) | (simp; omega)))
    (first
      | (go_at_call 150; (with_reducible refine (onGround_any _ _ _).mono ?_); rintro e w2 ⟨rfl, hb2⟩; have hI := keepCall (n := W.heap.size) (W1 := W) (by assumption) hb2; obtain ⟨hc, hf⟩ := bcell hb2; have hz := hb2.size; (try simp at hz); (try simp only [World.size_drew, World.cell?_drew] at hc); (try simp only [World.size_drew, World.frozen?_drew] at hf); first | (have hs := Nat.lt_of_succ_le hz) | (have hs := Nat.lt_of_lt_of_le hs hz) | skip)
      | (go_at_call 151; (with_reducible refine (implInnerOf_any _ h1 h2 h3 h4 h5 h6).mono ?_); rintro e w3 ⟨r, rfl, hb3, hr⟩; have hI := keepCall (n := W.heap.size) (W1 := W) (by assumption) hb3; obtain ⟨hc, hf⟩ := bcell hb3; have hz := hb3.size; (try simp at hz); (try simp only [World.size_drew, World.cell?_drew] at hc); (try simp only [World.size_drew, World.frozen?_drew] at hf); first | (have hs := Nat.lt_of_succ_le hz) | (have hs := Nat.lt_of_lt_of_le hs hz) | skip))
  all_goals go_wp2_with fail
  all_goals go_ret
  all_goals exact ⟨_, rfl, bw.trans ((And.left (by assumption) : Below W.heap.size W _).mono bw.size), hr⟩

end Go.Proofs.Ytnbilmlpngcobaa
