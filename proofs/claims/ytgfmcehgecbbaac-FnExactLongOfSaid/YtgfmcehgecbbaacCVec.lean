import Derived.Test.YtgfmcehgecbbaacBase
import Derived.Test.YtgfmcehgecbbaacHeld
set_option linter.unusedVariables false
set_option linter.unusedSimpArgs false
namespace Go.Proofs.Ytgfmcehgecbbaac
open Go.FX Go.RowKit

theorem toVector_any (x y z : Nat) (w : World) : Calls Try.prog 14 #[.agg #[.float .f32 x, .float .f32 y, .float .f32 z]] w fun e w' => e = .returned (.agg #[.float .f32 x, .float .f32 y, .float .f32 z]) ∧ Below w.heap.size w w' := by
  go_enter Try.func14, Try.ntmps14
  go_wp2
  refine bodyPost_ret (v := ?v) ?hr rfl ?post
  case hr => (simp [results, Try.results14, go_sem]; rfl)
  case post => exact ⟨rfl, below3 _ _ _ _⟩

theorem eqVector_any {ax ay az bx by_ bz c0 c1 c2 : Nat} (w : World) (h1 : Fl .f32 ax c0) (h2 : Fl .f32 ay c1) (h3 : Fl .f32 az c2) (g1 : Fl .f32 bx c0) (g2 : Fl .f32 by_ c1) (g3 : Fl .f32 bz c2) : Calls Try.prog 16 #[.agg #[.float .f32 ax, .float .f32 ay, .float .f32 az], .agg #[.float .f32 bx, .float .f32 by_, .float .f32 bz]] w (RBb true w) := by
  go_enter Try.func16, Try.ntmps16
  go_wp2_with (go_at_call 23; ((with_reducible refine (sameFloat_any (c := FX.wide c0) (h1.wide _) (g1.wide _) _).mono ?_); rintro e w' ⟨n1, rfl, rfl⟩))
  go_wp2_with (go_at_call 23; ((with_reducible refine (sameFloat_any (c := FX.wide c1) (h2.wide _) (g2.wide _) _).mono ?_); rintro e w' ⟨n2, rfl, rfl⟩))
  go_wp2_with (go_at_call 23; ((with_reducible refine (sameFloat_any (c := FX.wide c2) (h3.wide _) (g3.wide _) _).mono ?_); rintro e w' ⟨n3, rfl, rfl⟩))
  go_ret
  exact ⟨rfl, below_drewN (below2 _ _ _) _⟩

theorem implAddVectors_any {ax ay az cax cay caz : Nat} {bx by_ bz cbx cby cbz : Nat} (w : World) (h1 : Fl .f32 ax cax) (h2 : Fl .f32 ay cay) (h3 : Fl .f32 az caz) (g1 : Fl .f32 bx cbx) (g2 : Fl .f32 by_ cby) (g3 : Fl .f32 bz cbz) :
    Calls Try.prog 15 #[.agg #[.float .f32 ax, .float .f32 ay, .float .f32 az], .agg #[.float .f32 bx, .float .f32 by_, .float .f32 bz]] w (RV (fop .add .f32 cax cbx) (fop .add .f32 cay cby) (fop .add .f32 caz cbz) w) := by
  go_enter Try.func15, Try.ntmps15
  go_wp2
  refine bodyPost_ret (v := ?v) ?hr rfl ?post
  case hr => (simp [results, Try.results15, go_sem]; rfl)
  case post => exact ⟨_, _, _, rfl, below_drewN (below3 _ _ _ _) _, h1.flR g1 _, h2.flR g2 _, h3.flR g3 _⟩

theorem l01Add_any {ax ay az cax cay caz : Nat} {bx by_ bz cbx cby cbz : Nat} (w : World) (h1 : Fl .f32 ax cax) (h2 : Fl .f32 ay cay) (h3 : Fl .f32 az caz) (g1 : Fl .f32 bx cbx) (g2 : Fl .f32 by_ cby) (g3 : Fl .f32 bz cbz) :
    Calls Try.prog 39 #[.agg #[.float .f32 ax, .float .f32 ay, .float .f32 az], .agg #[.float .f32 bx, .float .f32 by_, .float .f32 bz]] w (RV (fop .add .f32 cax cbx) (fop .add .f32 cay cby) (fop .add .f32 caz cbz) w) := by
  go_enter Try.func39, Try.ntmps39
  go_wp2
  refine bodyPost_ret (v := ?v) ?hr rfl ?post
  case hr => (simp [results, Try.results39, go_sem]; rfl)
  case post => exact ⟨_, _, _, rfl, below_drewN (below3 _ _ _ _) _, h1.flR g1 _, h2.flR g2 _, h3.flR g3 _⟩

theorem specAddVectors_any {ax ay az cax cay caz : Nat} {bx by_ bz cbx cby cbz : Nat} (w : World) (h1 : Fl .f32 ax cax) (h2 : Fl .f32 ay cay) (h3 : Fl .f32 az caz) (g1 : Fl .f32 bx cbx) (g2 : Fl .f32 by_ cby) (g3 : Fl .f32 bz cbz) :
    Calls Try.prog 13 #[.agg #[.float .f32 ax, .float .f32 ay, .float .f32 az], .agg #[.float .f32 bx, .float .f32 by_, .float .f32 bz]] w (RV (fop .add .f32 cax cbx) (fop .add .f32 cay cby) (fop .add .f32 caz cbz) w) := by
  go_enter Try.func13, Try.ntmps13
  go_wp2_with (go_at_call 39; refine (l01Add_any _ h1 h2 h3 g1 g2 g3).mono ?_; rintro e w' ⟨r0, r1, r2, rfl, hb, q0, q1, q2⟩; obtain ⟨hc, hf⟩ := bcell hb)
  refine bodyPost_ret (v := ?v) ?hr rfl ?post
  case hr => (simp [results, Try.results13, go_sem, hc, hf]; rfl)
  case post => exact ⟨_, _, _, rfl, (((((below3 _ _ _ _).trans (hb.mono (by simp; try omega))).setCell (by simp; try omega) _).setCell (by simp; try omega) _).setCell (by simp; try omega) _), q0, q1, q2⟩

theorem implLessVectors_any {ax ay az cax cay caz : Nat} {bx by_ bz cbx cby cbz : Nat} (w : World) (h1 : Fl .f32 ax cax) (h2 : Fl .f32 ay cay) (h3 : Fl .f32 az caz) (g1 : Fl .f32 bx cbx) (g2 : Fl .f32 by_ cby) (g3 : Fl .f32 bz cbz) :
    Calls Try.prog 18 #[.agg #[.float .f32 ax, .float .f32 ay, .float .f32 az], .agg #[.float .f32 bx, .float .f32 by_, .float .f32 bz]] w (RV (fop .sub .f32 cax cbx) (fop .sub .f32 cay cby) (fop .sub .f32 caz cbz) w) := by
  go_enter Try.func18, Try.ntmps18
  go_wp2
  refine bodyPost_ret (v := ?v) ?hr rfl ?post
  case hr => (simp [results, Try.results18, go_sem]; rfl)
  case post => exact ⟨_, _, _, rfl, below_drewN (below3 _ _ _ _) _, h1.flR g1 _, h2.flR g2 _, h3.flR g3 _⟩

theorem l01Less_any {ax ay az cax cay caz : Nat} {bx by_ bz cbx cby cbz : Nat} (w : World) (h1 : Fl .f32 ax cax) (h2 : Fl .f32 ay cay) (h3 : Fl .f32 az caz) (g1 : Fl .f32 bx cbx) (g2 : Fl .f32 by_ cby) (g3 : Fl .f32 bz cbz) :
    Calls Try.prog 40 #[.agg #[.float .f32 ax, .float .f32 ay, .float .f32 az], .agg #[.float .f32 bx, .float .f32 by_, .float .f32 bz]] w (RV (fop .sub .f32 cax cbx) (fop .sub .f32 cay cby) (fop .sub .f32 caz cbz) w) := by
  go_enter Try.func40, Try.ntmps40
  go_wp2
  refine bodyPost_ret (v := ?v) ?hr rfl ?post
  case hr => (simp [results, Try.results40, go_sem]; rfl)
  case post => exact ⟨_, _, _, rfl, below_drewN (below3 _ _ _ _) _, h1.flR g1 _, h2.flR g2 _, h3.flR g3 _⟩

theorem specLessVectors_any {ax ay az cax cay caz : Nat} {bx by_ bz cbx cby cbz : Nat} (w : World) (h1 : Fl .f32 ax cax) (h2 : Fl .f32 ay cay) (h3 : Fl .f32 az caz) (g1 : Fl .f32 bx cbx) (g2 : Fl .f32 by_ cby) (g3 : Fl .f32 bz cbz) :
    Calls Try.prog 17 #[.agg #[.float .f32 ax, .float .f32 ay, .float .f32 az], .agg #[.float .f32 bx, .float .f32 by_, .float .f32 bz]] w (RV (fop .sub .f32 cax cbx) (fop .sub .f32 cay cby) (fop .sub .f32 caz cbz) w) := by
  go_enter Try.func17, Try.ntmps17
  go_wp2_with (go_at_call 40; refine (l01Less_any _ h1 h2 h3 g1 g2 g3).mono ?_; rintro e w' ⟨r0, r1, r2, rfl, hb, q0, q1, q2⟩; obtain ⟨hc, hf⟩ := bcell hb)
  refine bodyPost_ret (v := ?v) ?hr rfl ?post
  case hr => (simp [results, Try.results17, go_sem, hc, hf]; rfl)
  case post => exact ⟨_, _, _, rfl, (((((below3 _ _ _ _).trans (hb.mono (by simp; try omega))).setCell (by simp; try omega) _).setCell (by simp; try omega) _).setCell (by simp; try omega) _), q0, q1, q2⟩

theorem implScaleVector_any {ax ay az cax cay caz : Nat} {s cs : Nat} (w : World) (h1 : Fl .f32 ax cax) (h2 : Fl .f32 ay cay) (h3 : Fl .f32 az caz) (k1 : Fl .f32 s cs) :
    Calls Try.prog 20 #[.agg #[.float .f32 ax, .float .f32 ay, .float .f32 az], .float .f32 s] w (RV (fop .mul .f32 cax cs) (fop .mul .f32 cay cs) (fop .mul .f32 caz cs) w) := by
  go_enter Try.func20, Try.ntmps20
  go_wp2
  refine bodyPost_ret (v := ?v) ?hr rfl ?post
  case hr => (simp [results, Try.results20, go_sem]; rfl)
  case post => exact ⟨_, _, _, rfl, below_drewN (below2 _ _ _) _, h1.flR k1 _, h2.flR k1 _, h3.flR k1 _⟩

theorem l01Scale_any {ax ay az cax cay caz : Nat} {s cs : Nat} (w : World) (h1 : Fl .f32 ax cax) (h2 : Fl .f32 ay cay) (h3 : Fl .f32 az caz) (k1 : Fl .f32 s cs) :
    Calls Try.prog 41 #[.agg #[.float .f32 ax, .float .f32 ay, .float .f32 az], .float .f32 s] w (RV (fop .mul .f32 cax cs) (fop .mul .f32 cay cs) (fop .mul .f32 caz cs) w) := by
  go_enter Try.func41, Try.ntmps41
  go_wp2
  refine bodyPost_ret (v := ?v) ?hr rfl ?post
  case hr => (simp [results, Try.results41, go_sem]; rfl)
  case post => exact ⟨_, _, _, rfl, below_drewN (below2 _ _ _) _, h1.flR k1 _, h2.flR k1 _, h3.flR k1 _⟩

theorem specScaleVector_any {ax ay az cax cay caz : Nat} {s cs : Nat} (w : World) (h1 : Fl .f32 ax cax) (h2 : Fl .f32 ay cay) (h3 : Fl .f32 az caz) (k1 : Fl .f32 s cs) :
    Calls Try.prog 19 #[.agg #[.float .f32 ax, .float .f32 ay, .float .f32 az], .float .f32 s] w (RV (fop .mul .f32 cax cs) (fop .mul .f32 cay cs) (fop .mul .f32 caz cs) w) := by
  go_enter Try.func19, Try.ntmps19
  go_wp2_with (go_at_call 41; refine (l01Scale_any _ h1 h2 h3 k1).mono ?_; rintro e w' ⟨r0, r1, r2, rfl, hb, q0, q1, q2⟩; obtain ⟨hc, hf⟩ := bcell hb)
  refine bodyPost_ret (v := ?v) ?hr rfl ?post
  case hr => (simp [results, Try.results19, go_sem, hc, hf]; rfl)
  case post => exact ⟨_, _, _, rfl, (((((below2 _ _ _).trans (hb.mono (by simp; try omega))).setCell (by simp; try omega) _).setCell (by simp; try omega) _).setCell (by simp; try omega) _), q0, q1, q2⟩

set_option maxHeartbeats 1000000 in
theorem implCrossOf_any {ax ay az cax cay caz : Nat} {bx by_ bz cbx cby cbz : Nat} (w : World) (h1 : Fl .f32 ax cax) (h2 : Fl .f32 ay cay) (h3 : Fl .f32 az caz) (g1 : Fl .f32 bx cbx) (g2 : Fl .f32 by_ cby) (g3 : Fl .f32 bz cbz) :
    Calls Try.prog 25 #[.agg #[.float .f32 ax, .float .f32 ay, .float .f32 az], .agg #[.float .f32 bx, .float .f32 by_, .float .f32 bz]] w (RV (fop .sub .f32 (fop .mul .f32 cay cbz) (fop .mul .f32 caz cby)) (fop .sub .f32 (fop .mul .f32 caz cbx) (fop .mul .f32 cax cbz)) (fop .sub .f32 (fop .mul .f32 cax cby) (fop .mul .f32 cay cbx)) w) := by
  go_enter Try.func25, Try.ntmps25
  go_wp2
  refine bodyPost_ret (v := ?v) ?hr rfl ?post
  case hr => (simp [results, Try.results25, go_sem]; rfl)
  case post => exact ⟨_, _, _, rfl, below_drewN (below3 _ _ _ _) _, (h2.flR g3 _).flR (h3.flR g2 _) _, (h3.flR g1 _).flR (h1.flR g3 _) _, (h1.flR g2 _).flR (h2.flR g1 _) _⟩

set_option maxHeartbeats 1000000 in
theorem l01Cross_any {ax ay az cax cay caz : Nat} {bx by_ bz cbx cby cbz : Nat} (w : World) (h1 : Fl .f32 ax cax) (h2 : Fl .f32 ay cay) (h3 : Fl .f32 az caz) (g1 : Fl .f32 bx cbx) (g2 : Fl .f32 by_ cby) (g3 : Fl .f32 bz cbz) :
    Calls Try.prog 43 #[.agg #[.float .f32 ax, .float .f32 ay, .float .f32 az], .agg #[.float .f32 bx, .float .f32 by_, .float .f32 bz]] w (RV (fop .sub .f32 (fop .mul .f32 cay cbz) (fop .mul .f32 caz cby)) (fop .sub .f32 (fop .mul .f32 caz cbx) (fop .mul .f32 cax cbz)) (fop .sub .f32 (fop .mul .f32 cax cby) (fop .mul .f32 cay cbx)) w) := by
  go_enter Try.func43, Try.ntmps43
  go_wp2
  refine bodyPost_ret (v := ?v) ?hr rfl ?post
  case hr => (simp [results, Try.results43, go_sem]; rfl)
  case post => exact ⟨_, _, _, rfl, below_drewN (below3 _ _ _ _) _, (h2.flR g3 _).flR (h3.flR g2 _) _, (h3.flR g1 _).flR (h1.flR g3 _) _, (h1.flR g2 _).flR (h2.flR g1 _) _⟩

theorem specCrossOf_any {ax ay az cax cay caz : Nat} {bx by_ bz cbx cby cbz : Nat} (w : World) (h1 : Fl .f32 ax cax) (h2 : Fl .f32 ay cay) (h3 : Fl .f32 az caz) (g1 : Fl .f32 bx cbx) (g2 : Fl .f32 by_ cby) (g3 : Fl .f32 bz cbz) :
    Calls Try.prog 24 #[.agg #[.float .f32 ax, .float .f32 ay, .float .f32 az], .agg #[.float .f32 bx, .float .f32 by_, .float .f32 bz]] w (RV (fop .sub .f32 (fop .mul .f32 cay cbz) (fop .mul .f32 caz cby)) (fop .sub .f32 (fop .mul .f32 caz cbx) (fop .mul .f32 cax cbz)) (fop .sub .f32 (fop .mul .f32 cax cby) (fop .mul .f32 cay cbx)) w) := by
  go_enter Try.func24, Try.ntmps24
  go_wp2_with (go_at_call 43; refine (l01Cross_any _ h1 h2 h3 g1 g2 g3).mono ?_; rintro e w' ⟨r0, r1, r2, rfl, hb, q0, q1, q2⟩; obtain ⟨hc, hf⟩ := bcell hb)
  refine bodyPost_ret (v := ?v) ?hr rfl ?post
  case hr => (simp [results, Try.results24, go_sem, hc, hf]; rfl)
  case post => exact ⟨_, _, _, rfl, (((((below3 _ _ _ _).trans (hb.mono (by simp; try omega))).setCell (by simp; try omega) _).setCell (by simp; try omega) _).setCell (by simp; try omega) _), q0, q1, q2⟩

theorem implInnerOf_any {ax ay az cax cay caz : Nat} {bx by_ bz cbx cby cbz : Nat} (w : World) (h1 : Fl .f32 ax cax) (h2 : Fl .f32 ay cay) (h3 : Fl .f32 az caz) (g1 : Fl .f32 bx cbx) (g2 : Fl .f32 by_ cby) (g3 : Fl .f32 bz cbz) :
    Calls Try.prog 22 #[.agg #[.float .f32 ax, .float .f32 ay, .float .f32 az], .agg #[.float .f32 bx, .float .f32 by_, .float .f32 bz]] w (RFb .f32 (fop .add .f32 (fop .add .f32 (fop .mul .f32 cax cbx) (fop .mul .f32 cay cby)) (fop .mul .f32 caz cbz)) w) := by
  go_enter Try.func22, Try.ntmps22
  go_wp2
  go_ret
  exact ⟨_, rfl, below_drewN (below2 _ _ _) _, ((h1.flR g1 _).flR (h2.flR g2 _) _).flR (h3.flR g3 _) _⟩

theorem l01Inner_any {ax ay az cax cay caz : Nat} {bx by_ bz cbx cby cbz : Nat} (w : World) (h1 : Fl .f32 ax cax) (h2 : Fl .f32 ay cay) (h3 : Fl .f32 az caz) (g1 : Fl .f32 bx cbx) (g2 : Fl .f32 by_ cby) (g3 : Fl .f32 bz cbz) :
    Calls Try.prog 42 #[.agg #[.float .f32 ax, .float .f32 ay, .float .f32 az], .agg #[.float .f32 bx, .float .f32 by_, .float .f32 bz]] w (RFb .f32 (fop .add .f32 (fop .add .f32 (fop .mul .f32 cax cbx) (fop .mul .f32 cay cby)) (fop .mul .f32 caz cbz)) w) := by
  go_enter Try.func42, Try.ntmps42
  go_wp2
  go_ret
  exact ⟨_, rfl, below_drewN (below2 _ _ _) _, ((h1.flR g1 _).flR (h2.flR g2 _) _).flR (h3.flR g3 _) _⟩

theorem specInnerOf_any {ax ay az cax cay caz : Nat} {bx by_ bz cbx cby cbz : Nat} (w : World) (h1 : Fl .f32 ax cax) (h2 : Fl .f32 ay cay) (h3 : Fl .f32 az caz) (g1 : Fl .f32 bx cbx) (g2 : Fl .f32 by_ cby) (g3 : Fl .f32 bz cbz) :
    Calls Try.prog 21 #[.agg #[.float .f32 ax, .float .f32 ay, .float .f32 az], .agg #[.float .f32 bx, .float .f32 by_, .float .f32 bz]] w (RFb .f32 (fop .add .f32 (fop .add .f32 (fop .mul .f32 cax cbx) (fop .mul .f32 cay cby)) (fop .mul .f32 caz cbz)) w) := by
  go_enter Try.func21, Try.ntmps21
  go_wp2_with (go_at_call 42; refine (l01Inner_any _ h1 h2 h3 g1 g2 g3).mono ?_; rintro e w' ⟨r0, rfl, hb, q0⟩)
  go_ret
  exact ⟨_, rfl, (below2 _ _ _).trans (hb.mono (by simp; try omega)), q0⟩
set_option maxHeartbeats 1000000 in
theorem implBetween_any {ax ay az cax cay caz : Nat} {bx by_ bz cbx cby cbz : Nat} {s cs : Nat} (w : World) (h1 : Fl .f32 ax cax) (h2 : Fl .f32 ay cay) (h3 : Fl .f32 az caz) (g1 : Fl .f32 bx cbx) (g2 : Fl .f32 by_ cby) (g3 : Fl .f32 bz cbz) (k1 : Fl .f32 s cs) :
    Calls Try.prog 29 #[.agg #[.float .f32 ax, .float .f32 ay, .float .f32 az], .agg #[.float .f32 bx, .float .f32 by_, .float .f32 bz], .float .f32 s] w (RV (fop .add .f32 cax (fop .mul .f32 (fop .sub .f32 cbx cax) cs)) (fop .add .f32 cay (fop .mul .f32 (fop .sub .f32 cby cay) cs)) (fop .add .f32 caz (fop .mul .f32 (fop .sub .f32 cbz caz) cs)) w) := by
  go_enter Try.func29, Try.ntmps29
  go_upto_region 1 with fail
  obtain ⟨W, hW⟩ : ∃ W, W = (((w.alloc (.cells #[.float .f32 ax, .float .f32 ay, .float .f32 az] 25)).alloc (.cells #[.float .f32 bx, .float .f32 by_, .float .f32 bz] 25)).alloc (.cells #[.float .f32 0, .float .f32 0, .float .f32 0] 25)) := ⟨_, rfl⟩
  rw [← hW]
  have bW : Below w.heap.size w W := by rw [hW]; exact below3 _ _ _ _
  have a1 : W.cell? ⟨w.heap.size, 0, none⟩ = some (.float .f32 ax) := by rw [hW]; go_simp
  have a2 : W.cell? ⟨w.heap.size, 1, none⟩ = some (.float .f32 ay) := by rw [hW]; go_simp
  have a3 : W.cell? ⟨w.heap.size, 2, none⟩ = some (.float .f32 az) := by rw [hW]; go_simp
  have a4 : W.cell? ⟨w.heap.size + 1, 0, none⟩ = some (.float .f32 bx) := by rw [hW]; go_simp
  have a5 : W.cell? ⟨w.heap.size + 1, 1, none⟩ = some (.float .f32 by_) := by rw [hW]; go_simp
  have a6 : W.cell? ⟨w.heap.size + 1, 2, none⟩ = some (.float .f32 bz) := by rw [hW]; go_simp
  have a7 : W.cell? ⟨w.heap.size + 1 + 1, 0, none⟩ = some (.float .f32 0) := by rw [hW]; go_simp
  have a8 : W.cell? ⟨w.heap.size + 1 + 1, 1, none⟩ = some (.float .f32 0) := by rw [hW]; go_simp
  have a9 : W.cell? ⟨w.heap.size + 1 + 1, 2, none⟩ = some (.float .f32 0) := by rw [hW]; go_simp
  have f7 : ∀ o, W.frozen? ⟨w.heap.size + 1 + 1, o, none⟩ = false := by intro o; rw [hW]; go_simp
  have hs : w.heap.size + 1 + 1 < W.heap.size := by rw [hW]; simp
  have e0 : w.heap.size < w.heap.size + 1 + 1 := by omega
  have e2 : w.heap.size + 1 < w.heap.size + 1 + 1 := by omega
  clear hW
  go_region_held3 (fun w' => Below (w.heap.size + 1 + 1) W w' ∧ (w.heap.size + 1 + 1) ≤ w'.heap.size ∧ (∀ b o, b < (w.heap.size + 1 + 1) → w'.cell? ⟨b, o, none⟩ = W.cell? ⟨b, o, none⟩)) (first | exact keepStartN (by omega) | assumption | exact ⟨by assumption, by assumption, by assumption⟩ | exact keepCall (by assumption) (by assumption) | exact keepAlloc (by assumption) | (refine keepSet ?_ (keepSet ?_ (keepSet ?_ ?_)) <;> first | assumption | omega | (simp; done) | (simp; omega)) | (refine keepSet ?_ (keepSet ?_ ?_) <;> first | assumption | omega | (simp; done) | (simp; omega)) | (refine keepSet ?_ ?_ <;> first | assumption | omega | (simp; done) | (simp; omega)))
    (first
      | (go_at_call 18; refine (implLessVectors_any _ g1 g2 g3 h1 h2 h3).mono ?_; rintro e w' ⟨r0, r1, r2, rfl, hb, q0, q1, q2⟩; have hI := keepCall (n := w.heap.size + 1 + 1) (W1 := W) (by assumption) (hb := hb); obtain ⟨hc, hf⟩ := bcell hb; have hz := hb.size; (try simp at hz); (try simp only [World.size_drew, World.cell?_drew] at hc); (try simp only [World.size_drew, World.frozen?_drew] at hf); first | (have hs := Nat.lt_of_succ_le hz) | (have hs := Nat.lt_of_lt_of_le hs hz) | skip)
      | (go_at_call 20; refine (implScaleVector_any _ q0 q1 q2 k1).mono ?_; rintro e w' ⟨s0, s1, s2, rfl, hb, p0, p1, p2⟩; have hI := keepCall (n := w.heap.size + 1 + 1) (W1 := W) (by assumption) (hb := hb); obtain ⟨hc, hf⟩ := bcell hb; have hz := hb.size; (try simp at hz); (try simp only [World.size_drew, World.cell?_drew] at hc); (try simp only [World.size_drew, World.frozen?_drew] at hf); first | (have hs := Nat.lt_of_succ_le hz) | (have hs := Nat.lt_of_lt_of_le hs hz) | skip)
      | (go_at_call 15; refine (implAddVectors_any _ h1 h2 h3 p0 p1 p2).mono ?_; rintro e w' ⟨t0, t1, t2, rfl, hb, o0, o1, o2⟩; have hI := keepCall (n := w.heap.size + 1 + 1) (W1 := W) (by assumption) (hb := hb); obtain ⟨hc, hf⟩ := bcell hb; have hz := hb.size; (try simp at hz); (try simp only [World.size_drew, World.cell?_drew] at hc); (try simp only [World.size_drew, World.frozen?_drew] at hf); first | (have hs := Nat.lt_of_succ_le hz) | (have hs := Nat.lt_of_lt_of_le hs hz) | skip))
  go_wp2_with fail
  refine bodyPost_ret (v := ?v) ?hr rfl ?post
  case hr => (simp only [results, Try.results29]; go_simp; rfl)
  case post =>
    have hB : Below (w.heap.size + 1 + 1) W _ := And.left (by assumption)
    exact ⟨_, _, _, rfl, bW.trans (hB.mono (by omega)), o0, o1, o2⟩

set_option maxHeartbeats 1000000 in
theorem l01Between_any {ax ay az cax cay caz : Nat} {bx by_ bz cbx cby cbz : Nat} {s cs : Nat} (w : World) (h1 : Fl .f32 ax cax) (h2 : Fl .f32 ay cay) (h3 : Fl .f32 az caz) (g1 : Fl .f32 bx cbx) (g2 : Fl .f32 by_ cby) (g3 : Fl .f32 bz cbz) (k1 : Fl .f32 s cs) :
    Calls Try.prog 46 #[.agg #[.float .f32 ax, .float .f32 ay, .float .f32 az], .agg #[.float .f32 bx, .float .f32 by_, .float .f32 bz], .float .f32 s] w (RV (fop .add .f32 cax (fop .mul .f32 (fop .sub .f32 cbx cax) cs)) (fop .add .f32 cay (fop .mul .f32 (fop .sub .f32 cby cay) cs)) (fop .add .f32 caz (fop .mul .f32 (fop .sub .f32 cbz caz) cs)) w) := by
  go_enter Try.func46, Try.ntmps46
  go_upto_region 1 with fail
  obtain ⟨W, hW⟩ : ∃ W, W = (((w.alloc (.cells #[.float .f32 ax, .float .f32 ay, .float .f32 az] 25)).alloc (.cells #[.float .f32 bx, .float .f32 by_, .float .f32 bz] 25)).alloc (.cells #[.float .f32 0, .float .f32 0, .float .f32 0] 25)) := ⟨_, rfl⟩
  rw [← hW]
  have bW : Below w.heap.size w W := by rw [hW]; exact below3 _ _ _ _
  have a1 : W.cell? ⟨w.heap.size, 0, none⟩ = some (.float .f32 ax) := by rw [hW]; go_simp
  have a2 : W.cell? ⟨w.heap.size, 1, none⟩ = some (.float .f32 ay) := by rw [hW]; go_simp
  have a3 : W.cell? ⟨w.heap.size, 2, none⟩ = some (.float .f32 az) := by rw [hW]; go_simp
  have a4 : W.cell? ⟨w.heap.size + 1, 0, none⟩ = some (.float .f32 bx) := by rw [hW]; go_simp
  have a5 : W.cell? ⟨w.heap.size + 1, 1, none⟩ = some (.float .f32 by_) := by rw [hW]; go_simp
  have a6 : W.cell? ⟨w.heap.size + 1, 2, none⟩ = some (.float .f32 bz) := by rw [hW]; go_simp
  have a7 : W.cell? ⟨w.heap.size + 1 + 1, 0, none⟩ = some (.float .f32 0) := by rw [hW]; go_simp
  have a8 : W.cell? ⟨w.heap.size + 1 + 1, 1, none⟩ = some (.float .f32 0) := by rw [hW]; go_simp
  have a9 : W.cell? ⟨w.heap.size + 1 + 1, 2, none⟩ = some (.float .f32 0) := by rw [hW]; go_simp
  have f7 : ∀ o, W.frozen? ⟨w.heap.size + 1 + 1, o, none⟩ = false := by intro o; rw [hW]; go_simp
  have hs : w.heap.size + 1 + 1 < W.heap.size := by rw [hW]; simp
  have e0 : w.heap.size < w.heap.size + 1 + 1 := by omega
  have e2 : w.heap.size + 1 < w.heap.size + 1 + 1 := by omega
  clear hW
  go_region_held3 (fun w' => Below (w.heap.size + 1 + 1) W w' ∧ (w.heap.size + 1 + 1) ≤ w'.heap.size ∧ (∀ b o, b < (w.heap.size + 1 + 1) → w'.cell? ⟨b, o, none⟩ = W.cell? ⟨b, o, none⟩)) (first | exact keepStartN (by omega) | assumption | exact ⟨by assumption, by assumption, by assumption⟩ | exact keepCall (by assumption) (by assumption) | exact keepAlloc (by assumption) | (refine keepSet ?_ (keepSet ?_ (keepSet ?_ ?_)) <;> first | assumption | omega | (simp; done) | (simp; omega)) | (refine keepSet ?_ (keepSet ?_ ?_) <;> first | assumption | omega | (simp; done) | (simp; omega)) | (refine keepSet ?_ ?_ <;> first | assumption | omega | (simp; done) | (simp; omega)))
    (first
      | (go_at_call 40; refine (l01Less_any _ g1 g2 g3 h1 h2 h3).mono ?_; rintro e w' ⟨r0, r1, r2, rfl, hb, q0, q1, q2⟩; have hI := keepCall (n := w.heap.size + 1 + 1) (W1 := W) (by assumption) (hb := hb); obtain ⟨hc, hf⟩ := bcell hb; have hz := hb.size; (try simp at hz); (try simp only [World.size_drew, World.cell?_drew] at hc); (try simp only [World.size_drew, World.frozen?_drew] at hf); first | (have hs := Nat.lt_of_succ_le hz) | (have hs := Nat.lt_of_lt_of_le hs hz) | skip)
      | (go_at_call 41; refine (l01Scale_any _ q0 q1 q2 k1).mono ?_; rintro e w' ⟨s0, s1, s2, rfl, hb, p0, p1, p2⟩; have hI := keepCall (n := w.heap.size + 1 + 1) (W1 := W) (by assumption) (hb := hb); obtain ⟨hc, hf⟩ := bcell hb; have hz := hb.size; (try simp at hz); (try simp only [World.size_drew, World.cell?_drew] at hc); (try simp only [World.size_drew, World.frozen?_drew] at hf); first | (have hs := Nat.lt_of_succ_le hz) | (have hs := Nat.lt_of_lt_of_le hs hz) | skip)
      | (go_at_call 39; refine (l01Add_any _ h1 h2 h3 p0 p1 p2).mono ?_; rintro e w' ⟨t0, t1, t2, rfl, hb, o0, o1, o2⟩; have hI := keepCall (n := w.heap.size + 1 + 1) (W1 := W) (by assumption) (hb := hb); obtain ⟨hc, hf⟩ := bcell hb; have hz := hb.size; (try simp at hz); (try simp only [World.size_drew, World.cell?_drew] at hc); (try simp only [World.size_drew, World.frozen?_drew] at hf); first | (have hs := Nat.lt_of_succ_le hz) | (have hs := Nat.lt_of_lt_of_le hs hz) | skip))
  go_wp2_with fail
  refine bodyPost_ret (v := ?v) ?hr rfl ?post
  case hr => (simp only [results, Try.results46]; go_simp; rfl)
  case post =>
    have hB : Below (w.heap.size + 1 + 1) W _ := And.left (by assumption)
    exact ⟨_, _, _, rfl, bW.trans (hB.mono (by omega)), o0, o1, o2⟩

theorem same_dec (x y : Nat) : (cn .f32 x == cn .f32 y) = decide (cn .f32 x = cn .f32 y) := rfl
theorem implSameVector_any_same (x y : Nat) (w : World) (hx : x < 4294967296) (hy : y < 4294967296) : Calls Try.prog 48 #[.float .f32 x, .float .f32 y] w (fun e w' => e = .returned (.bool (cn .f32 x == cn .f32 y)) ∧ w = w') := by
  by_cases h1 : isN .f32 x = true <;> by_cases h2 : isN .f32 y = true
  all_goals
    try simp only [Bool.not_eq_true] at h1 h2
    first
      | (have e1 : Hid (cn .f32 x = qn .f32) := Lib.hid (cn_of_nan h1))
      | (have e1 : Hid (cn .f32 x = x) := Lib.hid (cn_of_not h1))
    first
      | (have e2 : Hid (cn .f32 y = qn .f32) := Lib.hid (cn_of_nan h2))
      | (have e2 : Hid (cn .f32 y = y) := Lib.hid (cn_of_not h2))
    go_enter Try.func48, Try.ntmps48
    go_wp2
    go_ret
    refine ⟨congrArg (fun b => Ending.returned (.bool b)) ?_, rfl⟩
    rw [e1.out, e2.out, Bool.eq_iff_iff]
    simp [qn]
    try omega

theorem l01VSame_any_same (x y : Nat) (w : World) (hx : x < 4294967296) (hy : y < 4294967296) : Calls Try.prog 56 #[.float .f32 x, .float .f32 y] w (fun e w' => e = .returned (.bool (cn .f32 x == cn .f32 y)) ∧ w = w') := by
  by_cases h1 : isN .f32 x = true <;> by_cases h2 : isN .f32 y = true
  all_goals
    try simp only [Bool.not_eq_true] at h1 h2
    first
      | (have e1 : Hid (cn .f32 x = qn .f32) := Lib.hid (cn_of_nan h1))
      | (have e1 : Hid (cn .f32 x = x) := Lib.hid (cn_of_not h1))
    first
      | (have e2 : Hid (cn .f32 y = qn .f32) := Lib.hid (cn_of_nan h2))
      | (have e2 : Hid (cn .f32 y = y) := Lib.hid (cn_of_not h2))
    go_enter Try.func56, Try.ntmps56
    go_wp2
    go_ret
    refine ⟨congrArg (fun b => Ending.returned (.bool b)) ?_, rfl⟩
    rw [e1.out, e2.out, Bool.eq_iff_iff]
    simp [qn]
    try omega

theorem implSameVector_any (x0 y0 z0 x1 y1 z1 : Nat) (w : World) (l1 : x0 < 4294967296) (l2 : y0 < 4294967296) (l3 : z0 < 4294967296) (l4 : x1 < 4294967296) (l5 : y1 < 4294967296) (l6 : z1 < 4294967296) :
    Calls Try.prog 31 #[.agg #[.float .f32 x0, .float .f32 y0, .float .f32 z0], .agg #[.float .f32 x1, .float .f32 y1, .float .f32 z1]] w (RBb (cn .f32 x0 == cn .f32 x1 && cn .f32 y0 == cn .f32 y1 && cn .f32 z0 == cn .f32 z1) w) := by
  by_cases c1 : (cn .f32 x0 == cn .f32 x1) = true <;> by_cases c2 : (cn .f32 y0 == cn .f32 y1) = true
  all_goals
    try simp only [Bool.not_eq_true] at c1 c2
    go_enter Try.func31, Try.ntmps31
    go_wp2_with (go_at_call 48; refine (implSameVector_any_same _ _ _ (by assumption) (by assumption)).mono ?_; rintro e w' ⟨rfl, rfl⟩)
    go_ret
    refine ⟨congrArg (fun b => Ending.returned (.bool b)) ?_, below2 _ _ _⟩
    simp [c1, c2]

theorem l01VSame_any (x0 y0 z0 x1 y1 z1 : Nat) (w : World) (l1 : x0 < 4294967296) (l2 : y0 < 4294967296) (l3 : z0 < 4294967296) (l4 : x1 < 4294967296) (l5 : y1 < 4294967296) (l6 : z1 < 4294967296) :
    Calls Try.prog 47 #[.agg #[.float .f32 x0, .float .f32 y0, .float .f32 z0], .agg #[.float .f32 x1, .float .f32 y1, .float .f32 z1]] w (RBb (cn .f32 x0 == cn .f32 x1 && cn .f32 y0 == cn .f32 y1 && cn .f32 z0 == cn .f32 z1) w) := by
  by_cases c1 : (cn .f32 x0 == cn .f32 x1) = true <;> by_cases c2 : (cn .f32 y0 == cn .f32 y1) = true
  all_goals
    try simp only [Bool.not_eq_true] at c1 c2
    go_enter Try.func47, Try.ntmps47
    go_wp2_with (go_at_call 56; refine (l01VSame_any_same _ _ _ (by assumption) (by assumption)).mono ?_; rintro e w' ⟨rfl, rfl⟩)
    go_ret
    refine ⟨congrArg (fun b => Ending.returned (.bool b)) ?_, below2 _ _ _⟩
    simp [c1, c2]

theorem specSameVector_any (x0 y0 z0 x1 y1 z1 : Nat) (w : World) (l1 : x0 < 4294967296) (l2 : y0 < 4294967296) (l3 : z0 < 4294967296) (l4 : x1 < 4294967296) (l5 : y1 < 4294967296) (l6 : z1 < 4294967296) :
    Calls Try.prog 30 #[.agg #[.float .f32 x0, .float .f32 y0, .float .f32 z0], .agg #[.float .f32 x1, .float .f32 y1, .float .f32 z1]] w (RBb (cn .f32 x0 == cn .f32 x1 && cn .f32 y0 == cn .f32 y1 && cn .f32 z0 == cn .f32 z1) w) := by
  go_enter Try.func30, Try.ntmps30
  go_wp2_with (go_at_call 47; refine (l01VSame_any _ _ _ _ _ _ _ l1 l2 l3 l4 l5 l6).mono ?_; rintro e w' ⟨rfl, hb⟩)
  go_ret
  exact ⟨rfl, (below2 _ _ _).trans (hb.mono (by simp; try omega))⟩
theorem specBetween_any {ax ay az cax cay caz : Nat} {bx by_ bz cbx cby cbz : Nat} {s cs : Nat} (w : World) (h1 : Fl .f32 ax cax) (h2 : Fl .f32 ay cay) (h3 : Fl .f32 az caz) (g1 : Fl .f32 bx cbx) (g2 : Fl .f32 by_ cby) (g3 : Fl .f32 bz cbz) (k1 : Fl .f32 s cs) :
    Calls Try.prog 28 #[.agg #[.float .f32 ax, .float .f32 ay, .float .f32 az], .agg #[.float .f32 bx, .float .f32 by_, .float .f32 bz], .float .f32 s] w (RV (fop .add .f32 cax (fop .mul .f32 (fop .sub .f32 cbx cax) cs)) (fop .add .f32 cay (fop .mul .f32 (fop .sub .f32 cby cay) cs)) (fop .add .f32 caz (fop .mul .f32 (fop .sub .f32 cbz caz) cs)) w) := by
  go_enter Try.func28, Try.ntmps28
  go_wp2_with (go_at_call 46; refine (l01Between_any _ h1 h2 h3 g1 g2 g3 k1).mono ?_; rintro e w' ⟨r0, r1, r2, rfl, hb, q0, q1, q2⟩; obtain ⟨hc, hf⟩ := bcell hb)
  refine bodyPost_ret (v := ?v) ?hr rfl ?post
  case hr => (simp [results, Try.results28, go_sem, hc, hf]; rfl)
  case post => exact ⟨_, _, _, rfl, (((((below3 _ _ _ _).trans (hb.mono (by simp; try omega))).setCell (by simp; try omega) _).setCell (by simp; try omega) _).setCell (by simp; try omega) _), q0, q1, q2⟩

end Go.Proofs.Ytgfmcehgecbbaac
