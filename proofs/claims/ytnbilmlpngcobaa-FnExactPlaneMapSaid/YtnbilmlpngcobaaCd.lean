import Derived.Test.YtnbilmlpngcobaaCa
import Derived.Test.YtnbilmlpngcobaaWa
import Derived.Test.YtnbilmlpngcobaaPk
import Derived.Deep.DrawnRows
import Derived.Deep.RegionHeld3
import Derived.OwnWalk
set_option linter.unusedVariables false
set_option linter.unusedSimpArgs false
namespace Go.Proofs.Ytnbilmlpngcobaa
open Go.FX Go.RowKit Go.WideShapes Go.ChangeShapes
attribute [local go_sem ↓] Go.wp_at_zero Go.wp_at_succ
theorem depth_fl {r c : Nat} (f b : Nat) (h : Fl .f32 r c) : depth f b r = depth f b c := by unfold depth; rw [← h.eq, fop_cnr]
theorem depOk_fl {r c : Nat} (f b : Nat) (h : Fl .f32 r c) : depOk f b r = depOk f b c := by unfold depOk; rw [abv_fl h, depth_fl f b h]
theorem turnOk_fl {r c : Nat} (f b mx my : Nat) (h : Fl .f32 r c) : turnOk f b mx my r = turnOk f b mx my c := by unfold turnOk; rw [depOk_fl f b h]
/-- The depth of a value, or no value. -/
def depN (ok : Bool) (z : Nat) : Nat := if ok then z else 3212836864
def depF (W H : Nat) (cs : List Nat) (f b : Nat) (x y : Int) : Nat := depN (depOk f b (atC W H cs x y)) (depth f b (atC W H cs x y))
set_option maxHeartbeats 2000000 in
theorem depth_fn (f b mx my : Nat) (hok : okCam f b mx my = true) (W H : Nat) (a : Option Addr) (n c : Nat) (cs : List Nat) (w : World) (hv : FC w (.slice a n c) cs) (b1 : 1 ≤ W) (b2 : W ≤ 24) (b3 : 1 ≤ H) (b4 : H ≤ 24) (hl : cs.length = H * W) :
    GreyFn Try.prog 72 #[.agg #[.float .f32 f, .float .f32 b, .float .f32 mx, .float .f32 my, .int .i64 W, .int .i64 H, .slice a n c]] #[] W H (depF W H cs f b) w := fun w1 x y hb hx hy => by
  have hat := fun w2 (h : Below w1.heap.size w1 w2) => mapAt_any W H (.slice a n c) cs x y w2 ((hv.below hb).below h) b1 b2 b4 hl hx hy
  have hE : Hid (depF W H cs f b x y = depN (turnOk f b mx my (atC W H cs x y)) (depth f b (atC W H cs x y))) := Lib.hid (by unfold depF turnOk; rw [hok, Bool.true_and])
  clear hv hl hb hok
  obtain ⟨C, hC⟩ : ∃ C, C = atC W H cs x y := ⟨_, rfl⟩
  rw [← hC] at hat hE
  clear hC
  show Calls Try.prog 72 #[.agg #[.float .f32 f, .float .f32 b, .float .f32 mx, .float .f32 my, .int .i64 W, .int .i64 H, .slice a n c], .int .i64 x, .int .i64 y] w1 _
  obtain ⟨V, hV⟩ : ∃ V, V = w1.alloc (.cells #[.float .f32 f, .float .f32 b, .float .f32 mx, .float .f32 my, .int .i64 W, .int .i64 H, .slice a n c] 106) := ⟨_, rfl⟩
  have bV : Below w1.heap.size w1 V := by rw [hV]; exact below1 _ _
  have hat := fun w2 (h : Below V.heap.size V w2) => hat w2 (bV.trans (h.mono bV.size))
  obtain ⟨K, hK⟩ : ∃ K, K = turnOk f b mx my C := ⟨_, rfl⟩
  obtain ⟨D, hD⟩ : ∃ D, D = depth f b C := ⟨_, rfl⟩
  have hT : ∀ r w2, Fl .f32 r C → Calls Try.prog 142 #[.agg #[.float .f32 f, .float .f32 b, .float .f32 mx, .float .f32 my], .float .f32 r] w2 (RFBb (sel K D) K w2) := by
    intro r w2 hr
    rw [hK, hD, ← turnOk_fl f b mx my hr, ← depth_fl f b hr, ← turnV_eq]
    exact turn_any _ _ _ _ _ _
  rw [← hK, ← hD] at hE
  clear hK hD
  have v0 : V.cell? ⟨w1.heap.size, 0, none⟩ = some (.float .f32 f) := by rw [hV]; go_simp
  have v1 : V.cell? ⟨w1.heap.size, 1, none⟩ = some (.float .f32 b) := by rw [hV]; go_simp
  have v2 : V.cell? ⟨w1.heap.size, 2, none⟩ = some (.float .f32 mx) := by rw [hV]; go_simp
  have v3 : V.cell? ⟨w1.heap.size, 3, none⟩ = some (.float .f32 my) := by rw [hV]; go_simp
  have v4 : V.cell? ⟨w1.heap.size, 4, none⟩ = some (.int .i64 W) := by rw [hV]; go_simp
  have v5 : V.cell? ⟨w1.heap.size, 5, none⟩ = some (.int .i64 H) := by rw [hV]; go_simp
  have v6 : V.cell? ⟨w1.heap.size, 6, none⟩ = some (.slice a n c) := by rw [hV]; go_simp
  have hl1 : w1.heap.size < V.heap.size := by rw [hV]; simp
  cases K
  all_goals
    go_enter Try.func72, Try.ntmps72
    go_upto_region 1 with fail
    rw [← hV]
    have hV' := Lib.hid hV
    clear hV
    go_region_held3 (fun w' => Below V.heap.size V w' ∧ V.heap.size ≤ w'.heap.size ∧ (∀ b o, b < V.heap.size → w'.cell? ⟨b, o, none⟩ = V.cell? ⟨b, o, none⟩)) (first | exact keepStart _ | assumption | exact ⟨by assumption, by assumption, by assumption⟩ | exact keepCall (by assumption) (by assumption) | exact keepAlloc (by assumption) | (refine keepSet ?_ (keepSet ?_ (keepSet ?_ (keepSet ?_ ?_))) <;> first | assumption | omega | (simp; done) | (simp; omega)) | (refine keepSet ?_ (keepSet ?_ (keepSet ?_ ?_)) <;> first | assumption | omega | (simp; done) | (simp; omega)) | (refine keepSet ?_ (keepSet ?_ ?_) <;> first | assumption | omega | (simp; done) | (simp; omega)) | (refine keepSet ?_ ?_ <;> first | assumption | omega | (simp; done) | (simp; omega)))
      (first
        | (go_at_call 94; (with_reducible refine (hat _ (And.left (by assumption))).mono ?_); rintro e w2 ⟨r, rfl, hb2, hr⟩; have hI := keepCall (n := V.heap.size) (W1 := V) (by assumption) hb2; obtain ⟨hc, hf⟩ := bcell hb2; have hz := hb2.size; (try simp at hz); (try simp only [World.size_drew, World.cell?_drew] at hc); (try simp only [World.size_drew, World.frozen?_drew] at hf); first | (have hs := Nat.lt_of_succ_le hz) | (have hs := Nat.lt_of_lt_of_le hs hz) | skip)
        | (go_at_call 142; (with_reducible refine (hT _ _ hr).mono ?_); rintro e w3 ⟨z, rfl, hb3, qz⟩; have hI := keepCall (n := V.heap.size) (W1 := V) (by assumption) hb3; obtain ⟨hc, hf⟩ := bcell hb3; have hz := hb3.size; (try simp at hz); (try simp only [World.size_drew, World.cell?_drew] at hc); (try simp only [World.size_drew, World.frozen?_drew] at hf); first | (have hs := Nat.lt_of_succ_le hz) | (have hs := Nat.lt_of_lt_of_le hs hz) | skip))
    all_goals go_wp2_with fail
    all_goals go_ret
    all_goals
      have hBV : Below V.heap.size V _ := And.left (by assumption)
      refine ⟨_, rfl, bV.trans (hBV.mono bV.size), ?_⟩
      rw [hE.out]
      first | exact flM1 | (show Fl .f32 _ D; exact qz)
set_option maxHeartbeats 2000000 in
theorem implDepthMap_no (f b mx my : Nat) (hok : okCam f b mx my = false) (W H : Int) (a : Option Addr) (n c : Nat) (w : World) :
    Calls Try.prog 18 #[.agg #[.float .f32 f, .float .f32 b, .float .f32 mx, .float .f32 my], .agg #[.int .i64 W, .int .i64 H, .slice a n c]] w (RPic 22 0 0 [] false w) := by
  have hok' := Lib.hid hok
  clear hok
  go_enter Try.func18, Try.ntmps18
  go_wp2_with fail
  refine (validCam_any _ _ _ _ _).mono ?_
  rintro e w1 ⟨rfl, hb1⟩
  rw [hok'.out]
  obtain ⟨hc, hf⟩ := bcell hb1
  have hs1 := hb1.size
  simp only [World.size_alloc] at hs1
  go_wp2_with fail
  refine bodyPost_ret (v := ?v) ?hr rfl ?post
  case hr => (simp only [results, Try.results18]; go_simp; try rfl)
  case post => exact ⟨_, _, _, rfl, by ((repeat' (first | (refine bel_set ?_ ?_ _) | (refine bel_al ?_ ?_ _) | exact Below.refl _ _ | assumption | (refine below_drewN ?_ _) | (refine Below.drew ?_) | (refine Below.trans ?_ (Below.mono hb1 ?_)))) <;> (first | omega | (simp; done) | (simp; omega))), OC.nil _ _ _⟩
set_option maxHeartbeats 2000000 in
theorem implDepthMap_of (f b mx my : Nat) (hok : okCam f b mx my = true) (W H : Int) (a : Option Addr) (n c : Nat) (W' H' : Int) (cs' : List Nat) (ok : Bool) (w : World)
    (h : ∀ w1, Below w.heap.size w w1 → Calls Try.prog 71 #[.agg #[.int .i64 W, .int .i64 H, .slice a n c], .func (.func 72) #[.agg #[.float .f32 f, .float .f32 b, .float .f32 mx, .float .f32 my, .int .i64 W, .int .i64 H, .slice a n c]] #[]] w1 (RPic 22 W' H' cs' ok w1)) :
    Calls Try.prog 18 #[.agg #[.float .f32 f, .float .f32 b, .float .f32 mx, .float .f32 my], .agg #[.int .i64 W, .int .i64 H, .slice a n c]] w (RPic 22 W' H' cs' ok w) := by
  have hok' := Lib.hid hok
  clear hok
  go_enter Try.func18, Try.ntmps18
  go_wp2_with fail
  refine (validCam_any _ _ _ _ _).mono ?_
  rintro e w1 ⟨rfl, hb1⟩
  rw [hok'.out]
  obtain ⟨hc, hf⟩ := bcell hb1
  have hs1 := hb1.size
  simp only [World.size_alloc] at hs1
  have q1 : Below w.heap.size w w1 := by ((repeat' (first | (refine bel_set ?_ ?_ _) | (refine bel_al ?_ ?_ _) | exact Below.refl _ _ | assumption | (refine below_drewN ?_ _) | (refine Below.drew ?_) | (refine Below.trans ?_ (Below.mono hb1 ?_)))) <;> (first | omega | (simp; done) | (simp; omega)))
  have h1 := h w1 q1
  go_wp2_with fail
  refine h1.mono ?_
  rintro e w2 ⟨a1, n1, c1, rfl, hb2, ho2⟩
  obtain ⟨l1, g0, g1, g2, gf⟩ := (((Nv.new ((w.alloc (.cells #[.float .f32 f, .float .f32 b, .float .f32 mx, .float .f32 my] 32)).alloc (.cells #[.int .i64 W, .int .i64 H, .slice a n c] 29)) (.int .i64 0) (.int .i64 0) (.slice none 0 0) 29).below hb1).below hb2)
  have hs2 := hb2.size
  simp only [World.size_alloc] at l1 g0 g1 g2 gf
  clear hc hf
  go_wp2_with fail
  refine bodyPost_ret (v := ?v) ?hr rfl ?post
  case hr => (simp only [results, Try.results18]; go_simp; try rfl)
  case post =>
    refine ⟨_, _, _, rfl, ?_, ?_⟩
    · ((repeat' (first | (refine bel_set ?_ ?_ _) | (refine bel_al ?_ ?_ _) | exact Below.refl _ _ | assumption | (refine below_drewN ?_ _) | (refine Below.drew ?_) | (refine Below.trans ?_ (Below.mono hb2 ?_)))) <;> (first | omega | (simp; done) | (simp; omega)))
    · (refine OC.mono (base := ?bb) ?hh ?hl; (case hh => ((repeat' (first | (refine OC.set ?_ _ ?_) | (refine OC.alloc ?_ _) | exact ho2 | (refine OC.drewN ?_ _))) <;> (first | omega | (simp; done) | (simp; omega)))); (case hl => (first | omega | (simp; done) | (simp; omega))))
theorem implDepthMap_any (f b mx my : Nat) (hok : okCam f b mx my = true) (W H : Nat) (a : Option Addr) (n c : Nat) (cs : List Nat) (w : World) (hv : FC w (.slice a n c) cs) (b1 : 1 ≤ W) (b2 : W ≤ 24) (b3 : 1 ≤ H) (b4 : H ≤ 24) (b5 : H * W ≤ 256) (hl : cs.length = H * W) :
    Calls Try.prog 18 #[.agg #[.float .f32 f, .float .f32 b, .float .f32 mx, .float .f32 my], .agg #[.int .i64 W, .int .i64 H, .slice a n c]] w (RPic 22 W H (gridL W (depF W H cs f b) (H * W)) true w) := by
  obtain ⟨rfl, hnc, hcm⟩ := hv.sized
  have hG := depth_fn f b mx my hok W H a _ c cs w hv b1 b2 b3 b4 hl
  refine implDepthMap_of f b mx my hok _ _ _ _ _ _ _ _ _ w fun w1 hb1 => redraw_of _ _ _ _ _ _ _ _ _ _ _ _ w1 fun w3 hb3 => redrawAs_of _ _ _ _ _ _ _ _ _ _ _ _ _ _ w3 fun w4 hb4 => ?_
  exact drawFrom_any W H a cs.length c (validB_mk b1 b2 b3 b4 b5 hl) hnc hcm W H b1 b2 b3 b4 b5 _ _ _ _ w4 (enters_of Try.func72 (by kernel_rfl) rfl) (hG.later (hb1.trans ((hb3.trans (hb4.mono hb3.size)).mono hb1.size)))
theorem implDepthMap_bad (f b mx my : Nat) (hok : okCam f b mx my = true) (W H : Int) (a : Option Addr) (n c : Nat) (w : World) (hnc : n ≤ c) (hcm : c ≤ maxLen) (hval : validB W H n = false) :
    Calls Try.prog 18 #[.agg #[.float .f32 f, .float .f32 b, .float .f32 mx, .float .f32 my], .agg #[.int .i64 W, .int .i64 H, .slice a n c]] w (RPic 22 0 0 [] false w) :=
  implDepthMap_of f b mx my hok _ _ _ _ _ _ _ _ _ w fun w1 hb1 => redraw_of _ _ _ _ _ _ _ _ _ _ _ _ w1 fun w3 hb3 => redrawAs_of _ _ _ _ _ _ _ _ _ _ _ _ _ _ w3 fun w4 hb4 => drawFrom_no W H a n c hnc hcm W H (.inl hval) _ _ _ w4
def depI (cs : List Nat) (f b : Nat) (i : Nat) : Nat := depN (depOk f b (cs.getD i 0)) (depth f b (cs.getD i 0))
theorem dep_cells (W H : Nat) (cs : List Nat) (f b : Nat) (b1 : 1 ≤ W) (hl : cs.length = H * W) : gridL W (depF W H cs f b) (H * W) = seqL (depI cs f b) cs.length := by
  rw [gridL_seq, hl]
  exact seqL_congr fun i hi => by unfold depF depI; rw [atC_lin cs b1 hi]
theorem seqL_succ' (F : Nat → Nat) (k : Nat) : seqL F (k + 1) = seqL F k ++ [F k] := by simp [seqL, List.range_succ]
set_option maxHeartbeats 4000000 in
theorem specDepthMap_no1 (f b mx my : Nat) (hok : okCam f b mx my = false) (W H : Int) (a : Option Addr) (n c : Nat) (w : World) :
    Calls Try.prog 15 #[.agg #[.float .f32 f, .float .f32 b, .float .f32 mx, .float .f32 my], .agg #[.int .i64 W, .int .i64 H, .slice a n c]] w (RPic 22 0 0 [] false w) := by
  have hok' := Lib.hid hok
  clear hok
  obtain ⟨W0, hW0⟩ : ∃ U, U = ((w.alloc (.cells #[.float .f32 f, .float .f32 b, .float .f32 mx, .float .f32 my] 32)).alloc (.cells #[.int .i64 W, .int .i64 H, .slice a n c] 29)).alloc (.cells #[.int .i64 0, .int .i64 0, .slice none 0 0] 29) := ⟨_, rfl⟩
  have PC : P4 W0 w.heap.size f b mx my := by rw [hW0]; exact ((P4.new _ _ _ _ _ _).alloc _).alloc _
  have PN := Nv.new ((w.alloc (.cells #[.float .f32 f, .float .f32 b, .float .f32 mx, .float .f32 my] 32)).alloc (.cells #[.int .i64 W, .int .i64 H, .slice a n c] 29)) (.int .i64 0) (.int .i64 0) (.slice none 0 0) 29
  simp only [World.size_alloc] at PN
  rw [← hW0] at PN
  have bw : Below w.heap.size w W0 := by rw [hW0]; ((repeat' (first | (refine bel_set ?_ ?_ _) | (refine bel_al ?_ ?_ _) | exact Below.refl _ _ | assumption | (refine below_drewN ?_ _) | (refine Below.drew ?_))) <;> (first | omega | (simp; done) | (simp; omega)))
  go_enter Try.func15, Try.ntmps15
  go_wp2_with fail
  rw [← hW0]
  clear hW0
  refine (specCam_any f b mx my w.heap.size _ PC).mono ?_
  rintro e w2 ⟨k2, rfl, rfl⟩
  rw [hok'.out]
  obtain ⟨l1, g0, g1, g2, gf⟩ := PN
  go_wp2_with fail
  refine bodyPost_ret (v := ?v) ?hr rfl ?post
  case hr => (simp only [results, Try.results15]; go_simp; try rfl)
  case post => exact ⟨_, _, _, rfl, by ((repeat' (first | (refine bel_set ?_ ?_ _) | (refine bel_al ?_ ?_ _) | exact Below.refl _ _ | assumption | (refine below_drewN ?_ _) | (refine Below.drew ?_))) <;> (first | omega | (simp; done) | (simp; omega))), OC.nil _ _ _⟩
set_option maxHeartbeats 4000000 in
theorem specDepthMap_no2 (f b mx my : Nat) (hok : okCam f b mx my = true) (W H : Int) (a : Option Addr) (n c : Nat) (w : World) (hnc : n ≤ c) (hcm : c ≤ maxLen) (hval : validB W H n = false) :
    Calls Try.prog 15 #[.agg #[.float .f32 f, .float .f32 b, .float .f32 mx, .float .f32 my], .agg #[.int .i64 W, .int .i64 H, .slice a n c]] w (RPic 22 0 0 [] false w) := by
  have hok' := Lib.hid hok
  have hval' := Lib.hid hval
  clear hok hval
  have h1 := fun w1 hp => specMIs_any W H a n c (w.heap.size + 1) w1 hp (by unfold maxLen at hcm; omega)
  obtain ⟨W0, hW0⟩ : ∃ U, U = ((w.alloc (.cells #[.float .f32 f, .float .f32 b, .float .f32 mx, .float .f32 my] 32)).alloc (.cells #[.int .i64 W, .int .i64 H, .slice a n c] 29)).alloc (.cells #[.int .i64 0, .int .i64 0, .slice none 0 0] 29) := ⟨_, rfl⟩
  have PC : P4 W0 w.heap.size f b mx my := by rw [hW0]; exact ((P4.new _ _ _ _ _ _).alloc _).alloc _
  have PM := (Pv.new (w.alloc (.cells #[.float .f32 f, .float .f32 b, .float .f32 mx, .float .f32 my] 32)) W H (.slice a n c) 29).alloc (.cells #[.int .i64 0, .int .i64 0, .slice none 0 0] 29)
  simp only [World.size_alloc] at PM
  rw [← hW0] at PM
  have PN := Nv.new ((w.alloc (.cells #[.float .f32 f, .float .f32 b, .float .f32 mx, .float .f32 my] 32)).alloc (.cells #[.int .i64 W, .int .i64 H, .slice a n c] 29)) (.int .i64 0) (.int .i64 0) (.slice none 0 0) 29
  simp only [World.size_alloc] at PN
  rw [← hW0] at PN
  have bw : Below w.heap.size w W0 := by rw [hW0]; ((repeat' (first | (refine bel_set ?_ ?_ _) | (refine bel_al ?_ ?_ _) | exact Below.refl _ _ | assumption | (refine below_drewN ?_ _) | (refine Below.drew ?_))) <;> (first | omega | (simp; done) | (simp; omega)))
  go_enter Try.func15, Try.ntmps15
  go_wp2_with fail
  rw [← hW0]
  clear hW0
  refine (specCam_any f b mx my w.heap.size _ PC).mono ?_
  rintro e w2 ⟨k2, rfl, rfl⟩
  rw [hok'.out]
  go_wp2_with fail
  refine (h1 _ (PM.drewN _)).mono ?_
  rintro e w3 ⟨k3, rfl, rfl⟩
  rw [hval'.out]
  obtain ⟨l1, g0, g1, g2, gf⟩ := PN
  go_wp2_with fail
  refine bodyPost_ret (v := ?v) ?hr rfl ?post
  case hr => (simp only [results, Try.results15]; go_simp; try rfl)
  case post => exact ⟨_, _, _, rfl, by ((repeat' (first | (refine bel_set ?_ ?_ _) | (refine bel_al ?_ ?_ _) | exact Below.refl _ _ | assumption | (refine below_drewN ?_ _) | (refine Below.drew ?_))) <;> (first | omega | (simp; done) | (simp; omega))), OC.nil _ _ _⟩
theorem dd (w : World) (a b : Nat) : (w.drewN a).drewN b = w.drewN (a + b) := by simp
theorem OC.litE (w : World) (E : TypeId) : OC (w.alloc (.cells #[] E)) w.heap.size E (.slice (some ⟨w.heap.size, 0, none⟩) 0 0) [] := by
  have ho := World.ownsRow_lit (base := w.heap.size) (e := E) (size := 1) w #[] 0 (Nat.le_refl _) (by simp [maxLen]) (by simp)
  exact ⟨[], by simp, rfl, by simpa using ho⟩
theorem Mk.drewN {E : TypeId} {w0 : World} {bo : Nat} {W H : Int} {cs : List Nat} {wr : World} (h : Mk E w0 bo W H cs wr) (k : Nat) : Mk E w0 bo W H cs (wr.drewN k) := by
  obtain ⟨a, n, c, h1, h2, h3, h4, h5⟩ := h
  exact ⟨a, n, c, h1.drewN k, h2.drewN k, h3, h4, below_drewN h5 k⟩
set_option maxRecDepth 100000 in
set_option maxHeartbeats 8000000 in
theorem specDepthMap_any (f b mx my : Nat) (hok : okCam f b mx my = true) (lf : f < width .f32) (lb : b < width .f32) (W H : Nat) (a0 : Option Addr) (n0 c0 : Nat) (cs : List Nat) (w : World) (hv : FC w (.slice a0 n0 c0) cs) (b1 : 1 ≤ W) (b2 : W ≤ 24) (b3 : 1 ≤ H) (b4 : H ≤ 24) (b5 : H * W ≤ 256) (hl : cs.length = H * W) :
    Calls Try.prog 15 #[.agg #[.float .f32 f, .float .f32 b, .float .f32 mx, .float .f32 my], .agg #[.int .i64 W, .int .i64 H, .slice a0 n0 c0]] w (RPic 22 W H (gridL W (depF W H cs f b) (H * W)) true w) := by
  obtain ⟨i0, hi, hz0, hz1, hz2⟩ := info_parts info_f32
  obtain ⟨rfl, hnc, hcm⟩ := hv.sized
  have hok' := Lib.hid hok
  clear hok
  have hval := Lib.hid (validB_mk b1 b2 b3 b4 b5 hl)
  have h1 := fun w1 hp => specMIs_any W H a0 cs.length c0 (w.heap.size + 1) w1 hp (by unfold maxLen at hcm; omega)
  have h256 : cs.length ≤ 256 := by omega
  rw [dep_cells W H cs f b b1 hl]
  clear hl
  obtain ⟨W0, hW0⟩ : ∃ U, U = ((w.alloc (.cells #[.float .f32 f, .float .f32 b, .float .f32 mx, .float .f32 my] 32)).alloc (.cells #[.int .i64 W, .int .i64 H, .slice a0 cs.length c0] 29)).alloc (.cells #[.int .i64 0, .int .i64 0, .slice none 0 0] 29) := ⟨_, rfl⟩
  have PC : P4 W0 w.heap.size f b mx my := by rw [hW0]; exact ((P4.new _ _ _ _ _ _).alloc _).alloc _
  have PM := (Pv.new (w.alloc (.cells #[.float .f32 f, .float .f32 b, .float .f32 mx, .float .f32 my] 32)) W H (.slice a0 cs.length c0) 29).alloc (.cells #[.int .i64 0, .int .i64 0, .slice none 0 0] 29)
  simp only [World.size_alloc] at PM
  rw [← hW0] at PM
  have PN := Nv.new ((w.alloc (.cells #[.float .f32 f, .float .f32 b, .float .f32 mx, .float .f32 my] 32)).alloc (.cells #[.int .i64 W, .int .i64 H, .slice a0 cs.length c0] 29)) (.int .i64 0) (.int .i64 0) (.slice none 0 0) 29
  simp only [World.size_alloc] at PN
  rw [← hW0] at PN
  have bw : Below w.heap.size w W0 := by rw [hW0]; ((repeat' (first | (refine bel_set ?_ ?_ _) | (refine bel_al ?_ ?_ _) | exact Below.refl _ _ | assumption | (refine below_drewN ?_ _) | (refine Below.drew ?_))) <;> (first | omega | (simp; done) | (simp; omega)))
  have hv0 : FC W0 (.slice a0 cs.length c0) cs := hv.below bw
  go_enter Try.func15, Try.ntmps15
  go_wp2_with fail
  rw [← hW0]
  clear hW0 hv
  refine (specCam_any f b mx my w.heap.size _ PC).mono ?_
  rintro e w2 ⟨k2, rfl, rfl⟩
  rw [hok'.out]
  go_wp2_with fail
  refine (h1 _ (PM.drewN _)).mono ?_
  rintro e w3 ⟨k3, rfl, rfl⟩
  rw [hval.out]
  obtain ⟨w0, hw0⟩ : ∃ u, u = (W0.drewN (k2 + k3)) := ⟨_, rfl⟩
  try rw [dd]
  rw [← hw0]
  replace PC : P4 w0 w.heap.size f b mx my := by rw [hw0]; exact PC.drewN _
  replace PM : Pv w0 (w.heap.size + 1) W H (.slice a0 cs.length c0) := by rw [hw0]; exact PM.drewN _
  replace PN : Nv w0 (w.heap.size + 1 + 1) (.int .i64 0) (.int .i64 0) (.slice none 0 0) := by rw [hw0]; exact PN.drewN _
  replace bw : Below w.heap.size w w0 := by rw [hw0]; exact below_drewN bw _
  replace hv0 : FC w0 (.slice a0 cs.length c0) cs := by rw [hw0]; exact hv0.drewN _
  clear hw0 h1
  have hlt0 : w.heap.size + 1 + 1 < w0.heap.size := PN.1
  obtain ⟨pl, p0, p1, p2⟩ := id PM
  obtain ⟨bo, hbo0⟩ : ∃ b, b = w0.heap.size + 1 := ⟨_, rfl⟩
  have hmk := Lib.hid (Mk.start1 (W := (W : Int)) (H := (H : Int)) (T := 29) (below1 w0 (.cells #[] 22)) (OC.litE w0 22))
  simp only [World.size_alloc] at hmk
  go_wp2_with fail
  rw [← hbo0] at hmk ⊢
  have hpv := Lib.hid (And.intro PC (And.intro PM (And.intro PN (And.intro bw hv0))))
  clear hbo0 p0 p1 p2 pl PC PM PN bw hv0
  go_loopw [7] (fun i wr => ∃ k : Nat, k ≤ cs.length ∧ i = .int .i64 k ∧ Hid (Mk 22 w0 bo W H (seqL (depI cs f b) k) wr)) (fun i _ => cs.length - (intOf i).toNat)
  case atStart => exact ⟨0, Nat.zero_le _, rfl, by simpa [seqL] using hmk⟩
  case round =>
    clear hmk
    obtain ⟨k, hk, rfl, hmk⟩ := hrel
    by_cases hlk : k < cs.length
    · have hblr : Below w0.heap.size w0 wr := by obtain ⟨_, _, _, _, _, _, _, h⟩ := hmk.out; exact h
      obtain ⟨_, e0, e1, e2⟩ := hpv.out.2.1.below hblr
      obtain ⟨bb, off, cc, z1, ev, _, _, hbz, hzf, hzc⟩ := (hpv.out.2.2.2.2.below hblr).cell hlk
      simp only [Value.slice.injEq, true_and] at ev
      obtain ⟨rfl, rfl⟩ := ev
      have i1 : (0 : Int) ≤ (k : Int) := Int.natCast_nonneg _
      have i2 : (k : Int) < (cs.length : Int) := by omega
      obtain ⟨K, hK⟩ : ∃ K, K = depOk f b (cs.getD k 0) := ⟨_, rfl⟩
      obtain ⟨D, hD⟩ : ∃ D, D = depth f b (cs.getD k 0) := ⟨_, rfl⟩
      have hcall := specDepth_any f b mx my w.heap.size z1 wr (hpv.out.1.below hblr) lf lb hzf.lt
      rw [depV_eq, depOk_fl f b hzf, depth_fl f b hzf, ← hK, ← hD] at hcall
      have hF : Hid (depI cs f b k = depN K D) := Lib.hid (by unfold depI; rw [← hK, ← hD])
      have hcall := Lib.hid hcall
      clear hK hD hzf hblr
      go_wp2_with fail
      refine hcall.out.mono ?_
      rintro e w2 ⟨zd, kk, rfl, hw2, qz⟩
      have hmk2 : Hid (Mk 22 w0 bo W H (seqL (depI cs f b) k) w2) := Lib.hid (by rw [hw2]; exact hmk.out.drewN kk)
      clear hw2 hcall hmk e0 e1 e2 hzc hbz
      obtain ⟨a, n, c, hN, ⟨zs, hz, hzm, hrow⟩, hne, hbo, hbl⟩ := hmk2.out
      have hlen : zs.length = k := by have h : (seqL (depI cs f b) k).length = k := by simp [seqL]
                                      rw [← h, ← hzm, List.length_map]
      have qz := Lib.hid qz
      cases K
      all_goals
        have hh := Lib.hid (And.intro hz (And.intro hzm (And.intro hlen (And.intro hbl hN))))
        have hrowA : ∀ (o : Obj) (m : Nat), ((w2.alloc o).drewN m).ownsRow w0.heap.size 22 1 (.slice a n c) zs.length (zs.map (.float .f32)) := fun o m => hrow.alloc o
        have hsz : w0.heap.size ≤ w2.heap.size := hbl.size
        have k2 : w2.cell? ⟨bo, 2, none⟩ = some (.slice a n c) := hN.2.2.2.1
        have hbo2 : bo < w2.heap.size := hN.1
        clear hlen hzm hz hbl hmk2 hN
      · go_wp2_with (at_builtin; go_loud (refine wpList_append_lies _ (by rfl) _ _ _ (by rfl) w0.heap.size 22 i0 _ 1 4 Try.underlying25 hi hz0 hz1 hz2 rfl (by omega) (.slice a n c) zs.length (zs.map (.float .f32)) (by rfl) (hrow.alloc _) ⟨w2.heap.size, 0, none⟩ 1 1 [.float .f32 3212836864] (by rfl) (by rfl) (World.news_of_block (cs := #[.float .f32 3212836864]) (t := 22) (fr := (0, 0)) (heap_alloc_new w2 _)) (by simp [Value.oneCell']) (by omega) (by have := hh.out.2.2.1; unfold maxLen; omega) (by have := hh.out.2.2.1; omega) (by simp; omega) (w2.heap.size + 1) (by simp) ?_; intro gg cap w3 hown3 hgrow0 hat3 hlt3; have hgrow := (show ((w2.alloc (.cells #[.float .f32 3212836864] 22)).drewN 0).grownBy w3 _ from hgrow0); clear hgrow0; have hN3 := Mk.nv3 hh.out.2.2.2.2 hne hgrow; have j2 := hN3.2.2.2.1; have jf := hN3.2.2.2.2 2))
        all_goals
          have hM : Mk 22 w0 bo W H (seqL (depI cs f b) (k + 1)) (w3.setCell ⟨bo, 2, none⟩ (.slice (some ⟨gg, 0, none⟩) (zs.length + 1) cap)) := by
            rw [seqL_succ', hF.out]
            exact Mk.step hh.out.2.2.2.2 hrow hh.out.1 hh.out.2.1 hne hbo hh.out.2.2.2.1 flM1 hown3 hgrow hat3
          have hM := Lib.hid hM
          clear hgrow hown3 hat3 hrow hrowA
          go_wp2_with fail
          go_roundw
          case rel => exact ⟨k + 1, by omega, by go_num, by first | exact hM | exact Lib.hid (hM.out.drewN _)⟩
          case measure => simp [intOf]; omega
      · go_wp2_with (at_builtin; go_loud (refine wpList_append_lies _ (by rfl) _ _ _ (by rfl) w0.heap.size 22 i0 _ 1 4 Try.underlying25 hi hz0 hz1 hz2 rfl (by omega) (.slice a n c) zs.length (zs.map (.float .f32)) (by rfl) (hrow.alloc _) ⟨w2.heap.size, 0, none⟩ 1 1 [.float .f32 zd] (by rfl) (by rfl) (World.news_of_block (cs := #[.float .f32 zd]) (t := 22) (fr := (0, 0)) (heap_alloc_new w2 _)) (by simp [Value.oneCell']) (by omega) (by have := hh.out.2.2.1; unfold maxLen; omega) (by have := hh.out.2.2.1; omega) (by simp; omega) (w2.heap.size + 1) (by simp) ?_; intro gg cap w3 hown3 hgrow0 hat3 hlt3; have hgrow := (show ((w2.alloc (.cells #[.float .f32 zd] 22)).drewN 0).grownBy w3 _ from hgrow0); clear hgrow0; have hN3 := Mk.nv3 hh.out.2.2.2.2 hne hgrow; have j2 := hN3.2.2.2.1; have jf := hN3.2.2.2.2 2))
        all_goals
          have hM : Mk 22 w0 bo W H (seqL (depI cs f b) (k + 1)) (w3.setCell ⟨bo, 2, none⟩ (.slice (some ⟨gg, 0, none⟩) (zs.length + 1) cap)) := by
            rw [seqL_succ', hF.out]
            exact Mk.step hh.out.2.2.2.2 hrow hh.out.1 hh.out.2.1 hne hbo hh.out.2.2.2.1 qz.out hown3 hgrow hat3
          have hM := Lib.hid hM
          clear hgrow hown3 hat3 hrow hrowA
          go_wp2_with fail
          go_roundw
          case rel => exact ⟨k + 1, by omega, by go_num, by first | exact hM | exact Lib.hid (hM.out.drewN _)⟩
          case measure => simp [intOf]; omega
    · obtain rfl : k = cs.length := by omega
      obtain ⟨a, n, c, hN, hoc, hne, hbo, hbl⟩ := hmk.out
      obtain ⟨_, e0, e1, e2⟩ := hpv.out.2.1.below hbl
      obtain ⟨_, f0, f1, f2, f3⟩ := hN
      obtain ⟨_, r0, r1, r2, rf⟩ := hpv.out.2.2.1.below hbl
      have hoc := Lib.hid hoc
      go_wp2_with fail
      refine bodyPost_ret (v := ?v) ?hr rfl ?post
      case hr => (simp [results, Try.results15, go_sem, f0, f1, f2, r0, r1, r2, rf]; try rfl)
      case post =>
        have h0 := hpv.out.2.2.2.1
        have ho := hoc.out
        refine ⟨_, _, _, rfl, ?_, ?_⟩
        · ((repeat' (first | (refine bel_set ?_ ?_ _) | (refine bel_al ?_ ?_ _) | exact Below.refl _ _ | assumption | (refine below_drewN ?_ _) | (refine Below.drew ?_) | (refine Below.trans ?_ (Below.mono hbl ?_)))) <;> (first | omega | (simp; done) | (simp; omega)))
        · (refine OC.mono (base := ?bb) ?hh ?hl; (case hh => ((repeat' (first | (refine OC.set ?_ _ ?_) | (refine OC.alloc ?_ _) | exact ho | (refine OC.drewN ?_ _))) <;> (first | omega | (simp; done) | (simp; omega)))); (case hl => (first | omega | (simp; done) | (simp; omega))))
theorem pairDepthMap (f b mx my : Nat) (lf : f < width .f32) (lb : b < width .f32) (W H : Int) (cs : List Nat) :
    ∃ (W' H' : Int) (cs' : List Nat) (ok : Bool),
      (∀ a n c w, FC w (.slice a n c) cs → Calls Try.prog 15 #[.agg #[.float .f32 f, .float .f32 b, .float .f32 mx, .float .f32 my], .agg #[.int .i64 W, .int .i64 H, .slice a n c]] w (RPic 22 W' H' cs' ok w)) ∧
      (∀ a n c w, FC w (.slice a n c) cs → Calls Try.prog 18 #[.agg #[.float .f32 f, .float .f32 b, .float .f32 mx, .float .f32 my], .agg #[.int .i64 W, .int .i64 H, .slice a n c]] w (RPic 22 W' H' cs' ok w)) ∧ cs'.length ≤ 256 := by
  cases hok : okCam f b mx my with
  | false => exact ⟨0, 0, [], false, fun a n c w hv => specDepthMap_no1 f b mx my hok W H a n c w, fun a n c w hv => implDepthMap_no f b mx my hok W H a n c w, by simp⟩
  | true =>
    cases hval : validB W H cs.length with
    | true =>
      obtain ⟨wn, hn, rfl, rfl, b1, b2, b3, b4, b5, hl⟩ := validB_parts hval
      exact ⟨_, _, _, _, fun a n c w hv => specDepthMap_any f b mx my hok lf lb wn hn a n c cs w hv b1 b2 b3 b4 b5 hl, fun a n c w hv => implDepthMap_any f b mx my hok wn hn a n c cs w hv b1 b2 b3 b4 b5 hl, by rw [gridL_len]; exact b5⟩
    | false =>
      refine ⟨0, 0, [], false, fun a n c w hv => ?_, fun a n c w hv => ?_, by simp⟩
      · obtain ⟨rfl, h1, h2⟩ := hv.sized
        exact specDepthMap_no2 f b mx my hok W H a _ c w h1 h2 hval
      · obtain ⟨rfl, h1, h2⟩ := hv.sized
        exact implDepthMap_bad f b mx my hok W H a _ c w h1 h2 hval
end Go.Proofs.Ytnbilmlpngcobaa

