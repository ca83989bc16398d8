import Derived.Test.YtblaojflcemfdaaVa
import Derived.Test.YtblaojflcemfdaaVb
import Derived.Test.YtblaojflcemfdaaRc
import Derived.Test.YtblaojflcemfdaaPj
import Derived.Test.YtblaojflcemfdaaVo
import Derived.Test.YtblaojflcemfdaaR8
import Derived.Deep.DrawnRows
import Derived.BigQuiet
set_option linter.unusedVariables false
set_option linter.unusedSimpArgs false
namespace Go.FX
open Go Go.RowKit
/-! Volumes of what the differences of greys cost. -/
/-- A variable that holds a function value without captures. -/
def Fv (w : World) (b g : Nat) : Prop := b < w.heap.size ∧ w.cell? ⟨b, 0, none⟩ = some (.func (.func g) #[] #[])
theorem Fv.below {w w' : World} {b g : Nat} (h : Fv w b g) (hb : Below w.heap.size w w') : Fv w' b g := ⟨Nat.lt_of_lt_of_le h.1 hb.size, ((bcell hb).1 b 0 h.1).trans h.2⟩
theorem Fv.alloc {w : World} {b g : Nat} (h : Fv w b g) (o : Obj) : Fv (w.alloc o) b g := h.below (below1 w o)
theorem Fv.new (w : World) (g : Nat) (T : TypeId) : Fv (w.alloc (.cells #[.func (.func g) #[] #[]] T)) w.heap.size g := by
  refine ⟨by simp, ?_⟩; go_simp
def UnFn (P : Program) (g : Nat) (F : Nat → Nat) : Prop := ∀ (w1 : World) (r c : Nat), Fl .f32 r c → Calls P g #[.float .f32 r] w1 (RFb .f32 (F c) w1)
def cmpF (W H : Nat) (F : Nat → Nat) (cs cs' : List Nat) (x y d : Nat) : Nat := F (fop .sub .f32 (atC W H cs x y) (atC W H cs' ((x : Int) - d) y))
end Go.FX
namespace Go.Proofs.Ytblaojflcemfdaa
open Go.FX Go.RowKit Go.WideShapes Go.ChangeShapes

def sqF (c : Nat) : Nat := fop .mul .f32 c c
theorem square_fn : UnFn Try.prog 33 sqF := fun w1 r c h => by
  have h' := Lib.hid h
  clear h
  go_enter Try.func33, Try.ntmps33
  go_wp2_with fail
  go_ret
  exact ⟨_, rfl, below_drewN (Below.refl _ _) _, h'.out.flR h'.out _⟩
set_option maxHeartbeats 2000000 in
theorem cmpSq_fn (W H D : Nat) (a : Option Addr) (n c : Nat) (cs : List Nat) (a' : Option Addr) (n' c' : Nat) (cs' : List Nat) (bf bp bq : Nat) (w : World) (hf : Fv w bf 33) (hv : FC w (.slice a n c) cs) (hp : Pv w bp W H (.slice a n c)) (hv' : FC w (.slice a' n' c') cs') (hp' : Pv w bq W H (.slice a' n' c')) (b1 : 1 ≤ W) (b2 : W ≤ 24) (b3 : 1 ≤ H) (b4 : H ≤ 24) (hl : cs.length = H * W) (hl' : cs'.length = H * W) (d2 : D ≤ 8) :
    CostFn Try.prog 63 #[] #[.pointer (some ⟨bf, 0, none⟩), .pointer (some ⟨bp, 0, none⟩), .pointer (some ⟨bq, 0, none⟩)] W H D (cmpF W H sqF cs cs') w := fun w1 x y d hb hx hy hd => by
  have hat := fun w2 (h : Below w1.heap.size w1 w2) => about_any W H (.slice a n c) cs x y w2 ((hv.below hb).below h) b1 b2 b3 b4 hl (by omega) (by omega) (by omega) (by omega)
  have hat' := fun w2 (h : Below w1.heap.size w1 w2) => about_any W H (.slice a' n' c') cs' ((x : Int) - d) y w2 ((hv'.below hb).below h) b1 b2 b3 b4 hl' (by omega) (by omega) (by omega) (by omega)
  have hsq := fun (r : Nat) (w2 : World) (h : Below w1.heap.size w1 w2) (hr : Fl .f32 r (fop .sub .f32 (atC W H cs x y) (atC W H cs' ((x : Int) - d) y))) => square_fn w2 r _ hr
  obtain ⟨g1, e1⟩ : ∃ g, g = atC W H cs x y := ⟨_, rfl⟩
  obtain ⟨g2, e2⟩ : ∃ g, g = atC W H cs' ((x : Int) - d) y := ⟨_, rfl⟩
  have hE : Hid (cmpF W H sqF cs cs' x y d = sqF (fop .sub .f32 g1 g2)) := Lib.hid (by rw [e1, e2]; rfl)
  rw [← e1] at hat hsq
  rw [← e2] at hat' hsq
  obtain ⟨_, f0⟩ := hf.below hb
  obtain ⟨_, p0, p1, p2⟩ := hp.below hb
  obtain ⟨_, q0, q1, q2⟩ := hp'.below hb
  have m1 : IntKind.i64.wrap ((x : Int) - d) = (x : Int) - d := IntWalk.i64_in _ (by omega)
  clear hv hp hv' hp' hl hl' hb hf e1 e2
  show Calls Try.prog 63 #[.int .i64 x, .int .i64 y, .int .i64 d, .pointer (some ⟨bf, 0, none⟩), .pointer (some ⟨bp, 0, none⟩), .pointer (some ⟨bq, 0, none⟩)] w1 _
  go_enter Try.func63, Try.ntmps63
  go_upto_region 1 with fail
  refine wp_region_cls (by kernel_rfl) (by kernel_rfl) (by kernel_rfl) (by kernel_rfl) (fun w' => Below w1.heap.size w1 w') (below_drewN (Below.refl _ _) 1) [Eq1 ?q3413u0, Eq1 ?q3413u1, Eq1 ?q3413u2, Eq1 ?q3413u3, FloatIs .f32 (g1), Eq1 ?q3413u5, Eq1 ?q3413u6, Eq1 ?q3413u7, Eq1 ?q3413u8, Eq1 ?q3413u9, FloatIs .f32 (g2), FloatIs .f32 (fop .sub .f32 g1 g2), FloatIs .f32 (sqF (fop .sub .f32 g1 g2)), FloatIs .f32 (sqF (fop .sub .f32 g1 g2))] ?q3413main
  case q3413main =>
    (refine wpR_pure ?_ (fun w hw => ?_) ?_; rfl; (obtain ⟨hwc, hwf⟩ := bcell2 hw; go_simp; (try with_reducible rfl)); (try simp only [Act.put, List.setIfInBounds_toArray, List.set_cons_zero, List.set_cons_succ]))
    (refine wpR_pure ?_ (fun w hw => ?_) ?_; rfl; (obtain ⟨hwc, hwf⟩ := bcell2 hw; go_simp; (try with_reducible rfl)); (try simp only [Act.put, List.setIfInBounds_toArray, List.set_cons_zero, List.set_cons_succ]))
    (refine wpR_pure ?_ (fun w hw => ?_) ?_; rfl; (obtain ⟨hwc, hwf⟩ := bcell2 hw; go_simp; (try with_reducible rfl)); (try simp only [Act.put, List.setIfInBounds_toArray, List.set_cons_zero, List.set_cons_succ]))
    (refine wpR_pure ?_ (fun w hw => ?_) ?_; rfl; (obtain ⟨hwc, hwf⟩ := bcell2 hw; go_simp; (try with_reducible rfl)); (try simp only [Act.put, List.setIfInBounds_toArray, List.set_cons_zero, List.set_cons_succ]))
    (refine wpR_cls ?_ (fun w hw => ?_) ?_; rfl; (go_simp; refine (hat _ hw).mono ?_; rintro _ _ ⟨_, rfl, hcb, hcr⟩; exact ⟨_, rfl, ⟨_, rfl, hcr⟩, Below.trans hw (hcb.mono hw.size)⟩); (rintro _ ⟨_, rfl, _⟩; (try simp only [Act.put, List.setIfInBounds_toArray, List.set_cons_zero, List.set_cons_succ])))
    (refine wpR_pure ?_ (fun w hw => ?_) ?_; rfl; (obtain ⟨hwc, hwf⟩ := bcell2 hw; go_simp; (try with_reducible rfl)); (try simp only [Act.put, List.setIfInBounds_toArray, List.set_cons_zero, List.set_cons_succ]))
    (refine wpR_pure ?_ (fun w hw => ?_) ?_; rfl; (obtain ⟨hwc, hwf⟩ := bcell2 hw; go_simp; (try with_reducible rfl)); (try simp only [Act.put, List.setIfInBounds_toArray, List.set_cons_zero, List.set_cons_succ]))
    (refine wpR_pure ?_ (fun w hw => ?_) ?_; rfl; (obtain ⟨hwc, hwf⟩ := bcell2 hw; go_simp; (try with_reducible rfl)); (try simp only [Act.put, List.setIfInBounds_toArray, List.set_cons_zero, List.set_cons_succ]))
    (refine wpR_pure ?_ (fun w hw => ?_) ?_; rfl; (obtain ⟨hwc, hwf⟩ := bcell2 hw; go_simp; (try with_reducible rfl)); (try simp only [Act.put, List.setIfInBounds_toArray, List.set_cons_zero, List.set_cons_succ]))
    (refine wpR_pure ?_ (fun w hw => ?_) ?_; rfl; (obtain ⟨hwc, hwf⟩ := bcell2 hw; go_simp; (try with_reducible rfl)); (try simp only [Act.put, List.setIfInBounds_toArray, List.set_cons_zero, List.set_cons_succ]))
    (refine wpR_cls ?_ (fun w hw => ?_) ?_; rfl; (go_simp; refine (hat' _ hw).mono ?_; rintro _ _ ⟨_, rfl, hcb, hcr⟩; exact ⟨_, rfl, ⟨_, rfl, hcr⟩, Below.trans hw (hcb.mono hw.size)⟩); (rintro _ ⟨_, rfl, _⟩; (try simp only [Act.put, List.setIfInBounds_toArray, List.set_cons_zero, List.set_cons_succ])))
    (refine wpR_cls ?_ (fun w hw => ?_) ?_; rfl; (go_simp; exact ⟨below_drewN hw _, _, rfl, Fl.flR (by assumption) (by assumption) _⟩); (rintro _ ⟨_, rfl, _⟩; (try simp only [Act.put, List.setIfInBounds_toArray, List.set_cons_zero, List.set_cons_succ])))
    (refine wpR_cls ?_ (fun w hw => ?_) ?_; rfl; (go_simp; refine (hsq _ _ hw (by assumption)).mono ?_; rintro _ _ ⟨_, rfl, hcb, hcr⟩; exact ⟨_, rfl, ⟨_, rfl, hcr⟩, Below.trans hw (hcb.mono hw.size)⟩); (rintro _ ⟨_, rfl, _⟩; (try simp only [Act.put, List.setIfInBounds_toArray, List.set_cons_zero, List.set_cons_succ])))
    (refine wpR_cls ?_ (fun w hw => ?_) ?_; rfl; (go_simp; first | exact ⟨_, rfl, by assumption⟩ | exact ⟨hw, _, rfl, by assumption⟩); (rintro _ ⟨_, rfl, _⟩; (try simp only [Act.put, List.setIfInBounds_toArray, List.set_cons_zero, List.set_cons_succ])))
    refine wpR_nil ?_
    intro w' hw'
    go_wp2_with fail
    go_ret
    exact ⟨_, rfl, by assumption, by rw [hE.out]; assumption⟩
set_option maxHeartbeats 2000000 in
theorem implCompare_of (W H : Int) (a : Option Addr) (n c : Nat) (W' H' : Int) (a' : Option Addr) (n' c' : Nat) (D : Int) (g : Nat) (cs2 : List Nat) (w : World) (hnc : n ≤ c) (hcm : c ≤ maxLen) (hnc' : n' ≤ c') (hcm' : c' ≤ maxLen) (hval : pairB W H n W' H' n' = true) (hdp : deepB D = true)
    (h : ∀ w1 bf bp bq, Below w.heap.size w w1 → Fv w1 bf g → Pv w1 bp W H (.slice a n c) → Pv w1 bq W' H' (.slice a' n' c') → Calls Try.prog 62 #[.int .i64 W, .int .i64 H, .int .i64 D, .func (.func 63) #[] #[.pointer (some ⟨bf, 0, none⟩), .pointer (some ⟨bp, 0, none⟩), .pointer (some ⟨bq, 0, none⟩)]] w1 (RVol1 61 W H D cs2 w1)) :
    Calls Try.prog 32 #[.agg #[.int .i64 W, .int .i64 H, .slice a n c], .agg #[.int .i64 W', .int .i64 H', .slice a' n' c'], .int .i64 D, .func (.func g) #[] #[]] w (RVol 61 W H D cs2 true w) := by
  have h1 := fun w1 => isPair_any W H a n c W' H' a' n' c' w1 hnc hcm hnc' hcm'
  have o1 := Lib.hid hval
  have o2 := Lib.hid hdp
  have h' := Lib.hid h
  clear hval hdp h
  have hP := ((Pv.new w W H (.slice a n c) 30).alloc (.cells #[.int .i64 W', .int .i64 H', .slice a' n' c'] 30)).alloc (.cells #[.func (.func g) #[] #[]] 63) |>.alloc (.cells #[.int .i64 0, .int .i64 0, .int .i64 0, .slice none 0 0] 44)
  have hQ := ((Pv.new (w.alloc (.cells #[.int .i64 W, .int .i64 H, .slice a n c] 30)) W' H' (.slice a' n' c') 30).alloc (.cells #[.func (.func g) #[] #[]] 63)).alloc (.cells #[.int .i64 0, .int .i64 0, .int .i64 0, .slice none 0 0] 44)
  have hF := (Fv.new ((w.alloc (.cells #[.int .i64 W, .int .i64 H, .slice a n c] 30)).alloc (.cells #[.int .i64 W', .int .i64 H', .slice a' n' c'] 30)) g 63).alloc (.cells #[.int .i64 0, .int .i64 0, .int .i64 0, .slice none 0 0] 44)
  have hN := Nw.new (((w.alloc (.cells #[.int .i64 W, .int .i64 H, .slice a n c] 30)).alloc (.cells #[.int .i64 W', .int .i64 H', .slice a' n' c'] 30)).alloc (.cells #[.func (.func g) #[] #[]] 63)) (.int .i64 0) (.int .i64 0) (.int .i64 0) (.slice none 0 0) 44
  simp only [World.size_alloc] at hQ hF hN
  obtain ⟨w0, hw0⟩ : ∃ w0, w0 = ((((w.alloc (.cells #[.int .i64 W, .int .i64 H, .slice a n c] 30)).alloc (.cells #[.int .i64 W', .int .i64 H', .slice a' n' c'] 30)).alloc (.cells #[.func (.func g) #[] #[]] 63)).alloc (.cells #[.int .i64 0, .int .i64 0, .int .i64 0, .slice none 0 0] 44)) := ⟨_, rfl⟩
  have hb0 : Below w.heap.size w w0 := by rw [hw0]; exact (below3 _ _ _ _).alloc (by simp; omega) _
  rw [← hw0] at hP hQ hF hN
  go_enter Try.func32, Try.ntmps32
  go_upto_region 1 with fail
  rw [← hw0]
  clear hw0
  have hpv := Lib.hid (And.intro hP (And.intro hQ (And.intro hF (And.intro hN hb0))))
  obtain ⟨_, p0, p1, p2⟩ := id hP
  obtain ⟨_, q0, q1, q2⟩ := id hQ
  clear hP hQ hF hN hb0
  go_wp2_with fail
  refine (h1 _).mono ?_
  rintro e w1 ⟨rfl, hb1⟩
  rw [o1.out]
  obtain ⟨_, r0, r1, r2⟩ := hpv.out.1.below hb1
  go_wp2_with fail
  refine (isDeep_any _ _).mono ?_
  rintro e w' ⟨rfl, rfl⟩
  rw [o2.out]
  have hbW := hpv.out.2.2.2.2.trans (hb1.mono hpv.out.2.2.2.2.size)
  go_wp2_with fail
  refine (h'.out _ _ _ _ hbW (hpv.out.2.2.1.below hb1) (hpv.out.1.below hb1) (hpv.out.2.1.below hb1)).mono ?_
  rintro e w2 ⟨a2, n2, c2, rfl, hb2, ho2⟩
  have s2 := hb2.size
  have s1 := hbW.size
  have l4 := hpv.out.2.2.2.1.1
  have l5 := hb1.size
  obtain ⟨l2, u0, u1, u2, u3, uf⟩ := (hpv.out.2.2.2.1.below hb1).below hb2
  go_wp2_with fail
  refine bodyPost_ret (v := ?v) ?hr rfl ?post
  case hr => (simp [results, Try.results32, go_sem, u0, u1, u2, u3, uf]; try rfl)
  case post =>
    refine ⟨_, _, _, rfl, ?_, ?_⟩
    · have := hbW.trans (hb2.mono hbW.size)
      ((repeat' (first | (refine bel_set ?_ ?_ _) | (refine bel_al ?_ ?_ _) | exact Below.refl _ _ | assumption | (refine below_drewN ?_ _) | (refine Below.drew ?_))) <;> (first | omega | (simp; done) | (simp; omega)))
    · (refine OC.mono (base := ?bb) ?hh ?hl; (case hh => ((repeat' (first | (refine OC.set ?_ _ ?_) | (refine OC.alloc ?_ _) | exact ho2 | (refine OC.drewN ?_ _))) <;> (first | omega | (simp; done) | (simp; omega)))); (case hl => (first | omega | (simp; done) | (simp; omega))))
theorem implCompare_no (W H : Int) (a : Option Addr) (n c : Nat) (W' H' : Int) (a' : Option Addr) (n' c' : Nat) (D : Int) (g : Nat) (w : World) (hnc : n ≤ c) (hcm : c ≤ maxLen) (hnc' : n' ≤ c') (hcm' : c' ≤ maxLen) (hval : pairB W H n W' H' n' = false ∨ deepB D = false) :
    Calls Try.prog 32 #[.agg #[.int .i64 W, .int .i64 H, .slice a n c], .agg #[.int .i64 W', .int .i64 H', .slice a' n' c'], .int .i64 D, .func (.func g) #[] #[]] w (RVol 61 0 0 0 [] false w) := by
  have h1 := fun w1 => isPair_any W H a n c W' H' a' n' c' w1 hnc hcm hnc' hcm'
  have hP := ((Pv.new w W H (.slice a n c) 30).alloc (.cells #[.int .i64 W', .int .i64 H', .slice a' n' c'] 30)).alloc (.cells #[.func (.func g) #[] #[]] 63) |>.alloc (.cells #[.int .i64 0, .int .i64 0, .int .i64 0, .slice none 0 0] 44)
  have hQ := ((Pv.new (w.alloc (.cells #[.int .i64 W, .int .i64 H, .slice a n c] 30)) W' H' (.slice a' n' c') 30).alloc (.cells #[.func (.func g) #[] #[]] 63)).alloc (.cells #[.int .i64 0, .int .i64 0, .int .i64 0, .slice none 0 0] 44)
  have hF := (Fv.new ((w.alloc (.cells #[.int .i64 W, .int .i64 H, .slice a n c] 30)).alloc (.cells #[.int .i64 W', .int .i64 H', .slice a' n' c'] 30)) g 63).alloc (.cells #[.int .i64 0, .int .i64 0, .int .i64 0, .slice none 0 0] 44)
  have hN := Nw.new (((w.alloc (.cells #[.int .i64 W, .int .i64 H, .slice a n c] 30)).alloc (.cells #[.int .i64 W', .int .i64 H', .slice a' n' c'] 30)).alloc (.cells #[.func (.func g) #[] #[]] 63)) (.int .i64 0) (.int .i64 0) (.int .i64 0) (.slice none 0 0) 44
  simp only [World.size_alloc] at hQ hF hN
  obtain ⟨w0, hw0⟩ : ∃ w0, w0 = ((((w.alloc (.cells #[.int .i64 W, .int .i64 H, .slice a n c] 30)).alloc (.cells #[.int .i64 W', .int .i64 H', .slice a' n' c'] 30)).alloc (.cells #[.func (.func g) #[] #[]] 63)).alloc (.cells #[.int .i64 0, .int .i64 0, .int .i64 0, .slice none 0 0] 44)) := ⟨_, rfl⟩
  have hb0 : Below w.heap.size w w0 := by rw [hw0]; exact (below3 _ _ _ _).alloc (by simp; omega) _
  rw [← hw0] at hP hQ hF hN
  cases hp : pairB W H n W' H' n' with
  | false =>
    have o1 := Lib.hid hp
    clear hp hval
    go_enter Try.func32, Try.ntmps32
    go_upto_region 1 with fail
    rw [← hw0]
    clear hw0
    have hpv := Lib.hid (And.intro hP (And.intro hQ (And.intro hF (And.intro hN hb0))))
    obtain ⟨_, p0, p1, p2⟩ := id hP
    obtain ⟨_, q0, q1, q2⟩ := id hQ
    clear hP hQ hF hN hb0
    go_wp2_with fail
    refine (h1 _).mono ?_
    rintro e w1 ⟨rfl, hb1⟩
    rw [o1.out]
    have hbW := hpv.out.2.2.2.2.trans (hb1.mono hpv.out.2.2.2.2.size)
    have s1 := hbW.size
    have l4 := hpv.out.2.2.2.1.1
    obtain ⟨l2, u0, u1, u2, u3, uf⟩ := hpv.out.2.2.2.1.below hb1
    go_wp2_with fail
    refine bodyPost_ret (v := ?v) ?hr rfl ?post
    case hr => (simp [results, Try.results32, go_sem, u0, u1, u2, u3, uf]; try rfl)
    case post => exact ⟨_, _, _, rfl, by ((repeat' (first | (refine bel_set ?_ ?_ _) | (refine bel_al ?_ ?_ _) | exact Below.refl _ _ | assumption | (refine below_drewN ?_ _) | (refine Below.drew ?_))) <;> (first | omega | (simp; done) | (simp; omega))), OC.nil _ _ _⟩
  | true =>
    have hd : deepB D = false := by rcases hval with h | h; · rw [h] at hp; cases hp
                                    · exact h
    have o1 := Lib.hid hp
    have o2 := Lib.hid hd
    clear hp hval hd
    go_enter Try.func32, Try.ntmps32
    go_upto_region 1 with fail
    rw [← hw0]
    clear hw0
    have hpv := Lib.hid (And.intro hP (And.intro hQ (And.intro hF (And.intro hN hb0))))
    obtain ⟨_, p0, p1, p2⟩ := id hP
    obtain ⟨_, q0, q1, q2⟩ := id hQ
    clear hP hQ hF hN hb0
    go_wp2_with fail
    refine (h1 _).mono ?_
    rintro e w1 ⟨rfl, hb1⟩
    rw [o1.out]
    go_wp2_with fail
    refine (isDeep_any _ _).mono ?_
    rintro e w' ⟨rfl, rfl⟩
    rw [o2.out]
    have hbW := hpv.out.2.2.2.2.trans (hb1.mono hpv.out.2.2.2.2.size)
    have s1 := hbW.size
    have l4 := hpv.out.2.2.2.1.1
    obtain ⟨l2, u0, u1, u2, u3, uf⟩ := hpv.out.2.2.2.1.below hb1
    go_wp2_with fail
    refine bodyPost_ret (v := ?v) ?hr rfl ?post
    case hr => (simp [results, Try.results32, go_sem, u0, u1, u2, u3, uf]; try rfl)
    case post => exact ⟨_, _, _, rfl, by ((repeat' (first | (refine bel_set ?_ ?_ _) | (refine bel_al ?_ ?_ _) | exact Below.refl _ _ | assumption | (refine below_drewN ?_ _) | (refine Below.drew ?_))) <;> (first | omega | (simp; done) | (simp; omega))), OC.nil _ _ _⟩
set_option maxHeartbeats 1000000 in
theorem implSquareVolume_of (W H : Int) (a : Option Addr) (n c : Nat) (W' H' : Int) (a' : Option Addr) (n' c' : Nat) (D : Int) (W2 H2 D2 : Int) (cs2 : List Nat) (ok : Bool) (w : World)
    (h : ∀ w1, Below w.heap.size w w1 → Calls Try.prog 32 #[.agg #[.int .i64 W, .int .i64 H, .slice a n c], .agg #[.int .i64 W', .int .i64 H', .slice a' n' c'], .int .i64 D, .func (.func 33) #[] #[]] w1 (RVol 61 W2 H2 D2 cs2 ok w1)) :
    Calls Try.prog 18 #[.agg #[.int .i64 W, .int .i64 H, .slice a n c], .agg #[.int .i64 W', .int .i64 H', .slice a' n' c'], .int .i64 D] w (RVol 61 W2 H2 D2 cs2 ok w) := by
  go_enter Try.func18, Try.ntmps18
  go_wp2_with fail
  refine (h _ (below3 _ _ _ _)).mono ?_
  rintro e w1 ⟨a1, n1, c1, rfl, hb1, ho1⟩
  obtain ⟨l1, q0, q1, q2, q3, qf⟩ := (Nw.new _ _ _ _ _ _).below hb1
  have s1 := hb1.size
  simp only [World.size_alloc] at l1 q0 q1 q2 q3 qf s1
  go_wp2_with fail
  refine bodyPost_ret (v := ?v) ?hr rfl ?post
  case hr => (simp [results, Try.results18, go_sem, q0, q1, q2, q3, qf]; try rfl)
  case post =>
    refine ⟨_, _, _, rfl, ?_, ?_⟩
    · ((repeat' (first | (refine bel_set ?_ ?_ _) | (refine bel_al ?_ ?_ _) | exact Below.refl _ _ | assumption | (refine below_drewN ?_ _) | (refine Below.drew ?_) | (refine Below.trans ?_ (Below.mono hb1 ?_)))) <;> (first | omega | (simp; done) | (simp; omega)))
    · (refine OC.mono (base := ?bb) ?hh ?hl; (case hh => ((repeat' (first | (refine OC.set ?_ _ ?_) | (refine OC.alloc ?_ _) | exact ho1 | (refine OC.drewN ?_ _))) <;> (first | omega | (simp; done) | (simp; omega)))); (case hl => (first | omega | (simp; done) | (simp; omega))))
theorem implSquareVolume_any (W H D : Nat) (a : Option Addr) (n c : Nat) (cs : List Nat) (a' : Option Addr) (n' c' : Nat) (cs' : List Nat) (w : World) (hv : FC w (.slice a n c) cs) (hv' : FC w (.slice a' n' c') cs') (b1 : 1 ≤ W) (b2 : W ≤ 24) (b3 : 1 ≤ H) (b4 : H ≤ 24) (b5 : H * W ≤ 256) (hl : cs.length = H * W) (hl' : cs'.length = H * W) (d1 : 1 ≤ D) (d2 : D ≤ 8) :
    Calls Try.prog 18 #[.agg #[.int .i64 W, .int .i64 H, .slice a n c], .agg #[.int .i64 W, .int .i64 H, .slice a' n' c'], .int .i64 D] w (RVol 61 W H D (cubeL W D (cmpF W H sqF cs cs') (H * W * D)) true w) := by
  obtain ⟨rfl, hnc, hcm⟩ := hv.sized
  obtain ⟨rfl, hnc', hcm'⟩ := hv'.sized
  have hpair : pairB W H cs.length W H cs'.length = true := by unfold pairB; rw [validB_mk b1 b2 b3 b4 b5 hl, validB_mk b1 b2 b3 b4 b5 hl']; simp
  refine implSquareVolume_of _ _ _ _ _ _ _ _ _ _ _ _ _ _ _ _ w fun w1 hb => implCompare_of _ _ _ _ _ _ _ _ _ _ _ _ _ w1 hnc hcm hnc' hcm' hpair (by unfold deepB; simp; omega) fun w2 bf bp bq hb2 hf hp hq => ?_
  have hbb := hb.trans (hb2.mono hb.size)
  exact build_any W H D b1 b2 b3 b4 b5 d1 d2 _ _ _ _ w2 (enters_of Try.func63 (by kernel_rfl) rfl) (cmpSq_fn W H D a _ c cs a' _ c' cs' bf bp bq w2 hf (hv.below hbb) hp (hv'.below hbb) hq b1 b2 b3 b4 hl hl' d2)
set_option maxRecDepth 100000 in
set_option maxHeartbeats 4000000 in
theorem specPair_any (W H : Int) (a : Option Addr) (n c b : Nat) (W' H' : Int) (a' : Option Addr) (n' c' b' : Nat) (D : Int) (w : World) (hp : Pv w b W H (.slice a n c)) (hp' : Pv w b' W' H' (.slice a' n' c')) (hbb : b ≠ b') (hn : n ≤ 9223372036854775807) (hn' : n' ≤ 9223372036854775807) :
    Calls Try.prog 14 #[.pointer (some ⟨b, 0, none⟩), .pointer (some ⟨b', 0, none⟩), .int .i64 D] w (RB (pairB W H n W' H' n' && deepB D) w) := by
  obtain ⟨ok, hok⟩ : ∃ ok : Nat → Bool, ok = fun p => if p = b then validB W H n else validB W' H' n' := ⟨_, rfl⟩
  have ho1 : ok b = validB W H n := by rw [hok]; simp
  have ho2 : ok b' = validB W' H' n' := by rw [hok]; simp [hbb.symm]
  have hall : ∀ k p, (p = b ∨ p = b') → Calls Try.prog 26 #[.pointer (some ⟨p, 0, none⟩)] (w.drewN k) (RB (ok p) (w.drewN k)) := fun k p hpb => by
    rcases hpb with rfl | rfl
    · rw [ho1]; exact specIs_any W H a n c _ (w.drewN k) (hp.drewN k) hn
    · rw [ho2]; exact specIs_any W' H' a' n' c' _ (w.drewN k) (hp'.drewN k) hn'
  obtain ⟨_, p0, p1, p2⟩ := id hp
  obtain ⟨_, q0, q1, q2⟩ := id hp'
  clear hp hp' hok
  cases v1 : validB W H n with
  | false =>
    have o1 := Lib.hid (ho1.trans v1)
    have o2 := o1
    clear ho1 ho2
    go_enter Try.func14, Try.ntmps14
    go_wp2_with fail
    go_quiet ((go_at_call 26; exact Calls.quiet_of ((hall _ _ (by first | exact .inl rfl | exact .inr rfl)).mono fun _ _ ⟨m, he, hw⟩ => ⟨he.trans (by first | rw [o1.out] | rw [o2.out]), m, hw⟩)))
    go_wp2
    go_ret
    exact ⟨_, by simp [pairB, v1], rfl⟩
  | true =>
    have o1 := Lib.hid (ho1.trans v1)
    cases v2 : validB W' H' n' with
    | false =>
      have o2 := Lib.hid (ho2.trans v2)
      clear ho1 ho2
      go_enter Try.func14, Try.ntmps14
      go_wp2_with fail
      go_quiet ((go_at_call 26; exact Calls.quiet_of ((hall _ _ (by first | exact .inl rfl | exact .inr rfl)).mono fun _ _ ⟨m, he, hw⟩ => ⟨he.trans (by first | rw [o1.out] | rw [o2.out]), m, hw⟩)))
      go_wp2
      go_ret
      exact ⟨_, by simp [pairB, v1, v2], rfl⟩
    | true =>
      have o2 := Lib.hid (ho2.trans v2)
      clear ho1 ho2
      by_cases e1 : W = W'
      · subst e1
        by_cases e2 : H = H'
        · subst e2
          obtain ⟨Wn, Hn, rfl, rfl, b1, b2, b3, b4, b5, _⟩ := validB_parts v1
          cases v3 : deepB D with
          | false =>
            have hin := fun w1 => specIn_any D 1 8 w1
            rw [show inB D 1 8 = deepB D from rfl, v3] at hin
            go_enter Try.func14, Try.ntmps14
            go_wp2_with fail
            go_quiet (first
              | (go_at_call 26; exact Calls.quiet_of ((hall _ _ (by first | exact .inl rfl | exact .inr rfl)).mono fun _ _ ⟨m, he, hw⟩ => ⟨he.trans (by first | rw [o1.out] | rw [o2.out]), m, hw⟩))
              | (go_at_call 15; exact Calls.quiet_of_same (hin _)))
            go_wp2
            go_ret
            exact ⟨_, by simp [pairB, v1, v2, v3], rfl⟩
          | true =>
            have hin := fun w1 => specIn_any D 1 8 w1
            rw [show inB D 1 8 = deepB D from rfl, v3] at hin
            have hD : 1 ≤ D ∧ D ≤ 8 := by have := v3; unfold deepB at this; simp at this; omega
            obtain ⟨Dn, rfl⟩ := Int.eq_ofNat_of_zero_le (by omega : 0 ≤ D)
            obtain ⟨A, hA⟩ : ∃ A, A = Wn * Hn := ⟨_, rfl⟩
            have hA2 : A ≤ 256 := by rw [hA, Nat.mul_comm]; exact b5
            obtain ⟨B, hB⟩ : ∃ B, B = A * Dn := ⟨_, rfl⟩
            have hB2 : B ≤ 256 * 8 := by rw [hB]; exact Nat.mul_le_mul hA2 (by omega)
            have p4 : (Wn : Int) * (Hn : Int) = (A : Int) := by rw [hA, Int.natCast_mul]
            have p5 : (A : Int) * (Dn : Int) = (B : Int) := by rw [hB, Int.natCast_mul]
            have p6 : IntKind.i64.wrap (A : Int) = (A : Int) := IntWalk.i64_in _ (by omega)
            have p7 : IntKind.i64.wrap (B : Int) = (B : Int) := IntWalk.i64_in _ (by omega)
            have p8 : (B : Int) ≤ 2048 := by omega
            have p9 : decide ((B : Int) ≤ 2048) = true := decide_eq_true p8
            clear hA hB
            go_enter Try.func14, Try.ntmps14
            go_wp2_with fail
            go_quiet (first
              | (go_at_call 26; exact Calls.quiet_of ((hall _ _ (by first | exact .inl rfl | exact .inr rfl)).mono fun _ _ ⟨m, he, hw⟩ => ⟨he.trans (by first | rw [o1.out] | rw [o2.out]), m, hw⟩))
              | (go_at_call 15; exact Calls.quiet_of_same (hin _)))
            go_wp2
            go_ret
            exact ⟨_, by simp [pairB, v1, v2, v3], rfl⟩
        ·
          have f1 : (H == H') = false := by simpa using e2
          have f2 : decide (H = H') = false := by simpa using e2
          have ee := Lib.hid e2
          clear e2
          go_enter Try.func14, Try.ntmps14
          go_wp2_with fail
          go_quiet ((go_at_call 26; exact Calls.quiet_of ((hall _ _ (by first | exact .inl rfl | exact .inr rfl)).mono fun _ _ ⟨m, he, hw⟩ => ⟨he.trans (by first | rw [o1.out] | rw [o2.out]), m, hw⟩)))
          go_wp2
          go_ret
          exact ⟨_, by simp [pairB, v1, v2, f2], rfl⟩
      ·
        have f1 : (W == W') = false := by simpa using e1
        have f2 : decide (W = W') = false := by simpa using e1
        have ee := Lib.hid e1
        clear e1
        go_enter Try.func14, Try.ntmps14
        go_wp2_with fail
        go_quiet ((go_at_call 26; exact Calls.quiet_of ((hall _ _ (by first | exact .inl rfl | exact .inr rfl)).mono fun _ _ ⟨m, he, hw⟩ => ⟨he.trans (by first | rw [o1.out] | rw [o2.out]), m, hw⟩)))
        go_wp2
        go_ret
        exact ⟨_, by simp [pairB, v1, v2, f2], rfl⟩
theorem Mv.start0 {E T : TypeId} {w0 : World} {W H D : Int} : Mv E w0 w0.heap.size W H D [] (w0.alloc (.cells #[.int .i64 W, .int .i64 H, .int .i64 D, .slice none 0 0] T)) :=
  ⟨none, 0, 0, Nw.new w0 _ _ _ _ T, OC.nil _ _ _, fun e => by simp [Value.ownBlock] at e, Nat.le_refl _, below1 w0 _⟩
theorem Mv.step {E : TypeId} {w0 : World} {bo : Nat} {W H D : Int} {cs : List Nat} {wr w3 : World} {a : Option Addr} {n c : Nat} {zs : List Nat} {r cv g cap : Nat} {o : Obj} {m : Nat}
    (hN : Nw wr bo (.int .i64 W) (.int .i64 H) (.int .i64 D) (.slice a n c)) (hrow : wr.ownsRow w0.heap.size E 1 (.slice a n c) zs.length (zs.map (.float .f32))) (hz : ∀ z ∈ zs, z < width .f32) (hm : zs.map (cn .f32) = cs)
    (hne : (Value.slice a n c).ownBlock ≠ some bo) (hbo : w0.heap.size ≤ bo) (hb : Below w0.heap.size w0 wr) (hr : Fl .f32 r cv)
    (hown : w3.ownsRow w0.heap.size E 1 (.slice (some ⟨g, 0, none⟩) (zs.length + 1) cap) (zs.length + 1) (zs.map (.float .f32) ++ [.float .f32 r]))
    (hgrow : ((wr.alloc o).drewN m).grownBy w3 (Value.slice a n c).ownBlock) (hat : (Value.slice a n c).ownBlock = some g ∨ g = wr.heap.size + 1) :
    Mv E w0 bo W H D (cs ++ [cv]) (w3.setCell ⟨bo, 3, none⟩ (.slice (some ⟨g, 0, none⟩) (zs.length + 1) cap)) := by
  have hN3 := ((hN.alloc o).drewN m).kept hgrow hne
  have hg : (Value.slice (some ⟨g, 0, none⟩) (zs.length + 1) cap).ownBlock ≠ some bo := by
    simp only [Value.ownBlock, ne_eq, Option.some.injEq]
    rcases hat with h | h
    · intro e; rw [h, e] at hne; exact hne rfl
    · have := hN.1; omega
  obtain ⟨zs', k1, k2, k3⟩ := OC.push hz hm hr hown
  refine ⟨_, _, _, hN3.set3, ⟨zs', k1, k2, ownsRow_set_other k3 (by exact hg) _⟩, hg, hbo, ?_⟩
  have h1 : Below w0.heap.size w0 ((wr.alloc o).drewN m) := below_drewN (hb.alloc hb.size o) m
  exact (h1.grown hgrow (by have := hb.size; simp; omega) (fun k hk => (hrow.lt k hk).1)).setCell (by exact hbo) _
theorem Mv.nw3 {bo : Nat} {wr w3 : World} {x y z u : Value} {o : Obj} {m : Nat} {row : Option Nat} (hN : Nw wr bo x y z u) (hne : row ≠ some bo) (hgrow : ((wr.alloc o).drewN m).grownBy w3 row) : Nw w3 bo x y z u := ((hN.alloc o).drewN m).kept hgrow hne
set_option maxRecDepth 100000 in
set_option maxHeartbeats 8000000 in
theorem specCmpSq_any (W H D : Nat) (a0 : Option Addr) (n0 c0 bp : Nat) (cs : List Nat) (a' : Option Addr) (n' c' bq : Nat) (cs' : List Nat) (w : World) (hp : Pv w bp W H (.slice a0 n0 c0)) (hv : FC w (.slice a0 n0 c0) cs) (hq : Pv w bq W H (.slice a' n' c')) (hv' : FC w (.slice a' n' c') cs') (b1 : 1 ≤ W) (b2 : W ≤ 24) (b3 : 1 ≤ H) (b4 : H ≤ 24) (b5 : H * W ≤ 256) (hl : cs.length = H * W) (hl' : cs'.length = H * W) (d1 : 1 ≤ D) (d2 : D ≤ 8) :
    Calls Try.prog 27 #[.pointer (some ⟨bp, 0, none⟩), .pointer (some ⟨bq, 0, none⟩), .int .i64 D, .bool true] w (RVol1 61 W H D (cubeL W D (cmpF W H sqF cs cs') (H * W * D)) w) := by
  obtain ⟨i0, hi, hz0, hz1, hz2⟩ := info_parts info_f32
  obtain ⟨rfl, hnc, hcm⟩ := hv.sized
  obtain ⟨rfl, hnc', hcm'⟩ := hv'.sized
  have hll := Lib.hid (And.intro hl hl')
  have hmax : Hid (H * W * D ≤ 256 * 8) := Lib.hid (Nat.mul_le_mul b5 d2)
  clear hl hl'
  go_enter Try.func27, Try.ntmps27
  go_upto_region 1 with fail
  obtain ⟨w0, hw0⟩ : ∃ w0, w0 = w.alloc (.cells #[.int .i64 0, .int .i64 0, .int .i64 0, .slice none 0 0] 44) := ⟨_, rfl⟩
  rw [← hw0]
  have hp0 : Pv w0 bp W H (.slice a0 cs.length c0) := by rw [hw0]; exact hp.alloc _
  have hv0 : FC w0 (.slice a0 cs.length c0) cs := by rw [hw0]; exact hv.alloc _
  have hq0 : Pv w0 bq W H (.slice a' cs'.length c') := by rw [hw0]; exact hq.alloc _
  have hv0' : FC w0 (.slice a' cs'.length c') cs' := by rw [hw0]; exact hv'.alloc _
  have hn0 : Nw w0 w.heap.size (.int .i64 0) (.int .i64 0) (.int .i64 0) (.slice none 0 0) := by rw [hw0]; exact Nw.new _ _ _ _ _ _
  have hb0 : Below w.heap.size w w0 := by rw [hw0]; exact below1 _ _
  have hlt0 : w.heap.size < w0.heap.size := hn0.1
  clear hw0 hp hv hq hv'
  obtain ⟨hp1, p0, p1, p2⟩ := id hp0
  have hpv := Lib.hid (And.intro hp0 (And.intro hv0 (And.intro hn0 (And.intro hq0 (And.intro hv0' hb0)))))
  clear hp0 hv0 hn0 hb0 hq0 hv0'
  go_region_held3 (fun w' => Below w0.heap.size w0 w' ∧ w0.heap.size ≤ w'.heap.size ∧ (∀ b o, b < w0.heap.size → w'.cell? ⟨b, o, none⟩ = w0.cell? ⟨b, o, none⟩)) (first | exact keepStart _ | assumption | exact ⟨by assumption, by assumption, by assumption⟩ | exact keepCall (by assumption) (by assumption) | exact keepAlloc (by assumption) | (refine keepSet ?_ (keepSet ?_ (keepSet ?_ (keepSet ?_ ?_))) <;> first | assumption | omega | (simp; done) | (simp; omega)) | (refine keepSet ?_ (keepSet ?_ (keepSet ?_ ?_)) <;> first | assumption | omega | (simp; done) | (simp; omega)) | (refine keepSet ?_ (keepSet ?_ ?_) <;> first | assumption | omega | (simp; done) | (simp; omega)) | (refine keepSet ?_ ?_ <;> first | assumption | omega | (simp; done) | (simp; omega)) | ((refine keepOf ?_; ((repeat' (first | (refine bel_set ?_ ?_ _) | (refine bel_al ?_ ?_ _) | exact Below.refl _ _ | assumption | exact And.left (by assumption) | (refine below_drewN ?_ _) | (refine Below.drew ?_))) <;> (first | omega | (simp; done) | (simp; omega)))))) (fail)
  obtain ⟨bo, hbo0⟩ : ∃ b, b = w0.heap.size := ⟨_, rfl⟩
  have hmk := Lib.hid (Mv.start0 (E := 61) (w0 := w0) (W := (W : Int)) (H := (H : Int)) (D := (D : Int)) (T := 44))
  go_wp2_with fail
  rw [← hbo0] at hmk ⊢
  have hbo1 : w0.heap.size ≤ bo := by omega
  clear hbo0
  go_loopw [10] (fun i wr => ∃ y : Nat, y ≤ H ∧ i = .int .i64 y ∧ Hid (Mv 61 w0 bo W H D (cubeL W D (cmpF W H sqF cs cs') ((y * W + 0) * D + 0)) wr)) (fun i _ => H - (intOf i).toNat)
  case atStart => exact ⟨0, Nat.zero_le _, rfl, by rw [show cubeL W D (cmpF W H sqF cs cs') ((0 * W + 0) * D + 0) = [] by simp [cubeL, seqL]]; first | exact hmk | exact Lib.hid (hmk.out.drewN 1)⟩
  case round =>
    clear hmk
    obtain ⟨y, hy, rfl, hmk⟩ := hrel
    have hbl := hmk.out.choose_spec.choose_spec.choose_spec.2.2.2.2
    obtain ⟨_, e0, e1, e2⟩ := hpv.out.1.below hbl
    by_cases hly : y < H
    · clear hbl
      go_wp2_with fail
      clear e0 e1 e2
      go_loopw [11] (fun i wr => ∃ x : Nat, x ≤ W ∧ i = .int .i64 x ∧ Hid (Mv 61 w0 bo W H D (cubeL W D (cmpF W H sqF cs cs') ((y * W + x) * D + 0)) wr)) (fun i _ => W - (intOf i).toNat)
      case atStart => exact ⟨0, Nat.zero_le _, rfl, hmk⟩
      case round =>
        clear hmk
        obtain ⟨x, hx, rfl, hmk⟩ := hrel
        have hbl := hmk.out.choose_spec.choose_spec.choose_spec.2.2.2.2
        obtain ⟨_, e0, e1, e2⟩ := hpv.out.1.below hbl
        by_cases hlx : x < W
        · clear hbl
          go_wp2_with fail
          clear e0 e1 e2
          go_loopw [12] (fun i wr => ∃ d : Nat, d ≤ D ∧ i = .int .i64 d ∧ Hid (Mv 61 w0 bo W H D (cubeL W D (cmpF W H sqF cs cs') ((y * W + x) * D + d)) wr)) (fun i _ => D - (intOf i).toNat)
          case atStart => exact ⟨0, Nat.zero_le _, rfl, hmk⟩
          case round =>
            clear hmk
            obtain ⟨d, hd, rfl, hmk⟩ := hrel
            obtain ⟨a, n, c, hN, ⟨zs, hz, hzm, hrow⟩, hne, hbo, hbl⟩ := hmk.out
            by_cases hld : d < D
            · have hlen : zs.length = (y * W + x) * D + d := by rw [← cubeL_len W D (cmpF W H sqF cs cs') ((y * W + x) * D + d), ← hzm, List.length_map]
              have hle : zs.length + 1 ≤ 2048 := by
                have h1 := (cost_lt (W := W) (H := H) (D := D) hlx hly hld).1
                have := hmax.out
                omega
              have hh := Lib.hid (And.intro hz (And.intro hzm (And.intro hle (And.intro hbl hN))))
              have hat := fun w1 (hb1 : Below wr.heap.size wr w1) => specAt_any W H a0 cs.length c0 bp cs x y w1 ((hpv.out.1.below hbl).below hb1) ((hpv.out.2.1.below hbl).below hb1) b1 b2 b3 b4 hll.out.1
              have hat' := fun w1 (hb1 : Below wr.heap.size wr w1) => specAt_any W H a' cs'.length c' bq cs' ((x : Int) - d) y w1 ((hpv.out.2.2.2.1.below hbl).below hb1) ((hpv.out.2.2.2.2.1.below hbl).below hb1) b1 b2 b3 b4 hll.out.2
              have hrowA : ∀ (o : Obj) (m : Nat), ((wr.alloc o).drewN m).ownsRow w0.heap.size 61 1 (.slice a n c) zs.length (zs.map (.float .f32)) := fun o m => hrow.alloc o
              have hsz : w0.heap.size ≤ wr.heap.size := hbl.size
              have k2 : wr.cell? ⟨bo, 3, none⟩ = some (.slice a n c) := hN.2.2.2.2.1
              have hbo2 : bo < wr.heap.size := hN.1
              have m7 : IntKind.i64.wrap ((x : Int) - d) = (x : Int) - d := IntWalk.i64_in _ (by omega)
              clear hlen hzm hz hbl hmk hN hle
              go_wp2_with fail
              refine (hat _ (Below.refl _ _)).mono ?_
              rintro e w2 ⟨r1, n1, rfl, rfl, hr1⟩
              have hr1' := Lib.hid hr1
              clear hr1
              go_wp2_with fail
              refine (hat' _ (below_drewN (Below.refl _ _) _)).mono ?_
              rintro e w2 ⟨r2, n2, rfl, rfl, hr2⟩
              have hr2' := Lib.hid hr2
              clear hr2 hat hat'
              go_wp2_with (at_builtin; refine wpList_append_lies _ rfl _ _ _ rfl w0.heap.size 61 i0 _ 1 4 Try.underlying22 hi hz0 hz1 hz2 rfl (by omega) (.slice a n c) zs.length (zs.map (.float .f32)) rfl (hrowA _ _) ⟨wr.heap.size, 0, none⟩ 1 1 [.float .f32 _] rfl rfl (World.news_of_block (cs := #[.float .f32 _]) (t := 61) (fr := (0, 0)) (heap_alloc_new wr _)) (by simp [Value.oneCell']) (by omega) (by have := hh.out.2.2.1; unfold maxLen; omega) (by have := hh.out.2.2.1; omega) (by simp; omega) (wr.heap.size + 1) (by simp) ?_; intro gg cap w3 hown3 hgrow hat3 hlt3; have hN3 := Mv.nw3 hh.out.2.2.2.2 hne hgrow; have j2 := hN3.2.2.2.2.1; have jf := hN3.2.2.2.2.2 3)
              have hM : Mv 61 w0 bo W H D (cubeL W D (cmpF W H sqF cs cs') ((y * W + x) * D + (d + 1))) (w3.setCell ⟨bo, 3, none⟩ (.slice (some ⟨gg, 0, none⟩) (zs.length + 1) cap)) := by
                rw [cubeL_step W D _ y hlx hld]
                exact Mv.step hh.out.2.2.2.2 hrow hh.out.1 hh.out.2.1 hne hbo hh.out.2.2.2.1 ((hr1'.out.flR hr2'.out _).flR (hr1'.out.flR hr2'.out _) _) hown3 hgrow hat3
              have hM := Lib.hid hM
              clear hgrow hown3 hat3 hrow hrowA
              go_wp2_with fail
              go_roundw
              case rel => exact ⟨d + 1, by omega, by go_num, by first | exact hM | exact Lib.hid (hM.out.drewN _)⟩
              case measure => simp [intOf]; omega
            · obtain rfl : d = D := by omega
              rw [cubeL_cell] at hmk
              have hN := Lib.hid (And.intro hN (And.intro hz (And.intro hzm (And.intro hrow (And.intro hne (And.intro hbo hbl))))))
              go_wp2_with fail
              go_roundw
              case rel => exact ⟨x + 1, by omega, by go_num, hmk⟩
              case measure => simp [intOf]; omega
        · obtain rfl : x = W := by omega
          rw [cubeL_row] at hmk
          clear hbl
          go_wp2_with fail
          go_roundw
          case rel => exact ⟨y + 1, by omega, by go_num, hmk⟩
          case measure => simp [intOf]; omega
    · obtain rfl : y = H := by omega
      obtain ⟨a, n, c, hN, hoc, hne, hbo, _⟩ := hmk.out
      obtain ⟨_, f0, f1, f2, f3, f4⟩ := hN
      obtain ⟨_, r0, r1, r2, r3, rf⟩ := hpv.out.2.2.1.below hbl
      have hoc := Lib.hid hoc
      go_wp2_with fail
      refine bodyPost_ret (v := ?v) ?hr rfl ?post
      case hr => (simp [results, Try.results27, go_sem, f0, f1, f2, f3, r0, r1, r2, r3, rf]; try rfl)
      case post =>
        have h0 := hpv.out.2.2.2.2.2
        have ho := hoc.out
        rw [Nat.add_zero, Nat.add_zero] at ho
        refine ⟨_, _, _, rfl, ?_, ?_⟩
        · ((repeat' (first | (refine bel_set ?_ ?_ _) | (refine bel_al ?_ ?_ _) | exact Below.refl _ _ | assumption | (refine below_drewN ?_ _) | (refine Below.drew ?_) | (refine Below.trans ?_ (Below.mono hbl ?_)))) <;> (first | omega | (simp; done) | (simp; omega)))
        · (refine OC.mono (base := ?bb) ?hh ?hl; (case hh => ((repeat' (first | (refine OC.set ?_ _ ?_) | (refine OC.alloc ?_ _) | exact ho | (refine OC.drewN ?_ _))) <;> (first | omega | (simp; done) | (simp; omega)))); (case hl => (first | omega | (simp; done) | (simp; omega))))
end Go.Proofs.Ytblaojflcemfdaa
