import Derived.Test.YtnbilmlpngcobaaCw
import Derived.Test.YtnbilmlpngcobaaRs
set_option linter.unusedVariables false
set_option linter.unusedSimpArgs false
namespace Go.Proofs.Ytnbilmlpngcobaa
open Go.FX Go.RowKit Go.WideShapes Go.ChangeShapes
def Clr2 (p q : Addr) (w : World) (s12 : Value) (wr : World) : Prop := (s12 = .int .i64 0 ∧ wr = w) ∨ (s12 = .int .i64 1 ∧ wr = w.setCell p (.float .f32 0)) ∨ (s12 = .int .i64 2 ∧ wr = (w.setCell p (.float .f32 0)).setCell q (.float .f32 0))
theorem clearF_no2 (pk p q : Addr) (bs : Nat) (u : FrameMode) (w : World) (hc : w.cell? pk = some (.bool false)) (hs0 : w.cell? ⟨bs, 0, none⟩ = some (.pointer (some p))) (hs1 : w.cell? ⟨bs, 1, none⟩ = some (.pointer (some q))) (hp : (w.cell? p).isSome = true) (hq : (w.cell? q).isSome = true) (hfp : w.frozen? p = false) (hfq : w.frozen? q = false)
    (d1 : bs ≠ p.block) (d2 : p.block ≠ q.block) :
    CallsD Try.prog 149 #[.pointer (some pk), .slice (some ⟨bs, 0, none⟩) 2 2] u w fun e u' w' => u' = u ∧ (e = .returned (.tuple #[]) ∧ w' = (w.setCell p (.float .f32 0)).setCell q (.float .f32 0)) := by
  obtain ⟨v, hp⟩ := Option.isSome_iff_exists.1 hp
  obtain ⟨v', hq⟩ := Option.isSome_iff_exists.1 hq
  have e1 : (w.setCell p (.float .f32 0)).cell? ⟨bs, 1, none⟩ = some (.pointer (some q)) := by rw [World.cell?_setCell_far _ _ _ _ (fun h => d1 h.symm)]; exact hs1
  have e2 : (w.setCell p (.float .f32 0)).cell? q = some v' := by rw [World.cell?_setCell_far _ _ _ _ d2]; exact hq
  have e3 : (w.setCell p (.float .f32 0)).frozen? q = false := by simpa using hfq
  go_enter_d Try.func149, Try.ntmps149
  go_wp2
  go_loopw [12] (fun s12 wr => Clr2 p q w s12 wr) (fun s12 _ => 2 - (intOf s12).toNat)
  case atStart => exact Or.inl ⟨rfl, rfl⟩
  case round =>
    rcases hrel with ⟨rfl, rfl⟩ | ⟨rfl, rfl⟩ | ⟨rfl, rfl⟩
    · go_wp2
      go_roundw
      case rel => exact Or.inr (Or.inl ⟨rfl, rfl⟩)
      case measure => simp [intOf]
    · go_wp2
      go_roundw
      case rel => exact Or.inr (Or.inr ⟨rfl, rfl⟩)
      case measure => simp [intOf]
    · go_wp2
      go_end0
      exact ⟨rfl, rfl⟩
theorem mul1_fl {z c : Nat} (h : Fl .f32 z c) : fop .mul .f32 c 1065353216 = c := by rw [← h.eq, fop_cnl, fop_mul_one z h.lt]
theorem inner_row {a b c ca cb cc x y : Nat} (w : World) (h1 : Fl .f32 a ca) (h2 : Fl .f32 b cb) (h3 : Fl .f32 c cc) (lx : x < width .f32) (ly : y < width .f32) :
    Calls Try.prog 151 #[.agg #[.float .f32 a, .float .f32 b, .float .f32 c], .agg #[.float .f32 x, .float .f32 y, .float .f32 1065353216]] w (RFb .f32 (fop .add .f32 (fop .add .f32 (fop .mul .f32 ca (cn .f32 x)) (fop .mul .f32 cb (cn .f32 y))) cc) w) := by
  have h := implInnerOf_any w h1 h2 h3 (Fl.of lx) (Fl.of ly) fl1
  rw [mul1_fl h3] at h
  exact h
/-- What stands in memory while WarpPoint runs. -/
structure WC (n b off g : Nat) (cs : List Nat) (x y : Nat) (u v : Value) (w : World) : Prop where
  nine : Nine w b off cs
  gr : P3 w g x y 1065353216
  lt : n + 1 + 1 + 1 < w.heap.size
  blt : b < w.heap.size
  ng : n + 1 + 1 + 1 < g
  nb : b < n
  c6 : w.cell? ⟨n, 0, none⟩ = some u
  c7 : w.cell? ⟨n + 1, 0, none⟩ = some v
  c8 : w.cell? ⟨n + 1 + 1, 0, none⟩ = some (.bool false)
  p0 : w.cell? ⟨n + 1 + 1 + 1, 0, none⟩ = some (.pointer (some ⟨n, 0, none⟩))
  p1 : w.cell? ⟨n + 1 + 1 + 1, 1, none⟩ = some (.pointer (some ⟨n + 1, 0, none⟩))
  f6 : w.frozen? ⟨n, 0, none⟩ = false
  f7 : w.frozen? ⟨n + 1, 0, none⟩ = false
  f8 : w.frozen? ⟨n + 1 + 1, 0, none⟩ = false
theorem WC.below {n b off g : Nat} {cs : List Nat} {x y : Nat} {u v : Value} {w w' : World} (h : WC n b off g cs x y u v w) (hb : Below w.heap.size w w') : WC n b off g cs x y u v w' := by
  have hc := (bcell hb).1
  have hf := (bcell hb).2
  have hl := h.lt
  exact ⟨fun k hk => by obtain ⟨z, h1, h2⟩ := h.nine k hk; exact ⟨z, h1, by rw [hc _ _ h.blt]; exact h2⟩, h.gr.below hb, Nat.lt_of_lt_of_le h.lt hb.size, Nat.lt_of_lt_of_le h.blt hb.size, h.ng, h.nb,
    by rw [hc _ _ (by omega)]; exact h.c6, by rw [hc _ _ (by omega)]; exact h.c7, by rw [hc _ _ (by omega)]; exact h.c8, by rw [hc _ _ (by omega)]; exact h.p0, by rw [hc _ _ (by omega)]; exact h.p1,
    by rw [hf _ _ (by omega)]; exact h.f6, by rw [hf _ _ (by omega)]; exact h.f7, by rw [hf _ _ (by omega)]; exact h.f8⟩
theorem WC.set {n b off g : Nat} {cs : List Nat} {x y : Nat} {u v u' v' : Value} {w : World} {a : Addr} {r : Value} (h : WC n b off g cs x y u v w) (ha : a.block = n ∨ a.block = n + 1)
    (h6 : (w.setCell a r).cell? ⟨n, 0, none⟩ = some u') (h7 : (w.setCell a r).cell? ⟨n + 1, 0, none⟩ = some v') : WC n b off g cs x y u' v' (w.setCell a r) := by
  have hng := h.ng
  have hnb := h.nb
  have hf : ∀ c : Addr, a.block ≠ c.block → (w.setCell a r).cell? c = w.cell? c := fun c hc => World.cell?_setCell_far _ _ _ _ hc
  exact ⟨fun k hk => by obtain ⟨z, h1, h2⟩ := h.nine k hk; exact ⟨z, h1, by rw [hf _ (by simp; omega)]; exact h2⟩,
    ⟨by simpa using h.gr.1, by rw [hf _ (by simp; omega)]; exact h.gr.2.1, by rw [hf _ (by simp; omega)]; exact h.gr.2.2.1, by rw [hf _ (by simp; omega)]; exact h.gr.2.2.2⟩,
    by simpa using h.lt, by simpa using h.blt, h.ng, h.nb, h6, h7, by rw [hf _ (by simp; omega)]; exact h.c8, by rw [hf _ (by simp; omega)]; exact h.p0, by rw [hf _ (by simp; omega)]; exact h.p1,
    by simpa using h.f6, by simpa using h.f7, by simpa using h.f8⟩

set_option maxRecDepth 100000 in
set_option maxHeartbeats 4000000 in
theorem implWarpPoint_any (a : Option Addr) (n c : Nat) (cs : List Nat) (x y : Nat) (w : World) (hv : FC w (.slice a n c) cs) (lx : x < width .f32) (ly : y < width .f32) :
    Calls Try.prog 88 #[.slice a n c, .float .f32 x, .float .f32 y] w (R2B (wpU cs 0 x y) (wpU cs 1 x y) (wpOk cs x y) w) := by
  have hfx := Fl.of lx
  have hfy := Fl.of ly
  cases h1 : warpB cs with
  | false =>
    have h1' := Lib.hid h1
    clear h1
    have e2 : wpOk cs x y = false := by unfold wpOk; rw [h1'.out]; rfl
    unfold wpU
    rw [e2]
    clear e2
    have hI := fun w1 hb => isWarp_any _ cs w1 (hv.below hb)
    have hv' := Lib.hid hv
    clear hv
    obtain ⟨W, hW⟩ : ∃ W, W = (((w.alloc (.cells #[.float .f32 0] 22)).alloc (.cells #[.float .f32 0] 22)).alloc (.cells #[.bool false] 4)).alloc (.cells #[.pointer (some ⟨w.heap.size, 0, none⟩), .pointer (some ⟨w.heap.size + 1, 0, none⟩)] 173) := ⟨_, rfl⟩
    have bw : Below w.heap.size w W := by rw [hW]; ((repeat' (first | (refine bel_set ?_ ?_ _) | (refine bel_al ?_ ?_ _) | exact Below.refl _ _ | assumption | (refine below_drewN ?_ _) | (refine Below.drew ?_))) <;> (first | omega | (simp; done) | (simp; omega)))
    have c0 : W.cell? ⟨w.heap.size, 0, none⟩ = some (.float .f32 0) := by rw [hW]; go_simp
    have c1 : W.cell? ⟨w.heap.size + 1, 0, none⟩ = some (.float .f32 0) := by rw [hW]; go_simp
    have c2 : W.cell? ⟨w.heap.size + 1 + 1, 0, none⟩ = some (.bool false) := by rw [hW]; go_simp
    have c3 : W.cell? ⟨w.heap.size + 1 + 1 + 1, 0, none⟩ = some (.pointer (some ⟨w.heap.size, 0, none⟩)) := by rw [hW]; go_simp
    have c4 : W.cell? ⟨w.heap.size + 1 + 1 + 1, 1, none⟩ = some (.pointer (some ⟨w.heap.size + 1, 0, none⟩)) := by rw [hW]; go_simp
    have f0 : W.frozen? ⟨w.heap.size, 0, none⟩ = false := by rw [hW]; go_simp
    have f1 : W.frozen? ⟨w.heap.size + 1, 0, none⟩ = false := by rw [hW]; go_simp
    have f2 : W.frozen? ⟨w.heap.size + 1 + 1, 0, none⟩ = false := by rw [hW]; go_simp
    have hsz : w.heap.size + 1 + 1 + 1 < W.heap.size := by rw [hW]; simp
    have hI1 := hI W bw
    clear hI
    go_enter_defers Try.func88, Try.ntmps88
    go_wp2_with fail
    rw [← hW]
    clear hW
    refine hI1.mono ?_
    rintro e w1 ⟨q, rfl, rfl⟩
    rw [h1'.out]
    go_wp2_with fail
    refine leaves_cons (f := 149) (args := #[.pointer (some ⟨w.heap.size + 1 + 1, 0, none⟩), .slice (some ⟨w.heap.size + 1 + 1 + 1, 0, none⟩) 2 2]) (by simp) (by simp [go_sem]) ?_
    refine (clearF_no2 _ ⟨w.heap.size, 0, none⟩ ⟨w.heap.size + 1, 0, none⟩ _ _ _ (by go_simp) (by go_simp) (by go_simp) (by go_simp) (by go_simp) (by go_simp) (by go_simp) (by simp; omega) (by simp)).mono ?_
    rintro e u' w'' ⟨rfl, rfl, hw''⟩
    have g0 : w''.cell? ⟨w.heap.size, 0, none⟩ = some (.float .f32 0) := by rw [hw'', World.cell?_setCell_far _ _ _ _ (by simp)]; exact World.cell?_setCell_same' _ _ _ (by go_simp)
    have g1 : w''.cell? ⟨w.heap.size + 1, 0, none⟩ = some (.float .f32 0) := by rw [hw'']; exact World.cell?_setCell_same' _ _ _ (by go_simp)
    have g2 : w''.cell? ⟨w.heap.size + 1 + 1, 0, none⟩ = some (.bool false) := by rw [hw'']; go_simp
    have HW := Lib.hid hw''
    clear hw''
    refine ⟨_, (by simp only [results, Try.results88]; go_simp; try rfl), _, _, rfl, ?_, fl00, fl00⟩
    (rw [HW.out]; ((repeat' (first | (refine bel_set ?_ ?_ _) | (refine bel_al ?_ ?_ _) | exact Below.refl _ _ | assumption | (refine below_drewN ?_ _) | (refine Below.drew ?_) | (refine Below.trans ?_ (Below.mono bw ?_)))) <;> (first | omega | (simp; done) | (simp; omega))))
  | true =>
    have h1' := Lib.hid h1
    clear h1
    cases h2 : isF .f32 (ledU cs 0 x y) with
    | false =>
      have h2' := Lib.hid h2
      clear h2
      have e2 : wpOk cs x y = false := by unfold wpOk ledOk; rw [h1'.out, h2'.out]; rfl
      unfold wpU
      rw [e2]
      clear e2
      have hI := fun w1 hb => isWarp_any _ cs w1 (hv.below hb)
      obtain ⟨b, off, c', ev, _, _, hb0, hN⟩ := FC.nine hv (by have h := h1'.out; unfold warpB at h; simp at h; exact h.1)
      simp only [Value.slice.injEq] at ev
      obtain ⟨rfl, rfl, rfl⟩ := ev
      have hN' := Lib.hid hN
      clear hN
      have hv' := Lib.hid hv
      clear hv
      obtain ⟨W, hW⟩ : ∃ W, W = (((w.alloc (.cells #[.float .f32 0] 22)).alloc (.cells #[.float .f32 0] 22)).alloc (.cells #[.bool false] 4)).alloc (.cells #[.pointer (some ⟨w.heap.size, 0, none⟩), .pointer (some ⟨w.heap.size + 1, 0, none⟩)] 173) := ⟨_, rfl⟩
      have bw : Below w.heap.size w W := by rw [hW]; ((repeat' (first | (refine bel_set ?_ ?_ _) | (refine bel_al ?_ ?_ _) | exact Below.refl _ _ | assumption | (refine below_drewN ?_ _) | (refine Below.drew ?_))) <;> (first | omega | (simp; done) | (simp; omega)))
      have c0 : W.cell? ⟨w.heap.size, 0, none⟩ = some (.float .f32 0) := by rw [hW]; go_simp
      have c1 : W.cell? ⟨w.heap.size + 1, 0, none⟩ = some (.float .f32 0) := by rw [hW]; go_simp
      have c2 : W.cell? ⟨w.heap.size + 1 + 1, 0, none⟩ = some (.bool false) := by rw [hW]; go_simp
      have c3 : W.cell? ⟨w.heap.size + 1 + 1 + 1, 0, none⟩ = some (.pointer (some ⟨w.heap.size, 0, none⟩)) := by rw [hW]; go_simp
      have c4 : W.cell? ⟨w.heap.size + 1 + 1 + 1, 1, none⟩ = some (.pointer (some ⟨w.heap.size + 1, 0, none⟩)) := by rw [hW]; go_simp
      have f0 : W.frozen? ⟨w.heap.size, 0, none⟩ = false := by rw [hW]; go_simp
      have f1 : W.frozen? ⟨w.heap.size + 1, 0, none⟩ = false := by rw [hW]; go_simp
      have f2 : W.frozen? ⟨w.heap.size + 1 + 1, 0, none⟩ = false := by rw [hW]; go_simp
      have hsz : w.heap.size + 1 + 1 + 1 < W.heap.size := by rw [hW]; simp
      have hI1 := hI W bw
      clear hI
      go_enter_defers Try.func88, Try.ntmps88
      go_wp2_with fail
      rw [← hW]
      clear hW
      refine hI1.mono ?_
      rintro e w1 ⟨q, rfl, rfl⟩
      rw [h1'.out]
      go_wp2_with fail
      refine (onGround_any _ _ _).mono ?_
      rintro e w2 ⟨rfl, hb2⟩
      have hb2 := undrewN hb2
      simp only [World.heap_drewN] at hb2
      go_wp2_with fail
      obtain ⟨V, hV⟩ : ∃ V, V = w2.alloc (.cells #[.float .f32 x, .float .f32 y, .float .f32 1065353216] 85) := ⟨_, rfl⟩
      have bV : Below W.heap.size W V := by rw [hV]; exact bel_al hb2 hb2.size _
      have hs2 := hb2.size
      have KC : WC w.heap.size b off w2.heap.size cs x y (.float .f32 0) (.float .f32 0) V := by
        have e1 := (bcell bV).1
        have e2 := (bcell bV).2
        have e3 := bV.size
        refine ⟨fun k hk => ?_, by rw [hV]; exact P3.new _ _ _ _ _, by omega, by omega, by omega, hb0, ?_, ?_, ?_, ?_, ?_, ?_, ?_, ?_⟩
        · obtain ⟨z, h1, h2⟩ := hN'.out k hk
          exact ⟨z, h1, by rw [e1 _ _ (by omega), (bcell bw).1 _ _ hb0]; exact h2⟩
        · rw [e1 _ _ (by omega)]; exact c0
        · rw [e1 _ _ (by omega)]; exact c1
        · rw [e1 _ _ (by omega)]; exact c2
        · rw [e1 _ _ (by omega)]; exact c3
        · rw [e1 _ _ (by omega)]; exact c4
        · rw [e2 _ _ (by omega)]; exact f0
        · rw [e2 _ _ (by omega)]; exact f1
        · rw [e2 _ _ (by omega)]; exact f2
      have bV := Lib.hid (bw.trans (bV.mono bw.size) : Below w.heap.size w V)
      rw [← hV]
      have hold := Lib.hid (And.intro hb2 (And.intro hV hs2))
      clear hV hb2 hs2 c0 c1 c2 c3 c4 f0 f1 f2 hI1
      obtain ⟨_, g0, g1, g2⟩ := KC.gr
      refine wp_region_cls (by kernel_rfl) (by kernel_rfl) (by kernel_rfl) (by kernel_rfl) (fun w' => Below V.heap.size V w') (below_drewN (Below.refl _ _) 1) [Eq1 ?q8536u0, AggIs (cs.getD 6 0) (cs.getD 7 0) (cs.getD 8 0), Eq1 ?q8536u2, FloatIs .f32 (rowW cs 2 x y), FloatIs .f32 (rowW cs 2 x y)] ?q8536main
      case q8536main =>
        (refine wpR_pure ?_ (fun w hw => ?_) ?_; rfl; (obtain ⟨hwc, hwf⟩ := bcell2 hw; go_simp; (try with_reducible rfl)); (try simp only [Act.put, List.setIfInBounds_toArray, List.set_cons_zero, List.set_cons_succ]))
        (refine wpR_cls ?_ (fun w hw => ?_) ?_; rfl; (go_simp; refine (warpRow2_any b off c cs _ (KC.below hw).nine (KC.below hw).blt).mono ?_; rintro _ _ ⟨_, _, _, rfl, hcb, hcr0, hcr1, hcr2⟩; exact ⟨_, rfl, ⟨_, _, _, rfl, hcr0, hcr1, hcr2⟩, Below.trans hw (hcb.mono hw.size)⟩); (rintro _ ⟨_, _, _, rfl, _, _, _⟩; (try simp only [Act.put, List.setIfInBounds_toArray, List.set_cons_zero, List.set_cons_succ])))
        (refine wpR_pure ?_ (fun w hw => ?_) ?_; rfl; (obtain ⟨hwc, hwf⟩ := bcell2 hw; go_simp; (try with_reducible rfl)); (try simp only [Act.put, List.setIfInBounds_toArray, List.set_cons_zero, List.set_cons_succ]))
        (refine wpR_cls ?_ (fun w hw => ?_) ?_; rfl; (go_simp; refine (inner_row _ (by assumption) (by assumption) (by assumption) lx ly).mono ?_; rintro _ _ ⟨_, rfl, hcb, hcr⟩; exact ⟨_, rfl, ⟨_, rfl, hcr⟩, Below.trans hw (hcb.mono hw.size)⟩); (rintro _ ⟨_, rfl, _⟩; (try simp only [Act.put, List.setIfInBounds_toArray, List.set_cons_zero, List.set_cons_succ])))
        (refine wpR_cls ?_ (fun w hw => ?_) ?_; rfl; (go_simp; first | exact ⟨_, rfl, by assumption⟩ | exact ⟨hw, _, rfl, by assumption⟩); (rintro _ ⟨_, rfl, _⟩; (try simp only [Act.put, List.setIfInBounds_toArray, List.set_cons_zero, List.set_cons_succ])))
        refine wpR_nil ?_
        intro w' hw'
        rename_i r10 q10
        have KC1 := KC.below hw'
        have bV1 := Lib.hid (bV.out.trans (hw'.mono bV.out.size))
        obtain ⟨V1, eV1⟩ : ∃ u, u = w' := ⟨_, rfl⟩
        subst eV1
        clear hw' g0 g1 g2
        go_wp2_with fail
        obtain ⟨_, g0, g1, g2⟩ := KC1.gr
        refine wp_region_cls_tail 6 (by kernel_rfl) (by kernel_rfl) (by rfl) (by kernel_rfl) (by kernel_rfl) (fun w' => Below V1.heap.size V1 w') (below_drewN (Below.refl _ _) 1) [Eq1 ?q462u0, AggIs (cs.getD 0 0) (cs.getD 1 0) (cs.getD 2 0), Eq1 ?q462u2, FloatIs .f32 (rowW cs 0 x y), Eq1 ?q462u4, FloatIs .f32 (ledU cs 0 x y)] ?q462main
        case q462main =>
          simp only [List.take_succ_cons, List.take_zero]
          (refine wpR_pure ?_ (fun w hw => ?_) ?_; rfl; (obtain ⟨hwc, hwf⟩ := bcell2 hw; go_simp; (try with_reducible rfl)); (try simp only [Act.put, List.setIfInBounds_toArray, List.set_cons_zero, List.set_cons_succ]))
          (refine wpR_cls ?_ (fun w hw => ?_) ?_; rfl; (go_simp; refine (warpRow0_any b off c cs _ (KC1.below hw).nine (KC1.below hw).blt).mono ?_; rintro _ _ ⟨_, _, _, rfl, hcb, hcr0, hcr1, hcr2⟩; exact ⟨_, rfl, ⟨_, _, _, rfl, hcr0, hcr1, hcr2⟩, Below.trans hw (hcb.mono hw.size)⟩); (rintro _ ⟨_, _, _, rfl, _, _, _⟩; (try simp only [Act.put, List.setIfInBounds_toArray, List.set_cons_zero, List.set_cons_succ])))
          (refine wpR_pure ?_ (fun w hw => ?_) ?_; rfl; (obtain ⟨hwc, hwf⟩ := bcell2 hw; go_simp; (try with_reducible rfl)); (try simp only [Act.put, List.setIfInBounds_toArray, List.set_cons_zero, List.set_cons_succ]))
          (refine wpR_cls ?_ (fun w hw => ?_) ?_; rfl; (go_simp; refine (inner_row _ (by assumption) (by assumption) (by assumption) lx ly).mono ?_; rintro _ _ ⟨_, rfl, hcb, hcr⟩; exact ⟨_, rfl, ⟨_, rfl, hcr⟩, Below.trans hw (hcb.mono hw.size)⟩); (rintro _ ⟨_, rfl, _⟩; (try simp only [Act.put, List.setIfInBounds_toArray, List.set_cons_zero, List.set_cons_succ])))
          (refine wpR_pure ?_ (fun w hw => ?_) ?_; rfl; (obtain ⟨hwc, hwf⟩ := bcell2 hw; go_simp; (try with_reducible rfl)); (try simp only [Act.put, List.setIfInBounds_toArray, List.set_cons_zero, List.set_cons_succ]))
          (refine wpR_cls ?_ (fun w hw => ?_) ?_; rfl; (go_simp; exact ⟨below_drewN hw _, _, rfl, Fl.flR (by assumption) (by assumption) _⟩); (rintro _ ⟨_, rfl, _⟩; (try simp only [Act.put, List.setIfInBounds_toArray, List.set_cons_zero, List.set_cons_succ])))
          refine wpR_nil ?_
          intro w' hw'
          rename_i r0 q0
          have KM := KC1.below hw'
          have k0 := KM.c6
          have k1 := KM.f6
          clear g0 g1 g2
          refine wpAny_last 6 _ (by kernel_rfl) rfl rfl (by kernel_rfl) fun K hK => ?_
          go_simp
          refine hK _ _ ?_
          obtain ⟨V2, eV2⟩ : ∃ u, u = w'.setCell ⟨w.heap.size, 0, none⟩ (.float .f32 r0) := ⟨_, rfl⟩
          have KC2 : WC w.heap.size b off w2.heap.size cs x y (.float .f32 r0) (.float .f32 0) V2 := by rw [eV2]; exact KM.set (.inl rfl) (World.cell?_setCell_same' _ _ _ (by rw [k0]; rfl)) (by rw [World.cell?_setCell_far _ _ _ _ (by simp)]; exact KM.c7)
          have bV2 := Lib.hid ((bV1.out.trans (hw'.mono bV1.out.size)).setCell (p := ⟨w.heap.size, 0, none⟩) (by simp) (.float .f32 r0))
          rw [← eV2] at bV2 ⊢
          clear eV2 hw' KM k0 k1
          go_wp2_with fail
          obtain ⟨_, g0, g1, g2⟩ := KC2.gr
          refine wp_region_cls_tail 6 (by kernel_rfl) (by kernel_rfl) (by rfl) (by kernel_rfl) (by kernel_rfl) (fun w' => Below V2.heap.size V2 w') (below_drewN (Below.refl _ _) 1) [Eq1 ?q2884u0, AggIs (cs.getD 3 0) (cs.getD 4 0) (cs.getD 5 0), Eq1 ?q2884u2, FloatIs .f32 (rowW cs 1 x y), Eq1 ?q2884u4, FloatIs .f32 (ledU cs 1 x y)] ?q2884main
          case q2884main =>
            simp only [List.take_succ_cons, List.take_zero]
            (refine wpR_pure ?_ (fun w hw => ?_) ?_; rfl; (obtain ⟨hwc, hwf⟩ := bcell2 hw; go_simp; (try with_reducible rfl)); (try simp only [Act.put, List.setIfInBounds_toArray, List.set_cons_zero, List.set_cons_succ]))
            (refine wpR_cls ?_ (fun w hw => ?_) ?_; rfl; (go_simp; refine (warpRow1_any b off c cs _ (KC2.below hw).nine (KC2.below hw).blt).mono ?_; rintro _ _ ⟨_, _, _, rfl, hcb, hcr0, hcr1, hcr2⟩; exact ⟨_, rfl, ⟨_, _, _, rfl, hcr0, hcr1, hcr2⟩, Below.trans hw (hcb.mono hw.size)⟩); (rintro _ ⟨_, _, _, rfl, _, _, _⟩; (try simp only [Act.put, List.setIfInBounds_toArray, List.set_cons_zero, List.set_cons_succ])))
            (refine wpR_pure ?_ (fun w hw => ?_) ?_; rfl; (obtain ⟨hwc, hwf⟩ := bcell2 hw; go_simp; (try with_reducible rfl)); (try simp only [Act.put, List.setIfInBounds_toArray, List.set_cons_zero, List.set_cons_succ]))
            (refine wpR_cls ?_ (fun w hw => ?_) ?_; rfl; (go_simp; refine (inner_row _ (by assumption) (by assumption) (by assumption) lx ly).mono ?_; rintro _ _ ⟨_, rfl, hcb, hcr⟩; exact ⟨_, rfl, ⟨_, rfl, hcr⟩, Below.trans hw (hcb.mono hw.size)⟩); (rintro _ ⟨_, rfl, _⟩; (try simp only [Act.put, List.setIfInBounds_toArray, List.set_cons_zero, List.set_cons_succ])))
            (refine wpR_pure ?_ (fun w hw => ?_) ?_; rfl; (obtain ⟨hwc, hwf⟩ := bcell2 hw; go_simp; (try with_reducible rfl)); (try simp only [Act.put, List.setIfInBounds_toArray, List.set_cons_zero, List.set_cons_succ]))
            (refine wpR_cls ?_ (fun w hw => ?_) ?_; rfl; (go_simp; exact ⟨below_drewN hw _, _, rfl, Fl.flR (by assumption) (by assumption) _⟩); (rintro _ ⟨_, rfl, _⟩; (try simp only [Act.put, List.setIfInBounds_toArray, List.set_cons_zero, List.set_cons_succ])))
            refine wpR_nil ?_
            intro w' hw'
            rename_i r1 q1
            have KM := KC2.below hw'
            have k0 := KM.c7
            have k1 := KM.f7
            clear g0 g1 g2
            refine wpAny_last 6 _ (by kernel_rfl) rfl rfl (by kernel_rfl) fun K hK => ?_
            go_simp
            refine hK _ _ ?_
            obtain ⟨V3, eV3⟩ : ∃ u, u = w'.setCell ⟨w.heap.size + 1, 0, none⟩ (.float .f32 r1) := ⟨_, rfl⟩
            have KC3 : WC w.heap.size b off w2.heap.size cs x y (.float .f32 r0) (.float .f32 r1) V3 := by rw [eV3]; exact KM.set (.inr rfl) (by rw [World.cell?_setCell_far _ _ _ _ (by simp)]; exact KM.c6) (World.cell?_setCell_same' _ _ _ (by rw [k0]; rfl))
            have bV3 := Lib.hid ((bV2.out.trans (hw'.mono bV2.out.size)).setCell (p := ⟨w.heap.size + 1, 0, none⟩) (by simp) (.float .f32 r1))
            rw [← eV3] at bV3 ⊢
            clear eV3 hw' KM k0 k1
            go_wp2_with fail
            have hF0 : ∀ w, Calls Try.prog 140 #[.float .f32 r0] w (RB false w) := fun w => by rw [← h2'.out]; exact caFin_fl q0 w
            have m6 := KC3.c6
            have m7 := KC3.c7
            have m8 := KC3.c8
            have mp0 := KC3.p0
            have mp1 := KC3.p1
            have n6 := KC3.f6
            have n7 := KC3.f7
            have n8 := KC3.f8
            have nl := KC3.lt
            have es6 := setCell_self m6
            have es7 := setCell_self m7
            refine wp_region_skip_tail 10 (by kernel_rfl) (by kernel_rfl) (by rfl) (by kernel_rfl) (by kernel_rfl) (fun w' => ∃ n, w' = V3.drewN n) ⟨1, rfl⟩ [some (Eq1 ?q334u0), some (Eq1 ?q334u1), some (Eq1 ?q334u2), some (Eq1 (.bool false)), some (Eq1 ?q334u4), none, none, some (Eq1 ?q334u7), some (Eq1 undef), some (Eq1 undef)] ?q334main
            case q334main =>
              simp only [List.take_succ_cons, List.take_zero]
              (refine wpS_pure ?_ (fun w hw => ?_) ?_; rfl; (obtain ⟨nn, rfl⟩ := hw; go_simp; (try with_reducible rfl)); (try simp only [Act.put, List.setIfInBounds_toArray, List.set_cons_zero, List.set_cons_succ]))
              (refine wpS_pure ?_ (fun w hw => ?_) ?_; rfl; (obtain ⟨nn, rfl⟩ := hw; go_simp; (try with_reducible rfl)); (try simp only [Act.put, List.setIfInBounds_toArray, List.set_cons_zero, List.set_cons_succ]))
              (refine wpS_pure ?_ (fun w hw => ?_) ?_; rfl; (obtain ⟨nn, rfl⟩ := hw; go_simp; (try with_reducible rfl)); (try simp only [Act.put, List.setIfInBounds_toArray, List.set_cons_zero, List.set_cons_succ]))
              (refine wpS_cls ?_ (fun w hw => ?_) ?_; rfl; (obtain ⟨nn, rfl⟩ := hw; go_simp; refine (hF0 _).mono ?_; rintro _ _ ⟨nm, rfl, rfl⟩; exact ⟨_, rfl, rfl, nn + nm, by simp⟩); (rintro _ rfl; (try simp only [Act.put, List.setIfInBounds_toArray, List.set_cons_zero, List.set_cons_succ])))
              (refine wpS_pure ?_ (fun w hw => ?_) ?_; rfl; (obtain ⟨nn, rfl⟩ := hw; go_simp; (try with_reducible rfl)); (try simp only [Act.put, List.setIfInBounds_toArray, List.set_cons_zero, List.set_cons_succ]))
              (refine wpS_skip ?_ ?_; rfl; (try simp only [Act.put, List.setIfInBounds_toArray, List.set_cons_zero, List.set_cons_succ]))
              (refine wpS_skip ?_ ?_; rfl; (try simp only [Act.put, List.setIfInBounds_toArray, List.set_cons_zero, List.set_cons_succ]))
              (refine wpS_pure ?_ (fun w hw => ?_) ?_; rfl; (obtain ⟨nn, rfl⟩ := hw; go_simp; (try with_reducible rfl)); (try simp only [Act.put, List.setIfInBounds_toArray, List.set_cons_zero, List.set_cons_succ]))
              (refine wpS_cls ?_ (fun w hw => ?_) ?_; rfl; (obtain ⟨nn, rfl⟩ := hw; go_simp; first | exact ⟨⟨_, rfl⟩, rfl⟩ | exact ⟨_, rfl⟩ | rfl | skip); (rintro _ rfl; (try simp only [Act.put, List.setIfInBounds_toArray, List.set_cons_zero, List.set_cons_succ])))
              (refine wpS_cls ?_ (fun w hw => ?_) ?_; rfl; (obtain ⟨nn, rfl⟩ := hw; go_simp; first | exact ⟨⟨_, rfl⟩, rfl⟩ | exact ⟨_, rfl⟩ | rfl | skip); (rintro _ rfl; (try simp only [Act.put, List.setIfInBounds_toArray, List.set_cons_zero, List.set_cons_succ])))
              refine wpS_nil ?_
              rintro w' ⟨nn, rfl⟩
              refine wpAny_last 10 _ (by kernel_rfl) rfl rfl (by kernel_rfl) fun Kc hKc => ?_
              clear es6 es7
              go_simp
              refine hKc _ _ ?_
              go_wp2_with fail
              have bVX := bV3.out
              refine leaves_cons (f := 149) (args := #[.pointer (some ⟨w.heap.size + 1 + 1, 0, none⟩), .slice (some ⟨w.heap.size + 1 + 1 + 1, 0, none⟩) 2 2]) (by simp) (by simp [go_sem]) ?_
              refine (clearF_no2 _ ⟨w.heap.size, 0, none⟩ ⟨w.heap.size + 1, 0, none⟩ _ _ _ (by go_simp) (by go_simp) (by go_simp) (by go_simp) (by go_simp) (by go_simp) (by go_simp) (by simp; omega) (by simp)).mono ?_
              rintro e u' w'' ⟨rfl, rfl, hw''⟩
              have g0 : w''.cell? ⟨w.heap.size, 0, none⟩ = some (.float .f32 0) := by rw [hw'', World.cell?_setCell_far _ _ _ _ (by simp)]; exact World.cell?_setCell_same' _ _ _ (by go_simp)
              have g1 : w''.cell? ⟨w.heap.size + 1, 0, none⟩ = some (.float .f32 0) := by rw [hw'']; exact World.cell?_setCell_same' _ _ _ (by go_simp)
              have g2 : w''.cell? ⟨w.heap.size + 1 + 1, 0, none⟩ = some (.bool false) := by rw [hw'']; go_simp
              have HW := Lib.hid hw''
              clear hw''
              refine ⟨_, (by simp only [results, Try.results88]; go_simp; try rfl), _, _, rfl, ?_, fl00, fl00⟩
              (rw [HW.out]; ((repeat' (first | (refine bel_set ?_ ?_ _) | (refine bel_al ?_ ?_ _) | exact Below.refl _ _ | assumption | (refine below_drewN ?_ _) | (refine Below.drew ?_))) <;> (first | omega | (simp; done) | (simp; omega))))
    | true =>
      have h2' := Lib.hid h2
      clear h2
      cases h3 : isF .f32 (ledU cs 1 x y) with
      | false =>
        have h3' := Lib.hid h3
        clear h3
        have e2 : wpOk cs x y = false := by unfold wpOk ledOk; rw [h1'.out, h2'.out, h3'.out]; rfl
        unfold wpU
        rw [e2]
        clear e2
        have hI := fun w1 hb => isWarp_any _ cs w1 (hv.below hb)
        obtain ⟨b, off, c', ev, _, _, hb0, hN⟩ := FC.nine hv (by have h := h1'.out; unfold warpB at h; simp at h; exact h.1)
        simp only [Value.slice.injEq] at ev
        obtain ⟨rfl, rfl, rfl⟩ := ev
        have hN' := Lib.hid hN
        clear hN
        have hv' := Lib.hid hv
        clear hv
        obtain ⟨W, hW⟩ : ∃ W, W = (((w.alloc (.cells #[.float .f32 0] 22)).alloc (.cells #[.float .f32 0] 22)).alloc (.cells #[.bool false] 4)).alloc (.cells #[.pointer (some ⟨w.heap.size, 0, none⟩), .pointer (some ⟨w.heap.size + 1, 0, none⟩)] 173) := ⟨_, rfl⟩
        have bw : Below w.heap.size w W := by rw [hW]; ((repeat' (first | (refine bel_set ?_ ?_ _) | (refine bel_al ?_ ?_ _) | exact Below.refl _ _ | assumption | (refine below_drewN ?_ _) | (refine Below.drew ?_))) <;> (first | omega | (simp; done) | (simp; omega)))
        have c0 : W.cell? ⟨w.heap.size, 0, none⟩ = some (.float .f32 0) := by rw [hW]; go_simp
        have c1 : W.cell? ⟨w.heap.size + 1, 0, none⟩ = some (.float .f32 0) := by rw [hW]; go_simp
        have c2 : W.cell? ⟨w.heap.size + 1 + 1, 0, none⟩ = some (.bool false) := by rw [hW]; go_simp
        have c3 : W.cell? ⟨w.heap.size + 1 + 1 + 1, 0, none⟩ = some (.pointer (some ⟨w.heap.size, 0, none⟩)) := by rw [hW]; go_simp
        have c4 : W.cell? ⟨w.heap.size + 1 + 1 + 1, 1, none⟩ = some (.pointer (some ⟨w.heap.size + 1, 0, none⟩)) := by rw [hW]; go_simp
        have f0 : W.frozen? ⟨w.heap.size, 0, none⟩ = false := by rw [hW]; go_simp
        have f1 : W.frozen? ⟨w.heap.size + 1, 0, none⟩ = false := by rw [hW]; go_simp
        have f2 : W.frozen? ⟨w.heap.size + 1 + 1, 0, none⟩ = false := by rw [hW]; go_simp
        have hsz : w.heap.size + 1 + 1 + 1 < W.heap.size := by rw [hW]; simp
        have hI1 := hI W bw
        clear hI
        go_enter_defers Try.func88, Try.ntmps88
        go_wp2_with fail
        rw [← hW]
        clear hW
        refine hI1.mono ?_
        rintro e w1 ⟨q, rfl, rfl⟩
        rw [h1'.out]
        go_wp2_with fail
        refine (onGround_any _ _ _).mono ?_
        rintro e w2 ⟨rfl, hb2⟩
        have hb2 := undrewN hb2
        simp only [World.heap_drewN] at hb2
        go_wp2_with fail
        obtain ⟨V, hV⟩ : ∃ V, V = w2.alloc (.cells #[.float .f32 x, .float .f32 y, .float .f32 1065353216] 85) := ⟨_, rfl⟩
        have bV : Below W.heap.size W V := by rw [hV]; exact bel_al hb2 hb2.size _
        have hs2 := hb2.size
        have KC : WC w.heap.size b off w2.heap.size cs x y (.float .f32 0) (.float .f32 0) V := by
          have e1 := (bcell bV).1
          have e2 := (bcell bV).2
          have e3 := bV.size
          refine ⟨fun k hk => ?_, by rw [hV]; exact P3.new _ _ _ _ _, by omega, by omega, by omega, hb0, ?_, ?_, ?_, ?_, ?_, ?_, ?_, ?_⟩
          · obtain ⟨z, h1, h2⟩ := hN'.out k hk
            exact ⟨z, h1, by rw [e1 _ _ (by omega), (bcell bw).1 _ _ hb0]; exact h2⟩
          · rw [e1 _ _ (by omega)]; exact c0
          · rw [e1 _ _ (by omega)]; exact c1
          · rw [e1 _ _ (by omega)]; exact c2
          · rw [e1 _ _ (by omega)]; exact c3
          · rw [e1 _ _ (by omega)]; exact c4
          · rw [e2 _ _ (by omega)]; exact f0
          · rw [e2 _ _ (by omega)]; exact f1
          · rw [e2 _ _ (by omega)]; exact f2
        have bV := Lib.hid (bw.trans (bV.mono bw.size) : Below w.heap.size w V)
        rw [← hV]
        have hold := Lib.hid (And.intro hb2 (And.intro hV hs2))
        clear hV hb2 hs2 c0 c1 c2 c3 c4 f0 f1 f2 hI1
        obtain ⟨_, g0, g1, g2⟩ := KC.gr
        refine wp_region_cls (by kernel_rfl) (by kernel_rfl) (by kernel_rfl) (by kernel_rfl) (fun w' => Below V.heap.size V w') (below_drewN (Below.refl _ _) 1) [Eq1 ?q8536x2u0, AggIs (cs.getD 6 0) (cs.getD 7 0) (cs.getD 8 0), Eq1 ?q8536x2u2, FloatIs .f32 (rowW cs 2 x y), FloatIs .f32 (rowW cs 2 x y)] ?q8536x2main
        case q8536x2main =>
          (refine wpR_pure ?_ (fun w hw => ?_) ?_; rfl; (obtain ⟨hwc, hwf⟩ := bcell2 hw; go_simp; (try with_reducible rfl)); (try simp only [Act.put, List.setIfInBounds_toArray, List.set_cons_zero, List.set_cons_succ]))
          (refine wpR_cls ?_ (fun w hw => ?_) ?_; rfl; (go_simp; refine (warpRow2_any b off c cs _ (KC.below hw).nine (KC.below hw).blt).mono ?_; rintro _ _ ⟨_, _, _, rfl, hcb, hcr0, hcr1, hcr2⟩; exact ⟨_, rfl, ⟨_, _, _, rfl, hcr0, hcr1, hcr2⟩, Below.trans hw (hcb.mono hw.size)⟩); (rintro _ ⟨_, _, _, rfl, _, _, _⟩; (try simp only [Act.put, List.setIfInBounds_toArray, List.set_cons_zero, List.set_cons_succ])))
          (refine wpR_pure ?_ (fun w hw => ?_) ?_; rfl; (obtain ⟨hwc, hwf⟩ := bcell2 hw; go_simp; (try with_reducible rfl)); (try simp only [Act.put, List.setIfInBounds_toArray, List.set_cons_zero, List.set_cons_succ]))
          (refine wpR_cls ?_ (fun w hw => ?_) ?_; rfl; (go_simp; refine (inner_row _ (by assumption) (by assumption) (by assumption) lx ly).mono ?_; rintro _ _ ⟨_, rfl, hcb, hcr⟩; exact ⟨_, rfl, ⟨_, rfl, hcr⟩, Below.trans hw (hcb.mono hw.size)⟩); (rintro _ ⟨_, rfl, _⟩; (try simp only [Act.put, List.setIfInBounds_toArray, List.set_cons_zero, List.set_cons_succ])))
          (refine wpR_cls ?_ (fun w hw => ?_) ?_; rfl; (go_simp; first | exact ⟨_, rfl, by assumption⟩ | exact ⟨hw, _, rfl, by assumption⟩); (rintro _ ⟨_, rfl, _⟩; (try simp only [Act.put, List.setIfInBounds_toArray, List.set_cons_zero, List.set_cons_succ])))
          refine wpR_nil ?_
          intro w' hw'
          rename_i r10 q10
          have KC1 := KC.below hw'
          have bV1 := Lib.hid (bV.out.trans (hw'.mono bV.out.size))
          obtain ⟨V1, eV1⟩ : ∃ u, u = w' := ⟨_, rfl⟩
          subst eV1
          clear hw' g0 g1 g2
          go_wp2_with fail
          obtain ⟨_, g0, g1, g2⟩ := KC1.gr
          refine wp_region_cls_tail 6 (by kernel_rfl) (by kernel_rfl) (by rfl) (by kernel_rfl) (by kernel_rfl) (fun w' => Below V1.heap.size V1 w') (below_drewN (Below.refl _ _) 1) [Eq1 ?q462x2u0, AggIs (cs.getD 0 0) (cs.getD 1 0) (cs.getD 2 0), Eq1 ?q462x2u2, FloatIs .f32 (rowW cs 0 x y), Eq1 ?q462x2u4, FloatIs .f32 (ledU cs 0 x y)] ?q462x2main
          case q462x2main =>
            simp only [List.take_succ_cons, List.take_zero]
            (refine wpR_pure ?_ (fun w hw => ?_) ?_; rfl; (obtain ⟨hwc, hwf⟩ := bcell2 hw; go_simp; (try with_reducible rfl)); (try simp only [Act.put, List.setIfInBounds_toArray, List.set_cons_zero, List.set_cons_succ]))
            (refine wpR_cls ?_ (fun w hw => ?_) ?_; rfl; (go_simp; refine (warpRow0_any b off c cs _ (KC1.below hw).nine (KC1.below hw).blt).mono ?_; rintro _ _ ⟨_, _, _, rfl, hcb, hcr0, hcr1, hcr2⟩; exact ⟨_, rfl, ⟨_, _, _, rfl, hcr0, hcr1, hcr2⟩, Below.trans hw (hcb.mono hw.size)⟩); (rintro _ ⟨_, _, _, rfl, _, _, _⟩; (try simp only [Act.put, List.setIfInBounds_toArray, List.set_cons_zero, List.set_cons_succ])))
            (refine wpR_pure ?_ (fun w hw => ?_) ?_; rfl; (obtain ⟨hwc, hwf⟩ := bcell2 hw; go_simp; (try with_reducible rfl)); (try simp only [Act.put, List.setIfInBounds_toArray, List.set_cons_zero, List.set_cons_succ]))
            (refine wpR_cls ?_ (fun w hw => ?_) ?_; rfl; (go_simp; refine (inner_row _ (by assumption) (by assumption) (by assumption) lx ly).mono ?_; rintro _ _ ⟨_, rfl, hcb, hcr⟩; exact ⟨_, rfl, ⟨_, rfl, hcr⟩, Below.trans hw (hcb.mono hw.size)⟩); (rintro _ ⟨_, rfl, _⟩; (try simp only [Act.put, List.setIfInBounds_toArray, List.set_cons_zero, List.set_cons_succ])))
            (refine wpR_pure ?_ (fun w hw => ?_) ?_; rfl; (obtain ⟨hwc, hwf⟩ := bcell2 hw; go_simp; (try with_reducible rfl)); (try simp only [Act.put, List.setIfInBounds_toArray, List.set_cons_zero, List.set_cons_succ]))
            (refine wpR_cls ?_ (fun w hw => ?_) ?_; rfl; (go_simp; exact ⟨below_drewN hw _, _, rfl, Fl.flR (by assumption) (by assumption) _⟩); (rintro _ ⟨_, rfl, _⟩; (try simp only [Act.put, List.setIfInBounds_toArray, List.set_cons_zero, List.set_cons_succ])))
            refine wpR_nil ?_
            intro w' hw'
            rename_i r0 q0
            have KM := KC1.below hw'
            have k0 := KM.c6
            have k1 := KM.f6
            clear g0 g1 g2
            refine wpAny_last 6 _ (by kernel_rfl) rfl rfl (by kernel_rfl) fun K hK => ?_
            go_simp
            refine hK _ _ ?_
            obtain ⟨V2, eV2⟩ : ∃ u, u = w'.setCell ⟨w.heap.size, 0, none⟩ (.float .f32 r0) := ⟨_, rfl⟩
            have KC2 : WC w.heap.size b off w2.heap.size cs x y (.float .f32 r0) (.float .f32 0) V2 := by rw [eV2]; exact KM.set (.inl rfl) (World.cell?_setCell_same' _ _ _ (by rw [k0]; rfl)) (by rw [World.cell?_setCell_far _ _ _ _ (by simp)]; exact KM.c7)
            have bV2 := Lib.hid ((bV1.out.trans (hw'.mono bV1.out.size)).setCell (p := ⟨w.heap.size, 0, none⟩) (by simp) (.float .f32 r0))
            rw [← eV2] at bV2 ⊢
            clear eV2 hw' KM k0 k1
            go_wp2_with fail
            obtain ⟨_, g0, g1, g2⟩ := KC2.gr
            refine wp_region_cls_tail 6 (by kernel_rfl) (by kernel_rfl) (by rfl) (by kernel_rfl) (by kernel_rfl) (fun w' => Below V2.heap.size V2 w') (below_drewN (Below.refl _ _) 1) [Eq1 ?q2884x2u0, AggIs (cs.getD 3 0) (cs.getD 4 0) (cs.getD 5 0), Eq1 ?q2884x2u2, FloatIs .f32 (rowW cs 1 x y), Eq1 ?q2884x2u4, FloatIs .f32 (ledU cs 1 x y)] ?q2884x2main
            case q2884x2main =>
              simp only [List.take_succ_cons, List.take_zero]
              (refine wpR_pure ?_ (fun w hw => ?_) ?_; rfl; (obtain ⟨hwc, hwf⟩ := bcell2 hw; go_simp; (try with_reducible rfl)); (try simp only [Act.put, List.setIfInBounds_toArray, List.set_cons_zero, List.set_cons_succ]))
              (refine wpR_cls ?_ (fun w hw => ?_) ?_; rfl; (go_simp; refine (warpRow1_any b off c cs _ (KC2.below hw).nine (KC2.below hw).blt).mono ?_; rintro _ _ ⟨_, _, _, rfl, hcb, hcr0, hcr1, hcr2⟩; exact ⟨_, rfl, ⟨_, _, _, rfl, hcr0, hcr1, hcr2⟩, Below.trans hw (hcb.mono hw.size)⟩); (rintro _ ⟨_, _, _, rfl, _, _, _⟩; (try simp only [Act.put, List.setIfInBounds_toArray, List.set_cons_zero, List.set_cons_succ])))
              (refine wpR_pure ?_ (fun w hw => ?_) ?_; rfl; (obtain ⟨hwc, hwf⟩ := bcell2 hw; go_simp; (try with_reducible rfl)); (try simp only [Act.put, List.setIfInBounds_toArray, List.set_cons_zero, List.set_cons_succ]))
              (refine wpR_cls ?_ (fun w hw => ?_) ?_; rfl; (go_simp; refine (inner_row _ (by assumption) (by assumption) (by assumption) lx ly).mono ?_; rintro _ _ ⟨_, rfl, hcb, hcr⟩; exact ⟨_, rfl, ⟨_, rfl, hcr⟩, Below.trans hw (hcb.mono hw.size)⟩); (rintro _ ⟨_, rfl, _⟩; (try simp only [Act.put, List.setIfInBounds_toArray, List.set_cons_zero, List.set_cons_succ])))
              (refine wpR_pure ?_ (fun w hw => ?_) ?_; rfl; (obtain ⟨hwc, hwf⟩ := bcell2 hw; go_simp; (try with_reducible rfl)); (try simp only [Act.put, List.setIfInBounds_toArray, List.set_cons_zero, List.set_cons_succ]))
              (refine wpR_cls ?_ (fun w hw => ?_) ?_; rfl; (go_simp; exact ⟨below_drewN hw _, _, rfl, Fl.flR (by assumption) (by assumption) _⟩); (rintro _ ⟨_, rfl, _⟩; (try simp only [Act.put, List.setIfInBounds_toArray, List.set_cons_zero, List.set_cons_succ])))
              refine wpR_nil ?_
              intro w' hw'
              rename_i r1 q1
              have KM := KC2.below hw'
              have k0 := KM.c7
              have k1 := KM.f7
              clear g0 g1 g2
              refine wpAny_last 6 _ (by kernel_rfl) rfl rfl (by kernel_rfl) fun K hK => ?_
              go_simp
              refine hK _ _ ?_
              obtain ⟨V3, eV3⟩ : ∃ u, u = w'.setCell ⟨w.heap.size + 1, 0, none⟩ (.float .f32 r1) := ⟨_, rfl⟩
              have KC3 : WC w.heap.size b off w2.heap.size cs x y (.float .f32 r0) (.float .f32 r1) V3 := by rw [eV3]; exact KM.set (.inr rfl) (by rw [World.cell?_setCell_far _ _ _ _ (by simp)]; exact KM.c6) (World.cell?_setCell_same' _ _ _ (by rw [k0]; rfl))
              have bV3 := Lib.hid ((bV2.out.trans (hw'.mono bV2.out.size)).setCell (p := ⟨w.heap.size + 1, 0, none⟩) (by simp) (.float .f32 r1))
              rw [← eV3] at bV3 ⊢
              clear eV3 hw' KM k0 k1
              go_wp2_with fail
              have hF0 : ∀ w, Calls Try.prog 140 #[.float .f32 r0] w (RB true w) := fun w => by rw [← h2'.out]; exact caFin_fl q0 w
              have hF1 : ∀ w, Calls Try.prog 140 #[.float .f32 r1] w (RB false w) := fun w => by rw [← h3'.out]; exact caFin_fl q1 w
              have m6 := KC3.c6
              have m7 := KC3.c7
              have m8 := KC3.c8
              have mp0 := KC3.p0
              have mp1 := KC3.p1
              have n6 := KC3.f6
              have n7 := KC3.f7
              have n8 := KC3.f8
              have nl := KC3.lt
              have es6 := setCell_self m6
              have es7 := setCell_self m7
              refine wp_region_skip_tail 10 (by kernel_rfl) (by kernel_rfl) (by rfl) (by kernel_rfl) (by kernel_rfl) (fun w' => ∃ n, w' = V3.drewN n) ⟨1, rfl⟩ [some (Eq1 ?q1062u0), some (Eq1 ?q1062u1), some (Eq1 ?q1062u2), some (Eq1 (.bool true)), some (Eq1 ?q1062u4), some (Eq1 ?q1062u5), some (Eq1 (.bool false)), some (Eq1 ?q1062u7), some (Eq1 undef), some (Eq1 undef)] ?q1062main
              case q1062main =>
                simp only [List.take_succ_cons, List.take_zero]
                (refine wpS_pure ?_ (fun w hw => ?_) ?_; rfl; (obtain ⟨nn, rfl⟩ := hw; go_simp; (try with_reducible rfl)); (try simp only [Act.put, List.setIfInBounds_toArray, List.set_cons_zero, List.set_cons_succ]))
                (refine wpS_pure ?_ (fun w hw => ?_) ?_; rfl; (obtain ⟨nn, rfl⟩ := hw; go_simp; (try with_reducible rfl)); (try simp only [Act.put, List.setIfInBounds_toArray, List.set_cons_zero, List.set_cons_succ]))
                (refine wpS_pure ?_ (fun w hw => ?_) ?_; rfl; (obtain ⟨nn, rfl⟩ := hw; go_simp; (try with_reducible rfl)); (try simp only [Act.put, List.setIfInBounds_toArray, List.set_cons_zero, List.set_cons_succ]))
                (refine wpS_cls ?_ (fun w hw => ?_) ?_; rfl; (obtain ⟨nn, rfl⟩ := hw; go_simp; refine (hF0 _).mono ?_; rintro _ _ ⟨nm, rfl, rfl⟩; exact ⟨_, rfl, rfl, nn + nm, by simp⟩); (rintro _ rfl; (try simp only [Act.put, List.setIfInBounds_toArray, List.set_cons_zero, List.set_cons_succ])))
                (refine wpS_pure ?_ (fun w hw => ?_) ?_; rfl; (obtain ⟨nn, rfl⟩ := hw; go_simp; (try with_reducible rfl)); (try simp only [Act.put, List.setIfInBounds_toArray, List.set_cons_zero, List.set_cons_succ]))
                (refine wpS_pure ?_ (fun w hw => ?_) ?_; rfl; (obtain ⟨nn, rfl⟩ := hw; go_simp; (try with_reducible rfl)); (try simp only [Act.put, List.setIfInBounds_toArray, List.set_cons_zero, List.set_cons_succ]))
                (refine wpS_cls ?_ (fun w hw => ?_) ?_; rfl; (obtain ⟨nn, rfl⟩ := hw; go_simp; refine (hF1 _).mono ?_; rintro _ _ ⟨nm, rfl, rfl⟩; exact ⟨_, rfl, rfl, nn + nm, by simp⟩); (rintro _ rfl; (try simp only [Act.put, List.setIfInBounds_toArray, List.set_cons_zero, List.set_cons_succ])))
                (refine wpS_pure ?_ (fun w hw => ?_) ?_; rfl; (obtain ⟨nn, rfl⟩ := hw; go_simp; (try with_reducible rfl)); (try simp only [Act.put, List.setIfInBounds_toArray, List.set_cons_zero, List.set_cons_succ]))
                (refine wpS_cls ?_ (fun w hw => ?_) ?_; rfl; (obtain ⟨nn, rfl⟩ := hw; go_simp; first | exact ⟨⟨_, rfl⟩, rfl⟩ | exact ⟨_, rfl⟩ | rfl | skip); (rintro _ rfl; (try simp only [Act.put, List.setIfInBounds_toArray, List.set_cons_zero, List.set_cons_succ])))
                (refine wpS_cls ?_ (fun w hw => ?_) ?_; rfl; (obtain ⟨nn, rfl⟩ := hw; go_simp; first | exact ⟨⟨_, rfl⟩, rfl⟩ | exact ⟨_, rfl⟩ | rfl | skip); (rintro _ rfl; (try simp only [Act.put, List.setIfInBounds_toArray, List.set_cons_zero, List.set_cons_succ])))
                refine wpS_nil ?_
                rintro w' ⟨nn, rfl⟩
                refine wpAny_last 10 _ (by kernel_rfl) rfl rfl (by kernel_rfl) fun Kc hKc => ?_
                clear es6 es7
                go_simp
                refine hKc _ _ ?_
                go_wp2_with fail
                have bVX := bV3.out
                refine leaves_cons (f := 149) (args := #[.pointer (some ⟨w.heap.size + 1 + 1, 0, none⟩), .slice (some ⟨w.heap.size + 1 + 1 + 1, 0, none⟩) 2 2]) (by simp) (by simp [go_sem]) ?_
                refine (clearF_no2 _ ⟨w.heap.size, 0, none⟩ ⟨w.heap.size + 1, 0, none⟩ _ _ _ (by go_simp) (by go_simp) (by go_simp) (by go_simp) (by go_simp) (by go_simp) (by go_simp) (by simp; omega) (by simp)).mono ?_
                rintro e u' w'' ⟨rfl, rfl, hw''⟩
                have g0 : w''.cell? ⟨w.heap.size, 0, none⟩ = some (.float .f32 0) := by rw [hw'', World.cell?_setCell_far _ _ _ _ (by simp)]; exact World.cell?_setCell_same' _ _ _ (by go_simp)
                have g1 : w''.cell? ⟨w.heap.size + 1, 0, none⟩ = some (.float .f32 0) := by rw [hw'']; exact World.cell?_setCell_same' _ _ _ (by go_simp)
                have g2 : w''.cell? ⟨w.heap.size + 1 + 1, 0, none⟩ = some (.bool false) := by rw [hw'']; go_simp
                have HW := Lib.hid hw''
                clear hw''
                refine ⟨_, (by simp only [results, Try.results88]; go_simp; try rfl), _, _, rfl, ?_, fl00, fl00⟩
                (rw [HW.out]; ((repeat' (first | (refine bel_set ?_ ?_ _) | (refine bel_al ?_ ?_ _) | exact Below.refl _ _ | assumption | (refine below_drewN ?_ _) | (refine Below.drew ?_))) <;> (first | omega | (simp; done) | (simp; omega))))
      | true =>
        have h3' := Lib.hid h3
        clear h3
        have e2 : wpOk cs x y = true := by unfold wpOk ledOk; rw [h1'.out, h2'.out, h3'.out]; rfl
        unfold wpU
        rw [e2]
        clear e2
        have hI := fun w1 hb => isWarp_any _ cs w1 (hv.below hb)
        obtain ⟨b, off, c', ev, _, _, hb0, hN⟩ := FC.nine hv (by have h := h1'.out; unfold warpB at h; simp at h; exact h.1)
        simp only [Value.slice.injEq] at ev
        obtain ⟨rfl, rfl, rfl⟩ := ev
        have hN' := Lib.hid hN
        clear hN
        have hv' := Lib.hid hv
        clear hv
        obtain ⟨W, hW⟩ : ∃ W, W = (((w.alloc (.cells #[.float .f32 0] 22)).alloc (.cells #[.float .f32 0] 22)).alloc (.cells #[.bool false] 4)).alloc (.cells #[.pointer (some ⟨w.heap.size, 0, none⟩), .pointer (some ⟨w.heap.size + 1, 0, none⟩)] 173) := ⟨_, rfl⟩
        have bw : Below w.heap.size w W := by rw [hW]; ((repeat' (first | (refine bel_set ?_ ?_ _) | (refine bel_al ?_ ?_ _) | exact Below.refl _ _ | assumption | (refine below_drewN ?_ _) | (refine Below.drew ?_))) <;> (first | omega | (simp; done) | (simp; omega)))
        have c0 : W.cell? ⟨w.heap.size, 0, none⟩ = some (.float .f32 0) := by rw [hW]; go_simp
        have c1 : W.cell? ⟨w.heap.size + 1, 0, none⟩ = some (.float .f32 0) := by rw [hW]; go_simp
        have c2 : W.cell? ⟨w.heap.size + 1 + 1, 0, none⟩ = some (.bool false) := by rw [hW]; go_simp
        have c3 : W.cell? ⟨w.heap.size + 1 + 1 + 1, 0, none⟩ = some (.pointer (some ⟨w.heap.size, 0, none⟩)) := by rw [hW]; go_simp
        have c4 : W.cell? ⟨w.heap.size + 1 + 1 + 1, 1, none⟩ = some (.pointer (some ⟨w.heap.size + 1, 0, none⟩)) := by rw [hW]; go_simp
        have f0 : W.frozen? ⟨w.heap.size, 0, none⟩ = false := by rw [hW]; go_simp
        have f1 : W.frozen? ⟨w.heap.size + 1, 0, none⟩ = false := by rw [hW]; go_simp
        have f2 : W.frozen? ⟨w.heap.size + 1 + 1, 0, none⟩ = false := by rw [hW]; go_simp
        have hsz : w.heap.size + 1 + 1 + 1 < W.heap.size := by rw [hW]; simp
        have hI1 := hI W bw
        clear hI
        go_enter_defers Try.func88, Try.ntmps88
        go_wp2_with fail
        rw [← hW]
        clear hW
        refine hI1.mono ?_
        rintro e w1 ⟨q, rfl, rfl⟩
        rw [h1'.out]
        go_wp2_with fail
        refine (onGround_any _ _ _).mono ?_
        rintro e w2 ⟨rfl, hb2⟩
        have hb2 := undrewN hb2
        simp only [World.heap_drewN] at hb2
        go_wp2_with fail
        obtain ⟨V, hV⟩ : ∃ V, V = w2.alloc (.cells #[.float .f32 x, .float .f32 y, .float .f32 1065353216] 85) := ⟨_, rfl⟩
        have bV : Below W.heap.size W V := by rw [hV]; exact bel_al hb2 hb2.size _
        have hs2 := hb2.size
        have KC : WC w.heap.size b off w2.heap.size cs x y (.float .f32 0) (.float .f32 0) V := by
          have e1 := (bcell bV).1
          have e2 := (bcell bV).2
          have e3 := bV.size
          refine ⟨fun k hk => ?_, by rw [hV]; exact P3.new _ _ _ _ _, by omega, by omega, by omega, hb0, ?_, ?_, ?_, ?_, ?_, ?_, ?_, ?_⟩
          · obtain ⟨z, h1, h2⟩ := hN'.out k hk
            exact ⟨z, h1, by rw [e1 _ _ (by omega), (bcell bw).1 _ _ hb0]; exact h2⟩
          · rw [e1 _ _ (by omega)]; exact c0
          · rw [e1 _ _ (by omega)]; exact c1
          · rw [e1 _ _ (by omega)]; exact c2
          · rw [e1 _ _ (by omega)]; exact c3
          · rw [e1 _ _ (by omega)]; exact c4
          · rw [e2 _ _ (by omega)]; exact f0
          · rw [e2 _ _ (by omega)]; exact f1
          · rw [e2 _ _ (by omega)]; exact f2
        have bV := Lib.hid (bw.trans (bV.mono bw.size) : Below w.heap.size w V)
        rw [← hV]
        have hold := Lib.hid (And.intro hb2 (And.intro hV hs2))
        clear hV hb2 hs2 c0 c1 c2 c3 c4 f0 f1 f2 hI1
        obtain ⟨_, g0, g1, g2⟩ := KC.gr
        refine wp_region_cls (by kernel_rfl) (by kernel_rfl) (by kernel_rfl) (by kernel_rfl) (fun w' => Below V.heap.size V w') (below_drewN (Below.refl _ _) 1) [Eq1 ?q8536x3u0, AggIs (cs.getD 6 0) (cs.getD 7 0) (cs.getD 8 0), Eq1 ?q8536x3u2, FloatIs .f32 (rowW cs 2 x y), FloatIs .f32 (rowW cs 2 x y)] ?q8536x3main
        case q8536x3main =>
          (refine wpR_pure ?_ (fun w hw => ?_) ?_; rfl; (obtain ⟨hwc, hwf⟩ := bcell2 hw; go_simp; (try with_reducible rfl)); (try simp only [Act.put, List.setIfInBounds_toArray, List.set_cons_zero, List.set_cons_succ]))
          (refine wpR_cls ?_ (fun w hw => ?_) ?_; rfl; (go_simp; refine (warpRow2_any b off c cs _ (KC.below hw).nine (KC.below hw).blt).mono ?_; rintro _ _ ⟨_, _, _, rfl, hcb, hcr0, hcr1, hcr2⟩; exact ⟨_, rfl, ⟨_, _, _, rfl, hcr0, hcr1, hcr2⟩, Below.trans hw (hcb.mono hw.size)⟩); (rintro _ ⟨_, _, _, rfl, _, _, _⟩; (try simp only [Act.put, List.setIfInBounds_toArray, List.set_cons_zero, List.set_cons_succ])))
          (refine wpR_pure ?_ (fun w hw => ?_) ?_; rfl; (obtain ⟨hwc, hwf⟩ := bcell2 hw; go_simp; (try with_reducible rfl)); (try simp only [Act.put, List.setIfInBounds_toArray, List.set_cons_zero, List.set_cons_succ]))
          (refine wpR_cls ?_ (fun w hw => ?_) ?_; rfl; (go_simp; refine (inner_row _ (by assumption) (by assumption) (by assumption) lx ly).mono ?_; rintro _ _ ⟨_, rfl, hcb, hcr⟩; exact ⟨_, rfl, ⟨_, rfl, hcr⟩, Below.trans hw (hcb.mono hw.size)⟩); (rintro _ ⟨_, rfl, _⟩; (try simp only [Act.put, List.setIfInBounds_toArray, List.set_cons_zero, List.set_cons_succ])))
          (refine wpR_cls ?_ (fun w hw => ?_) ?_; rfl; (go_simp; first | exact ⟨_, rfl, by assumption⟩ | exact ⟨hw, _, rfl, by assumption⟩); (rintro _ ⟨_, rfl, _⟩; (try simp only [Act.put, List.setIfInBounds_toArray, List.set_cons_zero, List.set_cons_succ])))
          refine wpR_nil ?_
          intro w' hw'
          rename_i r10 q10
          have KC1 := KC.below hw'
          have bV1 := Lib.hid (bV.out.trans (hw'.mono bV.out.size))
          obtain ⟨V1, eV1⟩ : ∃ u, u = w' := ⟨_, rfl⟩
          subst eV1
          clear hw' g0 g1 g2
          go_wp2_with fail
          obtain ⟨_, g0, g1, g2⟩ := KC1.gr
          refine wp_region_cls_tail 6 (by kernel_rfl) (by kernel_rfl) (by rfl) (by kernel_rfl) (by kernel_rfl) (fun w' => Below V1.heap.size V1 w') (below_drewN (Below.refl _ _) 1) [Eq1 ?q462x3u0, AggIs (cs.getD 0 0) (cs.getD 1 0) (cs.getD 2 0), Eq1 ?q462x3u2, FloatIs .f32 (rowW cs 0 x y), Eq1 ?q462x3u4, FloatIs .f32 (ledU cs 0 x y)] ?q462x3main
          case q462x3main =>
            simp only [List.take_succ_cons, List.take_zero]
            (refine wpR_pure ?_ (fun w hw => ?_) ?_; rfl; (obtain ⟨hwc, hwf⟩ := bcell2 hw; go_simp; (try with_reducible rfl)); (try simp only [Act.put, List.setIfInBounds_toArray, List.set_cons_zero, List.set_cons_succ]))
            (refine wpR_cls ?_ (fun w hw => ?_) ?_; rfl; (go_simp; refine (warpRow0_any b off c cs _ (KC1.below hw).nine (KC1.below hw).blt).mono ?_; rintro _ _ ⟨_, _, _, rfl, hcb, hcr0, hcr1, hcr2⟩; exact ⟨_, rfl, ⟨_, _, _, rfl, hcr0, hcr1, hcr2⟩, Below.trans hw (hcb.mono hw.size)⟩); (rintro _ ⟨_, _, _, rfl, _, _, _⟩; (try simp only [Act.put, List.setIfInBounds_toArray, List.set_cons_zero, List.set_cons_succ])))
            (refine wpR_pure ?_ (fun w hw => ?_) ?_; rfl; (obtain ⟨hwc, hwf⟩ := bcell2 hw; go_simp; (try with_reducible rfl)); (try simp only [Act.put, List.setIfInBounds_toArray, List.set_cons_zero, List.set_cons_succ]))
            (refine wpR_cls ?_ (fun w hw => ?_) ?_; rfl; (go_simp; refine (inner_row _ (by assumption) (by assumption) (by assumption) lx ly).mono ?_; rintro _ _ ⟨_, rfl, hcb, hcr⟩; exact ⟨_, rfl, ⟨_, rfl, hcr⟩, Below.trans hw (hcb.mono hw.size)⟩); (rintro _ ⟨_, rfl, _⟩; (try simp only [Act.put, List.setIfInBounds_toArray, List.set_cons_zero, List.set_cons_succ])))
            (refine wpR_pure ?_ (fun w hw => ?_) ?_; rfl; (obtain ⟨hwc, hwf⟩ := bcell2 hw; go_simp; (try with_reducible rfl)); (try simp only [Act.put, List.setIfInBounds_toArray, List.set_cons_zero, List.set_cons_succ]))
            (refine wpR_cls ?_ (fun w hw => ?_) ?_; rfl; (go_simp; exact ⟨below_drewN hw _, _, rfl, Fl.flR (by assumption) (by assumption) _⟩); (rintro _ ⟨_, rfl, _⟩; (try simp only [Act.put, List.setIfInBounds_toArray, List.set_cons_zero, List.set_cons_succ])))
            refine wpR_nil ?_
            intro w' hw'
            rename_i r0 q0
            have KM := KC1.below hw'
            have k0 := KM.c6
            have k1 := KM.f6
            clear g0 g1 g2
            refine wpAny_last 6 _ (by kernel_rfl) rfl rfl (by kernel_rfl) fun K hK => ?_
            go_simp
            refine hK _ _ ?_
            obtain ⟨V2, eV2⟩ : ∃ u, u = w'.setCell ⟨w.heap.size, 0, none⟩ (.float .f32 r0) := ⟨_, rfl⟩
            have KC2 : WC w.heap.size b off w2.heap.size cs x y (.float .f32 r0) (.float .f32 0) V2 := by rw [eV2]; exact KM.set (.inl rfl) (World.cell?_setCell_same' _ _ _ (by rw [k0]; rfl)) (by rw [World.cell?_setCell_far _ _ _ _ (by simp)]; exact KM.c7)
            have bV2 := Lib.hid ((bV1.out.trans (hw'.mono bV1.out.size)).setCell (p := ⟨w.heap.size, 0, none⟩) (by simp) (.float .f32 r0))
            rw [← eV2] at bV2 ⊢
            clear eV2 hw' KM k0 k1
            go_wp2_with fail
            obtain ⟨_, g0, g1, g2⟩ := KC2.gr
            refine wp_region_cls_tail 6 (by kernel_rfl) (by kernel_rfl) (by rfl) (by kernel_rfl) (by kernel_rfl) (fun w' => Below V2.heap.size V2 w') (below_drewN (Below.refl _ _) 1) [Eq1 ?q2884x3u0, AggIs (cs.getD 3 0) (cs.getD 4 0) (cs.getD 5 0), Eq1 ?q2884x3u2, FloatIs .f32 (rowW cs 1 x y), Eq1 ?q2884x3u4, FloatIs .f32 (ledU cs 1 x y)] ?q2884x3main
            case q2884x3main =>
              simp only [List.take_succ_cons, List.take_zero]
              (refine wpR_pure ?_ (fun w hw => ?_) ?_; rfl; (obtain ⟨hwc, hwf⟩ := bcell2 hw; go_simp; (try with_reducible rfl)); (try simp only [Act.put, List.setIfInBounds_toArray, List.set_cons_zero, List.set_cons_succ]))
              (refine wpR_cls ?_ (fun w hw => ?_) ?_; rfl; (go_simp; refine (warpRow1_any b off c cs _ (KC2.below hw).nine (KC2.below hw).blt).mono ?_; rintro _ _ ⟨_, _, _, rfl, hcb, hcr0, hcr1, hcr2⟩; exact ⟨_, rfl, ⟨_, _, _, rfl, hcr0, hcr1, hcr2⟩, Below.trans hw (hcb.mono hw.size)⟩); (rintro _ ⟨_, _, _, rfl, _, _, _⟩; (try simp only [Act.put, List.setIfInBounds_toArray, List.set_cons_zero, List.set_cons_succ])))
              (refine wpR_pure ?_ (fun w hw => ?_) ?_; rfl; (obtain ⟨hwc, hwf⟩ := bcell2 hw; go_simp; (try with_reducible rfl)); (try simp only [Act.put, List.setIfInBounds_toArray, List.set_cons_zero, List.set_cons_succ]))
              (refine wpR_cls ?_ (fun w hw => ?_) ?_; rfl; (go_simp; refine (inner_row _ (by assumption) (by assumption) (by assumption) lx ly).mono ?_; rintro _ _ ⟨_, rfl, hcb, hcr⟩; exact ⟨_, rfl, ⟨_, rfl, hcr⟩, Below.trans hw (hcb.mono hw.size)⟩); (rintro _ ⟨_, rfl, _⟩; (try simp only [Act.put, List.setIfInBounds_toArray, List.set_cons_zero, List.set_cons_succ])))
              (refine wpR_pure ?_ (fun w hw => ?_) ?_; rfl; (obtain ⟨hwc, hwf⟩ := bcell2 hw; go_simp; (try with_reducible rfl)); (try simp only [Act.put, List.setIfInBounds_toArray, List.set_cons_zero, List.set_cons_succ]))
              (refine wpR_cls ?_ (fun w hw => ?_) ?_; rfl; (go_simp; exact ⟨below_drewN hw _, _, rfl, Fl.flR (by assumption) (by assumption) _⟩); (rintro _ ⟨_, rfl, _⟩; (try simp only [Act.put, List.setIfInBounds_toArray, List.set_cons_zero, List.set_cons_succ])))
              refine wpR_nil ?_
              intro w' hw'
              rename_i r1 q1
              have KM := KC2.below hw'
              have k0 := KM.c7
              have k1 := KM.f7
              clear g0 g1 g2
              refine wpAny_last 6 _ (by kernel_rfl) rfl rfl (by kernel_rfl) fun K hK => ?_
              go_simp
              refine hK _ _ ?_
              obtain ⟨V3, eV3⟩ : ∃ u, u = w'.setCell ⟨w.heap.size + 1, 0, none⟩ (.float .f32 r1) := ⟨_, rfl⟩
              have KC3 : WC w.heap.size b off w2.heap.size cs x y (.float .f32 r0) (.float .f32 r1) V3 := by rw [eV3]; exact KM.set (.inr rfl) (by rw [World.cell?_setCell_far _ _ _ _ (by simp)]; exact KM.c6) (World.cell?_setCell_same' _ _ _ (by rw [k0]; rfl))
              have bV3 := Lib.hid ((bV2.out.trans (hw'.mono bV2.out.size)).setCell (p := ⟨w.heap.size + 1, 0, none⟩) (by simp) (.float .f32 r1))
              rw [← eV3] at bV3 ⊢
              clear eV3 hw' KM k0 k1
              go_wp2_with fail
              have hF0 : ∀ w, Calls Try.prog 140 #[.float .f32 r0] w (RB true w) := fun w => by rw [← h2'.out]; exact caFin_fl q0 w
              have hF1 : ∀ w, Calls Try.prog 140 #[.float .f32 r1] w (RB true w) := fun w => by rw [← h3'.out]; exact caFin_fl q1 w
              have m6 := KC3.c6
              have m7 := KC3.c7
              have m8 := KC3.c8
              have mp0 := KC3.p0
              have mp1 := KC3.p1
              have n6 := KC3.f6
              have n7 := KC3.f7
              have n8 := KC3.f8
              have nl := KC3.lt
              have es6 := setCell_self m6
              have es7 := setCell_self m7
              refine wp_region_skip_tail 10 (by kernel_rfl) (by kernel_rfl) (by rfl) (by kernel_rfl) (by kernel_rfl) (fun w' => ∃ n, w' = V3.drewN n) ⟨1, rfl⟩ [some (Eq1 ?q1052u0), some (Eq1 ?q1052u1), some (Eq1 ?q1052u2), some (Eq1 (.bool true)), some (Eq1 ?q1052u4), some (Eq1 ?q1052u5), some (Eq1 (.bool true)), some (Eq1 ?q1052u7), some (Eq1 undef), some (Eq1 undef)] ?q1052main
              case q1052main =>
                simp only [List.take_succ_cons, List.take_zero]
                (refine wpS_pure ?_ (fun w hw => ?_) ?_; rfl; (obtain ⟨nn, rfl⟩ := hw; go_simp; (try with_reducible rfl)); (try simp only [Act.put, List.setIfInBounds_toArray, List.set_cons_zero, List.set_cons_succ]))
                (refine wpS_pure ?_ (fun w hw => ?_) ?_; rfl; (obtain ⟨nn, rfl⟩ := hw; go_simp; (try with_reducible rfl)); (try simp only [Act.put, List.setIfInBounds_toArray, List.set_cons_zero, List.set_cons_succ]))
                (refine wpS_pure ?_ (fun w hw => ?_) ?_; rfl; (obtain ⟨nn, rfl⟩ := hw; go_simp; (try with_reducible rfl)); (try simp only [Act.put, List.setIfInBounds_toArray, List.set_cons_zero, List.set_cons_succ]))
                (refine wpS_cls ?_ (fun w hw => ?_) ?_; rfl; (obtain ⟨nn, rfl⟩ := hw; go_simp; refine (hF0 _).mono ?_; rintro _ _ ⟨nm, rfl, rfl⟩; exact ⟨_, rfl, rfl, nn + nm, by simp⟩); (rintro _ rfl; (try simp only [Act.put, List.setIfInBounds_toArray, List.set_cons_zero, List.set_cons_succ])))
                (refine wpS_pure ?_ (fun w hw => ?_) ?_; rfl; (obtain ⟨nn, rfl⟩ := hw; go_simp; (try with_reducible rfl)); (try simp only [Act.put, List.setIfInBounds_toArray, List.set_cons_zero, List.set_cons_succ]))
                (refine wpS_pure ?_ (fun w hw => ?_) ?_; rfl; (obtain ⟨nn, rfl⟩ := hw; go_simp; (try with_reducible rfl)); (try simp only [Act.put, List.setIfInBounds_toArray, List.set_cons_zero, List.set_cons_succ]))
                (refine wpS_cls ?_ (fun w hw => ?_) ?_; rfl; (obtain ⟨nn, rfl⟩ := hw; go_simp; refine (hF1 _).mono ?_; rintro _ _ ⟨nm, rfl, rfl⟩; exact ⟨_, rfl, rfl, nn + nm, by simp⟩); (rintro _ rfl; (try simp only [Act.put, List.setIfInBounds_toArray, List.set_cons_zero, List.set_cons_succ])))
                (refine wpS_pure ?_ (fun w hw => ?_) ?_; rfl; (obtain ⟨nn, rfl⟩ := hw; go_simp; (try with_reducible rfl)); (try simp only [Act.put, List.setIfInBounds_toArray, List.set_cons_zero, List.set_cons_succ]))
                (refine wpS_cls ?_ (fun w hw => ?_) ?_; rfl; (obtain ⟨nn, rfl⟩ := hw; go_simp; first | exact ⟨⟨_, rfl⟩, rfl⟩ | exact ⟨_, rfl⟩ | rfl | skip); (rintro _ rfl; (try simp only [Act.put, List.setIfInBounds_toArray, List.set_cons_zero, List.set_cons_succ])))
                (refine wpS_cls ?_ (fun w hw => ?_) ?_; rfl; (obtain ⟨nn, rfl⟩ := hw; go_simp; first | exact ⟨⟨_, rfl⟩, rfl⟩ | exact ⟨_, rfl⟩ | rfl | skip); (rintro _ rfl; (try simp only [Act.put, List.setIfInBounds_toArray, List.set_cons_zero, List.set_cons_succ])))
                refine wpS_nil ?_
                rintro w' ⟨nn, rfl⟩
                refine wpAny_last 10 _ (by kernel_rfl) rfl rfl (by kernel_rfl) fun Kc hKc => ?_
                clear es6 es7
                go_simp
                refine hKc _ _ ?_
                go_wp2_with fail
                have bVX := bV3.out
                refine leaves_cons (f := 149) (args := #[.pointer (some ⟨w.heap.size + 1 + 1, 0, none⟩), .slice (some ⟨w.heap.size + 1 + 1 + 1, 0, none⟩) 2 2]) (by simp) (by simp [go_sem]) ?_
                refine (clearF_yes _ _ _ _ _ _ (by go_simp)).mono ?_
                rintro e u' w'' ⟨rfl, rfl, rfl⟩
                refine ⟨_, (by simp only [results, Try.results88]; go_simp; try rfl), r0, r1, rfl, ?_, q0, q1⟩
                ((repeat' (first | (refine bel_set ?_ ?_ _) | (refine bel_al ?_ ?_ _) | exact Below.refl _ _ | assumption | (refine below_drewN ?_ _) | (refine Below.drew ?_))) <;> (first | omega | (simp; done) | (simp; omega)))
end Go.Proofs.Ytnbilmlpngcobaa
