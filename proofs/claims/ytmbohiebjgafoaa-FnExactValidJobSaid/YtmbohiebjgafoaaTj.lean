import Derived.Test.YtmbohiebjgafoaaRpa
import Derived.Test.YtmbohiebjgafoaaTa
set_option linter.unusedVariables false
set_option linter.unusedSimpArgs false
namespace Go.FX
open Go Go.RowKit
theorem array6 {α : Type} {cs : Array α} (h : cs.size = 6) : ∃ c0 c1 c2 c3 c4 c5, cs = #[c0, c1, c2, c3, c4, c5] := by
  obtain ⟨l⟩ := cs
  match l, h with
  | [c0, c1, c2, c3, c4, c5], _ => exact ⟨c0, c1, c2, c3, c4, c5, rfl⟩
/-! Jobs: a block of six cells. -/
def J6 (w : World) (b : Nat) (k r d : Int) (s : Bool) (x y : Nat) : Prop := b < w.heap.size ∧ w.cell? ⟨b, 0, none⟩ = some (.int .i64 k) ∧ w.cell? ⟨b, 1, none⟩ = some (.int .i64 r) ∧ w.cell? ⟨b, 2, none⟩ = some (.int .i64 d) ∧ w.cell? ⟨b, 3, none⟩ = some (.bool s) ∧ w.cell? ⟨b, 4, none⟩ = some (.float .f32 x) ∧ w.cell? ⟨b, 5, none⟩ = some (.float .f32 y)
theorem J6.below {w w' : World} {b : Nat} {k r d : Int} {s : Bool} {x y : Nat} (h : J6 w b k r d s x y) (hb : Below w.heap.size w w') : J6 w' b k r d s x y := by
  obtain ⟨h0, h1, h2, h3, h4, h5, h6⟩ := h
  have hc := (bcell hb).1
  exact ⟨Nat.lt_of_lt_of_le h0 hb.size, by rw [hc _ _ h0]; exact h1, by rw [hc _ _ h0]; exact h2, by rw [hc _ _ h0]; exact h3, by rw [hc _ _ h0]; exact h4, by rw [hc _ _ h0]; exact h5, by rw [hc _ _ h0]; exact h6⟩
theorem J6.new (w : World) (k r d : Int) (s : Bool) (x y : Nat) (T : TypeId) : J6 (w.alloc (.cells #[.int .i64 k, .int .i64 r, .int .i64 d, .bool s, .float .f32 x, .float .f32 y] T)) w.heap.size k r d s x y := by
  refine ⟨by simp, ?_, ?_, ?_, ?_, ?_, ?_⟩ <;> go_simp
def jobB (k r d : Int) (x y : Nat) : Bool := decide (0 ≤ k ∧ k ≤ 1) && reachB r && deepB d && okPB x y
end Go.FX
namespace Go.Proofs.Ytmbohiebjgafoaa
open Go.FX Go.RowKit Go.WideShapes Go.ChangeShapes

/-- A job by value, opened. -/
theorem job_of {H : Type} {enc : TypeId × Value → H} {P : Program} {w : World} {base : Nat} {spare : Nat → Bool} {held : Bool} {rr : Reach} {b0 : Nat} {t : TypeId} {f0 f1 f2 f3 f4 g0 g1 : Field} {v : Value} {d : DataW H} {p : List MemPlace}
    (hs : P.underlying t = some (.struct #[f0, f1, f2, f3, f4])) (hC : P.cellsOf t = 6) (ho : #[f0, f1, f2, f3, f4].map (fun f => (f.offset, P.cellsOf f.type)) = #[(0, 1), (1, 1), (2, 1), (3, 1), (4, 2)]) (h4s : P.underlying f4.type = some (.struct #[g0, g1])) (hg : #[g0, g1].map (fun f => (f.offset, P.cellsOf f.type)) = #[(0, 1), (1, 1)])
    (e0 : P.underlying f0.type = some (.int .i64)) (e1 : P.underlying f1.type = some (.int .i64)) (e2 : P.underlying f2.type = some (.int .i64)) (e3 : P.underlying f3.type = some .bool) (e4 : P.underlying g0.type = some (.float .f32)) (e5 : P.underlying g1.type = some (.float .f32))
    (hv : Value.okWide P w rr b0 t v) (h : DataW.Trod enc P w base spare held t v d p) :
    ∃ (k r dd : Int) (s : Bool) (x y : Nat), v = .agg #[.int .i64 k, .int .i64 r, .int .i64 dd, .bool s, .float .f32 x, .float .f32 y] ∧ (Lit.int .i64 k).wf = true ∧ (Lit.int .i64 r).wf = true ∧ (Lit.int .i64 dd).wf = true ∧ x < width .f32 ∧ y < width .f32 := by
  obtain ⟨cs, rfl, hsz⟩ := okWide_struct hs hv
  obtain ⟨c0, c1, c2, c3, c4, c5, rfl⟩ := array6 (hsz.trans hC)
  obtain ⟨fuel, hf⟩ := h
  obtain ⟨xs, n, _, hx, hl, hlen, hff⟩ := DataW.trod_struct hs hf
  simp only [List.map_toArray, List.map_cons, List.map_nil, Array.mk.injEq, List.cons.injEq, Prod.mk.injEq, and_true] at ho hg
  obtain ⟨⟨o0, k0⟩, ⟨o1, k1⟩, ⟨o2, k2⟩, ⟨o3, k3⟩, ⟨o4, k4⟩⟩ := ho
  obtain ⟨⟨p0, q0⟩, ⟨p1, q1⟩⟩ := hg
  have hx5 : ∃ y0 y1 y2 y3 y4, xs = [y0, y1, y2, y3, y4] := by
    match xs, hlen with
    | [y0, y1, y2, y3, y4], _ => exact ⟨y0, y1, y2, y3, y4, rfl⟩
  obtain ⟨y0, y1, y2, y3, y4, rfl⟩ := hx5
  have t0 := hff 0 f0 rfl
  have t1 := hff 1 f1 rfl
  have t2 := hff 2 f2 rfl
  have t3 := hff 3 f3 rfl
  have t4 := hff 4 f4 rfl
  simp only [o0, k0, o1, k1, o2, k2, o3, k3, o4, k4, Value.cells, List.drop_zero, List.drop_succ_cons, List.take_succ_cons, List.take_zero, List.getElem?_cons_zero, List.getElem?_cons_succ] at t0 t1 t2 t3 t4
  obtain ⟨k, ek, _, wk⟩ := DataW.trod_int e0 t0
  obtain ⟨r, er, _, wr⟩ := DataW.trod_int e1 t1
  obtain ⟨dd, ed, _, wd⟩ := DataW.trod_int e2 t2
  obtain ⟨s, es, _⟩ := DataW.trod_bool e3 t3
  obtain ⟨z0, z1, n2, _, _, u0, u1⟩ := trod_struct2 h4s t4
  simp only [p0, q0, p1, q1, List.drop_zero, List.drop_succ_cons, List.take_succ_cons, List.take_zero] at u0 u1
  obtain ⟨x, ex, _, wx⟩ := trod_float e4 u0
  obtain ⟨y, ey, _, wy⟩ := trod_float e5 u1
  simp only [List.cons.injEq, and_true] at ek er ed es ex ey
  subst ek; subst er; subst ed; subst es; subst ex; subst ey
  exact ⟨k, r, dd, s, x, y, rfl, wk, wr, wd, lt32 wx, lt32 wy⟩

set_option maxHeartbeats 1000000 in
theorem toJob_any (k r d : Int) (s : Bool) (x y : Nat) (w : World) : Calls Try.prog 16 #[.agg #[.int .i64 k, .int .i64 r, .int .i64 d, .bool s, .float .f32 x, .float .f32 y]] w fun e w' => e = .returned (.agg #[.int .i64 k, .int .i64 r, .int .i64 d, .bool s, .float .f32 x, .float .f32 y]) ∧ Below w.heap.size w w' := by
  have h1 := fun w1 => toPrices_any x y w1
  go_enter Try.func16, Try.ntmps16
  go_wp2_with fail
  obtain ⟨u1, hu1⟩ : ∃ u, u = w.alloc (.cells #[.int .i64 k, .int .i64 r, .int .i64 d, .bool s, .float .f32 x, .float .f32 y] 26) := ⟨_, rfl⟩
  have z1 : u1.heap.size = w.heap.size + 1 := by rw [hu1]; simp
  have b1 : Below w.heap.size w u1 := by rw [hu1]; exact below1 _ _
  rw [← hu1]
  clear hu1
  obtain ⟨u2, hu2⟩ : ∃ u, u = u1.alloc (.cells #[.int .i64 0, .int .i64 0, .int .i64 0, .bool false, .float .f32 0, .float .f32 0] 30) := ⟨_, rfl⟩
  have z2 : u2.heap.size = w.heap.size + 1 + 1 := by rw [hu2]; simp [z1]
  have J2 : J6 u2 (w.heap.size + 1) 0 0 0 false 0 0 := by have h := J6.new u1 0 0 0 false 0 0 30; rw [z1] at h; rw [hu2]; exact h
  have F2 : ∀ o, u2.frozen? ⟨w.heap.size + 1, o, none⟩ = false := fun o => by rw [hu2, ← z1]; go_simp
  have b2 : Below w.heap.size w u2 := by rw [hu2]; exact b1.alloc (by omega) _
  rw [← hu2]
  clear hu2
  obtain ⟨u3, hu3⟩ : ∃ u, u = u2.alloc (.cells #[.int .i64 k, .int .i64 r, .int .i64 d, .bool s, .float .f32 0, .float .f32 0] 30) := ⟨_, rfl⟩
  have z3 : u3.heap.size = w.heap.size + 1 + 1 + 1 := by rw [hu3]; simp [z2]
  have J3 : J6 u3 (w.heap.size + 1 + 1) k r d s 0 0 := by have h := J6.new u2 k r d s 0 0 30; rw [z2] at h; rw [hu3]; exact h
  have F3 : ∀ o, u3.frozen? ⟨w.heap.size + 1 + 1, o, none⟩ = false := fun o => by rw [hu3, ← z2]; go_simp
  have J2' : J6 u3 (w.heap.size + 1) 0 0 0 false 0 0 := by rw [hu3]; exact J2.below (below1 _ _)
  have F2' : ∀ o, u3.frozen? ⟨w.heap.size + 1, o, none⟩ = false := fun o => by rw [hu3, (bcell (below1 u2 _)).2 _ _ (by omega)]; exact F2 o
  have b3 : Below w.heap.size w u3 := by rw [hu3]; exact b2.alloc (by omega) _
  rw [← hu3]
  clear hu3 J2 F2 b1 b2
  refine (h1 _).mono ?_
  rintro e w1 ⟨rfl, hb1⟩
  obtain ⟨_, c0, c1, c2, c3, c4, c5⟩ := J3.below hb1
  obtain ⟨_, d0, d1, d2, d3, d4, d5⟩ := J2'.below hb1
  have f3 : ∀ o, w1.frozen? ⟨w.heap.size + 1 + 1, o, none⟩ = false := fun o => by rw [(bcell hb1).2 _ _ (by omega)]; exact F3 o
  have f2 : ∀ o, w1.frozen? ⟨w.heap.size + 1, o, none⟩ = false := fun o => by rw [(bcell hb1).2 _ _ (by omega)]; exact F2' o
  have hz1 := hb1.size
  have hbb := Lib.hid (And.intro b3 hb1)
  clear J3 J2' F3 F2' b3 hb1 z1 z2
  go_wp2_with fail
  refine bodyPost_ret (v := ?v) ?hr rfl ?post
  case hr => (simp [results, Try.results16, go_sem, c0, c1, c2, c3, c4, c5, d0, d1, d2, d3, d4, d5, f2, f3]; try rfl)
  case post =>
    have b3 := hbb.out.1
    have hb1 := hbb.out.2
    exact ⟨rfl, by ((repeat' (first | (refine bel_set ?_ ?_ _) | (refine bel_al ?_ ?_ _) | exact Below.refl _ _ | assumption | (refine below_drewN ?_ _) | (refine Below.drew ?_) | (refine Below.trans ?_ (Below.mono hb1 ?_)))) <;> (first | omega | (simp; done) | (simp; omega)))⟩

set_option maxHeartbeats 1000000 in
theorem specPrIs4_any (x y b : Nat) (w : World) (p0 : w.cell? ⟨b, 4, none⟩ = some (.float .f32 x)) (p1 : w.cell? ⟨b, 5, none⟩ = some (.float .f32 y)) : Calls Try.prog 110 #[.pointer (some ⟨b, 4, none⟩)] w (RB (okPB x y) w) := by
  cases h1 : isF .f32 x with
  | false =>
    have h1' := Lib.hid h1
    have h2' := h1'
    clear h1
    go_enter Try.func110, Try.ntmps110
    go_wp2_with fail
    go_quiet ((go_at_call 131; exact Calls.quiet_of ((specFinite_any _ _).mono fun _ _ ⟨m, he, hw⟩ => ⟨he.trans (by first | rw [h1'.out] | rw [h2'.out]), m, hw⟩)))
    go_wp2
    go_ret
    exact ⟨_, by unfold okPB; rw [h1'.out]; rfl, rfl⟩
  | true =>
    have h1' := Lib.hid h1
    clear h1
    cases h2 : isF .f32 y with
    | false =>
      have h2' := Lib.hid h2
      clear h2
      go_enter Try.func110, Try.ntmps110
      go_wp2_with fail
      go_quiet ((go_at_call 131; exact Calls.quiet_of ((specFinite_any _ _).mono fun _ _ ⟨m, he, hw⟩ => ⟨he.trans (by first | rw [h1'.out] | rw [h2'.out]), m, hw⟩)))
      go_wp2
      go_ret
      exact ⟨_, by unfold okPB; rw [h1'.out, h2'.out]; rfl, rfl⟩
    | true =>
      have h2' := Lib.hid h2
      clear h2
      cases h3 : ge0 x with
      | false =>
        have h3' := Lib.hid h3
        unfold ge0 at h3
        go_enter Try.func110, Try.ntmps110
        go_wp2_with fail
        go_quiet ((go_at_call 131; exact Calls.quiet_of ((specFinite_any _ _).mono fun _ _ ⟨m, he, hw⟩ => ⟨he.trans (by first | rw [h1'.out] | rw [h2'.out]), m, hw⟩)))
        go_wp2
        go_ret
        exact ⟨_, by unfold okPB; rw [h1'.out, h2'.out, h3'.out]; rfl, rfl⟩
      | true =>
        have h3' := Lib.hid h3
        unfold ge0 at h3
        go_enter Try.func110, Try.ntmps110
        go_wp2_with fail
        go_quiet ((go_at_call 131; exact Calls.quiet_of ((specFinite_any _ _).mono fun _ _ ⟨m, he, hw⟩ => ⟨he.trans (by first | rw [h1'.out] | rw [h2'.out]), m, hw⟩)))
        go_wp2
        go_ret
        exact ⟨_, by unfold okPB; rw [h1'.out, h2'.out, h3'.out]; rfl, rfl⟩

set_option maxHeartbeats 1000000 in
theorem specJobIs_any (k r d : Int) (s : Bool) (x y b : Nat) (w : World) (hp : J6 w b k r d s x y) : Calls Try.prog 58 #[.pointer (some ⟨b, 0, none⟩)] w (RB (jobB k r d x y) w) := by
  obtain ⟨l0, c0, c1, c2, c3, c4, c5⟩ := hp
  have hK := fun w1 => taIn_any k 0 1 w1
  have hR := fun w1 => taIn_any r 0 3 w1
  have hD := fun w1 => taIn_any d 1 8 w1
  have hP := fun w1 p0 p1 => specPrIs4_any x y b w1 p0 p1
  rw [show decide (0 ≤ r ∧ r ≤ 3) = reachB r from rfl] at hR
  rw [show decide (1 ≤ d ∧ d ≤ 8) = deepB d from rfl] at hD
  unfold jobB
  generalize decide (0 ≤ k ∧ k ≤ 1) = bk at *
  generalize reachB r = br at *
  generalize deepB d = bd at *
  generalize okPB x y = bp at *
  cases bk with
  | false =>
    go_enter Try.func58, Try.ntmps58
    go_wp2_with fail
    refine (hK _).mono ?_
    rintro e w1 ⟨rfl, rfl⟩
    go_wp2_with fail
    go_ret
    exact ⟨0, rfl, rfl⟩
  | true =>
    cases br with
    | false =>
      go_enter Try.func58, Try.ntmps58
      go_wp2_with fail
      refine (hK _).mono ?_
      rintro e w1 ⟨rfl, rfl⟩
      go_wp2_with fail
      refine (hR _).mono ?_
      rintro e w1 ⟨rfl, rfl⟩
      go_wp2_with fail
      go_ret
      exact ⟨0, rfl, rfl⟩
    | true =>
      cases bd with
      | false =>
        go_enter Try.func58, Try.ntmps58
        go_wp2_with fail
        refine (hK _).mono ?_
        rintro e w1 ⟨rfl, rfl⟩
        go_wp2_with fail
        refine (hR _).mono ?_
        rintro e w1 ⟨rfl, rfl⟩
        go_wp2_with fail
        refine (hD _).mono ?_
        rintro e w1 ⟨rfl, rfl⟩
        go_wp2_with fail
        go_ret
        exact ⟨0, rfl, rfl⟩
      | true =>
        go_enter Try.func58, Try.ntmps58
        go_wp2_with fail
        refine (hK _).mono ?_
        rintro e w1 ⟨rfl, rfl⟩
        go_wp2_with fail
        refine (hR _).mono ?_
        rintro e w1 ⟨rfl, rfl⟩
        go_wp2_with fail
        refine (hD _).mono ?_
        rintro e w1 ⟨rfl, rfl⟩
        go_wp2_with fail
        refine (hP _ c4 c5).mono ?_
        rintro e w1 ⟨m, rfl, rfl⟩
        go_wp2_with fail
        go_ret
        exact ⟨m, rfl, rfl⟩

set_option maxHeartbeats 1000000 in
theorem specValidJob_any (k r d : Int) (s : Bool) (x y : Nat) (w : World) : Calls Try.prog 15 #[.agg #[.int .i64 k, .int .i64 r, .int .i64 d, .bool s, .float .f32 x, .float .f32 y]] w (RBb (jobB k r d x y) w) := by
  have h1 := fun w1 hp => specJobIs_any k r d s x y w.heap.size w1 hp
  go_enter Try.func15, Try.ntmps15
  go_wp2_with fail
  refine (h1 _ (J6.new _ _ _ _ _ _ _ _)).mono ?_
  rintro e w1 ⟨m, rfl, rfl⟩
  go_wp2_with fail
  go_ret
  exact ⟨rfl, by ((repeat' (first | (refine bel_set ?_ ?_ _) | (refine bel_al ?_ ?_ _) | exact Below.refl _ _ | assumption | (refine below_drewN ?_ _) | (refine Below.drew ?_))) <;> (first | omega | (simp; done) | (simp; omega)))⟩

set_option maxHeartbeats 2000000 in
theorem implValidJob_any (k r d : Int) (s : Bool) (x y : Nat) (w : World) : Calls Try.prog 17 #[.agg #[.int .i64 k, .int .i64 r, .int .i64 d, .bool s, .float .f32 x, .float .f32 y]] w (RBb (jobB k r d x y) w) := by
  have hR := fun w1 => isReach_any r w1
  have hD := fun w1 => isDeep_any d w1
  have hP := fun w1 => validPr_any x y w1
  have hkb : decide (0 ≤ k ∧ k ≤ 1) = (decide (k = 0) || decide (k = 1)) := by
    rw [Bool.eq_iff_iff]; simp; omega
  unfold jobB
  rw [hkb]
  clear hkb
  generalize reachB r = br at *
  generalize deepB d = bd at *
  generalize okPB x y = bp at *
  by_cases h0 : k = 0
  · subst h0
    cases br with
    | false =>
      go_enter Try.func17, Try.ntmps17
      go_wp2_with fail
      refine (hR _).mono ?_
      rintro e w0 ⟨rfl, rfl⟩
      go_wp2_with fail
      go_ret
      exact ⟨rfl, by ((repeat' (first | (refine bel_set ?_ ?_ _) | (refine bel_al ?_ ?_ _) | exact Below.refl _ _ | assumption | (refine below_drewN ?_ _) | (refine Below.drew ?_))) <;> (first | omega | (simp; done) | (simp; omega)))⟩
    | true =>
      cases bd with
      | false =>
        go_enter Try.func17, Try.ntmps17
        go_wp2_with fail
        refine (hR _).mono ?_
        rintro e w0 ⟨rfl, rfl⟩
        go_wp2_with fail
        refine (hD _).mono ?_
        rintro e w0 ⟨rfl, rfl⟩
        go_wp2_with fail
        go_ret
        exact ⟨rfl, by ((repeat' (first | (refine bel_set ?_ ?_ _) | (refine bel_al ?_ ?_ _) | exact Below.refl _ _ | assumption | (refine below_drewN ?_ _) | (refine Below.drew ?_))) <;> (first | omega | (simp; done) | (simp; omega)))⟩
      | true =>
        have J := J6.new w 0 r d s x y 30
        obtain ⟨_, c0, c1, c2, c3, c4, c5⟩ := J
        go_enter Try.func17, Try.ntmps17
        go_wp2_with fail
        refine (hR _).mono ?_
        rintro e w0 ⟨rfl, rfl⟩
        go_wp2_with fail
        refine (hD _).mono ?_
        rintro e w0 ⟨rfl, rfl⟩
        go_wp2_with fail
        refine (hP _).mono ?_
        rintro e w1 ⟨rfl, hb1⟩
        go_wp2_with fail
        go_ret
        exact ⟨rfl, by ((repeat' (first | (refine bel_set ?_ ?_ _) | (refine bel_al ?_ ?_ _) | exact Below.refl _ _ | assumption | (refine below_drewN ?_ _) | (refine Below.drew ?_) | (refine Below.trans ?_ (Below.mono hb1 ?_)))) <;> (first | omega | (simp; done) | (simp; omega)))⟩
  · by_cases h1 : k = 1
    · subst h1
      cases br with
      | false =>
        go_enter Try.func17, Try.ntmps17
        go_wp2_with fail
        refine (hR _).mono ?_
        rintro e w0 ⟨rfl, rfl⟩
        go_wp2_with fail
        go_ret
        exact ⟨rfl, by ((repeat' (first | (refine bel_set ?_ ?_ _) | (refine bel_al ?_ ?_ _) | exact Below.refl _ _ | assumption | (refine below_drewN ?_ _) | (refine Below.drew ?_))) <;> (first | omega | (simp; done) | (simp; omega)))⟩
      | true =>
        cases bd with
        | false =>
          go_enter Try.func17, Try.ntmps17
          go_wp2_with fail
          refine (hR _).mono ?_
          rintro e w0 ⟨rfl, rfl⟩
          go_wp2_with fail
          refine (hD _).mono ?_
          rintro e w0 ⟨rfl, rfl⟩
          go_wp2_with fail
          go_ret
          exact ⟨rfl, by ((repeat' (first | (refine bel_set ?_ ?_ _) | (refine bel_al ?_ ?_ _) | exact Below.refl _ _ | assumption | (refine below_drewN ?_ _) | (refine Below.drew ?_))) <;> (first | omega | (simp; done) | (simp; omega)))⟩
        | true =>
          have J := J6.new w 1 r d s x y 30
          obtain ⟨_, c0, c1, c2, c3, c4, c5⟩ := J
          go_enter Try.func17, Try.ntmps17
          go_wp2_with fail
          refine (hR _).mono ?_
          rintro e w0 ⟨rfl, rfl⟩
          go_wp2_with fail
          refine (hD _).mono ?_
          rintro e w0 ⟨rfl, rfl⟩
          go_wp2_with fail
          refine (hP _).mono ?_
          rintro e w1 ⟨rfl, hb1⟩
          go_wp2_with fail
          go_ret
          exact ⟨rfl, by ((repeat' (first | (refine bel_set ?_ ?_ _) | (refine bel_al ?_ ?_ _) | exact Below.refl _ _ | assumption | (refine below_drewN ?_ _) | (refine Below.drew ?_) | (refine Below.trans ?_ (Below.mono hb1 ?_)))) <;> (first | omega | (simp; done) | (simp; omega)))⟩
    · have e0 : (k == 0) = false := by simp [h0]
      have e1 : (k == 1) = false := by simp [h1]
      have e2 : decide (k = 0) = false := by simp [h0]
      have e3 : decide (k = 1) = false := by simp [h1]
      rw [e2, e3]
      go_enter Try.func17, Try.ntmps17
      go_wp2_with fail
      go_ret
      exact ⟨rfl, by ((repeat' (first | (refine bel_set ?_ ?_ _) | (refine bel_al ?_ ?_ _) | exact Below.refl _ _ | assumption | (refine below_drewN ?_ _) | (refine Below.drew ?_))) <;> (first | omega | (simp; done) | (simp; omega)))⟩
theorem pairValidJob (k r d : Int) (s : Bool) (x y : Nat) : ∃ ok : Bool, (∀ w, Calls Try.prog 15 #[.agg #[.int .i64 k, .int .i64 r, .int .i64 d, .bool s, .float .f32 x, .float .f32 y]] w (RBb ok w)) ∧
    (∀ w, Calls Try.prog 17 #[.agg #[.int .i64 k, .int .i64 r, .int .i64 d, .bool s, .float .f32 x, .float .f32 y]] w (RBb ok w)) := ⟨jobB k r d x y, fun w => specValidJob_any k r d s x y w, fun w => implValidJob_any k r d s x y w⟩
end Go.Proofs.Ytmbohiebjgafoaa
