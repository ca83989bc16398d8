import Derived.Test.YtmbohiebjgafoaaTa
import Derived.Lib.MinMax
set_option linter.unusedVariables false
set_option linter.unusedSimpArgs false
namespace Go.FX
open Go Go.RowKit
def haloX (f r : Int) : Int := max (f - r) 0
def haloY (H f k r : Int) : Int := min (f + k + r) H - max (f - r) 0
end Go.FX
namespace Go.Proofs.Ytmbohiebjgafoaa
open Go.FX Go.RowKit Go.WideShapes Go.ChangeShapes

theorem taMax_any (x y : Int) (w : World) : Calls Try.prog 113 #[.int .i64 x, .int .i64 y] w fun e w' => e = .returned (.int .i64 (max y x)) ∧ w' = w := by
  by_cases h : y < x
  all_goals
    go_enter Try.func113, Try.ntmps113
    go_wp2
    go_ret
    exact ⟨ret_int (by omega), rfl⟩
theorem taMin_any (x y : Int) (w : World) : Calls Try.prog 114 #[.int .i64 x, .int .i64 y] w fun e w' => e = .returned (.int .i64 (min y x)) ∧ w' = w := by
  by_cases h : x < y
  all_goals
    go_enter Try.func114, Try.ntmps114
    go_wp2
    go_ret
    exact ⟨ret_int (by omega), rfl⟩

set_option maxHeartbeats 2000000 in
theorem specHalo0_any (H f k r : Int) (b : Nat) (w : World) (hp : Tv w b f k) (hH1 : 1 ≤ H) (hH2 : H ≤ 24) (h0 : 0 ≤ f) (h1 : 1 ≤ k) (h2 : k ≤ H - f) (h3 : 0 ≤ r) (h4 : r ≤ 3) :
    Calls Try.prog 73 #[.int .i64 H, .pointer (some ⟨b, 0, none⟩), .int .i64 r] w (RTile1 (haloX f r) (haloY H f k r) w) := by
  have hM : ∀ w1, Calls Try.prog 113 #[.int .i64 0, .int .i64 (f - r)] w1 fun e w' => e = .returned (.int .i64 (haloX f r)) ∧ w' = w1 := fun w1 => taMax_any 0 (f - r) w1
  obtain ⟨T, hT⟩ : ∃ T, T = min (f + k + r) H := ⟨_, rfl⟩
  have hN : ∀ w1, Calls Try.prog 114 #[.int .i64 H, .int .i64 (f + k + r)] w1 fun e w' => e = .returned (.int .i64 T) ∧ w' = w1 := fun w1 => by rw [hT]; exact taMin_any H (f + k + r) w1
  have hY : haloY H f k r = T - haloX f r := by rw [hT]; rfl
  rw [hY]
  have hxb : 0 ≤ haloX f r ∧ haloX f r ≤ 24 := by unfold haloX; omega
  have hTb : 0 ≤ T ∧ T ≤ 24 := by omega
  clear hY hT
  generalize haloX f r = X at *
  obtain ⟨hb, q0, q1⟩ := hp
  have m1 : IntKind.i64.wrap (f - r) = f - r := IntWalk.i64_in _ (by omega)
  have m2 : IntKind.i64.wrap (f + k) = f + k := IntWalk.i64_in _ (by omega)
  have m3 : IntKind.i64.wrap (f + k + r) = f + k + r := IntWalk.i64_in _ (by omega)
  have m4 : IntKind.i64.wrap (T - X) = T - X := IntWalk.i64_in _ (by omega)
  go_enter Try.func73, Try.ntmps73
  go_wp2_with fail
  refine (hM _).mono ?_
  rintro e w1 ⟨rfl, rfl⟩
  go_upto_region 2 with fail
  go_region_with ((go_at_call 114; refine (hN _).mono ?_; rintro e w1 ⟨rfl, rfl⟩))
  all_goals go_wp2_with fail
  all_goals refine bodyPost_ret (v := .agg #[.int .i64 X, .int .i64 (T - X)]) ?_ rfl ?_
  all_goals first
    | exact ⟨rfl, by ((repeat' (first | (refine bel_set ?_ ?_ _) | (refine bel_al ?_ ?_ _) | exact Below.refl _ _ | assumption | (refine below_drewN ?_ _) | (refine Below.drew ?_))) <;> (first | omega | (simp; done) | (simp; omega)))⟩
    | (simp [results, Try.results73, go_sem]; try rfl)

def halB (W H : Int) (n : Nat) (f k r : Int) : Bool := validB W H n && tileB H f k && reachB r
set_option maxHeartbeats 2000000 in
theorem implHalo_any (W H : Int) (a : Option Addr) (n c : Nat) (f k r : Int) (w : World) (hnc : n ≤ c) (hcm : c ≤ maxLen) (hf : f ≤ 9223372036854775807) (hok : halB W H n f k r = true) :
    Calls Try.prog 30 #[.agg #[.int .i64 W, .int .i64 H, .slice a n c], .agg #[.int .i64 f, .int .i64 k], .int .i64 r] w (RTile (haloX f r) (haloY H f k r) true w) := by
  have hT := fun w1 => implIsTile_any W H a n c f k w1 hnc hcm hf
  have hR := fun w1 => isReach_any r w1
  simp only [halB, Bool.and_eq_true] at hok
  obtain ⟨⟨hv, ht⟩, hr⟩ := hok
  rw [hv, ht] at hT
  rw [hr] at hR
  obtain ⟨wn, hn, rfl, rfl, b1, b2, b3, b4, b5, hl⟩ := validB_parts hv
  have ht' : 0 ≤ f ∧ 1 ≤ k ∧ k ≤ (hn : Int) - f := by simpa [tileB] using ht
  have hr' : 0 ≤ r ∧ r ≤ 3 := by simpa [reachB] using hr
  obtain ⟨h0, h1, h2⟩ := ht'
  obtain ⟨h3, h4⟩ := hr'
  clear hv ht hr hl
  have m1 : IntKind.i64.wrap (f - r) = f - r := IntWalk.i64_in _ (by omega)
  have m2 : IntKind.i64.wrap (f + k) = f + k := IntWalk.i64_in _ (by omega)
  have m3 : IntKind.i64.wrap (f + k + r) = f + k + r := IntWalk.i64_in _ (by omega)
  have m4 : IntKind.i64.wrap (min (f + k + r) (hn : Int) - max (f - r) 0) = min (f + k + r) (hn : Int) - max (f - r) 0 := IntWalk.i64_in _ (by omega)
  have ft : ∀ w1, Below (w.heap.size + 1 + 1 + 1) (((w.alloc (.cells #[.int .i64 wn, .int .i64 hn, .slice a n c] 46)).alloc (.cells #[.int .i64 f, .int .i64 k] 48)).alloc (.cells #[.int .i64 0, .int .i64 0] 48)) w1 →
      Pv w1 w.heap.size wn hn (.slice a n c) ∧ Tv w1 (w.heap.size + 1) f k ∧ Tv w1 (w.heap.size + 1 + 1) 0 0 ∧ w1.frozen? ⟨w.heap.size + 1 + 1, 0, none⟩ = false ∧ w1.frozen? ⟨w.heap.size + 1 + 1, 1, none⟩ = false := fun w1 hb => by
    obtain ⟨u, hu⟩ : ∃ u, u = w.alloc (.cells #[.int .i64 wn, .int .i64 hn, .slice a n c] 46) := ⟨_, rfl⟩
    have hP : Pv u w.heap.size wn hn (.slice a n c) := by rw [hu]; exact Pv.new _ _ _ _ _
    have hus : u.heap.size = w.heap.size + 1 := by rw [hu]; simp
    rw [← hu] at hb
    clear hu
    obtain ⟨u2, hu2⟩ : ∃ u2, u2 = u.alloc (.cells #[.int .i64 f, .int .i64 k] 48) := ⟨_, rfl⟩
    have hT : Tv u2 (w.heap.size + 1) f k := by have := Tv.new u f k 48; rw [hus] at this; rw [hu2]; exact this
    have hP2 : Pv u2 w.heap.size wn hn (.slice a n c) := by rw [hu2]; exact hP.alloc _
    have hus2 : u2.heap.size = w.heap.size + 1 + 1 := by rw [hu2]; simp [hus]
    rw [← hu2] at hb
    clear hu2
    have hb' : Below (u2.alloc (.cells #[.int .i64 0, .int .i64 0] 48)).heap.size (u2.alloc (.cells #[.int .i64 0, .int .i64 0] 48)) w1 := by simpa [hus2] using hb
    have h3 := Tv.new u2 0 0 48
    have z0 : (u2.alloc (.cells #[.int .i64 0, .int .i64 0] 48)).frozen? ⟨u2.heap.size, 0, none⟩ = false := by go_simp
    have z1 : (u2.alloc (.cells #[.int .i64 0, .int .i64 0] 48)).frozen? ⟨u2.heap.size, 1, none⟩ = false := by go_simp
    rw [hus2] at h3 z0 z1
    refine ⟨(hP2.alloc _).below hb', (hT.alloc _).below hb', h3.below hb', ?_, ?_⟩
    · rw [(bcell hb').2 _ _ h3.1]; exact z0
    · rw [(bcell hb').2 _ _ h3.1]; exact z1
  go_enter Try.func30, Try.ntmps30
  go_wp2_with fail
  refine (hT _).mono ?_
  rintro e w1 ⟨rfl, hb1⟩
  obtain ⟨⟨_, p0, p1, p2⟩, ⟨_, t0, t1⟩, ⟨hs, z0, z1⟩, f0, f1⟩ := ft w1 (by simpa using hb1)
  clear ft
  go_wp2_with fail
  refine (hR _).mono ?_
  rintro e w2 ⟨rfl, rfl⟩
  go_wp2_with fail
  refine bodyPost_ret (v := .tuple #[.agg #[.int .i64 (haloX f r), .int .i64 (haloY hn f k r)], .bool true]) ?_ rfl ?_
  · simp [results, Try.results30, go_sem, z0, z1, f0, f1, haloX, haloY]; try rfl
  · exact ⟨rfl, by ((repeat' (first | (refine bel_set ?_ ?_ _) | (refine bel_al ?_ ?_ _) | exact Below.refl _ _ | assumption | (refine below_drewN ?_ _) | (refine Below.drew ?_) | (refine Below.trans ?_ (Below.mono hb1 ?_)))) <;> (first | omega | (simp; done) | (simp; omega)))⟩

set_option maxHeartbeats 2000000 in
theorem implHalo_no (W H : Int) (a : Option Addr) (n c : Nat) (f k r : Int) (w : World) (hnc : n ≤ c) (hcm : c ≤ maxLen) (hf : f ≤ 9223372036854775807) (hok : halB W H n f k r = false) :
    Calls Try.prog 30 #[.agg #[.int .i64 W, .int .i64 H, .slice a n c], .agg #[.int .i64 f, .int .i64 k], .int .i64 r] w (RTile 0 0 false w) := by
  have hT := fun w1 => implIsTile_any W H a n c f k w1 hnc hcm hf
  have hR := fun w1 => isReach_any r w1
  obtain ⟨u2, hu2⟩ : ∃ u2, u2 = ((w.alloc (.cells #[.int .i64 W, .int .i64 H, .slice a n c] 46)).alloc (.cells #[.int .i64 f, .int .i64 k] 48)).alloc (.cells #[.int .i64 0, .int .i64 0] 48) := ⟨_, rfl⟩
  have hZ : Tv u2 (w.heap.size + 1 + 1) 0 0 ∧ u2.frozen? ⟨w.heap.size + 1 + 1, 0, none⟩ = false ∧ u2.frozen? ⟨w.heap.size + 1 + 1, 1, none⟩ = false := by
    have h := Tv.new ((w.alloc (.cells #[.int .i64 W, .int .i64 H, .slice a n c] 46)).alloc (.cells #[.int .i64 f, .int .i64 k] 48)) 0 0 48
    simp only [World.size_alloc] at h
    rw [hu2]; refine ⟨h, ?_, ?_⟩ <;> go_simp
  have hP : Pv u2 w.heap.size W H (.slice a n c) := by rw [hu2]; exact ((Pv.new _ _ _ _ _).alloc _).alloc _
  have hTv : Tv u2 (w.heap.size + 1) f k := by
    have h := (Tv.new (w.alloc (.cells #[.int .i64 W, .int .i64 H, .slice a n c] 46)) f k 48).alloc (.cells #[.int .i64 0, .int .i64 0] 48)
    simp only [World.size_alloc] at h
    rw [hu2]; exact h
  have hb0 : Below w.heap.size w u2 := by rw [hu2]; exact below3 _ _ _ _
  obtain ⟨_, p0, p1, p2⟩ := id hP
  obtain ⟨_, t0, t1⟩ := id hTv
  cases hc : validB W H n && tileB H f k with
  | false =>
    rw [hc] at hT
    clear hok hc
    go_enter Try.func30, Try.ntmps30
    go_upto_region 1 with fail
    rw [← hu2]
    clear hu2
    have hl := hZ.1.1
    go_wp2_with fail
    refine (hT _).mono ?_
    rintro e w1 ⟨rfl, hb1⟩
    obtain ⟨hl1, z0, z1⟩ := hZ.1.below hb1
    have f0 : w1.frozen? ⟨w.heap.size + 1 + 1, 0, none⟩ = false := by rw [(bcell hb1).2 _ _ hl]; exact hZ.2.1
    have f1 : w1.frozen? ⟨w.heap.size + 1 + 1, 1, none⟩ = false := by rw [(bcell hb1).2 _ _ hl]; exact hZ.2.2
    go_wp2_with fail
    refine bodyPost_ret (v := .tuple #[.agg #[.int .i64 0, .int .i64 0], .bool false]) ?_ rfl ?_
    · simp [results, Try.results30, go_sem, z0, z1, f0, f1]; try rfl
    · exact ⟨rfl, by ((repeat' (first | (refine bel_set ?_ ?_ _) | (refine bel_al ?_ ?_ _) | exact Below.refl _ _ | assumption | (refine below_drewN ?_ _) | (refine Below.drew ?_) | (refine Below.trans ?_ (Below.mono hb1 ?_)) | (refine Below.trans ?_ (Below.mono hb0 ?_)))) <;> (first | omega | (simp; done) | (simp; omega)))⟩
  | true =>
    rw [hc] at hT
    have hr : reachB r = false := by simpa [halB, hc] using hok
    rw [hr] at hR
    clear hok hc hr
    go_enter Try.func30, Try.ntmps30
    go_upto_region 1 with fail
    rw [← hu2]
    clear hu2
    have hl := hZ.1.1
    go_wp2_with fail
    refine (hT _).mono ?_
    rintro e w1 ⟨rfl, hb1⟩
    obtain ⟨hl1, z0, z1⟩ := hZ.1.below hb1
    have f0 : w1.frozen? ⟨w.heap.size + 1 + 1, 0, none⟩ = false := by rw [(bcell hb1).2 _ _ hl]; exact hZ.2.1
    have f1 : w1.frozen? ⟨w.heap.size + 1 + 1, 1, none⟩ = false := by rw [(bcell hb1).2 _ _ hl]; exact hZ.2.2
    go_wp2_with fail
    refine (hR _).mono ?_
    rintro e w2 ⟨rfl, rfl⟩
    go_wp2_with fail
    refine bodyPost_ret (v := .tuple #[.agg #[.int .i64 0, .int .i64 0], .bool false]) ?_ rfl ?_
    · simp [results, Try.results30, go_sem, z0, z1, f0, f1]; try rfl
    · exact ⟨rfl, by ((repeat' (first | (refine bel_set ?_ ?_ _) | (refine bel_al ?_ ?_ _) | exact Below.refl _ _ | assumption | (refine below_drewN ?_ _) | (refine Below.drew ?_) | (refine Below.trans ?_ (Below.mono hb1 ?_)) | (refine Below.trans ?_ (Below.mono hb0 ?_)))) <;> (first | omega | (simp; done) | (simp; omega)))⟩

set_option maxHeartbeats 2000000 in
theorem specHalo_any (W H : Int) (a : Option Addr) (n c : Nat) (f k r : Int) (w : World) (hnc : n ≤ c) (hcm : c ≤ maxLen) (hf : -9223372036854775808 ≤ f ∧ f ≤ 9223372036854775807) (hok : halB W H n f k r = true) :
    Calls Try.prog 29 #[.agg #[.int .i64 W, .int .i64 H, .slice a n c], .agg #[.int .i64 f, .int .i64 k], .int .i64 r] w (RTile (haloX f r) (haloY H f k r) true w) := by
  simp only [halB, Bool.and_eq_true] at hok
  obtain ⟨⟨hv, ht⟩, hr⟩ := hok
  have hI := fun w1 hp => specIs_any W H a n c w.heap.size w1 hp (by unfold maxLen at hcm; omega)
  rw [hv] at hI
  have hR := fun w1 => taIn_any r 0 3 w1
  rw [show decide (0 ≤ r ∧ r ≤ 3) = true from hr] at hR
  obtain ⟨wn, hn, rfl, rfl, b1, b2, b3, b4, b5, hl⟩ := validB_parts hv
  have hT := fun w1 hp => specTile_any hn f k (w.heap.size + 1) w1 hp (by omega) (by omega) hf
  rw [ht] at hT
  have ht' : 0 ≤ f ∧ 1 ≤ k ∧ k ≤ (hn : Int) - f := by simpa [tileB] using ht
  have hr' : 0 ≤ r ∧ r ≤ 3 := by simpa [reachB] using hr
  obtain ⟨h0, h1, h2⟩ := ht'
  obtain ⟨h3, h4⟩ := hr'
  have hH := fun w1 hp => specHalo0_any hn f k r (w.heap.size + 1) w1 hp (by omega) (by omega) h0 h1 h2 h3 h4
  clear hv ht hr hl
  obtain ⟨u2, hu2⟩ : ∃ u2, u2 = ((w.alloc (.cells #[.int .i64 wn, .int .i64 hn, .slice a n c] 46)).alloc (.cells #[.int .i64 f, .int .i64 k] 48)).alloc (.cells #[.int .i64 0, .int .i64 0] 48) := ⟨_, rfl⟩
  have hZ : Tv u2 (w.heap.size + 1 + 1) 0 0 ∧ u2.frozen? ⟨w.heap.size + 1 + 1, 0, none⟩ = false ∧ u2.frozen? ⟨w.heap.size + 1 + 1, 1, none⟩ = false := by
    have h := Tv.new ((w.alloc (.cells #[.int .i64 wn, .int .i64 hn, .slice a n c] 46)).alloc (.cells #[.int .i64 f, .int .i64 k] 48)) 0 0 48
    simp only [World.size_alloc] at h
    rw [hu2]; refine ⟨h, ?_, ?_⟩ <;> go_simp
  have hP : Pv u2 w.heap.size wn hn (.slice a n c) := by rw [hu2]; exact ((Pv.new _ _ _ _ _).alloc _).alloc _
  have hTv : Tv u2 (w.heap.size + 1) f k := by
    have h := (Tv.new (w.alloc (.cells #[.int .i64 wn, .int .i64 hn, .slice a n c] 46)) f k 48).alloc (.cells #[.int .i64 0, .int .i64 0] 48)
    simp only [World.size_alloc] at h
    rw [hu2]; exact h
  have hb0 : Below w.heap.size w u2 := by rw [hu2]; exact below3 _ _ _ _
  go_enter Try.func29, Try.ntmps29
  go_upto_region 1 with fail
  rw [← hu2]
  clear hu2
  obtain ⟨_, p0, p1, p2⟩ := id hP
  have hl := hZ.1.1
  go_wp2_with fail
  refine (hI _ hP).mono ?_
  rintro e w1 ⟨k1, rfl, rfl⟩
  go_wp2_with fail
  refine (hT _ (hTv.drewN _)).mono ?_
  rintro e w1 ⟨k2, rfl, rfl⟩
  go_wp2_with fail
  refine (hR _).mono ?_
  rintro e w1 ⟨rfl, rfl⟩
  go_wp2_with fail
  refine (hH _ (hTv.drewN _)).mono ?_
  rintro e w1 ⟨rfl, hb1'⟩
  have hb1 : Below u2.heap.size u2 w1 := (below_drewN (Below.refl _ _) _).trans hb1'
  obtain ⟨hl1, z0, z1⟩ := hZ.1.below hb1
  have f0 : w1.frozen? ⟨w.heap.size + 1 + 1, 0, none⟩ = false := by rw [(bcell hb1).2 _ _ hl]; exact hZ.2.1
  have f1 : w1.frozen? ⟨w.heap.size + 1 + 1, 1, none⟩ = false := by rw [(bcell hb1).2 _ _ hl]; exact hZ.2.2
  go_wp2_with fail
  refine bodyPost_ret (v := .tuple #[.agg #[.int .i64 (haloX f r), .int .i64 (haloY hn f k r)], .bool true]) ?_ rfl ?_
  · simp [results, Try.results29, go_sem, z0, z1, f0, f1]; try rfl
  · exact ⟨rfl, by ((repeat' (first | (refine bel_set ?_ ?_ _) | (refine bel_al ?_ ?_ _) | exact Below.refl _ _ | assumption | (refine below_drewN ?_ _) | (refine Below.drew ?_) | (refine Below.trans ?_ (Below.mono hb1 ?_)) | (refine Below.trans ?_ (Below.mono hb0 ?_)))) <;> (first | omega | (simp; done) | (simp; omega)))⟩

set_option maxHeartbeats 2000000 in
theorem specHalo_no (W H : Int) (a : Option Addr) (n c : Nat) (f k r : Int) (w : World) (hnc : n ≤ c) (hcm : c ≤ maxLen) (hf : -9223372036854775808 ≤ f ∧ f ≤ 9223372036854775807) (hok : halB W H n f k r = false) :
    Calls Try.prog 29 #[.agg #[.int .i64 W, .int .i64 H, .slice a n c], .agg #[.int .i64 f, .int .i64 k], .int .i64 r] w (RTile 0 0 false w) := by
  have hI := fun w1 hp => specIs_any W H a n c w.heap.size w1 hp (by unfold maxLen at hcm; omega)
  have hR := fun w1 => taIn_any r 0 3 w1
  rw [show decide (0 ≤ r ∧ r ≤ 3) = reachB r from rfl] at hR
  obtain ⟨u2, hu2⟩ : ∃ u2, u2 = ((w.alloc (.cells #[.int .i64 W, .int .i64 H, .slice a n c] 46)).alloc (.cells #[.int .i64 f, .int .i64 k] 48)).alloc (.cells #[.int .i64 0, .int .i64 0] 48) := ⟨_, rfl⟩
  have hZ : Tv u2 (w.heap.size + 1 + 1) 0 0 ∧ u2.frozen? ⟨w.heap.size + 1 + 1, 0, none⟩ = false ∧ u2.frozen? ⟨w.heap.size + 1 + 1, 1, none⟩ = false := by
    have h := Tv.new ((w.alloc (.cells #[.int .i64 W, .int .i64 H, .slice a n c] 46)).alloc (.cells #[.int .i64 f, .int .i64 k] 48)) 0 0 48
    simp only [World.size_alloc] at h
    rw [hu2]; refine ⟨h, ?_, ?_⟩ <;> go_simp
  have hP : Pv u2 w.heap.size W H (.slice a n c) := by rw [hu2]; exact ((Pv.new _ _ _ _ _).alloc _).alloc _
  have hTv : Tv u2 (w.heap.size + 1) f k := by
    have h := (Tv.new (w.alloc (.cells #[.int .i64 W, .int .i64 H, .slice a n c] 46)) f k 48).alloc (.cells #[.int .i64 0, .int .i64 0] 48)
    simp only [World.size_alloc] at h
    rw [hu2]; exact h
  have hb0 : Below w.heap.size w u2 := by rw [hu2]; exact below3 _ _ _ _
  obtain ⟨_, p0, p1, p2⟩ := id hP
  obtain ⟨hl1, z0, z1⟩ := id hZ.1
  have f0 := hZ.2.1
  have f1 := hZ.2.2
  cases hv : validB W H n with
  | false =>
    rw [hv] at hI
    clear hok hv
    go_enter Try.func29, Try.ntmps29
    go_upto_region 1 with fail
    rw [← hu2]
    clear hu2
    go_wp2_with fail
    refine (hI _ hP).mono ?_
    rintro e w1 ⟨k1, rfl, rfl⟩
    go_wp2_with fail
    refine bodyPost_ret (v := .tuple #[.agg #[.int .i64 0, .int .i64 0], .bool false]) ?_ rfl ?_
    · simp [results, Try.results29, go_sem, z0, z1, f0, f1]; try rfl
    · exact ⟨rfl, by ((repeat' (first | (refine bel_set ?_ ?_ _) | (refine bel_al ?_ ?_ _) | exact Below.refl _ _ | assumption | (refine below_drewN ?_ _) | (refine Below.drew ?_) | (refine Below.trans ?_ (Below.mono hb0 ?_)))) <;> (first | omega | (simp; done) | (simp; omega)))⟩
  | true =>
    rw [hv] at hI
    obtain ⟨wn, hn, rfl, rfl, b1, b2, b3, b4, b5, hl⟩ := validB_parts hv
    have hT := fun w1 hp => specTile_any hn f k (w.heap.size + 1) w1 hp (by omega) (by omega) hf
    cases ht : tileB hn f k with
    | false =>
      rw [ht] at hT
      clear hok hv hl
      go_enter Try.func29, Try.ntmps29
      go_upto_region 1 with fail
      rw [← hu2]
      clear hu2
      go_wp2_with fail
      refine (hI _ hP).mono ?_
      rintro e w1 ⟨k1, rfl, rfl⟩
      go_wp2_with fail
      refine (hT _ (hTv.drewN _)).mono ?_
      rintro e w1 ⟨k2, rfl, rfl⟩
      go_wp2_with fail
      refine bodyPost_ret (v := .tuple #[.agg #[.int .i64 0, .int .i64 0], .bool false]) ?_ rfl ?_
      · simp [results, Try.results29, go_sem, z0, z1, f0, f1]; try rfl
      · exact ⟨rfl, by ((repeat' (first | (refine bel_set ?_ ?_ _) | (refine bel_al ?_ ?_ _) | exact Below.refl _ _ | assumption | (refine below_drewN ?_ _) | (refine Below.drew ?_) | (refine Below.trans ?_ (Below.mono hb0 ?_)))) <;> (first | omega | (simp; done) | (simp; omega)))⟩
    | true =>
      rw [ht] at hT
      have hr : reachB r = false := by simpa [halB, hv, ht] using hok
      rw [hr] at hR
      clear hok hv hl hr
      go_enter Try.func29, Try.ntmps29
      go_upto_region 1 with fail
      rw [← hu2]
      clear hu2
      go_wp2_with fail
      refine (hI _ hP).mono ?_
      rintro e w1 ⟨k1, rfl, rfl⟩
      go_wp2_with fail
      refine (hT _ (hTv.drewN _)).mono ?_
      rintro e w1 ⟨k2, rfl, rfl⟩
      go_wp2_with fail
      refine (hR _).mono ?_
      rintro e w1 ⟨rfl, rfl⟩
      go_wp2_with fail
      refine bodyPost_ret (v := .tuple #[.agg #[.int .i64 0, .int .i64 0], .bool false]) ?_ rfl ?_
      · simp [results, Try.results29, go_sem, z0, z1, f0, f1]; try rfl
      · exact ⟨rfl, by ((repeat' (first | (refine bel_set ?_ ?_ _) | (refine bel_al ?_ ?_ _) | exact Below.refl _ _ | assumption | (refine below_drewN ?_ _) | (refine Below.drew ?_) | (refine Below.trans ?_ (Below.mono hb0 ?_)))) <;> (first | omega | (simp; done) | (simp; omega)))⟩

theorem pairIsTile (W H : Int) (cs : List Nat) (f k : Int) (hf : (Lit.int .i64 f).wf = true) :
    ∃ ok : Bool, (∀ a n c w, FC w (.slice a n c) cs → Calls Try.prog 24 #[.agg #[.int .i64 W, .int .i64 H, .slice a n c], .agg #[.int .i64 f, .int .i64 k]] w (RBb ok w)) ∧
      (∀ a n c w, FC w (.slice a n c) cs → Calls Try.prog 27 #[.agg #[.int .i64 W, .int .i64 H, .slice a n c], .agg #[.int .i64 f, .int .i64 k]] w (RBb ok w)) := by
  refine ⟨validB W H cs.length && tileB H f k, fun a n c w hv => ?_, fun a n c w hv => ?_⟩
  · obtain ⟨rfl, h1, h2⟩ := hv.sized
    exact specIsTile_any W H a _ c f k w h1 h2 (wf64 hf)
  · obtain ⟨rfl, h1, h2⟩ := hv.sized
    exact implIsTile_any W H a _ c f k w h1 h2 (wf64 hf).2
theorem pairHaloOf (W H : Int) (cs : List Nat) (f k r : Int) (hf : (Lit.int .i64 f).wf = true) :
    ∃ (x y : Int) (ok : Bool), (∀ a n c w, FC w (.slice a n c) cs → Calls Try.prog 29 #[.agg #[.int .i64 W, .int .i64 H, .slice a n c], .agg #[.int .i64 f, .int .i64 k], .int .i64 r] w (RTile x y ok w)) ∧
      (∀ a n c w, FC w (.slice a n c) cs → Calls Try.prog 30 #[.agg #[.int .i64 W, .int .i64 H, .slice a n c], .agg #[.int .i64 f, .int .i64 k], .int .i64 r] w (RTile x y ok w)) := by
  cases hb : halB W H cs.length f k r with
  | true =>
    refine ⟨haloX f r, haloY H f k r, true, fun a n c w hv => ?_, fun a n c w hv => ?_⟩
    · obtain ⟨rfl, h1, h2⟩ := hv.sized
      exact specHalo_any W H a _ c f k r w h1 h2 (wf64 hf) hb
    · obtain ⟨rfl, h1, h2⟩ := hv.sized
      exact implHalo_any W H a _ c f k r w h1 h2 (wf64 hf).2 hb
  | false =>
    refine ⟨0, 0, false, fun a n c w hv => ?_, fun a n c w hv => ?_⟩
    · obtain ⟨rfl, h1, h2⟩ := hv.sized
      exact specHalo_no W H a _ c f k r w h1 h2 (wf64 hf) hb
    · obtain ⟨rfl, h1, h2⟩ := hv.sized
      exact implHalo_no W H a _ c f k r w h1 h2 (wf64 hf).2 hb
end Go.Proofs.Ytmbohiebjgafoaa
