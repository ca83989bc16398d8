import Derived.Test.YtbiobmdibiplfaaWa
import Derived.Test.YtbiobmdibiplfaaWp
import Derived.Test.YtbiobmdibiplfaaVl
import Derived.Deep.DrawnRows
set_option linter.unusedVariables false
set_option linter.unusedSimpArgs false
namespace Go.Proofs.Ytbiobmdibiplfaa
open Go.FX Go.RowKit Go.WideShapes Go.ChangeShapes
attribute [local go_sem ↓] Go.wp_at_zero Go.wp_at_succ

def warpF (W H : Nat) (cs : List Nat) (R S : Nat) (rs : List Nat) (x y : Int) : Nat := if idxB (placeI (atC W H cs x y)) 25 = true then atC R S rs (x - placeI (atC W H cs x y)) y else 0
theorem isShown_any (n : Int) (w : World) : Calls Try.prog 120 #[.int .i64 n] w fun e w' => e = .returned (.bool (idxB n 25)) ∧ w = w' := by
  go_enter Try.func120, Try.ntmps120
  go_wp2_with fail
  refine (isIndex_any _ _ _).mono ?_
  rintro e w' ⟨rfl, rfl⟩
  go_wp2_with fail
  go_ret
  exact ⟨rfl, rfl⟩
set_option maxHeartbeats 2000000 in
theorem warp_fn (W H : Nat) (a : Option Addr) (n c : Nat) (cs : List Nat) (R S : Nat) (a' : Option Addr) (n' c' : Nat) (rs : List Nat) (bp bq : Nat) (w : World) (hv : FC w (.slice a n c) cs) (hp : Pv w bp W H (.slice a n c)) (hv' : FC w (.slice a' n' c') rs) (hp' : Pv w bq R S (.slice a' n' c')) (b1 : 1 ≤ W) (b2 : W ≤ 24) (b3 : 1 ≤ H) (b4 : H ≤ 24) (hl : cs.length = H * W) (r1 : 1 ≤ R) (r2 : R ≤ 24) (r3 : 1 ≤ S) (r4 : S ≤ 24) (hl' : rs.length = S * R) :
    GreyFn Try.prog 150 #[] #[.pointer (some ⟨bp, 0, none⟩), .pointer (some ⟨bq, 0, none⟩)] W H (warpF W H cs R S rs) w := fun w1 x y hb hx hy => by
  have hat := fun w2 (h : Below w1.heap.size w1 w2) => about_any W H (.slice a n c) cs x y w2 ((hv.below hb).below h) b1 b2 b3 b4 hl (by omega) (by omega) (by omega) (by omega)
  obtain ⟨g1, e1⟩ : ∃ g, g = atC W H cs x y := ⟨_, rfl⟩
  obtain ⟨P, eP⟩ : ∃ P, P = placeI g1 := ⟨_, rfl⟩
  have hat' := fun w2 (h : Below w1.heap.size w1 w2) (hlo : 0 ≤ P) (hhi : P < 25) => about_any R S (.slice a' n' c') rs ((x : Int) - P) y w2 ((hv'.below hb).below h) r1 r2 r3 r4 hl' (by omega) (by omega) (by omega) (by omega)
  have hE : Hid (warpF W H cs R S rs x y = if idxB P 25 = true then atC R S rs ((x : Int) - P) y else 0) := Lib.hid (by unfold warpF; rw [← e1, ← eP])
  rw [← e1] at hat
  have eP' := Lib.hid eP
  have hP := hp.below hb
  have hQ := hp'.below hb
  clear hv hp hv' hp' hl hl' hb e1 eP
  obtain ⟨l0, p0, p1, p2⟩ := id hP
  show Calls Try.prog 150 #[.int .i64 x, .int .i64 y, .pointer (some ⟨bp, 0, none⟩), .pointer (some ⟨bq, 0, none⟩)] w1 _
  cases hS : idxB P 25 with
  | false =>
    have hS' := Lib.hid hS
    clear hS hat'
    go_enter Try.func150, Try.ntmps150
    go_wp2_with fail
    refine (hat _ (Below.refl _ _)).mono ?_
    rintro e w2 ⟨r, rfl, hb2, hr⟩
    have hpl := Lib.hid ((placeI_fl hr).trans eP'.out.symm)
    go_wp2_with fail
    refine (placeOf_any _ _).mono ?_
    rintro e w3 ⟨n3, rfl, rfl⟩
    rw [hpl.out]
    go_wp2_with fail
    refine (isShown_any _ _).mono ?_
    rintro e w' ⟨rfl, rfl⟩
    rw [hS'.out]
    go_wp2_with fail
    go_ret
    exact ⟨_, rfl, below_drewN hb2 _, by rw [hE.out, hS'.out]; exact fl0⟩
  | true =>
    have hS' := Lib.hid hS
    have hlo : 0 ≤ P ∧ P < 25 := by unfold idxB at hS; simpa using hS
    obtain ⟨hlo, hhi⟩ := hlo
    clear hS
    go_enter Try.func150, Try.ntmps150
    go_wp2_with fail
    refine (hat _ (Below.refl _ _)).mono ?_
    rintro e w2 ⟨r, rfl, hb2, hr⟩
    have hpl := Lib.hid ((placeI_fl hr).trans eP'.out.symm)
    obtain ⟨l2, q0, q1, q2⟩ := hQ.below hb2
    go_wp2_with fail
    refine (placeOf_any _ _).mono ?_
    rintro e w3 ⟨n3, rfl, rfl⟩
    rw [hpl.out]
    go_wp2_with fail
    refine (isShown_any _ _).mono ?_
    rintro e w' ⟨rfl, rfl⟩
    rw [hS'.out]
    go_wp2_with fail
    refine (hat' _ (below_drewN hb2 _) hlo hhi).mono ?_
    rintro e w4 ⟨r4, rfl, hb4, hr4⟩
    go_wp2_with fail
    go_ret
    exact ⟨_, rfl, (below_drewN hb2 n3).trans (hb4.mono (by simpa using hb2.size)), by rw [hE.out, hS'.out]; exact hr4⟩
set_option maxHeartbeats 2000000 in
theorem implWarpPicture_of (R S : Int) (a' : Option Addr) (n' c' : Nat) (W H : Int) (a : Option Addr) (n c : Nat) (hnc' : n' ≤ c') (hcm' : c' ≤ maxLen) (W' H' : Int) (cs' : List Nat) (ok : Bool) (w : World) (hval : validB R S n' = true)
    (h : ∀ w1 b, Below w.heap.size w w1 → Pv w1 b W H (.slice a n c) → Pv w1 w.heap.size R S (.slice a' n' c') → Calls Try.prog 149 #[.agg #[.int .i64 W, .int .i64 H, .slice a n c], .int .i64 W, .int .i64 H, .func (.func 150) #[] #[.pointer (some ⟨b, 0, none⟩), .pointer (some ⟨w.heap.size, 0, none⟩)]] w1 (RPic 49 W' H' cs' ok w1)) :
    Calls Try.prog 119 #[.agg #[.int .i64 R, .int .i64 S, .slice a' n' c'], .agg #[.int .i64 W, .int .i64 H, .slice a n c]] w (RPic 49 W' H' cs' ok w) := by
  have h1 := fun w1 => validPic_any R S (.slice a' n' c') n' w1 ⟨a', c', rfl, hnc', hcm'⟩
  have hval := Lib.hid hval
  have hP := ((Pv.new w R S (.slice a' n' c') 27).alloc (.cells #[.int .i64 W, .int .i64 H, .slice a n c] 34)).alloc (.cells #[.int .i64 0, .int .i64 0, .slice none 0 0] 27)
  have hQ := (Pv.new (w.alloc (.cells #[.int .i64 R, .int .i64 S, .slice a' n' c'] 27)) W H (.slice a n c) 34).alloc (.cells #[.int .i64 0, .int .i64 0, .slice none 0 0] 27)
  have hN := Nv.new ((w.alloc (.cells #[.int .i64 R, .int .i64 S, .slice a' n' c'] 27)).alloc (.cells #[.int .i64 W, .int .i64 H, .slice a n c] 34)) (.int .i64 0) (.int .i64 0) (.slice none 0 0) 27
  simp only [World.size_alloc] at hQ hN
  go_enter Try.func119, Try.ntmps119
  go_wp2_with fail
  obtain ⟨w0, hw0⟩ : ∃ w0, w0 = (((w.alloc (.cells #[.int .i64 R, .int .i64 S, .slice a' n' c'] 27)).alloc (.cells #[.int .i64 W, .int .i64 H, .slice a n c] 34)).alloc (.cells #[.int .i64 0, .int .i64 0, .slice none 0 0] 27)) := ⟨_, rfl⟩
  have hb0 : Below w.heap.size w w0 := by rw [hw0]; exact below3 _ _ _ _
  rw [← hw0] at hP hQ hN ⊢
  clear hw0
  refine (h1 _).mono ?_
  rintro e w1 ⟨rfl, hb1⟩
  rw [hval.out]
  have hP1 := hP.below hb1
  have hQ1 := hQ.below hb1
  have hN1 := hN.below hb1
  have hbW := hb0.trans (hb1.mono hb0.size)
  obtain ⟨l2, q0, q1, q2⟩ := id hQ1
  go_wp2_with fail
  refine (mapPic_any _ _ _ _ _ _).mono ?_
  rintro e w2 ⟨rfl, hb2⟩
  have hP2 := hP1.below hb2
  have hQ2 := hQ1.below hb2
  have hN2 := hN1.below hb2
  have hbV := hbW.trans (hb2.mono hbW.size)
  have hbX : Below w.heap.size w (w2.alloc (.cells #[.int .i64 W, .int .i64 H, .slice a n c] 27)) := hbV.alloc hbV.size _
  have hd := h _ w2.heap.size hbX (Pv.new _ _ _ _ _) (hP2.alloc _)
  have hN3 := hN2.alloc (.cells #[.int .i64 W, .int .i64 H, .slice a n c] 27)
  clear q0 q1 q2
  obtain ⟨l3, q0, q1, q2⟩ := id hQ2
  go_wp2_with fail
  refine hd.mono ?_
  rintro e w3 ⟨a3, n3, c3, rfl, hb3, ho3⟩
  have hb3' : Below w.heap.size w w3 := hbX.trans (hb3.mono hbX.size)
  obtain ⟨l4, r0, r1, r2, rf⟩ := hN3.below hb3
  have sX := hbX.size
  go_wp2_with fail
  refine bodyPost_ret (v := ?v) ?hr rfl ?post
  case hr => (simp [results, Try.results119, go_sem, r0, r1, r2, rf]; try rfl)
  case post =>
    have s0 := hb0.size
    have l5 := hN2.1
    have hz := hN.1
    refine ⟨_, _, _, rfl, ?_, ?_⟩
    · exact bel_set (bel_set (bel_set hb3' (by simp; omega) _) (by simp; omega) _) (by simp; omega) _
    · exact OC.mono (OC.set (OC.set (OC.set ho3 _ (by simp; omega)) _ (by simp; omega)) _ (by simp; omega)) sX
theorem implWarpPicture_any (R S : Nat) (a' : Option Addr) (n' c' : Nat) (rs : List Nat) (W H : Nat) (a : Option Addr) (n c : Nat) (cs : List Nat) (w : World) (hv' : FC w (.slice a' n' c') rs) (hv : FC w (.slice a n c) cs) (r1 : 1 ≤ R) (r2 : R ≤ 24) (r3 : 1 ≤ S) (r4 : S ≤ 24) (r5 : S * R ≤ 256) (hl' : rs.length = S * R) (b1 : 1 ≤ W) (b2 : W ≤ 24) (b3 : 1 ≤ H) (b4 : H ≤ 24) (b5 : H * W ≤ 256) (hl : cs.length = H * W) :
    Calls Try.prog 119 #[.agg #[.int .i64 R, .int .i64 S, .slice a' n' c'], .agg #[.int .i64 W, .int .i64 H, .slice a n c]] w (RPic 49 W H (gridL W (warpF W H cs R S rs) (H * W)) true w) := by
  obtain ⟨rfl, hnc, hcm⟩ := hv.sized
  obtain ⟨rfl, hnc', hcm'⟩ := hv'.sized
  refine implWarpPicture_of _ _ _ _ _ _ _ _ _ _ hnc' hcm' _ _ _ _ w (validB_mk r1 r2 r3 r4 r5 hl') fun w1 b hb hp hp' => ?_
  exact drawFrom_any W H a cs.length c (validB_mk b1 b2 b3 b4 b5 hl) hnc hcm W H b1 b2 b3 b4 b5 _ _ _ _ w1 (enters_of Try.func150 (by kernel_rfl) rfl) (warp_fn W H a _ c cs R S a' _ c' rs b _ w1 (hv.below hb) hp (hv'.below hb) hp' b1 b2 b3 b4 hl r1 r2 r3 r4 hl')
theorem implWarpPicture_no (R S : Int) (a' : Option Addr) (n' c' : Nat) (W H : Int) (a : Option Addr) (n c : Nat) (w : World) (hnc' : n' ≤ c') (hcm' : c' ≤ maxLen) (hnc : n ≤ c) (hcm : c ≤ maxLen) (hval : validB R S n' = false ∨ validB W H n = false) :
    Calls Try.prog 119 #[.agg #[.int .i64 R, .int .i64 S, .slice a' n' c'], .agg #[.int .i64 W, .int .i64 H, .slice a n c]] w (RPic 49 0 0 [] false w) := by
  cases hr : validB R S n' with
  | true =>
    have hm : validB W H n = false := by rcases hval with h | h; · rw [h] at hr; cases hr
                                         · exact h
    exact implWarpPicture_of _ _ _ _ _ _ _ _ _ _ hnc' hcm' _ _ _ _ w hr fun w1 b hb hp hp' => drawFrom_no W H a n c hnc hcm W H (.inl hm) _ _ _ w1
  | false =>
    have h1 := fun w1 => validPic_any R S (.slice a' n' c') n' w1 ⟨a', c', rfl, hnc', hcm'⟩
    have hr' := Lib.hid hr
    clear hr hval
    go_enter Try.func119, Try.ntmps119
    go_wp2_with fail
    refine (h1 _).mono ?_
    rintro e w1 ⟨rfl, hb1⟩
    rw [hr'.out]
    obtain ⟨l1, q0, q1, q2, qf⟩ := (Nv.new _ _ _ _ _).below hb1
    have s1 := hb1.size
    simp only [World.size_alloc] at l1 q0 q1 q2 qf s1
    go_wp2_with fail
    refine bodyPost_ret (v := ?v1) ?hr1 rfl ?post1
    case hr1 => (simp [results, Try.results119, go_sem, q0, q1, q2, qf]; try rfl)
    case post1 => exact ⟨_, _, _, rfl, by ((repeat' (first | (refine bel_set ?_ ?_ _) | (refine bel_al ?_ ?_ _) | exact Below.refl _ _ | assumption | (refine below_drewN ?_ _) | (refine Below.drew ?_) | (refine Below.trans ?_ (Below.mono hb1 ?_)))) <;> (first | omega | (simp; done) | (simp; omega))), OC.nil _ _ _⟩
def warpI (W : Nat) (cs : List Nat) (R S : Nat) (rs : List Nat) (i : Nat) : Nat := if idxB (placeI (cs.getD i 0)) 25 = true then atC R S rs (((i % W : Nat) : Int) - placeI (cs.getD i 0)) ((i / W : Nat) : Int) else 0
theorem warp_cells (W H : Nat) (cs : List Nat) (R S : Nat) (rs : List Nat) (b1 : 1 ≤ W) (hl : cs.length = H * W) : gridL W (warpF W H cs R S rs) (H * W) = seqL (warpI W cs R S rs) cs.length := by
  rw [gridL_seq, hl]
  exact seqL_congr fun i hi => by unfold warpF warpI; rw [atC_lin cs b1 hi]
set_option maxRecDepth 100000 in
set_option maxHeartbeats 8000000 in
theorem specWarp_any (R S : Nat) (a' : Option Addr) (n' c' bq : Nat) (rs : List Nat) (W H : Nat) (a0 : Option Addr) (n0 c0 bp : Nat) (cs : List Nat) (w : World) (hq : Pv w bq R S (.slice a' n' c')) (hv' : FC w (.slice a' n' c') rs) (hp : Pv w bp W H (.slice a0 n0 c0)) (hv : FC w (.slice a0 n0 c0) cs) (r1 : 1 ≤ R) (r2 : R ≤ 24) (r3 : 1 ≤ S) (r4 : S ≤ 24) (hl' : rs.length = S * R) (b1 : 1 ≤ W) (b2 : W ≤ 24) (b3 : 1 ≤ H) (b4 : H ≤ 24) (b5 : H * W ≤ 256) (hl : cs.length = H * W) :
    Calls Try.prog 116 #[.pointer (some ⟨bq, 0, none⟩), .pointer (some ⟨bp, 0, none⟩)] w (RPic1 49 W H (gridL W (warpF W H cs R S rs) (H * W)) w) := by
  obtain ⟨i0, hi, hz0, hz1, hz2⟩ := info_parts info_f32
  obtain ⟨rfl, hnc, hcm⟩ := hv.sized
  rw [warp_cells W H cs R S rs b1 hl]
  have h256 : cs.length ≤ 256 := by omega
  have hll := Lib.hid hl
  have hlr := Lib.hid hl'
  clear hl hl'
  go_enter Try.func116, Try.ntmps116
  go_upto_region 1 with fail
  obtain ⟨w0, hw0⟩ : ∃ w0, w0 = w.alloc (.cells #[.int .i64 0, .int .i64 0, .slice none 0 0] 27) := ⟨_, rfl⟩
  rw [← hw0]
  have hp0 : Pv w0 bp W H (.slice a0 cs.length c0) := by rw [hw0]; exact hp.alloc _
  have hv0 : FC w0 (.slice a0 cs.length c0) cs := by rw [hw0]; exact hv.alloc _
  have hq0 : Pv w0 bq R S (.slice a' n' c') := by rw [hw0]; exact hq.alloc _
  have hv0' : FC w0 (.slice a' n' c') rs := by rw [hw0]; exact hv'.alloc _
  have hn0 : Nv w0 w.heap.size (.int .i64 0) (.int .i64 0) (.slice none 0 0) := by rw [hw0]; exact Nv.new _ _ _ _ _
  have hb0 : Below w.heap.size w w0 := by rw [hw0]; exact below1 _ _
  have hlt0 : w.heap.size < w0.heap.size := hn0.1
  clear hw0 hp hv hq hv'
  obtain ⟨hp1, p0, p1, p2⟩ := id hp0
  have hpv := Lib.hid (And.intro hp0 (And.intro hv0 (And.intro hn0 (And.intro hq0 (And.intro hv0' hb0)))))
  clear hp0 hv0 hn0 hb0 hq0 hv0'
  go_region_held3 (fun w' => Below w0.heap.size w0 w' ∧ w0.heap.size ≤ w'.heap.size ∧ (∀ b o, b < w0.heap.size → w'.cell? ⟨b, o, none⟩ = w0.cell? ⟨b, o, none⟩)) (first | exact keepStart _ | assumption | exact ⟨by assumption, by assumption, by assumption⟩ | exact keepCall (by assumption) (by assumption) | exact keepAlloc (by assumption) | (refine keepSet ?_ (keepSet ?_ (keepSet ?_ (keepSet ?_ ?_))) <;> first | assumption | omega | (simp; done) | (simp; omega)) | (refine keepSet ?_ (keepSet ?_ (keepSet ?_ ?_)) <;> first | assumption | omega | (simp; done) | (simp; omega)) | (refine keepSet ?_ (keepSet ?_ ?_) <;> first | assumption | omega | (simp; done) | (simp; omega)) | (refine keepSet ?_ ?_ <;> first | assumption | omega | (simp; done) | (simp; omega)) | ((refine keepOf ?_; ((repeat' (first | (refine bel_set ?_ ?_ _) | (refine bel_al ?_ ?_ _) | exact Below.refl _ _ | assumption | exact And.left (by assumption) | (refine below_drewN ?_ _) | (refine Below.drew ?_))) <;> (first | omega | (simp; done) | (simp; omega)))))) (fail)
  obtain ⟨bo, hbo0⟩ : ∃ b, b = w0.heap.size := ⟨_, rfl⟩
  have hmk := Lib.hid (Mk.start0 (E := 49) (w0 := w0) (W := (W : Int)) (H := (H : Int)) (T := 27))
  go_wp2_with fail
  rw [← hbo0] at hmk ⊢
  have hbo1 : w0.heap.size ≤ bo := by omega
  clear hbo0
  go_loopw [23] (fun i wr => ∃ k : Nat, k ≤ cs.length ∧ i = .int .i64 k ∧ Hid (Mk 49 w0 bo W H (seqL (warpI W cs R S rs) k) wr)) (fun i _ => cs.length - (intOf i).toNat)
  case atStart => exact ⟨0, Nat.zero_le _, rfl, by first | exact hmk | exact Lib.hid (hmk.out.drewN 1)⟩
  case round =>
    clear hmk
    obtain ⟨k, hk, rfl, hmk⟩ := hrel
    obtain ⟨a, n, c, hN, ⟨zs, hz, hzm, hrow⟩, hne, hbo, hbl⟩ := hmk.out
    obtain ⟨lb, e0, e1, e2⟩ := hpv.out.1.below hbl
    by_cases hlk : k < cs.length
    · have hlen : zs.length = k := by rw [← seqL_len (warpI W cs R S rs) k, ← hzm, List.length_map]
      obtain ⟨bb, off, cc, z, ev, _, _, hbz, hzf, hzc⟩ := (hpv.out.2.1.below hbl).cell hlk
      simp only [Value.slice.injEq, true_and] at ev
      obtain ⟨rfl, rfl⟩ := ev
      have hkl : k < H * W := by have := hll.out; omega
      obtain ⟨x, hx⟩ : ∃ x, x = k % W := ⟨_, rfl⟩
      obtain ⟨y, hy⟩ : ∃ y, y = k / W := ⟨_, rfl⟩
      have hxl : x < W := by rw [hx]; exact Nat.mod_lt _ (by omega)
      have hyl : y < H := by rw [hy]; exact Nat.div_lt_of_lt_mul (by rw [Nat.mul_comm]; exact hkl)
      obtain ⟨P, eP⟩ : ∃ P, P = placeI (cs.getD k 0) := ⟨_, rfl⟩
      have hpl := Lib.hid ((placeI_fl hzf).trans eP.symm)
      have hF : Hid (warpI W cs R S rs k = if idxB P 25 = true then atC R S rs ((x : Int) - P) y else 0) := Lib.hid (by unfold warpI; rw [← eP, ← hx, ← hy])
      have m1 : (k : Int) % (W : Int) = (x : Int) := by rw [hx, Int.natCast_emod]
      have m2 : (k : Int) / (W : Int) = (y : Int) := by rw [hy, Int.natCast_ediv]
      have m3 : (k : Int).tmod (W : Int) = (x : Int) := by rw [Int.tmod_eq_emod_of_nonneg (by omega)]; exact m1
      have m4 : (k : Int).tdiv (W : Int) = (y : Int) := by rw [Int.tdiv_eq_ediv_of_nonneg (by omega)]; exact m2
      have m5 : IntKind.i64.wrap (x : Int) = (x : Int) := IntWalk.i64_in _ (by omega)
      have m6 : IntKind.i64.wrap (y : Int) = (y : Int) := IntWalk.i64_in _ (by omega)
      have hat := fun w1 (hb1 : Below wr.heap.size wr w1) => specAt_any R S a' n' c' bq rs ((x : Int) - P) y w1 ((hpv.out.2.2.2.1.below hbl).below hb1) ((hpv.out.2.2.2.2.1.below hbl).below hb1) r1 r2 r3 r4 hlr.out
      have hh := Lib.hid (And.intro hz (And.intro hzm (And.intro hlen (And.intro hbl hN))))
      have hrowA : ∀ (o : Obj) (m : Nat), ((wr.alloc o).drewN m).ownsRow w0.heap.size 49 1 (.slice a n c) zs.length (zs.map (.float .f32)) := fun o m => hrow.alloc o
      have hsz : w0.heap.size ≤ wr.heap.size := hbl.size
      have k2 : wr.cell? ⟨bo, 2, none⟩ = some (.slice a n c) := hN.2.2.2.1
      have hbo2 : bo < wr.heap.size := hN.1
      have hW1 : (1 : Int) ≤ (W : Int) := by omega
      clear hlen hzm hz hbl hmk hN hzf hx hy eP
      cases hS : idxB P 25 with
      | false =>
        have hS' := Lib.hid hS
        clear hS hat m1 m2 m3 m4 m5 m6
        go_wp2_with fail
        refine (specPlace_any _ _).mono ?_
        rintro e w2 ⟨n2, rfl, rfl⟩
        rw [hpl.out]
        go_wp2_with fail
        refine (specIn_any _ _ _ _).mono ?_
        rintro e w' ⟨rfl, hw'⟩
        obtain rfl := hw'.symm
        rw [show inB P 0 24 = idxB P 25 from inB_idx P 25, hS'.out]
        go_wp2_with (at_builtin; refine wpList_append_lies _ rfl _ _ _ rfl w0.heap.size 49 i0 _ 1 4 Try.underlying22 hi hz0 hz1 hz2 rfl (by omega) (.slice a n c) zs.length (zs.map (.float .f32)) rfl (hrowA _ _) ⟨wr.heap.size, 0, none⟩ 1 1 [.float .f32 0] rfl rfl (World.news_of_block (cs := #[.float .f32 0]) (t := 49) (fr := (0, 0)) (heap_alloc_new wr _)) (by simp [Value.oneCell']) (by omega) (by have := hh.out.2.2.1; unfold maxLen; omega) (by have := hh.out.2.2.1; omega) (by simp; omega) (wr.heap.size + 1) (by simp) ?_; intro gg cap w3 hown3 hgrow hat3 hlt3; have hN3 := Mk.nv3 hh.out.2.2.2.2 hne hgrow; have j2 := hN3.2.2.2.1; have jf := hN3.2.2.2.2 2)
        have hM : Mk 49 w0 bo W H (seqL (warpI W cs R S rs) (k + 1)) (w3.setCell ⟨bo, 2, none⟩ (.slice (some ⟨gg, 0, none⟩) (zs.length + 1) cap)) := by
          rw [seqL_succ _ k, hF.out, hS'.out]
          exact Mk.step hh.out.2.2.2.2 hrow hh.out.1 hh.out.2.1 hne hbo hh.out.2.2.2.1 fl0 hown3 hgrow hat3
        have hM := Lib.hid hM
        clear hgrow hown3 hat3 hrow hrowA
        go_wp2_with fail
        go_roundw
        case rel => exact ⟨k + 1, by omega, by go_num, by first | exact hM | exact Lib.hid (hM.out.drewN _)⟩
        case measure => simp [intOf]; omega
      | true =>
        have hS' := Lib.hid hS
        have hlo : 0 ≤ P ∧ P < 25 := by unfold idxB at hS; simpa using hS
        obtain ⟨hlo, hhi⟩ := hlo
        have m7 : IntKind.i64.wrap ((x : Int) - P) = (x : Int) - P := IntWalk.i64_in _ (by omega)
        obtain ⟨g1, eg1⟩ : ∃ g, g = atC R S rs ((x : Int) - P) y := ⟨_, rfl⟩
        rw [← eg1] at hat
        have eg1' := Lib.hid eg1
        clear hS eg1
        go_wp2_with fail
        refine (specPlace_any _ _).mono ?_
        rintro e w2 ⟨n2, rfl, rfl⟩
        rw [hpl.out]
        go_wp2_with fail
        refine (specIn_any _ _ _ _).mono ?_
        rintro e w' ⟨rfl, hw'⟩
        obtain rfl := hw'.symm
        rw [show inB P 0 24 = idxB P 25 from inB_idx P 25, hS'.out]
        go_wp2_with fail
        obtain ⟨wq, hwq⟩ : ∃ wq, wq = wr.drewN n2 := ⟨_, rfl⟩
        rw [← hwq]
        have hbq : Below wr.heap.size wr wq := by rw [hwq]; exact below_drewN (Below.refl _ _) _
        have e0q : wq.cell? ⟨bp, 0, none⟩ = some (.int .i64 W) := by rw [hwq]; exact e0
        have hwq' := Lib.hid hwq
        clear hwq
        have hW0 : ¬ W = 0 := by omega
        have hW0' : ¬ (W : Int) = 0 := by omega
        refine wp_region_cls (by kernel_rfl) (by kernel_rfl) (by kernel_rfl) (by kernel_rfl) (fun w' => ∃ n, w' = wq.drewN n) ⟨1, rfl⟩ [Eq1 ?q5367u0, Eq1 ?q5367u1, Eq1 ?q5367u2, Eq1 ?q5367u3, Eq1 ?q5367u4, Eq1 ?q5367u5, Eq1 ?q5367u6, Eq1 ?q5367u7, Eq1 ?q5367u8, Eq1 ?q5367u9, Eq1 ?q5367u10, Eq1 ?q5367u11, Eq1 ?q5367u12, Eq1 ?q5367u13, Eq1 ?q5367u14, FloatIs .f32 (g1), FloatIs .f32 (g1)] ?q5367main
        case q5367main =>
          (refine wpR_pure ?_ (fun w hw => ?_) ?_; rfl; (obtain ⟨nn, rfl⟩ := hw; go_simp; (try with_reducible rfl)); (try simp only [Act.put, List.setIfInBounds_toArray, List.set_cons_zero, List.set_cons_succ]))
          (refine wpR_pure ?_ (fun w hw => ?_) ?_; rfl; (obtain ⟨nn, rfl⟩ := hw; go_simp; (try with_reducible rfl)); (try simp only [Act.put, List.setIfInBounds_toArray, List.set_cons_zero, List.set_cons_succ]))
          (refine wpR_pure ?_ (fun w hw => ?_) ?_; rfl; (obtain ⟨nn, rfl⟩ := hw; go_simp; (try with_reducible rfl)); (try simp only [Act.put, List.setIfInBounds_toArray, List.set_cons_zero, List.set_cons_succ]))
          (refine wpR_pure ?_ (fun w hw => ?_) ?_; rfl; (obtain ⟨nn, rfl⟩ := hw; go_simp; (try with_reducible rfl)); (try simp only [Act.put, List.setIfInBounds_toArray, List.set_cons_zero, List.set_cons_succ]))
          (refine wpR_pure ?_ (fun w hw => ?_) ?_; rfl; (obtain ⟨nn, rfl⟩ := hw; go_simp; (try with_reducible rfl)); (try simp only [Act.put, List.setIfInBounds_toArray, List.set_cons_zero, List.set_cons_succ]))
          (refine wpR_pure ?_ (fun w hw => ?_) ?_; rfl; (obtain ⟨nn, rfl⟩ := hw; go_simp; (try with_reducible rfl)); (try simp only [Act.put, List.setIfInBounds_toArray, List.set_cons_zero, List.set_cons_succ]))
          (refine wpR_pure ?_ (fun w hw => ?_) ?_; rfl; (obtain ⟨nn, rfl⟩ := hw; go_simp; (try with_reducible rfl)); (try simp only [Act.put, List.setIfInBounds_toArray, List.set_cons_zero, List.set_cons_succ]))
          (refine wpR_pure ?_ (fun w hw => ?_) ?_; rfl; (obtain ⟨nn, rfl⟩ := hw; go_simp; (try with_reducible rfl)); (try simp only [Act.put, List.setIfInBounds_toArray, List.set_cons_zero, List.set_cons_succ]))
          (refine wpR_pure ?_ (fun w hw => ?_) ?_; rfl; (obtain ⟨nn, rfl⟩ := hw; go_simp; (try with_reducible rfl)); (try simp only [Act.put, List.setIfInBounds_toArray, List.set_cons_zero, List.set_cons_succ]))
          (refine wpR_pure ?_ (fun w hw => ?_) ?_; rfl; (obtain ⟨nn, rfl⟩ := hw; go_simp; (try with_reducible rfl)); (try simp only [Act.put, List.setIfInBounds_toArray, List.set_cons_zero, List.set_cons_succ]))
          (refine wpR_pure ?_ (fun w hw => ?_) ?_; rfl; (obtain ⟨nn, rfl⟩ := hw; go_simp; (try with_reducible rfl)); (try simp only [Act.put, List.setIfInBounds_toArray, List.set_cons_zero, List.set_cons_succ]))
          (refine wpR_pure ?_ (fun w hw => ?_) ?_; rfl; (obtain ⟨nn, rfl⟩ := hw; go_simp; (try with_reducible rfl)); (try simp only [Act.put, List.setIfInBounds_toArray, List.set_cons_zero, List.set_cons_succ]))
          (refine wpR_pure ?_ (fun w hw => ?_) ?_; rfl; (obtain ⟨nn, rfl⟩ := hw; go_simp; (try with_reducible rfl)); (try simp only [Act.put, List.setIfInBounds_toArray, List.set_cons_zero, List.set_cons_succ]))
          (refine wpR_pure ?_ (fun w hw => ?_) ?_; rfl; (obtain ⟨nn, rfl⟩ := hw; go_simp; (try with_reducible rfl)); (try simp only [Act.put, List.setIfInBounds_toArray, List.set_cons_zero, List.set_cons_succ]))
          (refine wpR_pure ?_ (fun w hw => ?_) ?_; rfl; (obtain ⟨nn, rfl⟩ := hw; go_simp; (try with_reducible rfl)); (try simp only [Act.put, List.setIfInBounds_toArray, List.set_cons_zero, List.set_cons_succ]))
          (refine wpR_cls ?_ (fun w hw => ?_) ?_; rfl; (obtain ⟨nn, rfl⟩ := hw; go_simp; refine (hat _ (hbq.trans (below_drewN (Below.refl _ _) _))).mono ?_; rintro _ _ ⟨_, nm, rfl, rfl, hcr⟩; exact ⟨_, rfl, ⟨_, rfl, hcr⟩, nn + nm, by simp⟩); (rintro _ ⟨_, rfl, _⟩; (try simp only [Act.put, List.setIfInBounds_toArray, List.set_cons_zero, List.set_cons_succ])))
          (refine wpR_cls ?_ (fun w hw => ?_) ?_; rfl; (obtain ⟨nn, rfl⟩ := hw; go_simp; first | exact ⟨_, rfl, by assumption⟩ | exact ⟨⟨_, rfl⟩, _, rfl, by assumption⟩); (rintro _ ⟨_, rfl, _⟩; (try simp only [Act.put, List.setIfInBounds_toArray, List.set_cons_zero, List.set_cons_succ])))
          refine wpR_nil ?_
          rintro w' ⟨nn, rfl⟩
          have hwqq := hwq'.out
          subst hwqq
          clear m1 m2 m3 m4 m5 m6 m7 hat hwq' e0q
          go_wp2_with (at_builtin; refine wpList_append_lies _ rfl _ _ _ rfl w0.heap.size 49 i0 _ 1 4 Try.underlying22 hi hz0 hz1 hz2 rfl (by omega) (.slice a n c) zs.length (zs.map (.float .f32)) rfl (hrowA _ _) ⟨wr.heap.size, 0, none⟩ 1 1 [.float .f32 _] rfl rfl (World.news_of_block (cs := #[.float .f32 _]) (t := 49) (fr := (0, 0)) (heap_alloc_new wr _)) (by simp [Value.oneCell']) (by omega) (by have := hh.out.2.2.1; unfold maxLen; omega) (by have := hh.out.2.2.1; omega) (by simp; omega) (wr.heap.size + 1) (by simp) ?_; intro gg cap w3 hown3 hgrow hat3 hlt3; have hN3 := Mk.nv3 hh.out.2.2.2.2 hne hgrow; have j2 := hN3.2.2.2.1; have jf := hN3.2.2.2.2 2)
          have hM : Mk 49 w0 bo W H (seqL (warpI W cs R S rs) (k + 1)) (w3.setCell ⟨bo, 2, none⟩ (.slice (some ⟨gg, 0, none⟩) (zs.length + 1) cap)) := by
            rw [seqL_succ _ k, hF.out, hS'.out]
            show Mk _ _ _ _ _ (_ ++ [atC R S rs ((x : Int) - P) y]) _
            rw [← eg1'.out]
            exact Mk.step hh.out.2.2.2.2 hrow hh.out.1 hh.out.2.1 hne hbo hh.out.2.2.2.1 (by assumption) hown3 hgrow hat3
          have hM := Lib.hid hM
          clear hgrow hown3 hat3 hrow hrowA
          go_wp2_with fail
          go_roundw
          case rel => exact ⟨k + 1, by omega, by go_num, by first | exact hM | exact Lib.hid (hM.out.drewN _)⟩
          case measure => simp [intOf]; omega
    · obtain rfl : k = cs.length := by omega
      obtain ⟨_, f0, f1, f2, f3⟩ := hN
      obtain ⟨_, r0, r1', r2', rf⟩ := hpv.out.2.2.1.below hbl
      have hoc : OC wr w0.heap.size 49 (.slice a n c) _ := ⟨zs, hz, hzm, hrow⟩
      have hoc := Lib.hid hoc
      have hzm' := Lib.hid hzm
      clear hzm hrow hz
      go_wp2_with fail
      refine bodyPost_ret (v := ?v) ?hr rfl ?post
      case hr => (simp [results, Try.results116, go_sem, f0, f1, f2, r0, r1', r2', rf]; try rfl)
      case post =>
        have h0 := hpv.out.2.2.2.2.2
        have ho := hoc.out
        refine ⟨_, _, _, rfl, ?_, ?_⟩
        · ((repeat' (first | (refine bel_set ?_ ?_ _) | (refine bel_al ?_ ?_ _) | exact Below.refl _ _ | assumption | (refine below_drewN ?_ _) | (refine Below.drew ?_) | (refine Below.trans ?_ (Below.mono hbl ?_)))) <;> (first | omega | (simp; done) | (simp; omega)))
        · (refine OC.mono (base := ?bb) ?hh ?hl; (case hh => ((repeat' (first | (refine OC.set ?_ _ ?_) | (refine OC.alloc ?_ _) | exact ho | (refine OC.drewN ?_ _))) <;> (first | omega | (simp; done) | (simp; omega)))); (case hl => (first | omega | (simp; done) | (simp; omega))))
end Go.Proofs.Ytbiobmdibiplfaa
