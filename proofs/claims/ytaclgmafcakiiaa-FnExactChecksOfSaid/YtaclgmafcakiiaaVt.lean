import Derived.Test.YtaclgmafcakiiaaVo
import Derived.IntWalk
set_option linter.unusedVariables false
set_option linter.unusedSimpArgs false
namespace Go.FX
open Go Go.RowKit
/-- What a row with numbers looks like. -/
theorem OC.own_form {w : World} {base : Nat} {E : TypeId} {a : Option Addr} {n c : Nat} {cs : List Nat} (h : OC w base E (.slice a n c) cs) (hp : 0 < cs.length) : ∃ g cap, (Value.slice a n c) = .slice (some ⟨g, 0, none⟩) n cap ∧ n = cs.length ∧ ∀ k, w.frozen? ⟨g, k, none⟩ = false := by
  have hn := h.fc.sized.1
  obtain ⟨zs, h1, h2, h3⟩ := h
  have hz : zs.length = cs.length := by rw [← h2]; simp
  obtain ⟨g, cap, e, _, _⟩ := h3.form (by omega)
  obtain ⟨rfl, rfl, rfl⟩ := Value.slice.inj e
  exact ⟨g, c, by rw [hn, ← hz], hn, fun k => h3.frozenAt k⟩
theorem OC.row_at {w : World} {base : Nat} {E : TypeId} {g n c : Nat} {cs : List Nat} (h : OC w base E (.slice (some ⟨g, 0, none⟩) n c) cs) {k : Nat} (hk : k < cs.length) : ∃ z, Fl .f32 z (cs.getD k 0) ∧ w.cell? ⟨g, k, none⟩ = some (.float .f32 z) := by
  obtain ⟨b, off, cap, z, ev, _, _, _, hz, hc⟩ := h.fc.cell hk
  simp only [Value.slice.injEq, Option.some.injEq, Addr.mk.injEq, and_true] at ev
  obtain ⟨⟨rfl, rfl⟩, _⟩ := ev
  exact ⟨z, hz, by rwa [Nat.zero_add] at hc⟩
end Go.FX
namespace Go.Proofs.Ytaclgmafcakiiaa
open Go.FX Go.RowKit Go.WideShapes Go.ChangeShapes


/-- The place from which a volume that is seen from the right has its cost. -/
def othF (W D : Nat) (cs : List Nat) (x y d : Nat) : Nat := costC W D cs (min (W - 1) (x + d)) y d
set_option maxRecDepth 100000 in
set_option maxHeartbeats 16000000 in
theorem specOther_any (W H D : Nat) (a0 : Option Addr) (n0 c0 bp : Nat) (cs : List Nat) (w : World) (hp : Pw w bp W H D (.slice a0 n0 c0)) (hv : FC w (.slice a0 n0 c0) cs) (b1 : 1 ≤ W) (b2 : W ≤ 24) (b3 : 1 ≤ H) (b4 : H ≤ 24) (b5 : H * W ≤ 256) (d1 : 1 ≤ D) (d2 : D ≤ 8) (hl : cs.length = H * W * D) :
    Calls Try.prog 38 #[.pointer (some ⟨bp, 0, none⟩)] w (RVol1 37 W H D (cubeL W D (othF W D cs) (H * W * D)) w) := by
  obtain ⟨rfl, hnc, hcm⟩ := hv.sized
  have hcl : cs.length ≤ 2048 := by rw [hl]; exact Nat.mul_le_mul b5 d2
  have hcp : 0 < cs.length := by rw [hl]; exact Nat.mul_pos (Nat.mul_pos b3 b1) d1
  have h3 := fun w1 (hb : Below w.heap.size w w1) => specVOwn_any W H D a0 cs.length c0 bp cs w1 (hp.below hb) (hv.below hb) hcp hcl
  have hWH : (W : Int) * (H : Int) = ((H * W : Nat) : Int) := by push_cast; rw [Int.mul_comm]
  have HWH := Lib.hid hWH
  have hl' := Lib.hid hl
  clear hl hWH
  go_enter Try.func38, Try.ntmps38
  go_wp2_with fail
  obtain ⟨w0, hw0⟩ : ∃ w0, w0 = w.alloc (.cells #[.int .i64 0, .int .i64 0, .int .i64 0, .slice none 0 0] 30) := ⟨_, rfl⟩
  rw [← hw0]
  have hp0 : Pw w0 bp W H D (.slice a0 cs.length c0) := by rw [hw0]; exact hp.alloc _
  have hv0 : FC w0 (.slice a0 cs.length c0) cs := by rw [hw0]; exact hv.alloc _
  have hn0 : Nw w0 w.heap.size (.int .i64 0) (.int .i64 0) (.int .i64 0) (.slice none 0 0) := by rw [hw0]; exact Nw.new _ _ _ _ _ _
  have hb0 : Below w.heap.size w w0 := by rw [hw0]; exact below1 _ _
  have hlt0 : w.heap.size < w0.heap.size := hn0.1
  clear hw0 hp hv
  refine (h3 _ hb0).mono ?_
  rintro e w1 ⟨a1, n1, c1, rfl, hb1, ho1⟩
  obtain ⟨bo, hbo0⟩ : ∃ b, b = w1.heap.size := ⟨_, rfl⟩
  have hmk := Lib.hid (Mv.start1 (W := (W : Int)) (H := (H : Int)) (D := (D : Int)) (T := 30) hb1 ho1)
  rw [← hbo0] at hmk
  have hpv := Lib.hid (And.intro hp0 (And.intro hv0 (And.intro hn0 hb0)))
  have hln := ho1.fc.sized.1
  clear hb1 ho1 hn0 hb0 hp0 hv0 h3
  subst hln
  go_wp2_with fail
  rw [← hbo0]
  clear hbo0
  go_loopw [4] (fun i wr => ∃ k : Nat, k ≤ H * W ∧ i = .int .i64 k ∧ Hid (Mv 37 w0 bo W H D (partL (cubeF W D (othF W D cs)) cs (k * D + 0)) wr)) (fun i _ => H * W - (intOf i).toNat)
  case atStart => exact ⟨0, Nat.zero_le _, rfl, by rw [Nat.zero_mul, Nat.add_zero, partL_zero]; exact hmk⟩
  case round =>
    clear hmk
    obtain ⟨k, hk, rfl, hmk⟩ := hrel
    have hbl : Below w0.heap.size w0 wr := hmk.out.choose_spec.choose_spec.choose_spec.2.2.2.2
    obtain ⟨lb, e0, e1, e2, e3⟩ := hpv.out.1.below hbl
    have hWH := HWH.out
    by_cases hlk : k < H * W
    · have hmod : (k : Int) % (W : Int) = ((k % W : Nat) : Int) := by rw [Int.natCast_emod]
      have hml : k % W < W := Nat.mod_lt _ (by omega)
      have hmk2 : k % W ≤ k := Nat.mod_le _ _
      have hdl : k / W < H := Nat.div_lt_of_lt_mul (by rw [Nat.mul_comm]; exact hlk)
      have hdm := Lib.hid (show k / W * W + k % W = k by rw [Nat.mul_comm]; exact Nat.div_add_mod _ _)
      obtain ⟨x, hx⟩ : ∃ x, x = k % W := ⟨_, rfl⟩
      obtain ⟨y, hy⟩ : ∃ y, y = k / W := ⟨_, rfl⟩
      rw [← hx] at hmod hml hmk2 hdm
      rw [← hy] at hdl hdm
      have hx' := Lib.hid hx
      have hy' := Lib.hid hy
      clear hx hy hbl
      generalize hm : H * W = m at *
      have hm' := Lib.hid hm
      clear hm
      go_wp2_with fail
      go_quiet (fail)
      go_wp2_with fail
      rw [hmod]
      clear hWH e0 e1 e2 e3 hmod
      go_loopw [6, 7] (fun i j wr => ∃ d : Nat, d ≤ D ∧ i = .int .i64 d ∧ Hid (Mv 37 w0 bo W H D (partL (cubeF W D (othF W D cs)) cs (k * D + d)) wr)) (fun i _ _ => D - (intOf i).toNat)
      case atStart => exact ⟨0, Nat.zero_le _, rfl, by first | exact hmk | exact Lib.hid (hmk.out.drewN _)⟩
      case round =>
        clear hmk
        obtain ⟨d, hd, rfl, hmk⟩ := hrel
        obtain ⟨a2, n2, c2, hN, ho, hne, hbo, hbl⟩ := hmk.out
        obtain ⟨lb, e0, e1, e2, e3⟩ := hpv.out.1.below hbl
        by_cases hld : d < D
        · have hkd1 : k * D + d < cs.length := by
            have h1 : k * D + D ≤ m * D := by rw [← Nat.succ_mul]; exact Nat.mul_le_mul_right _ hlk
            rw [hl'.out]; omega
          have hlen := partL_len (cubeF W D (othF W D cs)) cs (k * D + d) (by omega)
          obtain ⟨g, cap, eg, hn2, rr⟩ := OC.own_form ho (by rw [hlen]; omega)
          obtain ⟨rfl, _, rfl⟩ := Value.slice.inj eg
          clear eg
          rw [hlen] at hn2
          subst hn2
          have hgb : w0.heap.size ≤ g := (ho.lt g rfl).1
          have hbp0 : bp < w0.heap.size := hpv.out.1.1
          have hgo : g ≠ bo := fun e => hne (by rw [e]; rfl)
          obtain ⟨zold, holdF, hold⟩ := ho.row_at (k := k * D + d) (by rw [hlen]; omega)
          obtain ⟨_, j0, j1, j2, j3, jf⟩ := id hN
          obtain ⟨u, hu⟩ : ∃ u : Nat, u = min (W - 1) (x + d) := ⟨_, rfl⟩
          have hul : u < W := by omega
          have hu2 : (u : Int) = if (W : Int) - 1 < (x : Int) + (d : Int) then (W : Int) - 1 else (x : Int) + (d : Int) := by split <;> omega
          have hu' := Lib.hid hu
          have hmin := fun w1 => l00Min_eq _ _ (u : Int) hu2 w1
          have hqlt := (cost_lt (W := W) (H := H) (D := D) (x := u) (y := y) (d := d) hul (by first | exact hdl | (rw [hm'.out] at *; exact hdl)) hld).1
          rw [hm'.out, ← hl'.out] at hqlt
          obtain ⟨bb, off, cc, z, ev, _, _, hbz, hzf, hzc⟩ := (hpv.out.2.1.below hbl).cell hqlt
          simp only [Value.slice.injEq, true_and] at ev
          obtain ⟨rfl, rfl⟩ := ev
          have hbb : bb < w0.heap.size := by
            obtain ⟨bb', off', _, _, ev', _, _, hb', _, _⟩ := hpv.out.2.1.cell hqlt
            simp only [Value.slice.injEq, Option.some.injEq, Addr.mk.injEq, and_true] at ev'
            rw [ev'.1.1]; exact hb'
          have hq0 : (k : Int) - (x : Int) + (u : Int) = ((y * W + u : Nat) : Int) := by have := hdm.out; omega
          have hkD : (k : Int) * (D : Int) = ((k * D : Nat) : Int) := by rw [Int.natCast_mul]
          have hkD2 : k * D ≤ 256 * 8 := Nat.mul_le_mul (by omega) d2
          have hqD : ((y * W + u : Nat) : Int) * (D : Int) = (((y * W + u) * D : Nat) : Int) := by rw [Int.natCast_mul]
          have hqn2 : y * W + u ≤ 256 := by
            have : y * W + W ≤ H * W := by rw [← Nat.succ_mul]; exact Nat.mul_le_mul_right _ hdl
            rw [hm'.out] at this; omega
          have hqD2 : (y * W + u) * D ≤ 256 * 8 := Nat.mul_le_mul hqn2 d2
          have hcell : Hid (cs.getD ((y * W + u) * D + d) 0 = cubeF W D (othF W D cs) (k * D + d)) := by
            have e := cubeF_at (W := W) (D := D) (othF W D cs) y hml hld
            rw [hdm.out] at e
            rw [e, hu]; rfl
          have hset := Lib.hid (partL_set (cubeF W D (othF W D cs)) cs (k * D + d) hkd1)
          have hput := Lib.hid (Mv.put hN ho hne hbo hbl (k := k * D + d) (by rw [hlen]; exact hkd1) hzf)
          have hfz : wr.frozen? ⟨g, k * D + d, none⟩ = false := rr _
          have hbl' := Lib.hid hbl
          have hqlt' := Lib.hid hqlt
          clear hu hu2 hzf hN ho hne hbl holdF hlen hqlt hmk rr
          generalize hA : k * D = kd at *
          generalize hB : y * W + u = qn at *
          generalize hC : qn * D = qd at *
          have hABC := Lib.hid (And.intro hA (And.intro hB hC))
          clear hA hB hC
          have g0 : IntKind.i64.wrap ((k : Int) * (D : Int)) = (kd : Int) := by rw [hkD]; exact IntWalk.i64_in _ (by omega)
          have g1 : IntKind.i64.wrap ((kd : Int) + (d : Int)) = (kd : Int) + (d : Int) := IntWalk.i64_in _ (by omega)
          have g2 : (0 : Int) ≤ (kd : Int) + (d : Int) := by omega
          have g3 : (kd : Int) + (d : Int) < (cs.length : Int) := by omega
          have g4 : ((kd : Int) + (d : Int)).toNat = kd + d := by omega
          have f0 : IntKind.i64.wrap ((qn : Int) * (D : Int)) = (qd : Int) := by rw [hqD]; exact IntWalk.i64_in _ (by omega)
          have f1 : IntKind.i64.wrap ((qd : Int) + (d : Int)) = (qd : Int) + (d : Int) := IntWalk.i64_in _ (by omega)
          have f2 : (0 : Int) ≤ (qd : Int) + (d : Int) := by omega
          have f3 : (qd : Int) + (d : Int) < (cs.length : Int) := by have := hqlt'.out; omega
          have f4 : ((qd : Int) + (d : Int)).toNat = qd + d := by omega
          have hxk : (x : Int) ≤ (k : Int) := by omega
          clear hkD hqD
          go_wp2_with fail
          refine (hmin _).mono ?_
          rintro e w' ⟨rfl, hw'⟩
          obtain rfl := hw'.symm
          go_wp2_with fail
          go_region_held3 (fun w' => (∀ b o, b < w0.heap.size → w'.cell? ⟨b, o, none⟩ = wr.cell? ⟨b, o, none⟩) ∧ w'.cell? ⟨bo, 3, none⟩ = some (.slice (some ⟨g, 0, none⟩) cs.length c2))
            (first | exact ⟨fun _ _ _ => rfl, by assumption⟩ | exact ⟨fun b o h => World.cell?_setCell_far _ _ _ _ (by simp; omega), (World.cell?_setCell_far _ _ _ _ (by simp; omega)).trans (by assumption)⟩)
            (fail)
          go_wp2_with fail
          go_roundw
          case rel =>
            have hM := hput.out
            rw [hcell.out, hset.out] at hM
            exact ⟨d + 1, by omega, by go_num, by first | exact hM | exact Lib.hid (hM.drewN _)⟩
          case measure => simp [intOf]; omega
        · obtain rfl : d = D := by omega
          rw [show k * d + d = (k + 1) * d + 0 by rw [Nat.succ_mul, Nat.add_zero]] at hmk
          clear hN ho hne hbo hbl
          go_wp2_with fail
          go_roundw
          case rel => exact ⟨k + 1, by omega, by go_num, hmk⟩
          case measure => simp [intOf]; omega
    · obtain rfl : k = H * W := by omega
      obtain ⟨a2, n2, c2, hN, ho, hne, hbo, _⟩ := hmk.out
      obtain ⟨_, f0, f1, f2, f3, f4⟩ := hN
      obtain ⟨_, r0, r1, r2, r3, rf⟩ := hpv.out.2.2.1.below hbl
      have hoc := Lib.hid ho
      clear ho
      generalize hm : H * W = m at *
      go_wp2_with fail
      go_quiet (fail)
      go_wp2_with fail
      refine bodyPost_ret (v := ?v) ?hr rfl ?post
      case hr => (simp [results, Try.results38, go_sem, f0, f1, f2, f3, r0, r1, r2, r3, rf]; try rfl)
      case post =>
        have h0 := hpv.out.2.2.2
        have hoo := hoc.out
        rw [Nat.add_zero, ← hl'.out, partL_end, hl'.out] at hoo
        refine ⟨_, _, _, rfl, ?_, ?_⟩
        · ((repeat' (first | (refine bel_set ?_ ?_ _) | (refine bel_al ?_ ?_ _) | exact Below.refl _ _ | assumption | (refine below_drewN ?_ _) | (refine Below.drew ?_) | (refine Below.trans ?_ (Below.mono hbl ?_)))) <;> (first | omega | (simp; done) | (simp; omega)))
        · (refine OC.mono (base := ?bb) ?hh ?hl; (case hh => ((repeat' (first | (refine OC.set ?_ _ ?_) | (refine OC.alloc ?_ _) | exact hoo | (refine OC.drewN ?_ _))) <;> (first | omega | (simp; done) | (simp; omega)))); (case hl => (first | omega | (simp; done) | (simp; omega))))

set_option maxHeartbeats 1000000 in
theorem other_fn (W H D : Nat) (a : Option Addr) (n c : Nat) (cs : List Nat) (bp : Nat) (w : World) (hv : FC w (.slice a n c) cs) (hp : Pw w bp W H D (.slice a n c)) (b1 : 1 ≤ W) (b2 : W ≤ 24) (b3 : 1 ≤ H) (b4 : H ≤ 24) (b5 : H * W ≤ 256) (d1 : 1 ≤ D) (d2 : D ≤ 8) (hl : cs.length = H * W * D) :
    CostFn Try.prog 68 #[] #[.pointer (some ⟨bp, 0, none⟩)] W H D (othF W D cs) w := fun w1 x y d hb hx hy hd => by
  obtain ⟨u, hu⟩ : ∃ u : Nat, u = min (W - 1) (x + d) := ⟨_, rfl⟩
  have hul : u < W := by omega
  have hof : othF W D cs x y d = costC W D cs u y d := by rw [hu]; rfl
  rw [hof]
  have hat := fun w2 xi (hxi : xi = ((u : Nat) : Int)) (h : Below w1.heap.size w1 w2) => at_of W H D (.slice a n c) cs u y d xi y d hxi rfl rfl w2 ((hv.below hb).below h) b1 b2 b4 b5 d1 d2 hl hul hy hd
  obtain ⟨l0, p0, p1, p2, p3⟩ := hp.below hb
  have hu' := Lib.hid hu
  clear hu hof hv hp hl hb
  show Calls Try.prog 68 #[.int .i64 x, .int .i64 y, .int .i64 d, .pointer (some ⟨bp, 0, none⟩)] w1 _
  by_cases hxd : x + d ≤ W - 1
  all_goals
    go_enter Try.func68, Try.ntmps68
    go_wp2_with fail
    refine (hat _ _ (by have := hu'.out; omega) (by ((repeat' (first | (refine bel_set ?_ ?_ _) | (refine bel_al ?_ ?_ _) | exact Below.refl _ _ | assumption | (refine below_drewN ?_ _) | (refine Below.drew ?_))) <;> (first | omega | (simp; done) | (simp; omega))))).mono ?_
    rintro e w2 ⟨r, rfl, hb2, hr⟩
    go_wp2_with fail
    go_ret
    exact ⟨_, rfl, by ((repeat' (first | (refine bel_set ?_ ?_ _) | (refine bel_al ?_ ?_ _) | exact Below.refl _ _ | assumption | (refine below_drewN ?_ _) | (refine Below.drew ?_) | (refine Below.trans ?_ (Below.mono hb2 ?_)))) <;> (first | omega | (simp; done) | (simp; omega))), hr⟩
set_option maxHeartbeats 1000000 in
theorem implOtherVolume_any (W H D : Nat) (a : Option Addr) (n c : Nat) (cs : List Nat) (w : World) (hv : FC w (.slice a n c) cs) (b1 : 1 ≤ W) (b2 : W ≤ 24) (b3 : 1 ≤ H) (b4 : H ≤ 24) (b5 : H * W ≤ 256) (d1 : 1 ≤ D) (d2 : D ≤ 8) (hl : cs.length = H * W * D) :
    Calls Try.prog 41 #[.agg #[.int .i64 W, .int .i64 H, .int .i64 D, .slice a n c]] w (RVol 37 W H D (cubeL W D (othF W D cs) (H * W * D)) true w) := by
  obtain ⟨rfl, hnc, hcm⟩ := hv.sized
  have hval := volB_mk b1 b2 b3 b4 b5 d1 d2 hl
  have hd := fun w1 (hb : Below w.heap.size w w1) hp => buildFrom_any W H D a cs.length c hval hnc hcm b1 b2 b3 b4 b5 d1 d2 _ _ _ _ w1 (enters_of Try.func68 (by kernel_rfl) rfl) (other_fn W H D a _ c cs w.heap.size w1 (hv.below hb) hp b1 b2 b3 b4 b5 d1 d2 hl)
  clear hl hval
  go_enter Try.func41, Try.ntmps41
  go_wp2_with fail
  refine (hd _ (by ((repeat' (first | (refine bel_set ?_ ?_ _) | (refine bel_al ?_ ?_ _) | exact Below.refl _ _ | assumption | (refine below_drewN ?_ _) | (refine Below.drew ?_))) <;> (first | omega | (simp; done) | (simp; omega)))) ((Pw.new _ _ _ _ _ _).alloc _)).mono ?_
  rintro e w1 ⟨a1, n1, c1, rfl, hb1, ho1⟩
  obtain ⟨l1, q0, q1, q2, q3, qf⟩ := (Nw.new _ _ _ _ _ _).below hb1
  have s1 := hb1.size
  simp only [World.size_alloc] at l1 q0 q1 q2 q3 qf s1
  go_wp2_with fail
  refine bodyPost_ret (v := ?v) ?hr rfl ?post
  case hr => (simp [results, Try.results41, go_sem, q0, q1, q2, q3, qf]; try rfl)
  case post =>
    refine ⟨_, _, _, rfl, ?_, ?_⟩
    · ((repeat' (first | (refine bel_set ?_ ?_ _) | (refine bel_al ?_ ?_ _) | exact Below.refl _ _ | assumption | (refine below_drewN ?_ _) | (refine Below.drew ?_) | (refine Below.trans ?_ (Below.mono hb1 ?_)))) <;> (first | omega | (simp; done) | (simp; omega)))
    · (refine OC.mono (base := ?bb) ?hh ?hl; (case hh => ((repeat' (first | (refine OC.set ?_ _ ?_) | (refine OC.alloc ?_ _) | exact ho1 | (refine OC.drewN ?_ _))) <;> (first | omega | (simp; done) | (simp; omega)))); (case hl => (first | omega | (simp; done) | (simp; omega))))

theorem implOtherVolume_no (W H D : Int) (a : Option Addr) (n c : Nat) (w : World) (hnc : n ≤ c) (hcm : c ≤ maxLen) (hval : volB W H D n = false) :
    Calls Try.prog 41 #[.agg #[.int .i64 W, .int .i64 H, .int .i64 D, .slice a n c]] w (RVol 37 0 0 0 [] false w) := by
  have hd := fun w1 first cap => buildFrom_no W H D a n c hnc hcm hval (.func 68) first cap w1
  go_enter Try.func41, Try.ntmps41
  go_wp2_with fail
  refine (hd _ _ _).mono ?_
  rintro e w1 ⟨a1, n1, c1, rfl, hb1, ho1⟩
  obtain ⟨l1, q0, q1, q2, q3, qf⟩ := (Nw.new _ _ _ _ _ _).below hb1
  have s1 := hb1.size
  simp only [World.size_alloc] at l1 q0 q1 q2 q3 qf s1
  go_wp2_with fail
  refine bodyPost_ret (v := ?v) ?hr rfl ?post
  case hr => (simp [results, Try.results41, go_sem, q0, q1, q2, q3, qf]; try rfl)
  case post =>
    refine ⟨_, _, _, rfl, ?_, ?_⟩
    · ((repeat' (first | (refine bel_set ?_ ?_ _) | (refine bel_al ?_ ?_ _) | exact Below.refl _ _ | assumption | (refine below_drewN ?_ _) | (refine Below.drew ?_) | (refine Below.trans ?_ (Below.mono hb1 ?_)))) <;> (first | omega | (simp; done) | (simp; omega)))
    · (refine OC.mono (base := ?bb) ?hh ?hl; (case hh => ((repeat' (first | (refine OC.set ?_ _ ?_) | (refine OC.alloc ?_ _) | exact ho1 | (refine OC.drewN ?_ _))) <;> (first | omega | (simp; done) | (simp; omega)))); (case hl => (first | omega | (simp; done) | (simp; omega))))

end Go.Proofs.Ytaclgmafcakiiaa
