import Derived.Test.YtmfdiobpdaonaaaVl
import Derived.Deep.DrawnRows
set_option linter.unusedVariables false
set_option linter.unusedSimpArgs false
namespace Go.FX
open Go Go.RowKit
theorem keepOfN {n : Nat} {W w' : World} (hn : n ≤ W.heap.size) (h : Below n W w') : Below n W w' ∧ n ≤ w'.heap.size ∧ (∀ b o, b < n → w'.cell? ⟨b, o, none⟩ = W.cell? ⟨b, o, none⟩) := ⟨h, Nat.le_trans hn h.size, (bcell2 h).1⟩
/-- A volume in the making, or in change: the variable at bo, its row, all of the call's own. -/
def Mv (E : TypeId) (w0 : World) (bo : Nat) (W H D : Int) (cs : List Nat) (wr : World) : Prop :=
  ∃ a n c, Nw wr bo (.int .i64 W) (.int .i64 H) (.int .i64 D) (.slice a n c) ∧ OC wr w0.heap.size E (.slice a n c) cs ∧ (Value.slice a n c).ownBlock ≠ some bo ∧ w0.heap.size ≤ bo ∧ Below w0.heap.size w0 wr
theorem Mv.drewN {E : TypeId} {w0 : World} {bo : Nat} {W H D : Int} {cs : List Nat} {wr : World} (h : Mv E w0 bo W H D cs wr) (k : Nat) : Mv E w0 bo W H D cs (wr.drewN k) := by
  obtain ⟨a, n, c, h1, h2, h3, h4, h5⟩ := h
  exact ⟨a, n, c, h1.drewN k, h2.drewN k, h3, h4, below_drewN h5 k⟩
theorem Mv.start1 {E T : TypeId} {w0 w1 : World} {W H D : Int} {a : Option Addr} {n c : Nat} {cs : List Nat} (hb : Below w0.heap.size w0 w1) (ho : OC w1 w0.heap.size E (.slice a n c) cs) :
    Mv E w0 w1.heap.size W H D cs (w1.alloc (.cells #[.int .i64 W, .int .i64 H, .int .i64 D, .slice a n c] T)) := by
  refine ⟨a, n, c, Nw.new _ _ _ _ _ _, ho.alloc _, fun e => ?_, hb.size, hb.alloc hb.size _⟩
  have := (ho.lt _ e).2
  omega
theorem OC.put {w : World} {base : Nat} {E : TypeId} {g n cap : Nat} {cs : List Nat} {k r c : Nat} (h : OC w base E (.slice (some ⟨g, 0, none⟩) n cap) cs) (hk : k < cs.length) (hr : Fl .f32 r c) :
    OC (w.setCell ⟨g, k, none⟩ (.float .f32 r)) base E (.slice (some ⟨g, 0, none⟩) n cap) (cs.set k c) ∧ w.grownBy (w.setCell ⟨g, k, none⟩ (.float .f32 r)) (some g) := by
  obtain ⟨zs, h1, rfl, h3⟩ := h
  obtain ⟨a', c', ev, _, _⟩ := (OC.of h1 h3).fc.shape
  simp only [Value.slice.injEq, List.length_map] at ev
  obtain ⟨_, rfl, _⟩ := ev
  have hst := h3.stored k (.float .f32 r)
  rw [← List.map_set] at hst
  refine ⟨⟨zs.set k r, ?_, by rw [List.map_set, hr.eq], by rw [List.length_set]; exact hst.1⟩, hst.2⟩
  intro z hz
  rcases List.mem_or_eq_of_mem_set hz with h | h
  · exact h1 z h
  · rw [h]; exact hr.lt
/-- A number of the row is stored anew. -/
theorem Mv.put {E : TypeId} {w0 : World} {bo : Nat} {W H D : Int} {cs : List Nat} {wr : World} {g n cap k r c : Nat}
    (hN : Nw wr bo (.int .i64 W) (.int .i64 H) (.int .i64 D) (.slice (some ⟨g, 0, none⟩) n cap)) (ho : OC wr w0.heap.size E (.slice (some ⟨g, 0, none⟩) n cap) cs) (hne : (Value.slice (some ⟨g, 0, none⟩) n cap).ownBlock ≠ some bo) (hbo : w0.heap.size ≤ bo) (hb : Below w0.heap.size w0 wr)
    (hk : k < cs.length) (hr : Fl .f32 r c) : Mv E w0 bo W H D (cs.set k c) (wr.setCell ⟨g, k, none⟩ (.float .f32 r)) := by
  obtain ⟨h1, h2⟩ := ho.put hk hr
  have hg := (ho.lt g rfl).1
  exact ⟨_, _, _, hN.kept h2 hne, h1, hne, hbo, hb.setCell (by exact hg) _⟩
/-- A row that is filled anew from the left. -/
def partL (F : Nat → Nat) (cs : List Nat) (k : Nat) : List Nat := seqL F k ++ cs.drop k
theorem partL_zero (F : Nat → Nat) (cs : List Nat) : partL F cs 0 = cs := by simp [partL, seqL]
theorem partL_len (F : Nat → Nat) (cs : List Nat) (k : Nat) (h : k ≤ cs.length) : (partL F cs k).length = cs.length := by simp [partL, seqL_len]; omega
theorem partL_end (F : Nat → Nat) (cs : List Nat) : partL F cs cs.length = seqL F cs.length := by simp [partL]
theorem partL_set (F : Nat → Nat) (cs : List Nat) (k : Nat) (h : k < cs.length) : (partL F cs k).set k (F k) = partL F cs (k + 1) := by
  unfold partL
  rw [List.set_append_right _ _ (by rw [seqL_len]; omega), seqL_len, Nat.sub_self, seqL_succ, List.append_assoc]
  congr 1
  rw [List.drop_eq_getElem_cons h, List.set_cons_zero]; rfl
theorem partL_get (F : Nat → Nat) (cs : List Nat) (k : Nat) (h : k < cs.length) : (partL F cs k).getD k 0 = cs.getD k 0 := by
  simp [partL, List.getD, List.getElem?_append_right, seqL_len, h]
theorem partL_keep (F : Nat → Nat) (cs : List Nat) (k : Nat) (h : k < cs.length) (he : F k = cs.getD k 0) : partL F cs k = partL F cs (k + 1) := by
  rw [← partL_set F cs k h, he]
  unfold partL
  rw [List.set_append_right _ _ (by rw [seqL_len]; omega), seqL_len, Nat.sub_self]
  congr 1
  rw [List.drop_eq_getElem_cons h, List.set_cons_zero]
  simp [List.getD, h]
end Go.FX
namespace Go.Proofs.Ytmfdiobpdaonaaa
open Go.FX Go.RowKit Go.WideShapes Go.ChangeShapes
attribute [local go_sem ↓] Go.wp_at_zero Go.wp_at_succ

set_option maxRecDepth 100000 in
set_option maxHeartbeats 4000000 in
theorem specVOwn_any (W H D : Int) (a0 : Option Addr) (n0 c0 bp : Nat) (cs : List Nat) (w : World) (hp : Pw w bp W H D (.slice a0 n0 c0)) (hv : FC w (.slice a0 n0 c0) cs) (hpos : 0 < cs.length) (hmx : cs.length ≤ 2048) :
    Calls Try.prog 77 #[.pointer (some ⟨bp, 0, none⟩)] w (RVol1 39 W H D cs w) := by
  obtain ⟨i0, hi, hz0, hz1, hz2⟩ := info_parts info_f32
  obtain ⟨zs, ⟨hz, a', cap', ev, k1, k2, k3⟩, rfl⟩ := hv
  rw [List.length_map] at hpos hmx
  simp only [Value.slice.injEq] at ev
  obtain ⟨rfl, rfl, rfl⟩ := ev
  rcases k3 with k3 | ⟨b, off, rfl, hb, hc⟩
  · subst k3; simp at hpos
  · have hz' := Lib.hid hz
    have hc' := Lib.hid hc
    clear hz hc
    go_enter Try.func77, Try.ntmps77
    go_upto_region 1 with fail
    obtain ⟨w0, hw0⟩ : ∃ w0, w0 = w.alloc (.cells #[.int .i64 0, .int .i64 0, .int .i64 0, .slice none 0 0] 27) := ⟨_, rfl⟩
    rw [← hw0]
    have hp0 : Pw w0 bp W H D (.slice (some ⟨b, off, none⟩) zs.length c0) := by rw [hw0]; exact hp.alloc _
    have hn0 : Nw w0 w.heap.size (.int .i64 0) (.int .i64 0) (.int .i64 0) (.slice none 0 0) := by rw [hw0]; exact Nw.new _ _ _ _ _ _
    have hb0 : Below w.heap.size w w0 := by rw [hw0]; exact below1 _ _
    have hs0 : w0.heap.size = w.heap.size + 1 := by rw [hw0]; simp
    have hl0 : bp < w.heap.size := hp.1
    clear hw0 hp
    obtain ⟨hp1, p0, p1, p2, p3⟩ := id hp0
    have hs1 : w.heap.size < w0.heap.size := by omega
    have hs2 : w0.heap.size ≤ w.heap.size + 1 := by omega
    clear hs0
    have hpv := Lib.hid (And.intro hp0 (And.intro hn0 hb0))
    clear hp0 hn0 hb0
    have hnews : ∀ m j u, (zs.map (Value.float .f32))[j]? = some u → ((w0.alloc (.cells #[] 39)).drewN m).cell? ((⟨b, off, none⟩ : Addr).add j) = some u := fun m j u hj => by
      rw [List.getElem?_map, Option.map_eq_some_iff] at hj
      obtain ⟨z, hz, rfl⟩ := hj
      have hjl : j < zs.length := (List.getElem?_eq_some_iff.1 hz).1
      have e1 : zs.getD j 0 = z := by simp [List.getD, hz]
      have e2 := hc'.out j hjl
      rw [e1] at e2
      have e3 : ((⟨b, off, none⟩ : Addr).add j) = ⟨b, off + j, none⟩ := by unfold Addr.add; split <;> simp_all
      rw [e3, World.cell?_drewN, World.cell?_alloc_lt _ _ _ (by show b < _; omega), (bcell hpv.out.2.2).1 b _ hb]
      exact e2
    have hnews := Lib.hid hnews
    go_region_held3 (fun w' => Below (w.heap.size) w0 w' ∧ (w.heap.size) ≤ w'.heap.size ∧ (∀ b o, b < (w.heap.size) → w'.cell? ⟨b, o, none⟩ = w0.cell? ⟨b, o, none⟩)) (first | assumption | (refine keepOfN (by omega) ?_; ((repeat' (first | (refine bel_set ?_ ?_ _) | (refine bel_al ?_ ?_ _) | exact Below.refl _ _ | assumption | exact And.left (by assumption) | (refine below_drewN ?_ _) | (refine Below.drew ?_))) <;> (first | omega | (simp; done) | (simp; omega)))))
      ((refine step_append_lies _ (by rfl) _ _ _ (by rfl) w0.heap.size 39 i0 _ 1 4 Try.underlying22 hi hz0 hz1 hz2 rfl (by omega) (.slice (some ⟨w0.heap.size, 0, none⟩) 0 0) 0 [] (by rfl) (by first | exact World.ownsRow_lit w0 #[] 0 (Nat.le_refl _) (by simp [maxLen]) (by simp))
            ⟨b, off, none⟩ zs.length c0 (zs.map (.float .f32)) (by rfl) (by simp) (hnews.out _) (by intro u hu; obtain ⟨z, _, rfl⟩ := List.mem_map.1 hu; rfl) hpos (by unfold maxLen; omega) (by omega) (by simp) (w0.heap.size + 1) (by simp) ?_; intro gg cap3 w3 hown3 hgrow hat3 hlt3; have hbA : Below w.heap.size w0 w3 := Below.grown (by ((repeat' (first | (refine bel_set ?_ ?_ _) | (refine bel_al ?_ ?_ _) | exact Below.refl _ _ | assumption | (refine below_drewN ?_ _) | (refine Below.drew ?_))) <;> (first | omega | (simp; done) | (simp; omega)))) hgrow (by simp; omega) (fun k hk => by simp [Value.ownBlock] at hk; omega); have hN3 := (hpv.out.2.1.alloc (.cells #[] 39)).drewN 1 |>.kept hgrow (by simp [Value.ownBlock]; omega); obtain ⟨_, r0, r1, r2, r3, rf⟩ := hN3))
    have hb3 := Lib.hid hbA
    have ho3 := Lib.hid hown3
    clear hbA hown3 hgrow hat3 hnews
    go_wp2_with fail
    refine bodyPost_ret (v := ?v) ?hr rfl ?post
    case hr => (simp [results, Try.results77, go_sem, r0, r1, r2, r3, rf]; try rfl)
    case post =>
      have h0 := hpv.out.2.2
      have h1 := hb3.out
      have ho := ho3.out
      simp only [Nat.zero_add, List.nil_append] at ho
      have hoc := OC.of hz'.out (by first | exact ho | (rw [List.length_map] at ho; exact ho))
      refine ⟨_, _, _, rfl, ?_, ?_⟩
      · ((repeat' (first | (refine bel_set ?_ ?_ _) | (refine bel_al ?_ ?_ _) | exact Below.refl _ _ | assumption | (refine below_drewN ?_ _) | (refine Below.drew ?_) | (refine Below.trans ?_ (Below.mono h1 ?_)))) <;> (first | omega | (simp; done) | (simp; omega)))
      · (refine OC.mono (base := ?bb) ?hh ?hl; (case hh => ((repeat' (first | (refine OC.set ?_ _ ?_) | (refine OC.alloc ?_ _) | exact hoc | (refine OC.drewN ?_ _))) <;> (first | omega | (simp; done) | (simp; omega)))); (case hl => (first | omega | (simp; done) | (simp; omega))))
def capF (c m : Nat) : Nat := if FloatKind.f32.format.order c m == some Ordering.gt then m else c
set_option maxRecDepth 100000 in
set_option maxHeartbeats 4000000 in
theorem specCapVolume_any (W H D : Nat) (a : Option Addr) (n c : Nat) (cs : List Nat) (m cm : Nat) (hm : Fl .f32 m cm) (w : World) (hv : FC w (.slice a n c) cs) (b1 : 1 ≤ W) (b2 : W ≤ 24) (b3 : 1 ≤ H) (b4 : H ≤ 24) (b5 : H * W ≤ 256) (d1 : 1 ≤ D) (d2 : D ≤ 8) (hl : cs.length = H * W * D) :
    Calls Try.prog 40 #[.agg #[.int .i64 W, .int .i64 H, .int .i64 D, .slice a n c], .float .f32 m] w (RVol 39 W H D (seqL (fun i => capF (cs.getD i 0) cm) cs.length) true w) := by
  obtain ⟨rfl, hnc, hcm⟩ := hv.sized
  have hval := Lib.hid (volB_mk b1 b2 b3 b4 b5 d1 d2 hl)
  have h1 := fun w1 hp => specVIs_any W H D a cs.length c w.heap.size w1 hp (by unfold maxLen at hcm; omega)
  have hcl : cs.length ≤ 2048 := by rw [hl]; exact Nat.mul_le_mul b5 d2
  have hcp : 0 < cs.length := by rw [hl]; exact Nat.mul_pos (Nat.mul_pos b3 b1) d1
  have h3 := fun w1 (hb : Below w.heap.size w w1) hp => specVOwn_any W H D a cs.length c w.heap.size cs w1 hp (hv.below hb) hcp hcl
  clear hl
  go_enter Try.func40, Try.ntmps40
  go_wp2_with fail
  refine (h1 _ ((Pw.new _ _ _ _ _ _).alloc _)).mono ?_
  rintro e w1 ⟨k, rfl, rfl⟩
  rw [hval.out]
  go_wp2_with fail
  obtain ⟨w0, hw0⟩ : ∃ w0, w0 = ((w.alloc (.cells #[.int .i64 W, .int .i64 H, .int .i64 D, .slice a cs.length c] 27)).alloc (.cells #[.int .i64 0, .int .i64 0, .int .i64 0, .slice none 0 0] 27)).drewN k := ⟨_, rfl⟩
  rw [← hw0]
  have hp0 : Pw w0 w.heap.size W H D (.slice a cs.length c) := by rw [hw0]; exact ((Pw.new _ _ _ _ _ _).alloc _).drewN _
  have hn0 : Nw w0 (w.heap.size + 1) (.int .i64 0) (.int .i64 0) (.int .i64 0) (.slice none 0 0) := by rw [hw0]; have := (Nw.new (w.alloc (.cells #[.int .i64 W, .int .i64 H, .int .i64 D, .slice a cs.length c] 27)) (.int .i64 0) (.int .i64 0) (.int .i64 0) (.slice none 0 0) 27).drewN k; simpa only [World.size_alloc] using this
  have hb0 : Below w.heap.size w w0 := by rw [hw0]; exact below_drewN (below2 _ _ _) _
  have hlt0 : w.heap.size + 1 < w0.heap.size := hn0.1
  clear hw0
  refine (h3 _ hb0 hp0).mono ?_
  rintro e w1 ⟨a1, n1, c1, rfl, hb1, ho1⟩
  obtain ⟨bo, hbo0⟩ : ∃ b, b = w1.heap.size := ⟨_, rfl⟩
  have hmk := Lib.hid (Mv.start1 (W := (W : Int)) (H := (H : Int)) (D := (D : Int)) (T := 27) hb1 ho1)
  rw [← hbo0] at hmk
  have hln := ho1.fc.sized.1
  have hpv := Lib.hid (And.intro hn0 hb0)
  clear hb1 ho1 hn0 hb0 hp0 h3 h1 hv
  subst hln
  go_wp2_with fail
  rw [← hbo0]
  clear hbo0
  go_loopw [15] (fun i wr => ∃ k : Nat, k ≤ cs.length ∧ i = .int .i64 k ∧ Hid (Mv 39 w0 bo W H D (partL (fun i => capF (cs.getD i 0) cm) cs k) wr)) (fun i _ => cs.length - (intOf i).toNat)
  case atStart => exact ⟨0, Nat.zero_le _, rfl, by rw [partL_zero]; exact hmk⟩
  case round =>
    clear hmk
    obtain ⟨k, hk, rfl, hmk⟩ := hrel
    obtain ⟨a2, n2, c2, hN, ho, hne, hbo, hbl⟩ := hmk.out
    by_cases hlk : k < cs.length
    · have hlen := partL_len (fun i => capF (cs.getD i 0) cm) cs k hk
      obtain ⟨g, off, cap, z, ev, _, _, hgl, hzf, hzc⟩ := ho.fc.cell (k := k) (by omega)
      obtain ⟨g', cap', ev', _, _⟩ : ∃ g cap, (Value.slice a2 n2 c2) = .slice (some ⟨g, 0, none⟩) n2 cap ∧ True ∧ True := by
        obtain ⟨zs, _, hzm, hrow⟩ := ho
        have : 0 < zs.length := by have := congrArg List.length hzm; simp only [List.length_map] at this; omega
        obtain ⟨g, cap, e, _, _⟩ := hrow.form this
        obtain ⟨_, e2, _⟩ := Value.slice.inj e
        exact ⟨g, cap, by rw [e, e2], trivial, trivial⟩
      rw [ev'] at ev
      simp only [Value.slice.injEq, Option.some.injEq, Addr.mk.injEq, and_true] at ev
      obtain ⟨⟨rfl, rfl⟩, hn2, rfl⟩ := ev
      simp only [Value.slice.injEq] at ev'
      obtain ⟨rfl, _, rfl⟩ := ev'
      rw [Nat.zero_add] at hzc
      rw [hlen] at hn2
      subst hn2
      rw [partL_get _ _ _ hlk] at hzf
      obtain ⟨zs, hzz, hzm, hrow⟩ := id ho
      have hzl : zs.length = cs.length := by rw [← hlen, ← hzm, List.length_map]
      rw [hzl] at hrow
      have hfz : wr.frozen? ⟨g', k, none⟩ = false := hrow.frozenAt k
      obtain ⟨_, e0, e1, e2, e3, ef⟩ := id hN
      have hm1 := Lib.hid (fun (r c : Nat) (hr : Fl .f32 r c) => Mv.put hN ho hne hbo hbl (by omega : k < (partL (fun i => capF (cs.getD i 0) cm) cs k).length) hr)
      have hkeep := Lib.hid (partL_keep (fun i => capF (cs.getD i 0) cm) cs k hlk)
      have hset := Lib.hid (partL_set (fun i => capF (cs.getD i 0) cm) cs k hlk)
      have hord := Lib.hid (hzf.order hm)
      have hzf' := Lib.hid hzf
      clear hzf hrow hzm hzz ho hN hbl hlen hzl
      cases tt : (FloatKind.f32.format.order z m == some Ordering.gt)
      · go_wp2_with fail
        go_roundw
        case rel => exact ⟨k + 1, by omega, by go_num, by rw [← hkeep.out (by show capF _ _ = _; unfold capF; rw [← hord.out, tt]; rfl)]; exact hmk⟩
        case measure => simp [intOf]; omega
      · go_wp2_with fail
        go_roundw
        case rel =>
          have hM := hm1.out m cm hm
          have he : cm = capF (cs.getD k 0) cm := by unfold capF; rw [← hord.out, tt]; rfl
          have hs := Eq.trans (congrArg (fun x => (partL (fun i => capF (cs.getD i 0) cm) cs k).set k x) he) hset.out
          rw [hs] at hM
          exact ⟨k + 1, by omega, by go_num, hM⟩
        case measure => simp [intOf]; omega
    · obtain rfl : k = cs.length := by omega
      obtain ⟨_, f0, f1, f2, f3, f4⟩ := hN
      obtain ⟨_, r0, r1, r2, r3, rf⟩ := hpv.out.1.below hbl
      have hoc := Lib.hid ho
      clear ho
      go_wp2_with fail
      refine bodyPost_ret (v := ?v) ?hr rfl ?post
      case hr => (simp [results, Try.results40, go_sem, f0, f1, f2, f3, r0, r1, r2, r3, rf]; try rfl)
      case post =>
        have h0 := hpv.out.2
        have hoo := hoc.out
        rw [partL_end] at hoo
        refine ⟨_, _, _, rfl, ?_, ?_⟩
        · ((repeat' (first | (refine bel_set ?_ ?_ _) | (refine bel_al ?_ ?_ _) | exact Below.refl _ _ | assumption | (refine below_drewN ?_ _) | (refine Below.drew ?_) | (refine Below.trans ?_ (Below.mono hbl ?_)))) <;> (first | omega | (simp; done) | (simp; omega)))
        · (refine OC.mono (base := ?bb) ?hh ?hl; (case hh => ((repeat' (first | (refine OC.set ?_ _ ?_) | (refine OC.alloc ?_ _) | exact hoo | (refine OC.drewN ?_ _))) <;> (first | omega | (simp; done) | (simp; omega)))); (case hl => (first | omega | (simp; done) | (simp; omega))))
end Go.Proofs.Ytmfdiobpdaonaaa
