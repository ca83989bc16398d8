import Derived.Test.YtjmlpogaohljdaaPl
import Derived.Test.YtjmlpogaohljdaaPi
import Derived.Test.YtjmlpogaohljdaaPq
import Derived.Deep.DrawnRows
import Derived.IntWalk
set_option linter.unusedVariables false
set_option linter.unusedSimpArgs false
namespace Go.FX
open Go Go.RowKit
theorem keepOfN {n : Nat} {W w' : World} (hn : n ≤ W.heap.size) (h : Below n W w') : Below n W w' ∧ n ≤ w'.heap.size ∧ (∀ b o, b < n → w'.cell? ⟨b, o, none⟩ = W.cell? ⟨b, o, none⟩) := ⟨h, Nat.le_trans hn h.size, (bcell2 h).1⟩
/-- What a row with numbers looks like. -/
theorem OC.own_form {w : World} {base : Nat} {E : TypeId} {a : Option Addr} {n c : Nat} {cs : List Nat} (h : OC w base E (.slice a n c) cs) (hp : 0 < cs.length) : ∃ g cap, (Value.slice a n c) = .slice (some ⟨g, 0, none⟩) n cap ∧ n = cs.length ∧ ∀ k, w.frozen? ⟨g, k, none⟩ = false := by
  have hn := h.fc.sized.1
  obtain ⟨zs, h1, h2, h3⟩ := h
  have hz : zs.length = cs.length := by rw [← h2]; simp
  obtain ⟨g, cap, e, _, _⟩ := h3.form (by omega)
  obtain ⟨rfl, rfl, rfl⟩ := Value.slice.inj e
  exact ⟨g, c, by rw [hn, ← hz], hn, fun k => h3.frozenAt k⟩
theorem OC.row_at {w : World} {base : Nat} {E : TypeId} {g n c : Nat} {cs : List Nat} (h : OC w base E (.slice (some ⟨g, 0, none⟩) n c) cs) {k : Nat} (hk : k < cs.length) : ∃ z, Fl .f32 z (cs.getD k 0) ∧ w.cell? ⟨g, k, none⟩ = some (.float .f32 z) := by
  obtain ⟨b, off, cap, z, ev, _, _, _, hz, hc⟩ := h.fc.cell hk
  simp only [Value.slice.injEq, Option.some.injEq, Addr.mk.injEq, and_true] at ev
  obtain ⟨⟨rfl, rfl⟩, _⟩ := ev
  exact ⟨z, hz, by rwa [Nat.zero_add] at hc⟩
theorem OC.put {w : World} {base : Nat} {E : TypeId} {g n cap : Nat} {cs : List Nat} {k r c : Nat} (h : OC w base E (.slice (some ⟨g, 0, none⟩) n cap) cs) (hk : k < cs.length) (hr : Fl .f32 r c) :
    OC (w.setCell ⟨g, k, none⟩ (.float .f32 r)) base E (.slice (some ⟨g, 0, none⟩) n cap) (cs.set k c) ∧ w.grownBy (w.setCell ⟨g, k, none⟩ (.float .f32 r)) (some g) := by
  obtain ⟨zs, h1, rfl, h3⟩ := h
  obtain ⟨a', c', ev, _, _⟩ := (OC.of h1 h3).fc.shape
  simp only [Value.slice.injEq, List.length_map] at ev
  obtain ⟨_, rfl, _⟩ := ev
  have hst := h3.stored k (.float .f32 r)
  rw [← List.map_set] at hst
  refine ⟨⟨zs.set k r, ?_, by rw [List.map_set, hr.eq], by rw [List.length_set]; exact hst.1⟩, hst.2⟩
  intro z hz
  rcases List.mem_or_eq_of_mem_set hz with h | h
  · exact h1 z h
  · rw [h]; exact hr.lt
theorem gridL_at (W H : Nat) (cs : List Nat) (hl : cs.length = H * W) : gridL W (atC W H cs) (H * W) = cs := by
  refine Eq.trans (gridL_congr fun x y hx hy => ?_) (gridL_self W H cs hl)
  exact atC_in cs (Int.natCast_nonneg _) (Int.ofNat_lt.2 hx) (Int.natCast_nonneg _) (Int.ofNat_lt.2 hy)
end Go.FX
namespace Go.Proofs.Ytjmlpogaohljdaa
open Go.FX Go.RowKit Go.WideShapes Go.ChangeShapes
attribute [local go_sem ↓] Go.wp_at_zero Go.wp_at_succ

set_option maxRecDepth 100000 in
set_option maxHeartbeats 4000000 in
theorem specOwn_any (W H : Int) (a0 : Option Addr) (n0 c0 bp : Nat) (cs : List Nat) (w : World) (hp : Pv w bp W H (.slice a0 n0 c0)) (hv : FC w (.slice a0 n0 c0) cs) (hpos : 0 < cs.length) (hmx : cs.length ≤ 1048576) :
    Calls Try.prog 84 #[.pointer (some ⟨bp, 0, none⟩)] w (RPic1 60 W H cs w) := by
  obtain ⟨i0, hi, hz0, hz1, hz2⟩ := info_parts info_f32
  obtain ⟨zs, ⟨hz, a', cap', ev, k1, k2, k3⟩, rfl⟩ := hv
  rw [List.length_map] at hpos hmx
  simp only [Value.slice.injEq] at ev
  obtain ⟨rfl, rfl, rfl⟩ := ev
  rcases k3 with k3 | ⟨b, off, rfl, hb, hc⟩
  · subst k3; simp at hpos
  · have hz' := Lib.hid hz
    have hc' := Lib.hid hc
    clear hz hc
    go_enter Try.func84, Try.ntmps84
    go_upto_region 1 with fail
    obtain ⟨w0, hw0⟩ : ∃ w0, w0 = w.alloc (.cells #[.int .i64 0, .int .i64 0, .slice none 0 0] 44) := ⟨_, rfl⟩
    rw [← hw0]
    have hp0 : Pv w0 bp W H (.slice (some ⟨b, off, none⟩) zs.length c0) := by rw [hw0]; exact hp.alloc _
    have hn0 : Nv w0 w.heap.size (.int .i64 0) (.int .i64 0) (.slice none 0 0) := by rw [hw0]; exact Nv.new _ _ _ _ _
    have hb0 : Below w.heap.size w w0 := by rw [hw0]; exact below1 _ _
    have hs0 : w0.heap.size = w.heap.size + 1 := by rw [hw0]; simp
    have hl0 : bp < w.heap.size := hp.1
    clear hw0 hp
    obtain ⟨hp1, p0, p1, p2⟩ := id hp0
    have hs1 : w.heap.size < w0.heap.size := by omega
    have hs2 : w0.heap.size ≤ w.heap.size + 1 := by omega
    clear hs0
    have hpv := Lib.hid (And.intro hp0 (And.intro hn0 hb0))
    clear hp0 hn0 hb0
    have hnews : ∀ m j u, (zs.map (Value.float .f32))[j]? = some u → ((w0.alloc (.cells #[] 60)).drewN m).cell? ((⟨b, off, none⟩ : Addr).add j) = some u := fun m j u hj => by
      rw [List.getElem?_map, Option.map_eq_some_iff] at hj
      obtain ⟨z, hz, rfl⟩ := hj
      have hjl : j < zs.length := (List.getElem?_eq_some_iff.1 hz).1
      have e1 : zs.getD j 0 = z := by simp [List.getD, hz]
      have e2 := hc'.out j hjl
      rw [e1] at e2
      have e3 : ((⟨b, off, none⟩ : Addr).add j) = ⟨b, off + j, none⟩ := by unfold Addr.add; split <;> simp_all
      rw [e3, World.cell?_drewN, World.cell?_alloc_lt _ _ _ (by show b < _; omega), (bcell hpv.out.2.2).1 b _ hb]
      exact e2
    have hnews := Lib.hid hnews
    go_region_held3 (fun w' => Below (w.heap.size) w0 w' ∧ (w.heap.size) ≤ w'.heap.size ∧ (∀ b o, b < (w.heap.size) → w'.cell? ⟨b, o, none⟩ = w0.cell? ⟨b, o, none⟩)) (first | assumption | (refine keepOfN (by omega) ?_; ((repeat' (first | (refine bel_set ?_ ?_ _) | (refine bel_al ?_ ?_ _) | exact Below.refl _ _ | assumption | exact And.left (by assumption) | (refine below_drewN ?_ _) | (refine Below.drew ?_))) <;> (first | omega | (simp; done) | (simp; omega)))))
      ((refine step_append_lies _ (by rfl) _ _ _ (by rfl) w0.heap.size 60 i0 _ 1 4 Try.underlying24 hi hz0 hz1 hz2 rfl (by omega) (.slice (some ⟨w0.heap.size, 0, none⟩) 0 0) 0 [] (by rfl) (by first | exact World.ownsRow_lit w0 #[] 0 (Nat.le_refl _) (by simp [maxLen]) (by simp))
            ⟨b, off, none⟩ zs.length c0 (zs.map (.float .f32)) (by rfl) (by simp) (hnews.out _) (by intro u hu; obtain ⟨z, _, rfl⟩ := List.mem_map.1 hu; rfl) hpos (by unfold maxLen; omega) (by omega) (by simp) (w0.heap.size + 1) (by simp) ?_; intro gg cap3 w3 hown3 hgrow hat3 hlt3; have hbA : Below w.heap.size w0 w3 := Below.grown (by ((repeat' (first | (refine bel_set ?_ ?_ _) | (refine bel_al ?_ ?_ _) | exact Below.refl _ _ | assumption | (refine below_drewN ?_ _) | (refine Below.drew ?_))) <;> (first | omega | (simp; done) | (simp; omega)))) hgrow (by simp; omega) (fun k hk => by simp [Value.ownBlock] at hk; omega); have hN3 := (hpv.out.2.1.alloc (.cells #[] 60)).drewN 1 |>.kept hgrow (by simp [Value.ownBlock]; omega); obtain ⟨_, r0, r1, r2, rf⟩ := hN3))
    have hb3 := Lib.hid hbA
    have ho3 := Lib.hid hown3
    clear hbA hown3 hgrow hat3 hnews
    go_wp2_with fail
    refine bodyPost_ret (v := ?v) ?hr rfl ?post
    case hr => (simp [results, Try.results84, go_sem, r0, r1, r2, rf]; try rfl)
    case post =>
      have h0 := hpv.out.2.2
      have h1 := hb3.out
      have ho := ho3.out
      simp only [Nat.zero_add, List.nil_append] at ho
      have hoc := OC.of hz'.out (by first | exact ho | (rw [List.length_map] at ho; exact ho))
      refine ⟨_, _, _, rfl, ?_, ?_⟩
      · ((repeat' (first | (refine bel_set ?_ ?_ _) | (refine bel_al ?_ ?_ _) | exact Below.refl _ _ | assumption | (refine below_drewN ?_ _) | (refine Below.drew ?_) | (refine Below.trans ?_ (Below.mono h1 ?_)))) <;> (first | omega | (simp; done) | (simp; omega)))
      · (refine OC.mono (base := ?bb) ?hh ?hl; (case hh => ((repeat' (first | (refine OC.set ?_ _ ?_) | (refine OC.alloc ?_ _) | exact hoc | (refine OC.drewN ?_ _))) <;> (first | omega | (simp; done) | (simp; omega)))); (case hl => (first | omega | (simp; done) | (simp; omega))))
theorem about_fn (W H : Nat) (a : Option Addr) (n c : Nat) (cs : List Nat) (w : World) (hv : FC w (.slice a n c) cs) (b1 : 1 ≤ W) (b2 : W ≤ 24) (b3 : 1 ≤ H) (b4 : H ≤ 24) (hl : cs.length = H * W) :
    GreyFn Try.prog 61 #[.agg #[.int .i64 W, .int .i64 H, .slice a n c]] #[] W H (atC W H cs) w := fun w1 x y hb hx hy =>
  about_any W H (.slice a n c) cs x y w1 (hv.below hb) b1 b2 b3 b4 hl (by omega) (by omega) (by omega) (by omega)
set_option maxRecDepth 100000 in
set_option maxHeartbeats 4000000 in
theorem implPutGrey_any (W H : Nat) (a : Option Addr) (n c : Nat) (cs : List Nat) (x y : Nat) (g cg : Nat) (hg : Fl .f32 g cg) (w : World) (hv : FC w (.slice a n c) cs) (b1 : 1 ≤ W) (b2 : W ≤ 24) (b3 : 1 ≤ H) (b4 : H ≤ 24) (b5 : H * W ≤ 256) (hl : cs.length = H * W) (hx : x < W) (hy : y < H) :
    Calls Try.prog 44 #[.agg #[.int .i64 W, .int .i64 H, .slice a n c], .int .i64 x, .int .i64 y, .float .f32 g] w (RPic 60 W H (cs.set (y * W + x) cg) true w) := by
  obtain ⟨rfl, hnc, hcm⟩ := hv.sized
  have hval := Lib.hid (validB_mk b1 b2 b3 b4 b5 hl)
  have h1 := fun w1 => validPic_any W H (.slice a cs.length c) cs.length w1 ⟨a, c, rfl, hnc, hcm⟩
  have hc := Lib.hid (show cellB W H x y = true by simp [cellB]; omega)
  have hG := about_fn W H a _ c cs w hv b1 b2 b3 b4 hl
  have hd := fun w1 (hb : Below w.heap.size w w1) => draw_any W H b1 b2 b3 b4 b5 _ _ _ _ w1 (enters_of Try.func61 (by kernel_rfl) rfl) (hG.later hb)
  rw [gridL_at W H cs hl] at hd
  have hyx : y * W + x < cs.length := by
    have : y * W + W ≤ H * W := by rw [← Nat.succ_mul]; exact Nat.mul_le_mul_right _ hy
    omega
  have hrow := fun (b c : Nat) (hc : cs.length ≤ c) (hcm : c ≤ maxLen) w1 => row_any W H b 0 c y y rfl w1 b1 b2 b4 hy (by rw [← hl]; exact hc) hcm
  simp only [Nat.zero_add] at hrow
  rw [← hl] at hrow
  clear hl hG
  go_enter Try.func44, Try.ntmps44
  go_wp2_with fail
  refine (h1 _).mono ?_
  rintro e w1 ⟨rfl, hb1⟩
  rw [hval.out]
  have hP1 := ((Pv.new _ _ _ _ _).alloc _).below hb1
  have hn1 := (Nv.new _ _ _ _ _).below hb1
  have s1 := hb1.size
  simp only [World.size_alloc] at hn1 s1
  obtain ⟨l1, p0, p1, p2⟩ := id hP1
  go_wp2_with fail
  refine (hasCell_any _ _ _ _ _ _ _ _).mono ?_
  rintro e w2 ⟨rfl, hb2⟩
  rw [hc.out]
  have hP2 := hP1.below hb2
  have hn2 := hn1.below hb2
  have s2 := hb2.size
  obtain ⟨l2, p3, p4, p5⟩ := id hP2
  go_wp2_with fail
  refine (hd _ (by ((repeat' (first | (refine bel_set ?_ ?_ _) | (refine bel_al ?_ ?_ _) | exact Below.refl _ _ | assumption | (refine below_drewN ?_ _) | (refine Below.drew ?_) | (refine Below.trans ?_ (Below.mono hb2 ?_)) | (refine Below.trans ?_ (Below.mono hb1 ?_)))) <;> (first | omega | (simp; done) | (simp; omega))))).mono ?_
  rintro e w3 ⟨a3, n3, c3, rfl, hb3, ho3⟩
  have hn3 := hn2.below hb3
  have s3 := hb3.size
  have ho3' := Lib.hid ho3
  obtain ⟨gb, cap, eg, hn3e, rr⟩ := OC.own_form ho3 (by omega)
  obtain ⟨rfl, _, rfl⟩ := Value.slice.inj eg
  clear eg
  have hsz3 := ho3.fc.sized
  have hglt := ho3.lt gb rfl
  clear ho3
  subst hn3e
  go_wp2_with fail
  refine (hrow gb _ hsz3.2.1 hsz3.2.2 _).mono ?_
  rintro e w4 ⟨rfl, hb4⟩
  have hR4 := (Nv.new w3 (.int .i64 (W : Int)) (.int .i64 (H : Int)) (.slice (some ⟨gb, 0, none⟩) cs.length c3) 44).below hb4
  have hn4 := (hn3.alloc _).below hb4
  have ho4 := (ho3'.out.alloc _).below hb4
  have s4 := hb4.size
  simp only [World.size_alloc] at s4
  obtain ⟨zold, _, hold⟩ := ho4.row_at (k := y * W + x) hyx
  have rr4 : ∀ k, w4.frozen? ⟨gb, k, none⟩ = false := by
    obtain ⟨g', cap', eg', _, rr4⟩ := OC.own_form ho4 (by omega)
    have : gb = g' := by simp only [Value.slice.injEq, Option.some.injEq, Addr.mk.injEq, and_true] at eg'; exact eg'.1
    rw [this]; exact rr4
  have hput := Lib.hid (ho4.put (k := y * W + x) hyx hg)
  have hg1 : gb ≠ w3.heap.size := by omega
  have hg2 : w3.heap.size ≠ gb := by omega
  have hg3 : gb ≠ w.heap.size + 1 := by omega
  have hg4 : w.heap.size + 1 ≠ gb := by omega
  have hgw : w.heap.size ≤ gb := by omega
  obtain ⟨l4, r0, r1, r2, rf⟩ := id hR4
  obtain ⟨l5, q0, q1, q2, qf⟩ := id hn4
  have hz1 : ¬ ((x : Int) < 0) := by omega
  have hz2 : (x : Int) < (W : Int) := by omega
  have s3' := hb3.size
  have s2' := hb2.size
  have s1' := hb1.size
  simp only [World.size_alloc] at s1'
  go_wp2_with fail
  refine bodyPost_ret (v := ?v) ?hr rfl ?post
  case hr => (simp [results, Try.results44, go_sem, q0, q1, q2, qf, hg1, hg2, hg3, hg4]; try rfl)
  case post =>
    have hgr := hput.out.2
    have ho := hput.out.1
    refine ⟨_, _, _, rfl, ?_, ?_⟩
    · ((repeat' (first | (refine bel_set ?_ ?_ _) | (refine bel_al ?_ ?_ _) | exact Below.refl _ _ | assumption | (refine below_drewN ?_ _) | (refine Below.drew ?_) | (refine Below.trans ?_ (Below.mono hb4 ?_)) | (refine Below.trans ?_ (Below.mono hb3 ?_)) | (refine Below.trans ?_ (Below.mono hb2 ?_)) | (refine Below.trans ?_ (Below.mono hb1 ?_)))) <;> (first | omega | (simp; done) | (simp; omega)))
    · exact OC.mono (OC.set (OC.set (OC.set ho _ (by show w.heap.size + 1 < _; omega)) _ (by show w.heap.size + 1 < _; omega)) _ (by show w.heap.size + 1 < _; omega)) (by omega)
theorem implPutGrey_no (W H : Int) (a : Option Addr) (n c : Nat) (w : World) (hnc : n ≤ c) (hcm : c ≤ maxLen) (x y : Int) (g : Nat) (hC : ¬ (validB W H n = true ∧ cellB W H x y = true)) :
    Calls Try.prog 44 #[.agg #[.int .i64 W, .int .i64 H, .slice a n c], .int .i64 x, .int .i64 y, .float .f32 g] w (RPic 60 0 0 [] false w) := by
  have h1 := fun w1 => validPic_any W H (.slice a n c) n w1 ⟨a, c, rfl, hnc, hcm⟩
  cases hval : validB W H n with
  | false =>
    have hval := Lib.hid hval
    clear hC
    go_enter Try.func44, Try.ntmps44
    go_wp2_with fail
    refine (h1 _).mono ?_
    rintro e w1 ⟨rfl, hb1⟩
    rw [hval.out]
    obtain ⟨l2, q0, q1, q2, qf⟩ := (Nv.new _ _ _ _ _).below hb1
    simp only [World.size_alloc] at l2 q0 q1 q2 qf
    go_wp2_with fail
    refine bodyPost_ret (v := ?v) ?hr rfl ?post
    case hr => (simp [results, Try.results44, go_sem, q0, q1, q2, qf]; try rfl)
    case post => exact ⟨_, _, _, rfl, by ((repeat' (first | (refine bel_set ?_ ?_ _) | (refine bel_al ?_ ?_ _) | exact Below.refl _ _ | assumption | (refine below_drewN ?_ _) | (refine Below.drew ?_) | (refine Below.trans ?_ (Below.mono hb1 ?_)))) <;> (first | omega | (simp; done) | (simp; omega))), OC.nil _ _ _⟩
  | true =>
    have hcell : cellB W H x y = false := by
      cases h : cellB W H x y with
      | false => rfl
      | true => exact absurd ⟨hval, h⟩ hC
    have hval := Lib.hid hval
    have hcell := Lib.hid hcell
    clear hC
    go_enter Try.func44, Try.ntmps44
    go_wp2_with fail
    refine (h1 _).mono ?_
    rintro e w1 ⟨rfl, hb1⟩
    rw [hval.out]
    have hP1 := ((Pv.new _ _ _ _ _).alloc _).below hb1
    have hn1 := (Nv.new _ _ _ _ _).below hb1
    have s1 := hb1.size
    simp only [World.size_alloc] at hn1 s1
    obtain ⟨l1, p0, p1, p2⟩ := id hP1
    go_wp2_with fail
    refine (hasCell_any _ _ _ _ _ _ _ _).mono ?_
    rintro e w2 ⟨rfl, hb2⟩
    rw [hcell.out]
    have hn2 := hn1.below hb2
    obtain ⟨l2, q0, q1, q2, qf⟩ := id hn2
    go_wp2_with fail
    refine bodyPost_ret (v := ?v2) ?hr2 rfl ?post2
    case hr2 => (simp [results, Try.results44, go_sem, q0, q1, q2, qf]; try rfl)
    case post2 => exact ⟨_, _, _, rfl, by ((repeat' (first | (refine bel_set ?_ ?_ _) | (refine bel_al ?_ ?_ _) | exact Below.refl _ _ | assumption | (refine below_drewN ?_ _) | (refine Below.drew ?_) | (refine Below.trans ?_ (Below.mono hb2 ?_)) | (refine Below.trans ?_ (Below.mono hb1 ?_)))) <;> (first | omega | (simp; done) | (simp; omega))), OC.nil _ _ _⟩
set_option maxRecDepth 100000 in
set_option maxHeartbeats 4000000 in
theorem specPutGrey_any (W H : Nat) (a : Option Addr) (n c : Nat) (cs : List Nat) (x y : Nat) (g cg : Nat) (hg : Fl .f32 g cg) (w : World) (hv : FC w (.slice a n c) cs) (b1 : 1 ≤ W) (b2 : W ≤ 24) (b3 : 1 ≤ H) (b4 : H ≤ 24) (b5 : H * W ≤ 256) (hl : cs.length = H * W) (hx : x < W) (hy : y < H) :
    Calls Try.prog 43 #[.agg #[.int .i64 W, .int .i64 H, .slice a n c], .int .i64 x, .int .i64 y, .float .f32 g] w (RPic 60 W H (cs.set (y * W + x) cg) true w) := by
  obtain ⟨rfl, hnc, hcm⟩ := hv.sized
  have hval := Lib.hid (validB_mk b1 b2 b3 b4 b5 hl)
  have h1 := fun w1 hp => specIs_any W H a cs.length c w.heap.size w1 hp (by unfold maxLen at hcm; omega)
  have hc := Lib.hid (show cellB W H x y = true by simp [cellB]; omega)
  have hyx : y * W + x < cs.length := by
    have : y * W + W ≤ H * W := by rw [← Nat.succ_mul]; exact Nat.mul_le_mul_right _ hy
    omega
  have hyx' : x + W * y < cs.length := by rw [Nat.mul_comm W y]; omega
  have e0 : y * W + x = x + W * y := by rw [Nat.mul_comm W y]; omega
  rw [e0]
  clear e0
  have hO := fun w1 (hb : Below w.heap.size w w1) hp => specOwn_any W H a cs.length c w.heap.size cs w1 hp (hv.below hb) (by omega) (by omega)
  have m1 : IntKind.i64.wrap ((W : Int) * (y : Int)) = ((W * y : Nat) : Int) := by rw [← Int.natCast_mul]; exact IntWalk.i64_in _ (by omega)
  have m2 : IntKind.i64.wrap ((x : Int) + ((W * y : Nat) : Int)) = ((x + W * y : Nat) : Int) := by rw [← Int.natCast_add]; exact IntWalk.i64_in _ (by omega)
  have hk0 : (0 : Int) ≤ ((x + W * y : Nat) : Int) := by omega
  have hk1 : ((x + W * y : Nat) : Int) < (cs.length : Int) := by omega
  generalize hk : x + W * y = k at *
  generalize W * y = Wy at *
  clear hl hk hyx
  go_enter Try.func43, Try.ntmps43
  go_wp2_with fail
  refine (h1 _ ((Pv.new _ _ _ _ _).alloc _)).mono ?_
  rintro e w1 ⟨k1, rfl, rfl⟩
  rw [hval.out]
  go_wp2_with fail
  refine (specCell_any W H b1 b2 b3 b4 _ _ _ _ _ (((Pv.new _ _ _ _ _).alloc _).drewN _)).mono ?_
  rintro e w1 ⟨rfl, rfl⟩
  rw [hc.out]
  go_wp2_with fail
  refine (hO _ (by ((repeat' (first | (refine bel_set ?_ ?_ _) | (refine bel_al ?_ ?_ _) | exact Below.refl _ _ | assumption | (refine below_drewN ?_ _) | (refine Below.drew ?_))) <;> (first | omega | (simp; done) | (simp; omega)))) (((Pv.new _ _ _ _ _).alloc _).drewN _)).mono ?_
  rintro e w3 ⟨a3, n3, c3, rfl, hb3, ho3⟩
  have hP3 := (((Pv.new _ _ _ _ _).alloc _).drewN k1).below hb3
  have hn3 := ((Nv.new _ _ _ _ _).drewN k1).below hb3
  have s3 := hb3.size
  simp only [World.size_alloc, World.heap_drewN] at s3 hn3 ho3
  obtain ⟨gb, cap, eg, hn3e, rr⟩ := OC.own_form ho3 (by omega)
  obtain ⟨rfl, _, rfl⟩ := Value.slice.inj eg
  clear eg
  have hsz3 := ho3.fc.sized
  have hglt := ho3.lt gb rfl
  subst hn3e
  obtain ⟨zold, _, hold⟩ := ho3.row_at (k := k) hyx'
  have hput := Lib.hid (ho3.put (k := k) hyx' hg)
  have hg1 : gb ≠ w3.heap.size := by omega
  have hg2 : w3.heap.size ≠ gb := by omega
  have hg3 : gb ≠ w.heap.size + 1 := by omega
  have hg4 : w.heap.size + 1 ≠ gb := by omega
  have hgw : w.heap.size ≤ gb := by omega
  obtain ⟨l4, r0, r1, r2⟩ := id hP3
  obtain ⟨l5, q0, q1, q2, qf⟩ := id hn3
  go_wp2_with fail
  refine bodyPost_ret (v := ?v) ?hr rfl ?post
  case hr => (simp [results, Try.results43, go_sem, q0, q1, q2, qf, hg1, hg2, hg3, hg4, World.cell?_alloc_lt, l5, Nat.ne_of_lt l5]; try rfl)
  case post =>
    have ho := hput.out.1
    refine ⟨_, _, _, rfl, ?_, ?_⟩
    · ((repeat' (first | (refine bel_set ?_ ?_ _) | (refine bel_al ?_ ?_ _) | exact Below.refl _ _ | assumption | (refine below_drewN ?_ _) | (refine Below.drew ?_) | (refine Below.trans ?_ (Below.mono hb3 ?_)))) <;> (first | omega | (simp; done) | (simp; omega)))
    · exact OC.mono (OC.alloc (OC.set (OC.set (OC.set ho _ (by show w.heap.size + 1 < _; omega)) _ (by show w.heap.size + 1 < _; omega)) _ (by show w.heap.size + 1 < _; omega)) _) (by omega)
set_option maxHeartbeats 1000000 in
theorem specPutGrey_no (W H : Int) (a : Option Addr) (n c : Nat) (w : World) (hnc : n ≤ c) (hcm : c ≤ maxLen) (x y : Int) (g : Nat) (hC : ¬ (validB W H n = true ∧ cellB W H x y = true)) :
    Calls Try.prog 43 #[.agg #[.int .i64 W, .int .i64 H, .slice a n c], .int .i64 x, .int .i64 y, .float .f32 g] w (RPic 60 0 0 [] false w) := by
  have h1 := fun w1 hp => specIs_any W H a n c w.heap.size w1 hp (by unfold maxLen at hcm; omega)
  cases hval : validB W H n with
  | false =>
    have hval := Lib.hid hval
    clear hC
    go_enter Try.func43, Try.ntmps43
    go_wp2_with fail
    refine (h1 _ ((Pv.new _ _ _ _ _).alloc _)).mono ?_
    rintro e w1 ⟨k, rfl, rfl⟩
    rw [hval.out]
    go_wp2_with fail
    refine bodyPost_ret (v := ?v) ?hr rfl ?post
    case hr => (simp [results, Try.results43, go_sem]; try rfl)
    case post => exact ⟨_, _, _, rfl, by ((repeat' (first | (refine bel_set ?_ ?_ _) | (refine bel_al ?_ ?_ _) | exact Below.refl _ _ | assumption | (refine below_drewN ?_ _) | (refine Below.drew ?_))) <;> (first | omega | (simp; done) | (simp; omega))), OC.nil _ _ _⟩
  | true =>
    have hcell : cellB W H x y = false := by
      cases h : cellB W H x y with
      | false => rfl
      | true => exact absurd ⟨hval, h⟩ hC
    obtain ⟨wn, hn, rfl, rfl, b1, b2, b3, b4, b5, hl⟩ := validB_parts hval
    have hval := Lib.hid hval
    have hcell := Lib.hid hcell
    clear hC hl b5
    go_enter Try.func43, Try.ntmps43
    go_wp2_with fail
    refine (h1 _ ((Pv.new _ _ _ _ _).alloc _)).mono ?_
    rintro e w1 ⟨k, rfl, rfl⟩
    rw [hval.out]
    go_wp2_with fail
    refine (specCell_any wn hn b1 b2 b3 b4 _ _ _ _ _ (((Pv.new _ _ _ _ _).alloc _).drewN _)).mono ?_
    rintro e w1 ⟨rfl, rfl⟩
    rw [hcell.out]
    go_wp2_with fail
    refine bodyPost_ret (v := ?v2) ?hr2 rfl ?post2
    case hr2 => (simp [results, Try.results43, go_sem]; try rfl)
    case post2 => exact ⟨_, _, _, rfl, by ((repeat' (first | (refine bel_set ?_ ?_ _) | (refine bel_al ?_ ?_ _) | exact Below.refl _ _ | assumption | (refine below_drewN ?_ _) | (refine Below.drew ?_))) <;> (first | omega | (simp; done) | (simp; omega))), OC.nil _ _ _⟩
theorem pairPutGrey (W H : Int) (cs : List Nat) (x y : Int) (g : Nat) (hg : g < width .f32) :
    ∃ (W' H' : Int) (cs' : List Nat) (ok : Bool),
      (∀ a n c w, FC w (.slice a n c) cs → Calls Try.prog 43 #[.agg #[.int .i64 W, .int .i64 H, .slice a n c], .int .i64 x, .int .i64 y, .float .f32 g] w (RPic 60 W' H' cs' ok w)) ∧
      (∀ a n c w, FC w (.slice a n c) cs → Calls Try.prog 44 #[.agg #[.int .i64 W, .int .i64 H, .slice a n c], .int .i64 x, .int .i64 y, .float .f32 g] w (RPic 60 W' H' cs' ok w)) ∧ cs'.length ≤ 256 := by
  by_cases hC : validB W H cs.length = true ∧ cellB W H x y = true
  · obtain ⟨hval, hcell⟩ := hC
    obtain ⟨wn, hn, rfl, rfl, b1, b2, b3, b4, b5, hl⟩ := validB_parts hval
    simp only [cellB, decide_eq_true_eq] at hcell
    obtain ⟨xn, rfl⟩ := Int.eq_ofNat_of_zero_le hcell.1
    obtain ⟨yn, rfl⟩ := Int.eq_ofNat_of_zero_le hcell.2.2.1
    exact ⟨_, _, _, _, fun a n c w hv => specPutGrey_any wn hn a n c cs xn yn g _ (Fl.of hg) w hv b1 b2 b3 b4 b5 hl (by omega) (by omega), fun a n c w hv => implPutGrey_any wn hn a n c cs xn yn g _ (Fl.of hg) w hv b1 b2 b3 b4 b5 hl (by omega) (by omega), by rw [List.length_set]; omega⟩
  · refine ⟨0, 0, [], false, fun a n c w hv => ?_, fun a n c w hv => ?_, by simp⟩
    · obtain ⟨rfl, h1, h2⟩ := hv.sized
      exact specPutGrey_no W H a _ c w h1 h2 x y g hC
    · obtain ⟨rfl, h1, h2⟩ := hv.sized
      exact implPutGrey_no W H a _ c w h1 h2 x y g hC
end Go.Proofs.Ytjmlpogaohljdaa
