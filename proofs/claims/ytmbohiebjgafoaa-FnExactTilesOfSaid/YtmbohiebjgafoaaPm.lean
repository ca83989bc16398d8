import Derived.Test.YtmbohiebjgafoaaPg
import Derived.Deep.DeepCutAuto
import Derived.Deep.QuietTactic
import Derived.BigQuiet
set_option linter.unusedVariables false
set_option linter.unusedSimpArgs false
namespace Go.Proofs.Ytmbohiebjgafoaa
open Go.FX Go.RowKit Go.WideShapes Go.ChangeShapes

theorem toFC_any (v : Value) (cs : List Nat) (w : World) (hv : FC w v cs) (hn : cs.length ≤ 1048576) :
    Calls Try.prog 70 #[v] w fun e w' => ∃ a n c, e = .returned (.slice a n c) ∧ Below w.heap.size w w' ∧ OC w' w.heap.size 22 (.slice a n c) cs := by
  obtain ⟨zs, hF, rfl⟩ := hv
  have hz := hF.1
  refine (toF_any v zs w hF (by simpa using hn)).mono ?_
  rintro e w' ⟨rfl, h2, h3⟩
  exact ⟨_, _, _, rfl, h3, OC.of hz h2⟩

theorem eqFC_any (va vb : Value) (cs : List Nat) (w : World) (ha : FC w va cs) (hb : FC w vb cs) (hn : cs.length ≤ 1048576) :
    Calls Try.prog 72 #[va, vb] w (RB true w) := by
  obtain ⟨za, hF, rfl⟩ := ha
  obtain ⟨zb, hG, e⟩ := hb
  exact eqF_any va vb za zb w hF hG e.symm (by simpa using hn)

set_option maxHeartbeats 1000000 in
theorem toPic_any (W H : Int) (v : Value) (cs : List Nat) (w : World) (hv : FC w v cs) (hn : cs.length ≤ 1048576) :
    Calls Try.prog 25 #[.agg #[.int .i64 W, .int .i64 H, v]] w (RPic1 22 W H cs w) := by
  have hc0 := fun w' (hb : Below w.heap.size w w') => toFC_any v cs w' (hv.below hb) hn
  go_enter Try.func25, Try.ntmps25
  go_wp2_with (go_at_call 70; refine (hc0 _ (below3 _ _ _ _)).mono ?_; rintro e w1 ⟨a', n', c', rfl, hb1, ho1⟩; obtain ⟨l1, c10, c11, c12, f1⟩ := ((Nv.new _ _ _ _ _).alloc _).below hb1; obtain ⟨l2, c20, c21, c22, f2⟩ := (Nv.new _ _ _ _ _).below hb1; simp only [World.size_alloc] at l1 c10 c11 c12 f1 l2 c20 c21 c22 f2)
  refine bodyPost_ret (v := ?v) ?hr rfl ?post
  case hr => (simp [results, Try.results25, go_sem, c10, c11, c12, c20, c21, c22, f1, f2]; rfl)
  case post =>
    refine ⟨_, _, _, rfl, ?_, ?_⟩
    · ((repeat' (first | (refine bel_set ?_ ?_ _) | (refine bel_al ?_ ?_ _) | exact Below.refl _ _ | assumption | (refine below_drewN ?_ _) | (refine Below.drew ?_) | (refine Below.trans ?_ (Below.mono hb1 ?_)))) <;> (first | omega | (simp; done) | (simp; omega)))
    · (refine OC.mono (base := ?bb) ?hh ?hl; (case hh => ((repeat' (first | (refine OC.set ?_ _ ?_) | (refine OC.alloc ?_ _) | exact ho1 | (refine OC.drewN ?_ _))) <;> (first | omega | (simp; done) | (simp; omega)))); (case hl => (first | omega | (simp; done) | (simp; omega))))

set_option maxHeartbeats 1000000 in
theorem eqPic_any (W H : Int) (va vb : Value) (cs : List Nat) (w : World) (ha : FC w va cs) (hb : FC w vb cs) (hn : cs.length ≤ 1048576) :
    Calls Try.prog 28 #[.agg #[.int .i64 W, .int .i64 H, va], .agg #[.int .i64 W, .int .i64 H, vb]] w (RBb true w) := by
  have hc0 := fun w' (hb' : Below w.heap.size w w') => eqFC_any va vb cs w' (ha.below hb') (hb.below hb') hn
  obtain ⟨a1, c1, rfl, _, _⟩ := ha.shape
  obtain ⟨a2, c2, rfl, _, _⟩ := hb.shape
  go_enter Try.func28, Try.ntmps28
  go_wp2_with (go_at_call 72; refine (hc0 _ (below2 _ _ _)).mono ?_; rintro e w1 ⟨n, rfl, rfl⟩)
  go_ret
  exact ⟨rfl, by ((repeat' (first | (refine bel_set ?_ ?_ _) | (refine bel_al ?_ ?_ _) | exact Below.refl _ _ | assumption | (refine below_drewN ?_ _) | (refine Below.drew ?_))) <;> (first | omega | (simp; done) | (simp; omega)))⟩

theorem szPic_any (W H : Int) (a : Option Addr) (n c : Nat) (k : Int) (w : World) (hn : (n : Int) ≤ k) (hk : k ≤ 1048576) :
    Calls Try.prog 23 #[.agg #[.int .i64 W, .int .i64 H, .slice a n c], .int .i64 k] w fun e w' => e = .returned (.int .i64 (k - n)) ∧ Below w.heap.size w w' := by
  go_enter Try.func23, Try.ntmps23
  go_wp2
  go_ret
  exact ⟨rfl, below1 _ _⟩
theorem szPic_no (W H : Int) (a : Option Addr) (n c : Nat) (k : Int) (w : World) (hn : k < (n : Int)) (hk : 0 ≤ k) (h64 : (n : Int) ≤ 9223372036854775807) :
    Calls Try.prog 23 #[.agg #[.int .i64 W, .int .i64 H, .slice a n c], .int .i64 k] w fun e w' => e = .returned (.int .i64 (-1)) ∧ Below w.heap.size w w' := by
  go_enter Try.func23, Try.ntmps23
  go_wp2
  go_ret
  exact ⟨rfl, below1 _ _⟩

/-! Marks. -/
set_option maxHeartbeats 1000000 in
theorem markF_any (v : Value) (cs : List Nat) (k : Int) (base : Nat) (w : World) (hv : OC w base 22 v cs) (hk : 0 ≤ k) (hk2 : k + cs.length ≤ 1000000000) :
    Calls Try.prog 76 #[v, .int .i64 k] w fun e w' => e = .returned (.int .i64 (k + cs.length)) ∧ w.grownBy w' v.ownBlock ∧ OC w' base 22 v (marks k cs.length) := by
  obtain ⟨zs, hz, rfl, hown⟩ := hv
  rw [List.length_map] at hk2 ⊢
  rcases hown.2 with ⟨rfl, h0⟩ | ⟨g, cap, cur, rfl, hb, hg, hn, hm, _⟩
  · obtain rfl : zs = [] := List.length_eq_zero_iff.1 h0
    go_enter Try.func76, Try.ntmps76
    go_wp2
    refine wp_loop_rounds 1 ?_
    rw [rounds_succ]
    go_wp2
    go_ret
    exact ⟨by simp, ⟨rfl, rfl, rfl, Nat.le_refl _, fun _ _ _ => rfl⟩, OC.nil _ _ _⟩
  · clear hg
    unfold maxLen at hm
    go_enter Try.func76, Try.ntmps76
    go_wp2
    go_loopw [1, 5] (fun q i wr => ∃ j : Nat, j ≤ zs.length ∧ i = .int .i64 j ∧ q = .int .i64 (k + j) ∧ wr.ownsRow base 22 1 (.slice (some ⟨g, 0, none⟩) zs.length cap) zs.length ((mkAt zs k j).map (.float .f32)) ∧ w.grownBy wr (some g)) (fun _ i _ => zs.length - (intOf i).toNat)
    case atStart => exact ⟨0, Nat.zero_le _, rfl, by simp, by rw [mkAt_zero]; exact hown, ⟨rfl, rfl, rfl, Nat.le_refl _, fun _ _ _ => rfl⟩⟩
    case round =>
      clear hown
      obtain ⟨j, hj, rfl, rfl, hown, hgr⟩ := hrel
      by_cases hlt : j < zs.length
      · have hold : wr.cell? ⟨g, j, none⟩ = some (.float .f32 ((mkAt zs k j).getD j 0)) := by
          have := mkAt_len zs k j hj
          rw [hown.cellAt j (by omega)]; simp [List.getD]; rw [List.getElem?_eq_getElem (by omega)]; simp
        have hfz : wr.frozen? ⟨g, j, none⟩ = false := hown.frozenAt j
        have hst := hown.stored j (.float .f32 (fi (k + j)))
        rw [← List.map_set, mkAt_set zs k j hlt] at hst
        have hof : floatOfInt .f32 (k + j) = fi (k + j) := rfl
        generalize (mkAt zs k j).getD j 0 = old at hold
        have HS := Lib.hid (And.intro hst.1 (grown_trans hgr hst.2))
        clear hst hown hgr
        go_wp2
        go_roundw
        case rel => exact ⟨j + 1, by omega, by go_num, by simp; omega, HS.out.1, HS.out.2⟩
        case measure => simp [intOf]; omega
      · obtain rfl : j = zs.length := by omega
        rw [mkAt_end zs k _ (Nat.le_refl _)] at hown
        have HS := Lib.hid (And.intro hown hgr)
        clear hown hgr
        go_wp2
        go_ret
        exact ⟨rfl, HS.out.2, ⟨marks k zs.length, marks_wf _ _, marks_cn _ _, by rw [marks_len]; exact HS.out.1⟩⟩
set_option maxHeartbeats 1000000 in
theorem heldF_any (v : Value) (n : Nat) (k : Int) (w : World) (hv : FC w v (marks k n)) (hk : 0 ≤ k) (hk2 : k + n ≤ 1000000000) :
    Calls Try.prog 77 #[v, .int .i64 k] w fun e w' => e = .returned (.int .i64 (k + n)) ∧ w = w' := by
  have hv0 := Lib.hid hv
  obtain ⟨a, cap, rfl, h1, h2⟩ := hv.shape
  clear hv
  rw [marks_len] at *
  unfold maxLen at h2
  go_enter Try.func77, Try.ntmps77
  go_wp2
  go_loop [1, 5] (fun q i => ∃ j : Nat, j ≤ n ∧ i = .int .i64 j ∧ q = .int .i64 (k + j)) (fun _ i => n - (intOf i).toNat)
  case atStart => exact ⟨0, Nat.zero_le _, rfl, by simp⟩
  case round =>
    obtain ⟨j, hj, rfl, rfl⟩ := hrel
    by_cases hlt : j < n
    · obtain ⟨b, off, c', z, ev, _, _, _, hz, hc⟩ := hv0.out.cell (k := j) (by rw [marks_len]; exact hlt)
      simp only [Value.slice.injEq] at ev
      obtain ⟨rfl, en, rfl⟩ := ev
      clear en
      rw [marks_get k n j hlt] at hz
      have hzz : z = fi (k + j) := by
        have := hz.eq
        unfold cn at this
        split at this
        · have e2 := fi_not (k + j); rw [← this, isN_qn] at e2; cases e2
        · exact this
      have hof : floatOfInt .f32 (k + j) = z := hzz.symm
      have hnn : isN .f32 z = false := by rw [hzz]; exact fi_not _
      clear hz hzz
      go_wp2
      go_round
      case rel => exact ⟨j + 1, by omega, by go_num, by simp; omega⟩
      case measure => simp [intOf]; omega
    · obtain rfl : j = n := by omega
      go_wp2
      go_ret
      exact ⟨rfl, rfl⟩

theorem markPic_any (W H : Int) (v : Value) (cs : List Nat) (k : Int) (base : Nat) (w : World) (hv : OC w base 22 v cs) (hk : 0 ≤ k) (hk2 : k + cs.length ≤ 1000000000) :
    Calls Try.prog 34 #[.agg #[.int .i64 W, .int .i64 H, v], .int .i64 k] w fun e w' => e = .returned (.int .i64 (k + cs.length)) ∧ w.grownBy w' v.ownBlock ∧ OC w' base 22 v (marks k cs.length) := by
  have hc0 := fun w' (hb' : Below w.heap.size w w') => markF_any v cs k base w' (hv.below hb') hk hk2
  obtain ⟨a, cap, rfl, _, _⟩ := hv.len
  go_enter Try.func34, Try.ntmps34
  go_wp2_with (go_at_call 76; refine (hc0 _ (below1 _ _)).mono ?_; rintro e w1 ⟨rfl, hg, ho⟩)
  go_ret
  exact ⟨rfl, grown_trans (grown_of_below (below1 _ _) _) hg, ho⟩
theorem heldPic_any (W H : Int) (v : Value) (n : Nat) (k : Int) (w : World) (hv : FC w v (marks k n)) (hk : 0 ≤ k) (hk2 : k + n ≤ 1000000000) :
    Calls Try.prog 35 #[.agg #[.int .i64 W, .int .i64 H, v], .int .i64 k] w fun e w' => e = .returned (.int .i64 (k + n)) ∧ Below w.heap.size w w' := by
  have hc0 := fun w' (hb' : Below w.heap.size w w') => heldF_any v n k w' (hv.below hb') hk hk2
  obtain ⟨a, cap, rfl, _, _⟩ := hv.shape
  go_enter Try.func35, Try.ntmps35
  go_wp2_with (go_at_call 77; refine (hc0 _ (below1 _ _)).mono ?_; rintro e w1 ⟨rfl, rfl⟩)
  go_ret
  exact ⟨rfl, below1 _ _⟩

end Go.Proofs.Ytmbohiebjgafoaa
