import Derived.Test.YtaclgmafcakiiaaPg
import Derived.Deep.DeepCutAuto
import Derived.Deep.QuietTactic
import Derived.BigQuiet
set_option linter.unusedVariables false
set_option linter.unusedSimpArgs false
namespace Go.Proofs.Ytaclgmafcakiiaa
open Go.FX Go.RowKit Go.WideShapes Go.ChangeShapes

theorem toFC_any (v : Value) (cs : List Nat) (w : World) (hv : FC w v cs) (hn : cs.length ≤ 1048576) :
    Calls Try.prog 23 #[v] w fun e w' => ∃ a n c, e = .returned (.slice a n c) ∧ Below w.heap.size w w' ∧ OC w' w.heap.size 37 (.slice a n c) cs := by
  obtain ⟨zs, hF, rfl⟩ := hv
  have hz := hF.1
  refine (toF_any v zs w hF (by simpa using hn)).mono ?_
  rintro e w' ⟨rfl, h2, h3⟩
  exact ⟨_, _, _, rfl, h3, OC.of hz h2⟩

theorem eqFC_any (va vb : Value) (cs : List Nat) (w : World) (ha : FC w va cs) (hb : FC w vb cs) (hn : cs.length ≤ 1048576) :
    Calls Try.prog 26 #[va, vb] w (RB true w) := by
  obtain ⟨za, hF, rfl⟩ := ha
  obtain ⟨zb, hG, e⟩ := hb
  exact eqF_any va vb za zb w hF hG e.symm (by simpa using hn)

/-! Marks. -/
set_option maxHeartbeats 1000000 in
theorem markF_any (v : Value) (cs : List Nat) (k : Int) (base : Nat) (w : World) (hv : OC w base 37 v cs) (hk : 0 ≤ k) (hk2 : k + cs.length ≤ 1000000000) :
    Calls Try.prog 27 #[v, .int .i64 k] w fun e w' => e = .returned (.int .i64 (k + cs.length)) ∧ w.grownBy w' v.ownBlock ∧ OC w' base 37 v (marks k cs.length) := by
  obtain ⟨zs, hz, rfl, hown⟩ := hv
  rw [List.length_map] at hk2 ⊢
  rcases hown.2 with ⟨rfl, h0⟩ | ⟨g, cap, cur, rfl, hb, hg, hn, hm, _⟩
  · obtain rfl : zs = [] := List.length_eq_zero_iff.1 h0
    go_enter Try.func27, Try.ntmps27
    go_wp2
    refine wp_loop_rounds 1 ?_
    rw [rounds_succ]
    go_wp2
    go_ret
    exact ⟨by simp, ⟨rfl, rfl, rfl, Nat.le_refl _, fun _ _ _ => rfl⟩, OC.nil _ _ _⟩
  · clear hg
    unfold maxLen at hm
    go_enter Try.func27, Try.ntmps27
    go_wp2
    go_loopw [1, 5] (fun q i wr => ∃ j : Nat, j ≤ zs.length ∧ i = .int .i64 j ∧ q = .int .i64 (k + j) ∧ wr.ownsRow base 37 1 (.slice (some ⟨g, 0, none⟩) zs.length cap) zs.length ((mkAt zs k j).map (.float .f32)) ∧ w.grownBy wr (some g)) (fun _ i _ => zs.length - (intOf i).toNat)
    case atStart => exact ⟨0, Nat.zero_le _, rfl, by simp, by rw [mkAt_zero]; exact hown, ⟨rfl, rfl, rfl, Nat.le_refl _, fun _ _ _ => rfl⟩⟩
    case round =>
      clear hown
      obtain ⟨j, hj, rfl, rfl, hown, hgr⟩ := hrel
      by_cases hlt : j < zs.length
      · have hold : wr.cell? ⟨g, j, none⟩ = some (.float .f32 ((mkAt zs k j).getD j 0)) := by
          have := mkAt_len zs k j hj
          rw [hown.cellAt j (by omega)]; simp [List.getD]; rw [List.getElem?_eq_getElem (by omega)]; simp
        have hfz : wr.frozen? ⟨g, j, none⟩ = false := hown.frozenAt j
        have hst := hown.stored j (.float .f32 (fi (k + j)))
        rw [← List.map_set, mkAt_set zs k j hlt] at hst
        have hof : floatOfInt .f32 (k + j) = fi (k + j) := rfl
        generalize (mkAt zs k j).getD j 0 = old at hold
        have HS := Lib.hid (And.intro hst.1 (grown_trans hgr hst.2))
        clear hst hown hgr
        go_wp2
        go_roundw
        case rel => exact ⟨j + 1, by omega, by go_num, by simp; omega, HS.out.1, HS.out.2⟩
        case measure => simp [intOf]; omega
      · obtain rfl : j = zs.length := by omega
        rw [mkAt_end zs k _ (Nat.le_refl _)] at hown
        have HS := Lib.hid (And.intro hown hgr)
        clear hown hgr
        go_wp2
        go_ret
        exact ⟨rfl, HS.out.2, ⟨marks k zs.length, marks_wf _ _, marks_cn _ _, by rw [marks_len]; exact HS.out.1⟩⟩
set_option maxHeartbeats 1000000 in
theorem heldF_any (v : Value) (n : Nat) (k : Int) (w : World) (hv : FC w v (marks k n)) (hk : 0 ≤ k) (hk2 : k + n ≤ 1000000000) :
    Calls Try.prog 28 #[v, .int .i64 k] w fun e w' => e = .returned (.int .i64 (k + n)) ∧ w = w' := by
  have hv0 := Lib.hid hv
  obtain ⟨a, cap, rfl, h1, h2⟩ := hv.shape
  clear hv
  rw [marks_len] at *
  unfold maxLen at h2
  go_enter Try.func28, Try.ntmps28
  go_wp2
  go_loop [1, 5] (fun q i => ∃ j : Nat, j ≤ n ∧ i = .int .i64 j ∧ q = .int .i64 (k + j)) (fun _ i => n - (intOf i).toNat)
  case atStart => exact ⟨0, Nat.zero_le _, rfl, by simp⟩
  case round =>
    obtain ⟨j, hj, rfl, rfl⟩ := hrel
    by_cases hlt : j < n
    · obtain ⟨b, off, c', z, ev, _, _, _, hz, hc⟩ := hv0.out.cell (k := j) (by rw [marks_len]; exact hlt)
      simp only [Value.slice.injEq] at ev
      obtain ⟨rfl, en, rfl⟩ := ev
      clear en
      rw [marks_get k n j hlt] at hz
      have hzz : z = fi (k + j) := by
        have := hz.eq
        unfold cn at this
        split at this
        · have e2 := fi_not (k + j); rw [← this, isN_qn] at e2; cases e2
        · exact this
      have hof : floatOfInt .f32 (k + j) = z := hzz.symm
      have hnn : isN .f32 z = false := by rw [hzz]; exact fi_not _
      clear hz hzz
      go_wp2
      go_round
      case rel => exact ⟨j + 1, by omega, by go_num, by simp; omega⟩
      case measure => simp [intOf]; omega
    · obtain rfl : j = n := by omega
      go_wp2
      go_ret
      exact ⟨rfl, rfl⟩

end Go.Proofs.Ytaclgmafcakiiaa
