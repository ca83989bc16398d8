import Derived.Test.YtmbohiebjgafoaaTo
import Derived.Deep.DrawnRows
set_option linter.unusedVariables false
set_option linter.unusedSimpArgs false
namespace Go.FX
open Go Go.RowKit
def markAt (ts : List (Int × Int)) (k0 : Int) (k : Nat) : List (Int × Int) := markT k0 k ++ ts.drop k
theorem markAt_len (ts : List (Int × Int)) (k0 : Int) (k : Nat) (h : k ≤ ts.length) : (markAt ts k0 k).length = ts.length := by
  simp [markAt, markT_len]; omega
theorem markT_succ (k0 : Int) (k : Nat) : markT k0 (k + 1) = markT k0 k ++ [(k0 + 2 * (k : Int), k0 + 2 * (k : Int) + 1)] := by simp [markT, List.range_succ]
theorem cellT_append (a b : List (Int × Int)) : cellT (a ++ b) = cellT a ++ cellT b := by simp [cellT]
theorem mark_set (ts : List (Int × Int)) (k0 : Int) (k : Nat) (h : k < ts.length) :
    ((cellT (markAt ts k0 k)).set (k * 2) (.int .i64 (k0 + 2 * (k : Int)))).set (k * 2 + 1) (.int .i64 (k0 + 2 * (k : Int) + 1)) = cellT (markAt ts k0 (k + 1)) := by
  have hl : (cellT (markT k0 k)).length = k * 2 := by rw [cellT_len, markT_len]
  have hd : ts.drop k = ts[k] :: ts.drop (k + 1) := List.drop_eq_getElem_cons h
  unfold markAt
  rw [markT_succ, hd]
  generalize ts.drop (k + 1) = rest at *
  generalize ts[k] = t0 at *
  rw [cellT_append, cellT_append, cellT_append, List.set_append_right _ _ (by omega), hl, Nat.sub_self, List.set_append_right _ _ (by omega), hl, Nat.add_sub_cancel_left]
  simp [cellT]
theorem markAt_end (ts : List (Int × Int)) (k0 : Int) : markAt ts k0 ts.length = markT k0 ts.length := by simp [markAt]
theorem markAt_zero (ts : List (Int × Int)) (k0 : Int) : markAt ts k0 0 = ts := by simp [markAt, markT]
theorem markT_get (k0 : Int) (n k : Nat) (h : k < (markT k0 n).length) : (markT k0 n)[k] = (k0 + 2 * (k : Int), k0 + 2 * (k : Int) + 1) := by simp [markT]
end Go.FX
namespace Go.Proofs.Ytmbohiebjgafoaa
open Go.FX Go.RowKit Go.WideShapes Go.ChangeShapes

set_option maxHeartbeats 2000000 in
theorem eqTileS_any (va vb : Value) (ba bb : Nat) (ts : List (Int × Int)) (w : World) (ha : OT w ba 48 va ts) (hb : OT w bb 48 vb ts) (hn : ts.length ≤ 1048576) :
    Calls Try.prog 20 #[va, vb] w (RBb true w) := by
  have ha' := Lib.hid ha
  have hb' := Lib.hid hb
  obtain ⟨a1, c1, rfl, _, _⟩ := ha.form
  obtain ⟨a2, c2, rfl, _, _⟩ := hb.form
  clear ha hb
  go_enter Try.func20, Try.ntmps20
  go_wp2_with fail
  go_loopw [5] (fun i wr => ∃ k : Nat, k ≤ ts.length ∧ i = .int .i64 k ∧ Hid (Below w.heap.size w wr)) (fun i _ => ts.length - (intOf i).toNat)
  case atStart => exact ⟨0, Nat.zero_le _, rfl, Lib.hid (Below.refl _ _)⟩
  case round =>
    obtain ⟨k, hk, rfl, hbl⟩ := hrel
    obtain ⟨wo, rfl⟩ : ∃ wo : World, wo = wr := ⟨_, rfl⟩
    by_cases hlt : k < ts.length
    · obtain ⟨g1, d1, e1, x1, x2, l1, _, q1, _⟩ := (ha'.out.below hbl.out).own (by omega)
      obtain ⟨g2, d2, e2, _, _, l2, _, q2, _⟩ := (hb'.out.below hbl.out).own (by omega)
      obtain ⟨rfl, _, rfl⟩ := Value.slice.inj e1
      obtain ⟨rfl, _, rfl⟩ := Value.slice.inj e2
      obtain ⟨p1, p2⟩ := q1 k hlt
      obtain ⟨p3, p4⟩ := q2 k hlt
      obtain ⟨x, hx⟩ : ∃ x, x = ts[k].1 := ⟨_, rfl⟩
      obtain ⟨y, hy⟩ : ∃ y, y = ts[k].2 := ⟨_, rfl⟩
      rw [← hx] at p1 p3
      rw [← hy] at p2 p4
      unfold maxLen at x2
      clear q1 q2 hx hy
      go_upto_region 6 with fail
      go_region_held3 (fun w' => Below wo.heap.size wo w' ∧ wo.heap.size ≤ w'.heap.size ∧ (∀ b o, b < wo.heap.size → w'.cell? ⟨b, o, none⟩ = wo.cell? ⟨b, o, none⟩)) (first | exact keepStart _ | assumption | exact ⟨by assumption, by assumption, by assumption⟩ | exact keepCall (by assumption) (by assumption) | exact keepAlloc (by assumption) | (refine keepSet ?_ (keepSet ?_ (keepSet ?_ (keepSet ?_ ?_))) <;> first | assumption | omega | (simp; done) | (simp; omega)) | (refine keepSet ?_ (keepSet ?_ (keepSet ?_ ?_)) <;> first | assumption | omega | (simp; done) | (simp; omega)) | (refine keepSet ?_ (keepSet ?_ ?_) <;> first | assumption | omega | (simp; done) | (simp; omega)) | (refine keepSet ?_ ?_ <;> first | assumption | omega | (simp; done) | (simp; omega)))
        (first | (go_at_call 31; refine (eqTile_any _ _ _).mono ?_; rintro e w1 ⟨rfl, hb1⟩; have hI := keepCall (n := wo.heap.size) (W1 := wo) (by assumption) hb1; obtain ⟨hc, hf⟩ := bcell hb1; have hz := hb1.size; (try simp at hz); (try simp only [World.size_drew, World.cell?_drew] at hc); (try simp only [World.size_drew, World.frozen?_drew] at hf); first | (have hs := Nat.lt_of_succ_le hz) | (have hs := Nat.lt_of_lt_of_le hs hz) | skip))
      have hb2 := And.left (a := Below wo.heap.size wo w1) (by assumption)
      have HS : Hid (Below w.heap.size w w1) := Lib.hid (hbl.out.trans (hb2.mono hbl.out.size))
      go_wp2_with fail
      go_roundw
      case rel => exact ⟨k + 1, by omega, by go_num, HS⟩
      case measure => simp [intOf]; omega
    · obtain rfl : k = ts.length := by omega
      go_wp2_with fail
      go_ret
      exact ⟨rfl, hbl.out⟩

set_option maxHeartbeats 2000000 in
theorem markTileS_any (v : Value) (base : Nat) (ts : List (Int × Int)) (w : World) (hv : OT w base 48 v ts) (hn : ts.length ≤ 1000) :
    Calls Try.prog 21 #[v, .int .i64 1] w fun e w' => e = .returned (.int .i64 (1 + 2 * (ts.length : Int))) ∧ w.grownBy w' v.ownBlock ∧ OT w' base 48 v (markT 1 ts.length) := by
  rcases Nat.eq_zero_or_pos ts.length with h0 | hp
  · obtain rfl := List.length_eq_zero_iff.1 h0
    obtain ⟨a1, c1, rfl, _, _⟩ := hv.form
    have hv' := Lib.hid hv
    clear hv
    go_enter Try.func21, Try.ntmps21
    go_wp2
    refine wp_loop_rounds 1 ?_
    rw [rounds_succ]
    go_wp2
    go_ret
    exact ⟨by simp, ⟨rfl, rfl, rfl, Nat.le_refl _, fun _ _ _ => rfl⟩, hv'.out⟩
  · obtain ⟨g, c, rfl, h1, h2, _⟩ := hv.own hp
    have hv' := Lib.hid hv
    clear hv
    unfold maxLen at h2
    go_enter Try.func21, Try.ntmps21
    go_wp2_with fail
    go_loopw [1, 5] (fun q i wr => ∃ k : Nat, k ≤ ts.length ∧ i = .int .i64 k ∧ q = .int .i64 (1 + 2 * (k : Int)) ∧ Hid (OT wr base 48 (.slice (some ⟨g, 0, none⟩) ts.length c) (markAt ts 1 k) ∧ w.grownBy wr (some g))) (fun _ i _ => ts.length - (intOf i).toNat)
    case atStart => exact ⟨0, Nat.zero_le _, rfl, rfl, Lib.hid ⟨by rw [markAt_zero]; exact hv'.out, ⟨rfl, rfl, rfl, Nat.le_refl _, fun _ _ _ => rfl⟩⟩⟩
    case round =>
      obtain ⟨k, hk, rfl, rfl, hR⟩ := hrel
      by_cases hlt : k < ts.length
      · have hml := markAt_len ts 1 k hk
        obtain ⟨g', c', e', _, _, hlg, _, hcell, hfr⟩ := hR.out.1.own (by omega)
        obtain ⟨e1, _, e2⟩ := Value.slice.inj e'
        have e3 : g = g' := congrArg Addr.block (Option.some.inj e1)
        subst e3
        subst e2
        obtain ⟨p1, p2⟩ := hcell k (by omega)
        generalize (markAt ts 1 k)[k].1 = o1 at p1
        generalize (markAt ts 1 k)[k].2 = o2 at p2
        have hown : wr.ownsRow base 48 2 (.slice (some ⟨g, 0, none⟩) ts.length c) ts.length (cellT (markAt ts 1 k)) := by have h := hR.out.1; unfold OT at h; rw [hml] at h; exact h
        have s1 := World.ownsRow.stored hown (k * 2) (.int .i64 (1 + 2 * (k : Int)))
        have s2 := World.ownsRow.stored s1.1 (k * 2 + 1) (.int .i64 (1 + 2 * (k : Int) + 1))
        rw [mark_set ts 1 k hlt] at s2
        have HS : Hid (OT ((wr.setCell ⟨g, k * 2, none⟩ (.int .i64 (1 + 2 * (k : Int)))).setCell ⟨g, k * 2 + 1, none⟩ (.int .i64 (1 + 2 * (k : Int) + 1))) base 48 (.slice (some ⟨g, 0, none⟩) ts.length c) (markAt ts 1 (k + 1)) ∧ w.grownBy ((wr.setCell ⟨g, k * 2, none⟩ (.int .i64 (1 + 2 * (k : Int)))).setCell ⟨g, k * 2 + 1, none⟩ (.int .i64 (1 + 2 * (k : Int) + 1))) (some g)) := Lib.hid ⟨by unfold OT; rw [markAt_len ts 1 (k + 1) (by omega)]; exact s2.1, grown_trans hR.out.2 (grown_trans s1.2 s2.2)⟩
        clear s1 s2 hown hcell hml hR
        go_wp2_with fail
        go_roundw
        case rel => exact ⟨k + 1, by omega, by go_num, by first | (go_num; done) | (simp; omega) | (congr 1; omega), HS⟩
        case measure => simp [intOf]; omega
      · obtain rfl : k = ts.length := by omega
        have HS : Hid (w.grownBy wr (some g) ∧ OT wr base 48 (.slice (some ⟨g, 0, none⟩) ts.length c) (markT 1 ts.length)) := Lib.hid ⟨hR.out.2, by rw [← markAt_end]; exact hR.out.1⟩
        clear hR
        go_wp2_with fail
        go_ret
        exact ⟨rfl, HS.out.1, HS.out.2⟩

set_option maxHeartbeats 2000000 in
theorem heldTileS_any (v : Value) (base n : Nat) (w : World) (hv : OT w base 48 v (markT 1 n)) (hn : n ≤ 1000) :
    Calls Try.prog 22 #[v, .int .i64 1] w fun e w' => e = .returned (.int .i64 (1 + 2 * (n : Int))) ∧ w = w' := by
  have hl := markT_len 1 n
  obtain ⟨a, c, ev, _, h2⟩ := hv.form
  rw [hl] at ev
  subst ev
  have hv' := Lib.hid hv
  clear hv
  unfold maxLen at h2
  go_enter Try.func22, Try.ntmps22
  go_wp2_with fail
  go_loop [1, 5] (fun q i => ∃ k : Nat, k ≤ n ∧ i = .int .i64 k ∧ q = .int .i64 (1 + 2 * (k : Int))) (fun _ i => n - (intOf i).toNat)
  case atStart => exact ⟨0, Nat.zero_le _, rfl, rfl⟩
  case round =>
    obtain ⟨k, hk, rfl, rfl⟩ := hrel
    by_cases hlt : k < n
    · obtain ⟨g, c', e', _, _, hlg, _, hcell, hfr⟩ := hv'.out.own (by omega)
      rw [hl] at e'
      obtain ⟨rfl, _, rfl⟩ := Value.slice.inj e'
      obtain ⟨p1, p2⟩ := hcell k (by omega)
      rw [markT_get] at p1 p2
      clear hcell hfr
      go_wp2_with fail
      go_round
      case rel => exact ⟨k + 1, by omega, by go_num, by first | (go_num; done) | (simp; omega) | (congr 1; omega)⟩
      case measure => simp [intOf]; omega
    · obtain rfl : k = n := by omega
      go_wp2_with fail
      go_ret
      exact ⟨rfl, rfl⟩
end Go.Proofs.Ytmbohiebjgafoaa
