import Derived.Test.YtnbilmlpngcobaaCb
import Derived.Shelf.SlicesE.IndexFunc
import Derived.Shelf.SlGeneric
import Derived.Ground.SlgfProg
import Derived.IntWalk
set_option linter.unusedVariables false
set_option linter.unusedSimpArgs false
namespace Go.Proofs.Ytnbilmlpngcobaa
open Go.FX Go.RowKit Go.WideShapes Go.ChangeShapes Go.Shelf Go.Sort
shelf_lay_g SlLaysH.n8 Slgf 8 at Try 147 as Try.layCont
/-- Is a list a warp? -/
def warpB (cs : List Nat) : Bool := decide (cs.length = 9) && cs.all (isF .f32)
theorem notFin_any (x : Nat) (w : World) : Calls Try.prog 146 #[.float .f32 x] w (RB (!isF .f32 x) w) := by
  go_enter Try.func146, Try.ntmps146
  go_wp2_with fail
  refine (caFin_any _ _).mono ?_
  rintro e w1 ⟨k, rfl, rfl⟩
  go_wp2_with fail
  go_ret
  exact ⟨_, rfl, rfl⟩
theorem all_any (l : List Nat) (p : Nat → Bool) : (!l.any fun x => !p x) = l.all p := by
  induction l with
  | nil => rfl
  | cons a l ih => simp only [List.any_cons, List.all_cons, Bool.not_or, Bool.not_not, ih]
theorem all_cn (zs : List Nat) : (zs.map (cn .f32)).all (isF .f32) = zs.all (isF .f32) := by
  induction zs with
  | nil => rfl
  | cons a l ih => simp only [List.map_cons, List.all_cons, ih, isF_cn]
set_option maxRecDepth 100000 in
set_option maxHeartbeats 4000000 in
theorem isWarp_any (v : Value) (cs : List Nat) (w : World) (hv : FC w v cs) : Calls Try.prog 85 #[v] w (RB (warpB cs) w) := by
  obtain ⟨zs, ⟨hz, a', cap', ev, k1, k2, k3⟩, rfl⟩ := hv
  subst ev
  unfold warpB
  rw [List.length_map, all_cn]
  by_cases h9 : zs.length = 9
  · rcases k3 with k3 | ⟨b, off, rfl, hb, hc⟩
    · subst k3; simp at h9
    have hct := AnyE.slices_ContainsFunc Try.layCont (Value.float .f32) (fun x => !isF .f32 x) 146 #[] (enters_of Try.func146 (by kernel_rfl) rfl) b off zs.length cap' zs w
      (fun W x _ => (notFin_any x W).mono fun e w' ⟨q, h1, h2⟩ => ⟨h1, q, h2⟩) (Nat.le_refl _) (by unfold maxLen at k2; omega)
      (fun j hj => by have := hc j hj; rw [this]; simp [List.getD, hj])
    rw [List.take_of_length_le (Nat.le_refl _)] at hct
    have hE := Lib.hid (all_any zs (isF .f32))
    have hct := Lib.hid hct
    rw [decide_eq_true h9, Bool.true_and]
    have h9' := Lib.hid h9
    rw [h9] at hct ⊢
    clear hz k1 hc h9 h9'
    generalize zs.any (fun x => !isF .f32 x) = A at hct hE
    go_enter Try.func85, Try.ntmps85
    go_wp2_with fail
    refine hct.out.mono ?_
    rintro e w1 ⟨rfl, q, rfl⟩
    go_wp2_with fail
    go_ret
    exact ⟨q, by rw [← hE.out]; rfl, rfl⟩
  · rw [decide_eq_false h9, Bool.false_and]
    have e1 : ((zs.length : Int) == 9) = false := by rw [beq_eq_false_iff_ne]; omega
    have e2 : decide ((zs.length : Int) = 9) = false := by rw [decide_eq_false_iff_not]; omega
    clear hz k1 k2 k3 h9
    go_enter Try.func85, Try.ntmps85
    go_wp2_with fail
    go_ret
    exact ⟨0, rfl, rfl⟩

theorem all_take (l : List Nat) (p : Nat → Bool) (h : ∀ j, j < l.length → p (l.getD j 0) = true) : l.all p = true := by
  rw [List.all_eq_true]
  intro x hx
  obtain ⟨j, hj, rfl⟩ := List.mem_iff_getElem.1 hx
  have := h j hj
  simpa [List.getD, hj] using this
theorem all_not (l : List Nat) (p : Nat → Bool) (j : Nat) (hj : j < l.length) (h : p (l.getD j 0) = false) : l.all p = false := by
  rw [← Bool.not_eq_true, List.all_eq_true]
  intro ha
  have := ha (l.getD j 0) (by simp [List.getD, hj])
  rw [this] at h; cases h
theorem caSFin_fl {x c : Nat} (h : Fl .f32 x c) (w : World) : Calls Try.prog 138 #[.float .f32 x] w (RB (isF .f32 c) w) := by
  rw [← h.isF]; exact caSFin_any x w
theorem caFin_fl {x c : Nat} (h : Fl .f32 x c) (w : World) : Calls Try.prog 140 #[.float .f32 x] w (RB (isF .f32 c) w) := by
  rw [← h.isF]; exact caFin_any x w
set_option maxRecDepth 100000 in
set_option maxHeartbeats 4000000 in
theorem sIsWarp_any (v : Value) (cs : List Nat) (w : World) (hv : FC w v cs) : Calls Try.prog 79 #[v] w (RB (warpB cs) w) := by
  obtain ⟨a, cap, rfl, hlc, hcm⟩ := hv.shape
  unfold warpB
  by_cases h9 : cs.length = 9
  · have hvH := Lib.hid hv
    rw [decide_eq_true h9, Bool.true_and]
    have h9' := Lib.hid h9
    rw [h9]
    clear hv h9 hlc hcm
    go_enter Try.func79, Try.ntmps79
    go_wp2_with fail
    go_loopw [3] (fun s3 wr => ∃ k q : Nat, k ≤ 9 ∧ s3 = .int .i64 k ∧ wr = w.drewN q ∧ Hid (∀ j, j < k → isF .f32 (cs.getD j 0) = true)) (fun s3 _ => 9 - (intOf s3).toNat)
    case atStart => exact ⟨0, 0, by omega, rfl, rfl, Lib.hid fun j hj => absurd hj (Nat.not_lt_zero _)⟩
    case round =>
      obtain ⟨k, q, hk, rfl, rfl, hA⟩ := hrel
      by_cases hlt : k < 9
      · obtain ⟨b, off, c, z, ev, _, _, hb, hz, hc⟩ := hvH.out.cell (k := k) (by rw [h9'.out]; exact hlt)
        rw [h9'.out] at ev
        simp only [Value.slice.injEq, true_and] at ev
        obtain ⟨rfl, rfl⟩ := ev
        have i1 : (k : Int) < 9 := by omega
        have hA' := hA
        have hz := Lib.hid hz
        cases hf : isF .f32 (cs.getD k 0) with
        | false =>
          have hf' := Lib.hid hf
          clear hf
          go_wp2_with fail
          refine (caSFin_fl hz.out _).mono ?_
          rintro e w1 ⟨k1, rfl, rfl⟩
          rw [hf'.out]
          go_wp2_with fail
          go_ret
          exact ⟨q + k1, by rw [all_not cs (isF .f32) k (by rw [h9'.out]; exact hlt) hf'.out]; rfl, by simp⟩
        | true =>
          have hf' := Lib.hid hf
          clear hf
          go_wp2_with fail
          refine (caSFin_fl hz.out _).mono ?_
          rintro e w1 ⟨k1, rfl, rfl⟩
          rw [hf'.out]
          go_wp2_with fail
          go_roundw
          case rel =>
            refine ⟨k + 1, q + k1, by omega, by go_num, by simp, Lib.hid fun j hj => ?_⟩
            by_cases e : j = k
            · subst e; exact hf'.out
            · exact hA'.out j (by omega)
          case measure => simp [intOf]; omega
      · obtain rfl : k = 9 := by omega
        go_wp2_with fail
        go_ret
        exact ⟨q, by rw [all_take cs (isF .f32) (fun j hj => hA.out j (by rw [h9'.out] at hj; exact hj))]; rfl, rfl⟩
  · rw [decide_eq_false h9, Bool.false_and]
    have e1 : ((cs.length : Int) == 9) = false := by rw [beq_eq_false_iff_ne]; omega
    have e2 : decide ((cs.length : Int) = 9) = false := by rw [decide_eq_false_iff_not]; omega
    clear hlc hcm h9 hv
    go_enter Try.func79, Try.ntmps79
    go_wp2_with fail
    go_loopw [3] (fun s3 wr => s3 = .int .i64 0 ∧ wr = w) (fun s3 _ => 0)
    case atStart => exact ⟨rfl, rfl⟩
    case round =>
      obtain ⟨rfl, rfl⟩ := hrel
      by_cases h0 : (0 : Int) < (cs.length : Int)
      all_goals
        go_wp2_with fail
        go_ret
        exact ⟨0, rfl, rfl⟩
theorem dd (w : World) (a b : Nat) : (w.drewN a).drewN b = w.drewN (a + b) := by simp
/-- A row of a warp, and x, y and 1. -/
def rowW (cs : List Nat) (i : Nat) (x y : Nat) : Nat := fop .add .f32 (fop .add .f32 (fop .mul .f32 (cs.getD (3 * i) 0) (cn .f32 x)) (fop .mul .f32 (cs.getD (3 * i + 1) 0) (cn .f32 y))) (cs.getD (3 * i + 2) 0)
def ledU (cs : List Nat) (i : Nat) (x y : Nat) : Nat := fop .quo .f32 (rowW cs i x y) (rowW cs 2 x y)
def ledOk (cs : List Nat) (x y : Nat) : Bool := isF .f32 (ledU cs 0 x y) && isF .f32 (ledU cs 1 x y)
def R2B (c0 c1 : Nat) (ok : Bool) (w : World) (e : Ending) (w' : World) : Prop := ∃ r0 r1, e = .returned (.tuple #[.float .f32 r0, .float .f32 r1, .bool ok]) ∧ Below w.heap.size w w' ∧ Fl .f32 r0 c0 ∧ Fl .f32 r1 c1
def R2D (c0 c1 : Nat) (ok : Bool) (w : World) (e : Ending) (w' : World) : Prop := ∃ r0 r1 n, e = .returned (.tuple #[.float .f32 r0, .float .f32 r1, .bool ok]) ∧ w' = w.drewN n ∧ Fl .f32 r0 c0 ∧ Fl .f32 r1 c1
/-- What a list of nine reads. -/
def Nine (w : World) (b off : Nat) (cs : List Nat) : Prop := ∀ k, k < 9 → ∃ z, Fl .f32 z (cs.getD k 0) ∧ w.cell? ⟨b, off + k, none⟩ = some (.float .f32 z)
theorem FC.nine {w : World} {v : Value} {cs : List Nat} (h : FC w v cs) (h9 : cs.length = 9) : ∃ b off c, v = .slice (some ⟨b, off, none⟩) 9 c ∧ 9 ≤ c ∧ c ≤ maxLen ∧ b < w.heap.size ∧ Nine w b off cs := by
  obtain ⟨b, off, c, z, ev, h1, h2, hb, hz, hc⟩ := h.cell (k := 0) (by omega)
  refine ⟨b, off, c, by rw [ev, h9], by omega, h2, hb, fun k hk => ?_⟩
  obtain ⟨b', o', c', z', ev', _, _, _, h3, h4⟩ := h.cell (k := k) (by omega)
  rw [ev] at ev'
  simp only [Value.slice.injEq, Option.some.injEq, Addr.mk.injEq, and_true, true_and] at ev'
  obtain ⟨⟨rfl, rfl⟩, rfl⟩ := ev'
  exact ⟨z', h3, h4⟩

set_option maxRecDepth 100000 in
set_option maxHeartbeats 4000000 in
theorem specLead_any (b off c : Nat) (cs : List Nat) (x y : Nat) (w : World) (hN0 : Nine w b off cs) (lx : x < width .f32) (ly : y < width .f32) :
    Calls Try.prog 82 #[.slice (some ⟨b, off, none⟩) 9 c, .float .f32 x, .float .f32 y] w (R2D (sel (ledOk cs x y) (ledU cs 0 x y)) (sel (ledOk cs x y) (ledU cs 1 x y)) (ledOk cs x y) w) := by
  have hN := Lib.hid hN0
  clear hN0
  have hfx := Fl.of lx
  have hfy := Fl.of ly
  cases h1 : isF .f32 (ledU cs 0 x y) with
  | false =>
    have h1' := Lib.hid h1
    clear h1
    have e2 : ledOk cs x y = false := by unfold ledOk; rw [h1'.out]; rfl
    rw [e2]
    clear e2
    go_enter Try.func82, Try.ntmps82
    go_wp2_with fail
    have hk0 := hN.out
    obtain ⟨z0, hz0, hc0⟩ := hk0 0 (by omega)
    obtain ⟨z1, hz1, hc1⟩ := hk0 1 (by omega)
    obtain ⟨z2, hz2, hc2⟩ := hk0 2 (by omega)
    have hk0 := Lib.hid hk0
    try simp only [Nat.add_zero] at hc0
    refine wp_region_cls (by kernel_rfl) (by kernel_rfl) (by kernel_rfl) (by kernel_rfl) (fun w' => ∃ n, w' = w.drewN n) ⟨1, rfl⟩ [Eq1 ?q8300u0, Eq1 ?q8300u1, Eq1 ?q8300u2, Eq1 ?q8300u3, FloatIs .f32 (fop .mul .f32 (cs.getD 0 0) (cn .f32 x)), Eq1 ?q8300u5, Eq1 ?q8300u6, Eq1 ?q8300u7, Eq1 ?q8300u8, FloatIs .f32 (fop .mul .f32 (cs.getD 1 0) (cn .f32 y)), FloatIs .f32 (fop .add .f32 (fop .mul .f32 (cs.getD 0 0) (cn .f32 x)) (fop .mul .f32 (cs.getD 1 0) (cn .f32 y))), Eq1 ?q8300u11, Eq1 ?q8300u12, Eq1 ?q8300u13, FloatIs .f32 (rowW cs 0 x y), FloatIs .f32 (rowW cs 0 x y)] ?q8300main
    case q8300main =>
      (refine wpR_pure ?_ (fun w hw => ?_) ?_; rfl; (obtain ⟨nn, rfl⟩ := hw; go_simp; (try with_reducible rfl)); (try simp only [Act.put, List.setIfInBounds_toArray, List.set_cons_zero, List.set_cons_succ]))
      (refine wpR_pure ?_ (fun w hw => ?_) ?_; rfl; (obtain ⟨nn, rfl⟩ := hw; go_simp; (try with_reducible rfl)); (try simp only [Act.put, List.setIfInBounds_toArray, List.set_cons_zero, List.set_cons_succ]))
      (refine wpR_pure ?_ (fun w hw => ?_) ?_; rfl; (obtain ⟨nn, rfl⟩ := hw; go_simp; (try with_reducible rfl)); (try simp only [Act.put, List.setIfInBounds_toArray, List.set_cons_zero, List.set_cons_succ]))
      (refine wpR_pure ?_ (fun w hw => ?_) ?_; rfl; (obtain ⟨nn, rfl⟩ := hw; go_simp; (try with_reducible rfl)); (try simp only [Act.put, List.setIfInBounds_toArray, List.set_cons_zero, List.set_cons_succ]))
      (refine wpR_cls ?_ (fun w hw => ?_) ?_; rfl; (obtain ⟨nn, rfl⟩ := hw; go_simp; exact ⟨⟨_, rfl⟩, _, rfl, Fl.flR (by assumption) (by assumption) _⟩); (rintro _ ⟨_, rfl, _⟩; (try simp only [Act.put, List.setIfInBounds_toArray, List.set_cons_zero, List.set_cons_succ])))
      (refine wpR_pure ?_ (fun w hw => ?_) ?_; rfl; (obtain ⟨nn, rfl⟩ := hw; go_simp; (try with_reducible rfl)); (try simp only [Act.put, List.setIfInBounds_toArray, List.set_cons_zero, List.set_cons_succ]))
      (refine wpR_pure ?_ (fun w hw => ?_) ?_; rfl; (obtain ⟨nn, rfl⟩ := hw; go_simp; (try with_reducible rfl)); (try simp only [Act.put, List.setIfInBounds_toArray, List.set_cons_zero, List.set_cons_succ]))
      (refine wpR_pure ?_ (fun w hw => ?_) ?_; rfl; (obtain ⟨nn, rfl⟩ := hw; go_simp; (try with_reducible rfl)); (try simp only [Act.put, List.setIfInBounds_toArray, List.set_cons_zero, List.set_cons_succ]))
      (refine wpR_pure ?_ (fun w hw => ?_) ?_; rfl; (obtain ⟨nn, rfl⟩ := hw; go_simp; (try with_reducible rfl)); (try simp only [Act.put, List.setIfInBounds_toArray, List.set_cons_zero, List.set_cons_succ]))
      (refine wpR_cls ?_ (fun w hw => ?_) ?_; rfl; (obtain ⟨nn, rfl⟩ := hw; go_simp; exact ⟨⟨_, rfl⟩, _, rfl, Fl.flR (by assumption) (by assumption) _⟩); (rintro _ ⟨_, rfl, _⟩; (try simp only [Act.put, List.setIfInBounds_toArray, List.set_cons_zero, List.set_cons_succ])))
      (refine wpR_cls ?_ (fun w hw => ?_) ?_; rfl; (obtain ⟨nn, rfl⟩ := hw; go_simp; exact ⟨⟨_, rfl⟩, _, rfl, Fl.flR (by assumption) (by assumption) _⟩); (rintro _ ⟨_, rfl, _⟩; (try simp only [Act.put, List.setIfInBounds_toArray, List.set_cons_zero, List.set_cons_succ])))
      (refine wpR_pure ?_ (fun w hw => ?_) ?_; rfl; (obtain ⟨nn, rfl⟩ := hw; go_simp; (try with_reducible rfl)); (try simp only [Act.put, List.setIfInBounds_toArray, List.set_cons_zero, List.set_cons_succ]))
      (refine wpR_pure ?_ (fun w hw => ?_) ?_; rfl; (obtain ⟨nn, rfl⟩ := hw; go_simp; (try with_reducible rfl)); (try simp only [Act.put, List.setIfInBounds_toArray, List.set_cons_zero, List.set_cons_succ]))
      (refine wpR_pure ?_ (fun w hw => ?_) ?_; rfl; (obtain ⟨nn, rfl⟩ := hw; go_simp; (try with_reducible rfl)); (try simp only [Act.put, List.setIfInBounds_toArray, List.set_cons_zero, List.set_cons_succ]))
      (refine wpR_cls ?_ (fun w hw => ?_) ?_; rfl; (obtain ⟨nn, rfl⟩ := hw; go_simp; exact ⟨⟨_, rfl⟩, _, rfl, Fl.flR (by assumption) (by assumption) _⟩); (rintro _ ⟨_, rfl, _⟩; (try simp only [Act.put, List.setIfInBounds_toArray, List.set_cons_zero, List.set_cons_succ])))
      (refine wpR_cls ?_ (fun w hw => ?_) ?_; rfl; (obtain ⟨nn, rfl⟩ := hw; go_simp; first | exact ⟨_, rfl, by assumption⟩ | exact ⟨⟨_, rfl⟩, _, rfl, by assumption⟩); (rintro _ ⟨_, rfl, _⟩; (try simp only [Act.put, List.setIfInBounds_toArray, List.set_cons_zero, List.set_cons_succ])))
      refine wpR_nil ?_
      rintro w' ⟨nn, rfl⟩
      go_wp2_with fail
      obtain ⟨w1, hw1⟩ : ∃ u, u = w.drewN nn := ⟨_, rfl⟩
      rw [← hw1]
      have hk1 : Nine w1 b off cs := by rw [hw1]; exact hN.out
      obtain ⟨z3, hz3, hc3⟩ := hk1 3 (by omega)
      obtain ⟨z4, hz4, hc4⟩ := hk1 4 (by omega)
      obtain ⟨z5, hz5, hc5⟩ := hk1 5 (by omega)
      have hk1 := Lib.hid hk1
      have hw1H := Lib.hid hw1
      clear hw1
      refine wp_region_cls (by kernel_rfl) (by kernel_rfl) (by kernel_rfl) (by kernel_rfl) (fun w' => ∃ n, w' = w1.drewN n) ⟨1, rfl⟩ [Eq1 ?q9826u0, Eq1 ?q9826u1, Eq1 ?q9826u2, Eq1 ?q9826u3, FloatIs .f32 (fop .mul .f32 (cs.getD 3 0) (cn .f32 x)), Eq1 ?q9826u5, Eq1 ?q9826u6, Eq1 ?q9826u7, Eq1 ?q9826u8, FloatIs .f32 (fop .mul .f32 (cs.getD 4 0) (cn .f32 y)), FloatIs .f32 (fop .add .f32 (fop .mul .f32 (cs.getD 3 0) (cn .f32 x)) (fop .mul .f32 (cs.getD 4 0) (cn .f32 y))), Eq1 ?q9826u11, Eq1 ?q9826u12, Eq1 ?q9826u13, FloatIs .f32 (rowW cs 1 x y), FloatIs .f32 (rowW cs 1 x y)] ?q9826main
      case q9826main =>
        (refine wpR_pure ?_ (fun w hw => ?_) ?_; rfl; (obtain ⟨nn, rfl⟩ := hw; go_simp; (try with_reducible rfl)); (try simp only [Act.put, List.setIfInBounds_toArray, List.set_cons_zero, List.set_cons_succ]))
        (refine wpR_pure ?_ (fun w hw => ?_) ?_; rfl; (obtain ⟨nn, rfl⟩ := hw; go_simp; (try with_reducible rfl)); (try simp only [Act.put, List.setIfInBounds_toArray, List.set_cons_zero, List.set_cons_succ]))
        (refine wpR_pure ?_ (fun w hw => ?_) ?_; rfl; (obtain ⟨nn, rfl⟩ := hw; go_simp; (try with_reducible rfl)); (try simp only [Act.put, List.setIfInBounds_toArray, List.set_cons_zero, List.set_cons_succ]))
        (refine wpR_pure ?_ (fun w hw => ?_) ?_; rfl; (obtain ⟨nn, rfl⟩ := hw; go_simp; (try with_reducible rfl)); (try simp only [Act.put, List.setIfInBounds_toArray, List.set_cons_zero, List.set_cons_succ]))
        (refine wpR_cls ?_ (fun w hw => ?_) ?_; rfl; (obtain ⟨nn, rfl⟩ := hw; go_simp; exact ⟨⟨_, rfl⟩, _, rfl, Fl.flR (by assumption) (by assumption) _⟩); (rintro _ ⟨_, rfl, _⟩; (try simp only [Act.put, List.setIfInBounds_toArray, List.set_cons_zero, List.set_cons_succ])))
        (refine wpR_pure ?_ (fun w hw => ?_) ?_; rfl; (obtain ⟨nn, rfl⟩ := hw; go_simp; (try with_reducible rfl)); (try simp only [Act.put, List.setIfInBounds_toArray, List.set_cons_zero, List.set_cons_succ]))
        (refine wpR_pure ?_ (fun w hw => ?_) ?_; rfl; (obtain ⟨nn, rfl⟩ := hw; go_simp; (try with_reducible rfl)); (try simp only [Act.put, List.setIfInBounds_toArray, List.set_cons_zero, List.set_cons_succ]))
        (refine wpR_pure ?_ (fun w hw => ?_) ?_; rfl; (obtain ⟨nn, rfl⟩ := hw; go_simp; (try with_reducible rfl)); (try simp only [Act.put, List.setIfInBounds_toArray, List.set_cons_zero, List.set_cons_succ]))
        (refine wpR_pure ?_ (fun w hw => ?_) ?_; rfl; (obtain ⟨nn, rfl⟩ := hw; go_simp; (try with_reducible rfl)); (try simp only [Act.put, List.setIfInBounds_toArray, List.set_cons_zero, List.set_cons_succ]))
        (refine wpR_cls ?_ (fun w hw => ?_) ?_; rfl; (obtain ⟨nn, rfl⟩ := hw; go_simp; exact ⟨⟨_, rfl⟩, _, rfl, Fl.flR (by assumption) (by assumption) _⟩); (rintro _ ⟨_, rfl, _⟩; (try simp only [Act.put, List.setIfInBounds_toArray, List.set_cons_zero, List.set_cons_succ])))
        (refine wpR_cls ?_ (fun w hw => ?_) ?_; rfl; (obtain ⟨nn, rfl⟩ := hw; go_simp; exact ⟨⟨_, rfl⟩, _, rfl, Fl.flR (by assumption) (by assumption) _⟩); (rintro _ ⟨_, rfl, _⟩; (try simp only [Act.put, List.setIfInBounds_toArray, List.set_cons_zero, List.set_cons_succ])))
        (refine wpR_pure ?_ (fun w hw => ?_) ?_; rfl; (obtain ⟨nn, rfl⟩ := hw; go_simp; (try with_reducible rfl)); (try simp only [Act.put, List.setIfInBounds_toArray, List.set_cons_zero, List.set_cons_succ]))
        (refine wpR_pure ?_ (fun w hw => ?_) ?_; rfl; (obtain ⟨nn, rfl⟩ := hw; go_simp; (try with_reducible rfl)); (try simp only [Act.put, List.setIfInBounds_toArray, List.set_cons_zero, List.set_cons_succ]))
        (refine wpR_pure ?_ (fun w hw => ?_) ?_; rfl; (obtain ⟨nn, rfl⟩ := hw; go_simp; (try with_reducible rfl)); (try simp only [Act.put, List.setIfInBounds_toArray, List.set_cons_zero, List.set_cons_succ]))
        (refine wpR_cls ?_ (fun w hw => ?_) ?_; rfl; (obtain ⟨nn, rfl⟩ := hw; go_simp; exact ⟨⟨_, rfl⟩, _, rfl, Fl.flR (by assumption) (by assumption) _⟩); (rintro _ ⟨_, rfl, _⟩; (try simp only [Act.put, List.setIfInBounds_toArray, List.set_cons_zero, List.set_cons_succ])))
        (refine wpR_cls ?_ (fun w hw => ?_) ?_; rfl; (obtain ⟨nn, rfl⟩ := hw; go_simp; first | exact ⟨_, rfl, by assumption⟩ | exact ⟨⟨_, rfl⟩, _, rfl, by assumption⟩); (rintro _ ⟨_, rfl, _⟩; (try simp only [Act.put, List.setIfInBounds_toArray, List.set_cons_zero, List.set_cons_succ])))
        refine wpR_nil ?_
        rintro w' ⟨nn, rfl⟩
        go_wp2_with fail
        obtain ⟨w2, hw2⟩ : ∃ u, u = w1.drewN nn := ⟨_, rfl⟩
        rw [← hw2]
        have hk2 : Nine w2 b off cs := by rw [hw2]; exact hk1.out
        obtain ⟨z6, hz6, hc6⟩ := hk2 6 (by omega)
        obtain ⟨z7, hz7, hc7⟩ := hk2 7 (by omega)
        obtain ⟨z8, hz8, hc8⟩ := hk2 8 (by omega)
        have hk2 := Lib.hid hk2
        have hw2H := Lib.hid hw2
        clear hw2
        refine wp_region_cls (by kernel_rfl) (by kernel_rfl) (by kernel_rfl) (by kernel_rfl) (fun w' => ∃ n, w' = w2.drewN n) ⟨1, rfl⟩ [Eq1 ?q2179u0, Eq1 ?q2179u1, Eq1 ?q2179u2, Eq1 ?q2179u3, FloatIs .f32 (fop .mul .f32 (cs.getD 6 0) (cn .f32 x)), Eq1 ?q2179u5, Eq1 ?q2179u6, Eq1 ?q2179u7, Eq1 ?q2179u8, FloatIs .f32 (fop .mul .f32 (cs.getD 7 0) (cn .f32 y)), FloatIs .f32 (fop .add .f32 (fop .mul .f32 (cs.getD 6 0) (cn .f32 x)) (fop .mul .f32 (cs.getD 7 0) (cn .f32 y))), Eq1 ?q2179u11, Eq1 ?q2179u12, Eq1 ?q2179u13, FloatIs .f32 (rowW cs 2 x y), FloatIs .f32 (rowW cs 2 x y)] ?q2179main
        case q2179main =>
          (refine wpR_pure ?_ (fun w hw => ?_) ?_; rfl; (obtain ⟨nn, rfl⟩ := hw; go_simp; (try with_reducible rfl)); (try simp only [Act.put, List.setIfInBounds_toArray, List.set_cons_zero, List.set_cons_succ]))
          (refine wpR_pure ?_ (fun w hw => ?_) ?_; rfl; (obtain ⟨nn, rfl⟩ := hw; go_simp; (try with_reducible rfl)); (try simp only [Act.put, List.setIfInBounds_toArray, List.set_cons_zero, List.set_cons_succ]))
          (refine wpR_pure ?_ (fun w hw => ?_) ?_; rfl; (obtain ⟨nn, rfl⟩ := hw; go_simp; (try with_reducible rfl)); (try simp only [Act.put, List.setIfInBounds_toArray, List.set_cons_zero, List.set_cons_succ]))
          (refine wpR_pure ?_ (fun w hw => ?_) ?_; rfl; (obtain ⟨nn, rfl⟩ := hw; go_simp; (try with_reducible rfl)); (try simp only [Act.put, List.setIfInBounds_toArray, List.set_cons_zero, List.set_cons_succ]))
          (refine wpR_cls ?_ (fun w hw => ?_) ?_; rfl; (obtain ⟨nn, rfl⟩ := hw; go_simp; exact ⟨⟨_, rfl⟩, _, rfl, Fl.flR (by assumption) (by assumption) _⟩); (rintro _ ⟨_, rfl, _⟩; (try simp only [Act.put, List.setIfInBounds_toArray, List.set_cons_zero, List.set_cons_succ])))
          (refine wpR_pure ?_ (fun w hw => ?_) ?_; rfl; (obtain ⟨nn, rfl⟩ := hw; go_simp; (try with_reducible rfl)); (try simp only [Act.put, List.setIfInBounds_toArray, List.set_cons_zero, List.set_cons_succ]))
          (refine wpR_pure ?_ (fun w hw => ?_) ?_; rfl; (obtain ⟨nn, rfl⟩ := hw; go_simp; (try with_reducible rfl)); (try simp only [Act.put, List.setIfInBounds_toArray, List.set_cons_zero, List.set_cons_succ]))
          (refine wpR_pure ?_ (fun w hw => ?_) ?_; rfl; (obtain ⟨nn, rfl⟩ := hw; go_simp; (try with_reducible rfl)); (try simp only [Act.put, List.setIfInBounds_toArray, List.set_cons_zero, List.set_cons_succ]))
          (refine wpR_pure ?_ (fun w hw => ?_) ?_; rfl; (obtain ⟨nn, rfl⟩ := hw; go_simp; (try with_reducible rfl)); (try simp only [Act.put, List.setIfInBounds_toArray, List.set_cons_zero, List.set_cons_succ]))
          (refine wpR_cls ?_ (fun w hw => ?_) ?_; rfl; (obtain ⟨nn, rfl⟩ := hw; go_simp; exact ⟨⟨_, rfl⟩, _, rfl, Fl.flR (by assumption) (by assumption) _⟩); (rintro _ ⟨_, rfl, _⟩; (try simp only [Act.put, List.setIfInBounds_toArray, List.set_cons_zero, List.set_cons_succ])))
          (refine wpR_cls ?_ (fun w hw => ?_) ?_; rfl; (obtain ⟨nn, rfl⟩ := hw; go_simp; exact ⟨⟨_, rfl⟩, _, rfl, Fl.flR (by assumption) (by assumption) _⟩); (rintro _ ⟨_, rfl, _⟩; (try simp only [Act.put, List.setIfInBounds_toArray, List.set_cons_zero, List.set_cons_succ])))
          (refine wpR_pure ?_ (fun w hw => ?_) ?_; rfl; (obtain ⟨nn, rfl⟩ := hw; go_simp; (try with_reducible rfl)); (try simp only [Act.put, List.setIfInBounds_toArray, List.set_cons_zero, List.set_cons_succ]))
          (refine wpR_pure ?_ (fun w hw => ?_) ?_; rfl; (obtain ⟨nn, rfl⟩ := hw; go_simp; (try with_reducible rfl)); (try simp only [Act.put, List.setIfInBounds_toArray, List.set_cons_zero, List.set_cons_succ]))
          (refine wpR_pure ?_ (fun w hw => ?_) ?_; rfl; (obtain ⟨nn, rfl⟩ := hw; go_simp; (try with_reducible rfl)); (try simp only [Act.put, List.setIfInBounds_toArray, List.set_cons_zero, List.set_cons_succ]))
          (refine wpR_cls ?_ (fun w hw => ?_) ?_; rfl; (obtain ⟨nn, rfl⟩ := hw; go_simp; exact ⟨⟨_, rfl⟩, _, rfl, Fl.flR (by assumption) (by assumption) _⟩); (rintro _ ⟨_, rfl, _⟩; (try simp only [Act.put, List.setIfInBounds_toArray, List.set_cons_zero, List.set_cons_succ])))
          (refine wpR_cls ?_ (fun w hw => ?_) ?_; rfl; (obtain ⟨nn, rfl⟩ := hw; go_simp; first | exact ⟨_, rfl, by assumption⟩ | exact ⟨⟨_, rfl⟩, _, rfl, by assumption⟩); (rintro _ ⟨_, rfl, _⟩; (try simp only [Act.put, List.setIfInBounds_toArray, List.set_cons_zero, List.set_cons_succ])))
          refine wpR_nil ?_
          rintro w' ⟨nn, rfl⟩
          go_wp2_with fail
          refine (caSFin_fl (c := fop .quo .f32 (rowW cs 0 x y) (rowW cs 2 x y)) (Fl.flR (by assumption) (by assumption) _) _).mono ?_
          rintro e v1 ⟨k1, rfl, rfl⟩
          rw [show isF FloatKind.f32 (fop .quo .f32 (rowW cs 0 x y) (rowW cs 2 x y)) = false from h1'.out]
          go_wp2_with fail
          refine bodyPost_ret (v := ?v10) ?hr10 rfl ?post10
          case hr10 => (simp only [results, Try.results82]; go_simp; try rfl)
          case post10 =>
            refine ⟨_, _, _, rfl, by rw [hw2H.out, hw1H.out, dd, dd], ?_, ?_⟩
            · exact fl00
            · exact fl00
  | true =>
    have h1' := Lib.hid h1
    clear h1
    cases h2 : isF .f32 (ledU cs 1 x y) with
    | false =>
      have h2' := Lib.hid h2
      clear h2
      have e2 : ledOk cs x y = false := by unfold ledOk; rw [h1'.out, h2'.out]; rfl
      rw [e2]
      clear e2
      go_enter Try.func82, Try.ntmps82
      go_wp2_with fail
      have hk0 := hN.out
      obtain ⟨z0, hz0, hc0⟩ := hk0 0 (by omega)
      obtain ⟨z1, hz1, hc1⟩ := hk0 1 (by omega)
      obtain ⟨z2, hz2, hc2⟩ := hk0 2 (by omega)
      have hk0 := Lib.hid hk0
      try simp only [Nat.add_zero] at hc0
      refine wp_region_cls (by kernel_rfl) (by kernel_rfl) (by kernel_rfl) (by kernel_rfl) (fun w' => ∃ n, w' = w.drewN n) ⟨1, rfl⟩ [Eq1 ?q8300x2u0, Eq1 ?q8300x2u1, Eq1 ?q8300x2u2, Eq1 ?q8300x2u3, FloatIs .f32 (fop .mul .f32 (cs.getD 0 0) (cn .f32 x)), Eq1 ?q8300x2u5, Eq1 ?q8300x2u6, Eq1 ?q8300x2u7, Eq1 ?q8300x2u8, FloatIs .f32 (fop .mul .f32 (cs.getD 1 0) (cn .f32 y)), FloatIs .f32 (fop .add .f32 (fop .mul .f32 (cs.getD 0 0) (cn .f32 x)) (fop .mul .f32 (cs.getD 1 0) (cn .f32 y))), Eq1 ?q8300x2u11, Eq1 ?q8300x2u12, Eq1 ?q8300x2u13, FloatIs .f32 (rowW cs 0 x y), FloatIs .f32 (rowW cs 0 x y)] ?q8300x2main
      case q8300x2main =>
        (refine wpR_pure ?_ (fun w hw => ?_) ?_; rfl; (obtain ⟨nn, rfl⟩ := hw; go_simp; (try with_reducible rfl)); (try simp only [Act.put, List.setIfInBounds_toArray, List.set_cons_zero, List.set_cons_succ]))
        (refine wpR_pure ?_ (fun w hw => ?_) ?_; rfl; (obtain ⟨nn, rfl⟩ := hw; go_simp; (try with_reducible rfl)); (try simp only [Act.put, List.setIfInBounds_toArray, List.set_cons_zero, List.set_cons_succ]))
        (refine wpR_pure ?_ (fun w hw => ?_) ?_; rfl; (obtain ⟨nn, rfl⟩ := hw; go_simp; (try with_reducible rfl)); (try simp only [Act.put, List.setIfInBounds_toArray, List.set_cons_zero, List.set_cons_succ]))
        (refine wpR_pure ?_ (fun w hw => ?_) ?_; rfl; (obtain ⟨nn, rfl⟩ := hw; go_simp; (try with_reducible rfl)); (try simp only [Act.put, List.setIfInBounds_toArray, List.set_cons_zero, List.set_cons_succ]))
        (refine wpR_cls ?_ (fun w hw => ?_) ?_; rfl; (obtain ⟨nn, rfl⟩ := hw; go_simp; exact ⟨⟨_, rfl⟩, _, rfl, Fl.flR (by assumption) (by assumption) _⟩); (rintro _ ⟨_, rfl, _⟩; (try simp only [Act.put, List.setIfInBounds_toArray, List.set_cons_zero, List.set_cons_succ])))
        (refine wpR_pure ?_ (fun w hw => ?_) ?_; rfl; (obtain ⟨nn, rfl⟩ := hw; go_simp; (try with_reducible rfl)); (try simp only [Act.put, List.setIfInBounds_toArray, List.set_cons_zero, List.set_cons_succ]))
        (refine wpR_pure ?_ (fun w hw => ?_) ?_; rfl; (obtain ⟨nn, rfl⟩ := hw; go_simp; (try with_reducible rfl)); (try simp only [Act.put, List.setIfInBounds_toArray, List.set_cons_zero, List.set_cons_succ]))
        (refine wpR_pure ?_ (fun w hw => ?_) ?_; rfl; (obtain ⟨nn, rfl⟩ := hw; go_simp; (try with_reducible rfl)); (try simp only [Act.put, List.setIfInBounds_toArray, List.set_cons_zero, List.set_cons_succ]))
        (refine wpR_pure ?_ (fun w hw => ?_) ?_; rfl; (obtain ⟨nn, rfl⟩ := hw; go_simp; (try with_reducible rfl)); (try simp only [Act.put, List.setIfInBounds_toArray, List.set_cons_zero, List.set_cons_succ]))
        (refine wpR_cls ?_ (fun w hw => ?_) ?_; rfl; (obtain ⟨nn, rfl⟩ := hw; go_simp; exact ⟨⟨_, rfl⟩, _, rfl, Fl.flR (by assumption) (by assumption) _⟩); (rintro _ ⟨_, rfl, _⟩; (try simp only [Act.put, List.setIfInBounds_toArray, List.set_cons_zero, List.set_cons_succ])))
        (refine wpR_cls ?_ (fun w hw => ?_) ?_; rfl; (obtain ⟨nn, rfl⟩ := hw; go_simp; exact ⟨⟨_, rfl⟩, _, rfl, Fl.flR (by assumption) (by assumption) _⟩); (rintro _ ⟨_, rfl, _⟩; (try simp only [Act.put, List.setIfInBounds_toArray, List.set_cons_zero, List.set_cons_succ])))
        (refine wpR_pure ?_ (fun w hw => ?_) ?_; rfl; (obtain ⟨nn, rfl⟩ := hw; go_simp; (try with_reducible rfl)); (try simp only [Act.put, List.setIfInBounds_toArray, List.set_cons_zero, List.set_cons_succ]))
        (refine wpR_pure ?_ (fun w hw => ?_) ?_; rfl; (obtain ⟨nn, rfl⟩ := hw; go_simp; (try with_reducible rfl)); (try simp only [Act.put, List.setIfInBounds_toArray, List.set_cons_zero, List.set_cons_succ]))
        (refine wpR_pure ?_ (fun w hw => ?_) ?_; rfl; (obtain ⟨nn, rfl⟩ := hw; go_simp; (try with_reducible rfl)); (try simp only [Act.put, List.setIfInBounds_toArray, List.set_cons_zero, List.set_cons_succ]))
        (refine wpR_cls ?_ (fun w hw => ?_) ?_; rfl; (obtain ⟨nn, rfl⟩ := hw; go_simp; exact ⟨⟨_, rfl⟩, _, rfl, Fl.flR (by assumption) (by assumption) _⟩); (rintro _ ⟨_, rfl, _⟩; (try simp only [Act.put, List.setIfInBounds_toArray, List.set_cons_zero, List.set_cons_succ])))
        (refine wpR_cls ?_ (fun w hw => ?_) ?_; rfl; (obtain ⟨nn, rfl⟩ := hw; go_simp; first | exact ⟨_, rfl, by assumption⟩ | exact ⟨⟨_, rfl⟩, _, rfl, by assumption⟩); (rintro _ ⟨_, rfl, _⟩; (try simp only [Act.put, List.setIfInBounds_toArray, List.set_cons_zero, List.set_cons_succ])))
        refine wpR_nil ?_
        rintro w' ⟨nn, rfl⟩
        go_wp2_with fail
        obtain ⟨w1, hw1⟩ : ∃ u, u = w.drewN nn := ⟨_, rfl⟩
        rw [← hw1]
        have hk1 : Nine w1 b off cs := by rw [hw1]; exact hN.out
        obtain ⟨z3, hz3, hc3⟩ := hk1 3 (by omega)
        obtain ⟨z4, hz4, hc4⟩ := hk1 4 (by omega)
        obtain ⟨z5, hz5, hc5⟩ := hk1 5 (by omega)
        have hk1 := Lib.hid hk1
        have hw1H := Lib.hid hw1
        clear hw1
        refine wp_region_cls (by kernel_rfl) (by kernel_rfl) (by kernel_rfl) (by kernel_rfl) (fun w' => ∃ n, w' = w1.drewN n) ⟨1, rfl⟩ [Eq1 ?q9826x2u0, Eq1 ?q9826x2u1, Eq1 ?q9826x2u2, Eq1 ?q9826x2u3, FloatIs .f32 (fop .mul .f32 (cs.getD 3 0) (cn .f32 x)), Eq1 ?q9826x2u5, Eq1 ?q9826x2u6, Eq1 ?q9826x2u7, Eq1 ?q9826x2u8, FloatIs .f32 (fop .mul .f32 (cs.getD 4 0) (cn .f32 y)), FloatIs .f32 (fop .add .f32 (fop .mul .f32 (cs.getD 3 0) (cn .f32 x)) (fop .mul .f32 (cs.getD 4 0) (cn .f32 y))), Eq1 ?q9826x2u11, Eq1 ?q9826x2u12, Eq1 ?q9826x2u13, FloatIs .f32 (rowW cs 1 x y), FloatIs .f32 (rowW cs 1 x y)] ?q9826x2main
        case q9826x2main =>
          (refine wpR_pure ?_ (fun w hw => ?_) ?_; rfl; (obtain ⟨nn, rfl⟩ := hw; go_simp; (try with_reducible rfl)); (try simp only [Act.put, List.setIfInBounds_toArray, List.set_cons_zero, List.set_cons_succ]))
          (refine wpR_pure ?_ (fun w hw => ?_) ?_; rfl; (obtain ⟨nn, rfl⟩ := hw; go_simp; (try with_reducible rfl)); (try simp only [Act.put, List.setIfInBounds_toArray, List.set_cons_zero, List.set_cons_succ]))
          (refine wpR_pure ?_ (fun w hw => ?_) ?_; rfl; (obtain ⟨nn, rfl⟩ := hw; go_simp; (try with_reducible rfl)); (try simp only [Act.put, List.setIfInBounds_toArray, List.set_cons_zero, List.set_cons_succ]))
          (refine wpR_pure ?_ (fun w hw => ?_) ?_; rfl; (obtain ⟨nn, rfl⟩ := hw; go_simp; (try with_reducible rfl)); (try simp only [Act.put, List.setIfInBounds_toArray, List.set_cons_zero, List.set_cons_succ]))
          (refine wpR_cls ?_ (fun w hw => ?_) ?_; rfl; (obtain ⟨nn, rfl⟩ := hw; go_simp; exact ⟨⟨_, rfl⟩, _, rfl, Fl.flR (by assumption) (by assumption) _⟩); (rintro _ ⟨_, rfl, _⟩; (try simp only [Act.put, List.setIfInBounds_toArray, List.set_cons_zero, List.set_cons_succ])))
          (refine wpR_pure ?_ (fun w hw => ?_) ?_; rfl; (obtain ⟨nn, rfl⟩ := hw; go_simp; (try with_reducible rfl)); (try simp only [Act.put, List.setIfInBounds_toArray, List.set_cons_zero, List.set_cons_succ]))
          (refine wpR_pure ?_ (fun w hw => ?_) ?_; rfl; (obtain ⟨nn, rfl⟩ := hw; go_simp; (try with_reducible rfl)); (try simp only [Act.put, List.setIfInBounds_toArray, List.set_cons_zero, List.set_cons_succ]))
          (refine wpR_pure ?_ (fun w hw => ?_) ?_; rfl; (obtain ⟨nn, rfl⟩ := hw; go_simp; (try with_reducible rfl)); (try simp only [Act.put, List.setIfInBounds_toArray, List.set_cons_zero, List.set_cons_succ]))
          (refine wpR_pure ?_ (fun w hw => ?_) ?_; rfl; (obtain ⟨nn, rfl⟩ := hw; go_simp; (try with_reducible rfl)); (try simp only [Act.put, List.setIfInBounds_toArray, List.set_cons_zero, List.set_cons_succ]))
          (refine wpR_cls ?_ (fun w hw => ?_) ?_; rfl; (obtain ⟨nn, rfl⟩ := hw; go_simp; exact ⟨⟨_, rfl⟩, _, rfl, Fl.flR (by assumption) (by assumption) _⟩); (rintro _ ⟨_, rfl, _⟩; (try simp only [Act.put, List.setIfInBounds_toArray, List.set_cons_zero, List.set_cons_succ])))
          (refine wpR_cls ?_ (fun w hw => ?_) ?_; rfl; (obtain ⟨nn, rfl⟩ := hw; go_simp; exact ⟨⟨_, rfl⟩, _, rfl, Fl.flR (by assumption) (by assumption) _⟩); (rintro _ ⟨_, rfl, _⟩; (try simp only [Act.put, List.setIfInBounds_toArray, List.set_cons_zero, List.set_cons_succ])))
          (refine wpR_pure ?_ (fun w hw => ?_) ?_; rfl; (obtain ⟨nn, rfl⟩ := hw; go_simp; (try with_reducible rfl)); (try simp only [Act.put, List.setIfInBounds_toArray, List.set_cons_zero, List.set_cons_succ]))
          (refine wpR_pure ?_ (fun w hw => ?_) ?_; rfl; (obtain ⟨nn, rfl⟩ := hw; go_simp; (try with_reducible rfl)); (try simp only [Act.put, List.setIfInBounds_toArray, List.set_cons_zero, List.set_cons_succ]))
          (refine wpR_pure ?_ (fun w hw => ?_) ?_; rfl; (obtain ⟨nn, rfl⟩ := hw; go_simp; (try with_reducible rfl)); (try simp only [Act.put, List.setIfInBounds_toArray, List.set_cons_zero, List.set_cons_succ]))
          (refine wpR_cls ?_ (fun w hw => ?_) ?_; rfl; (obtain ⟨nn, rfl⟩ := hw; go_simp; exact ⟨⟨_, rfl⟩, _, rfl, Fl.flR (by assumption) (by assumption) _⟩); (rintro _ ⟨_, rfl, _⟩; (try simp only [Act.put, List.setIfInBounds_toArray, List.set_cons_zero, List.set_cons_succ])))
          (refine wpR_cls ?_ (fun w hw => ?_) ?_; rfl; (obtain ⟨nn, rfl⟩ := hw; go_simp; first | exact ⟨_, rfl, by assumption⟩ | exact ⟨⟨_, rfl⟩, _, rfl, by assumption⟩); (rintro _ ⟨_, rfl, _⟩; (try simp only [Act.put, List.setIfInBounds_toArray, List.set_cons_zero, List.set_cons_succ])))
          refine wpR_nil ?_
          rintro w' ⟨nn, rfl⟩
          go_wp2_with fail
          obtain ⟨w2, hw2⟩ : ∃ u, u = w1.drewN nn := ⟨_, rfl⟩
          rw [← hw2]
          have hk2 : Nine w2 b off cs := by rw [hw2]; exact hk1.out
          obtain ⟨z6, hz6, hc6⟩ := hk2 6 (by omega)
          obtain ⟨z7, hz7, hc7⟩ := hk2 7 (by omega)
          obtain ⟨z8, hz8, hc8⟩ := hk2 8 (by omega)
          have hk2 := Lib.hid hk2
          have hw2H := Lib.hid hw2
          clear hw2
          refine wp_region_cls (by kernel_rfl) (by kernel_rfl) (by kernel_rfl) (by kernel_rfl) (fun w' => ∃ n, w' = w2.drewN n) ⟨1, rfl⟩ [Eq1 ?q2179x2u0, Eq1 ?q2179x2u1, Eq1 ?q2179x2u2, Eq1 ?q2179x2u3, FloatIs .f32 (fop .mul .f32 (cs.getD 6 0) (cn .f32 x)), Eq1 ?q2179x2u5, Eq1 ?q2179x2u6, Eq1 ?q2179x2u7, Eq1 ?q2179x2u8, FloatIs .f32 (fop .mul .f32 (cs.getD 7 0) (cn .f32 y)), FloatIs .f32 (fop .add .f32 (fop .mul .f32 (cs.getD 6 0) (cn .f32 x)) (fop .mul .f32 (cs.getD 7 0) (cn .f32 y))), Eq1 ?q2179x2u11, Eq1 ?q2179x2u12, Eq1 ?q2179x2u13, FloatIs .f32 (rowW cs 2 x y), FloatIs .f32 (rowW cs 2 x y)] ?q2179x2main
          case q2179x2main =>
            (refine wpR_pure ?_ (fun w hw => ?_) ?_; rfl; (obtain ⟨nn, rfl⟩ := hw; go_simp; (try with_reducible rfl)); (try simp only [Act.put, List.setIfInBounds_toArray, List.set_cons_zero, List.set_cons_succ]))
            (refine wpR_pure ?_ (fun w hw => ?_) ?_; rfl; (obtain ⟨nn, rfl⟩ := hw; go_simp; (try with_reducible rfl)); (try simp only [Act.put, List.setIfInBounds_toArray, List.set_cons_zero, List.set_cons_succ]))
            (refine wpR_pure ?_ (fun w hw => ?_) ?_; rfl; (obtain ⟨nn, rfl⟩ := hw; go_simp; (try with_reducible rfl)); (try simp only [Act.put, List.setIfInBounds_toArray, List.set_cons_zero, List.set_cons_succ]))
            (refine wpR_pure ?_ (fun w hw => ?_) ?_; rfl; (obtain ⟨nn, rfl⟩ := hw; go_simp; (try with_reducible rfl)); (try simp only [Act.put, List.setIfInBounds_toArray, List.set_cons_zero, List.set_cons_succ]))
            (refine wpR_cls ?_ (fun w hw => ?_) ?_; rfl; (obtain ⟨nn, rfl⟩ := hw; go_simp; exact ⟨⟨_, rfl⟩, _, rfl, Fl.flR (by assumption) (by assumption) _⟩); (rintro _ ⟨_, rfl, _⟩; (try simp only [Act.put, List.setIfInBounds_toArray, List.set_cons_zero, List.set_cons_succ])))
            (refine wpR_pure ?_ (fun w hw => ?_) ?_; rfl; (obtain ⟨nn, rfl⟩ := hw; go_simp; (try with_reducible rfl)); (try simp only [Act.put, List.setIfInBounds_toArray, List.set_cons_zero, List.set_cons_succ]))
            (refine wpR_pure ?_ (fun w hw => ?_) ?_; rfl; (obtain ⟨nn, rfl⟩ := hw; go_simp; (try with_reducible rfl)); (try simp only [Act.put, List.setIfInBounds_toArray, List.set_cons_zero, List.set_cons_succ]))
            (refine wpR_pure ?_ (fun w hw => ?_) ?_; rfl; (obtain ⟨nn, rfl⟩ := hw; go_simp; (try with_reducible rfl)); (try simp only [Act.put, List.setIfInBounds_toArray, List.set_cons_zero, List.set_cons_succ]))
            (refine wpR_pure ?_ (fun w hw => ?_) ?_; rfl; (obtain ⟨nn, rfl⟩ := hw; go_simp; (try with_reducible rfl)); (try simp only [Act.put, List.setIfInBounds_toArray, List.set_cons_zero, List.set_cons_succ]))
            (refine wpR_cls ?_ (fun w hw => ?_) ?_; rfl; (obtain ⟨nn, rfl⟩ := hw; go_simp; exact ⟨⟨_, rfl⟩, _, rfl, Fl.flR (by assumption) (by assumption) _⟩); (rintro _ ⟨_, rfl, _⟩; (try simp only [Act.put, List.setIfInBounds_toArray, List.set_cons_zero, List.set_cons_succ])))
            (refine wpR_cls ?_ (fun w hw => ?_) ?_; rfl; (obtain ⟨nn, rfl⟩ := hw; go_simp; exact ⟨⟨_, rfl⟩, _, rfl, Fl.flR (by assumption) (by assumption) _⟩); (rintro _ ⟨_, rfl, _⟩; (try simp only [Act.put, List.setIfInBounds_toArray, List.set_cons_zero, List.set_cons_succ])))
            (refine wpR_pure ?_ (fun w hw => ?_) ?_; rfl; (obtain ⟨nn, rfl⟩ := hw; go_simp; (try with_reducible rfl)); (try simp only [Act.put, List.setIfInBounds_toArray, List.set_cons_zero, List.set_cons_succ]))
            (refine wpR_pure ?_ (fun w hw => ?_) ?_; rfl; (obtain ⟨nn, rfl⟩ := hw; go_simp; (try with_reducible rfl)); (try simp only [Act.put, List.setIfInBounds_toArray, List.set_cons_zero, List.set_cons_succ]))
            (refine wpR_pure ?_ (fun w hw => ?_) ?_; rfl; (obtain ⟨nn, rfl⟩ := hw; go_simp; (try with_reducible rfl)); (try simp only [Act.put, List.setIfInBounds_toArray, List.set_cons_zero, List.set_cons_succ]))
            (refine wpR_cls ?_ (fun w hw => ?_) ?_; rfl; (obtain ⟨nn, rfl⟩ := hw; go_simp; exact ⟨⟨_, rfl⟩, _, rfl, Fl.flR (by assumption) (by assumption) _⟩); (rintro _ ⟨_, rfl, _⟩; (try simp only [Act.put, List.setIfInBounds_toArray, List.set_cons_zero, List.set_cons_succ])))
            (refine wpR_cls ?_ (fun w hw => ?_) ?_; rfl; (obtain ⟨nn, rfl⟩ := hw; go_simp; first | exact ⟨_, rfl, by assumption⟩ | exact ⟨⟨_, rfl⟩, _, rfl, by assumption⟩); (rintro _ ⟨_, rfl, _⟩; (try simp only [Act.put, List.setIfInBounds_toArray, List.set_cons_zero, List.set_cons_succ])))
            refine wpR_nil ?_
            rintro w' ⟨nn, rfl⟩
            go_wp2_with fail
            refine (caSFin_fl (c := fop .quo .f32 (rowW cs 0 x y) (rowW cs 2 x y)) (Fl.flR (by assumption) (by assumption) _) _).mono ?_
            rintro e v1 ⟨k1, rfl, rfl⟩
            rw [show isF FloatKind.f32 (fop .quo .f32 (rowW cs 0 x y) (rowW cs 2 x y)) = true from h1'.out]
            go_wp2_with fail
            refine (caSFin_fl (c := fop .quo .f32 (rowW cs 1 x y) (rowW cs 2 x y)) (Fl.flR (by assumption) (by assumption) _) _).mono ?_
            rintro e v2 ⟨k2, rfl, rfl⟩
            rw [show isF FloatKind.f32 (fop .quo .f32 (rowW cs 1 x y) (rowW cs 2 x y)) = false from h2'.out]
            go_wp2_with fail
            refine bodyPost_ret (v := ?v20) ?hr20 rfl ?post20
            case hr20 => (simp only [results, Try.results82]; go_simp; try rfl)
            case post20 =>
              refine ⟨_, _, _, rfl, by rw [hw2H.out, hw1H.out, dd, dd], ?_, ?_⟩
              · exact fl00
              · exact fl00
    | true =>
      have h2' := Lib.hid h2
      clear h2
      have e2 : ledOk cs x y = true := by unfold ledOk; rw [h1'.out, h2'.out]; rfl
      rw [e2]
      clear e2
      go_enter Try.func82, Try.ntmps82
      go_wp2_with fail
      have hk0 := hN.out
      obtain ⟨z0, hz0, hc0⟩ := hk0 0 (by omega)
      obtain ⟨z1, hz1, hc1⟩ := hk0 1 (by omega)
      obtain ⟨z2, hz2, hc2⟩ := hk0 2 (by omega)
      have hk0 := Lib.hid hk0
      try simp only [Nat.add_zero] at hc0
      refine wp_region_cls (by kernel_rfl) (by kernel_rfl) (by kernel_rfl) (by kernel_rfl) (fun w' => ∃ n, w' = w.drewN n) ⟨1, rfl⟩ [Eq1 ?q8300x3u0, Eq1 ?q8300x3u1, Eq1 ?q8300x3u2, Eq1 ?q8300x3u3, FloatIs .f32 (fop .mul .f32 (cs.getD 0 0) (cn .f32 x)), Eq1 ?q8300x3u5, Eq1 ?q8300x3u6, Eq1 ?q8300x3u7, Eq1 ?q8300x3u8, FloatIs .f32 (fop .mul .f32 (cs.getD 1 0) (cn .f32 y)), FloatIs .f32 (fop .add .f32 (fop .mul .f32 (cs.getD 0 0) (cn .f32 x)) (fop .mul .f32 (cs.getD 1 0) (cn .f32 y))), Eq1 ?q8300x3u11, Eq1 ?q8300x3u12, Eq1 ?q8300x3u13, FloatIs .f32 (rowW cs 0 x y), FloatIs .f32 (rowW cs 0 x y)] ?q8300x3main
      case q8300x3main =>
        (refine wpR_pure ?_ (fun w hw => ?_) ?_; rfl; (obtain ⟨nn, rfl⟩ := hw; go_simp; (try with_reducible rfl)); (try simp only [Act.put, List.setIfInBounds_toArray, List.set_cons_zero, List.set_cons_succ]))
        (refine wpR_pure ?_ (fun w hw => ?_) ?_; rfl; (obtain ⟨nn, rfl⟩ := hw; go_simp; (try with_reducible rfl)); (try simp only [Act.put, List.setIfInBounds_toArray, List.set_cons_zero, List.set_cons_succ]))
        (refine wpR_pure ?_ (fun w hw => ?_) ?_; rfl; (obtain ⟨nn, rfl⟩ := hw; go_simp; (try with_reducible rfl)); (try simp only [Act.put, List.setIfInBounds_toArray, List.set_cons_zero, List.set_cons_succ]))
        (refine wpR_pure ?_ (fun w hw => ?_) ?_; rfl; (obtain ⟨nn, rfl⟩ := hw; go_simp; (try with_reducible rfl)); (try simp only [Act.put, List.setIfInBounds_toArray, List.set_cons_zero, List.set_cons_succ]))
        (refine wpR_cls ?_ (fun w hw => ?_) ?_; rfl; (obtain ⟨nn, rfl⟩ := hw; go_simp; exact ⟨⟨_, rfl⟩, _, rfl, Fl.flR (by assumption) (by assumption) _⟩); (rintro _ ⟨_, rfl, _⟩; (try simp only [Act.put, List.setIfInBounds_toArray, List.set_cons_zero, List.set_cons_succ])))
        (refine wpR_pure ?_ (fun w hw => ?_) ?_; rfl; (obtain ⟨nn, rfl⟩ := hw; go_simp; (try with_reducible rfl)); (try simp only [Act.put, List.setIfInBounds_toArray, List.set_cons_zero, List.set_cons_succ]))
        (refine wpR_pure ?_ (fun w hw => ?_) ?_; rfl; (obtain ⟨nn, rfl⟩ := hw; go_simp; (try with_reducible rfl)); (try simp only [Act.put, List.setIfInBounds_toArray, List.set_cons_zero, List.set_cons_succ]))
        (refine wpR_pure ?_ (fun w hw => ?_) ?_; rfl; (obtain ⟨nn, rfl⟩ := hw; go_simp; (try with_reducible rfl)); (try simp only [Act.put, List.setIfInBounds_toArray, List.set_cons_zero, List.set_cons_succ]))
        (refine wpR_pure ?_ (fun w hw => ?_) ?_; rfl; (obtain ⟨nn, rfl⟩ := hw; go_simp; (try with_reducible rfl)); (try simp only [Act.put, List.setIfInBounds_toArray, List.set_cons_zero, List.set_cons_succ]))
        (refine wpR_cls ?_ (fun w hw => ?_) ?_; rfl; (obtain ⟨nn, rfl⟩ := hw; go_simp; exact ⟨⟨_, rfl⟩, _, rfl, Fl.flR (by assumption) (by assumption) _⟩); (rintro _ ⟨_, rfl, _⟩; (try simp only [Act.put, List.setIfInBounds_toArray, List.set_cons_zero, List.set_cons_succ])))
        (refine wpR_cls ?_ (fun w hw => ?_) ?_; rfl; (obtain ⟨nn, rfl⟩ := hw; go_simp; exact ⟨⟨_, rfl⟩, _, rfl, Fl.flR (by assumption) (by assumption) _⟩); (rintro _ ⟨_, rfl, _⟩; (try simp only [Act.put, List.setIfInBounds_toArray, List.set_cons_zero, List.set_cons_succ])))
        (refine wpR_pure ?_ (fun w hw => ?_) ?_; rfl; (obtain ⟨nn, rfl⟩ := hw; go_simp; (try with_reducible rfl)); (try simp only [Act.put, List.setIfInBounds_toArray, List.set_cons_zero, List.set_cons_succ]))
        (refine wpR_pure ?_ (fun w hw => ?_) ?_; rfl; (obtain ⟨nn, rfl⟩ := hw; go_simp; (try with_reducible rfl)); (try simp only [Act.put, List.setIfInBounds_toArray, List.set_cons_zero, List.set_cons_succ]))
        (refine wpR_pure ?_ (fun w hw => ?_) ?_; rfl; (obtain ⟨nn, rfl⟩ := hw; go_simp; (try with_reducible rfl)); (try simp only [Act.put, List.setIfInBounds_toArray, List.set_cons_zero, List.set_cons_succ]))
        (refine wpR_cls ?_ (fun w hw => ?_) ?_; rfl; (obtain ⟨nn, rfl⟩ := hw; go_simp; exact ⟨⟨_, rfl⟩, _, rfl, Fl.flR (by assumption) (by assumption) _⟩); (rintro _ ⟨_, rfl, _⟩; (try simp only [Act.put, List.setIfInBounds_toArray, List.set_cons_zero, List.set_cons_succ])))
        (refine wpR_cls ?_ (fun w hw => ?_) ?_; rfl; (obtain ⟨nn, rfl⟩ := hw; go_simp; first | exact ⟨_, rfl, by assumption⟩ | exact ⟨⟨_, rfl⟩, _, rfl, by assumption⟩); (rintro _ ⟨_, rfl, _⟩; (try simp only [Act.put, List.setIfInBounds_toArray, List.set_cons_zero, List.set_cons_succ])))
        refine wpR_nil ?_
        rintro w' ⟨nn, rfl⟩
        go_wp2_with fail
        obtain ⟨w1, hw1⟩ : ∃ u, u = w.drewN nn := ⟨_, rfl⟩
        rw [← hw1]
        have hk1 : Nine w1 b off cs := by rw [hw1]; exact hN.out
        obtain ⟨z3, hz3, hc3⟩ := hk1 3 (by omega)
        obtain ⟨z4, hz4, hc4⟩ := hk1 4 (by omega)
        obtain ⟨z5, hz5, hc5⟩ := hk1 5 (by omega)
        have hk1 := Lib.hid hk1
        have hw1H := Lib.hid hw1
        clear hw1
        refine wp_region_cls (by kernel_rfl) (by kernel_rfl) (by kernel_rfl) (by kernel_rfl) (fun w' => ∃ n, w' = w1.drewN n) ⟨1, rfl⟩ [Eq1 ?q9826x3u0, Eq1 ?q9826x3u1, Eq1 ?q9826x3u2, Eq1 ?q9826x3u3, FloatIs .f32 (fop .mul .f32 (cs.getD 3 0) (cn .f32 x)), Eq1 ?q9826x3u5, Eq1 ?q9826x3u6, Eq1 ?q9826x3u7, Eq1 ?q9826x3u8, FloatIs .f32 (fop .mul .f32 (cs.getD 4 0) (cn .f32 y)), FloatIs .f32 (fop .add .f32 (fop .mul .f32 (cs.getD 3 0) (cn .f32 x)) (fop .mul .f32 (cs.getD 4 0) (cn .f32 y))), Eq1 ?q9826x3u11, Eq1 ?q9826x3u12, Eq1 ?q9826x3u13, FloatIs .f32 (rowW cs 1 x y), FloatIs .f32 (rowW cs 1 x y)] ?q9826x3main
        case q9826x3main =>
          (refine wpR_pure ?_ (fun w hw => ?_) ?_; rfl; (obtain ⟨nn, rfl⟩ := hw; go_simp; (try with_reducible rfl)); (try simp only [Act.put, List.setIfInBounds_toArray, List.set_cons_zero, List.set_cons_succ]))
          (refine wpR_pure ?_ (fun w hw => ?_) ?_; rfl; (obtain ⟨nn, rfl⟩ := hw; go_simp; (try with_reducible rfl)); (try simp only [Act.put, List.setIfInBounds_toArray, List.set_cons_zero, List.set_cons_succ]))
          (refine wpR_pure ?_ (fun w hw => ?_) ?_; rfl; (obtain ⟨nn, rfl⟩ := hw; go_simp; (try with_reducible rfl)); (try simp only [Act.put, List.setIfInBounds_toArray, List.set_cons_zero, List.set_cons_succ]))
          (refine wpR_pure ?_ (fun w hw => ?_) ?_; rfl; (obtain ⟨nn, rfl⟩ := hw; go_simp; (try with_reducible rfl)); (try simp only [Act.put, List.setIfInBounds_toArray, List.set_cons_zero, List.set_cons_succ]))
          (refine wpR_cls ?_ (fun w hw => ?_) ?_; rfl; (obtain ⟨nn, rfl⟩ := hw; go_simp; exact ⟨⟨_, rfl⟩, _, rfl, Fl.flR (by assumption) (by assumption) _⟩); (rintro _ ⟨_, rfl, _⟩; (try simp only [Act.put, List.setIfInBounds_toArray, List.set_cons_zero, List.set_cons_succ])))
          (refine wpR_pure ?_ (fun w hw => ?_) ?_; rfl; (obtain ⟨nn, rfl⟩ := hw; go_simp; (try with_reducible rfl)); (try simp only [Act.put, List.setIfInBounds_toArray, List.set_cons_zero, List.set_cons_succ]))
          (refine wpR_pure ?_ (fun w hw => ?_) ?_; rfl; (obtain ⟨nn, rfl⟩ := hw; go_simp; (try with_reducible rfl)); (try simp only [Act.put, List.setIfInBounds_toArray, List.set_cons_zero, List.set_cons_succ]))
          (refine wpR_pure ?_ (fun w hw => ?_) ?_; rfl; (obtain ⟨nn, rfl⟩ := hw; go_simp; (try with_reducible rfl)); (try simp only [Act.put, List.setIfInBounds_toArray, List.set_cons_zero, List.set_cons_succ]))
          (refine wpR_pure ?_ (fun w hw => ?_) ?_; rfl; (obtain ⟨nn, rfl⟩ := hw; go_simp; (try with_reducible rfl)); (try simp only [Act.put, List.setIfInBounds_toArray, List.set_cons_zero, List.set_cons_succ]))
          (refine wpR_cls ?_ (fun w hw => ?_) ?_; rfl; (obtain ⟨nn, rfl⟩ := hw; go_simp; exact ⟨⟨_, rfl⟩, _, rfl, Fl.flR (by assumption) (by assumption) _⟩); (rintro _ ⟨_, rfl, _⟩; (try simp only [Act.put, List.setIfInBounds_toArray, List.set_cons_zero, List.set_cons_succ])))
          (refine wpR_cls ?_ (fun w hw => ?_) ?_; rfl; (obtain ⟨nn, rfl⟩ := hw; go_simp; exact ⟨⟨_, rfl⟩, _, rfl, Fl.flR (by assumption) (by assumption) _⟩); (rintro _ ⟨_, rfl, _⟩; (try simp only [Act.put, List.setIfInBounds_toArray, List.set_cons_zero, List.set_cons_succ])))
          (refine wpR_pure ?_ (fun w hw => ?_) ?_; rfl; (obtain ⟨nn, rfl⟩ := hw; go_simp; (try with_reducible rfl)); (try simp only [Act.put, List.setIfInBounds_toArray, List.set_cons_zero, List.set_cons_succ]))
          (refine wpR_pure ?_ (fun w hw => ?_) ?_; rfl; (obtain ⟨nn, rfl⟩ := hw; go_simp; (try with_reducible rfl)); (try simp only [Act.put, List.setIfInBounds_toArray, List.set_cons_zero, List.set_cons_succ]))
          (refine wpR_pure ?_ (fun w hw => ?_) ?_; rfl; (obtain ⟨nn, rfl⟩ := hw; go_simp; (try with_reducible rfl)); (try simp only [Act.put, List.setIfInBounds_toArray, List.set_cons_zero, List.set_cons_succ]))
          (refine wpR_cls ?_ (fun w hw => ?_) ?_; rfl; (obtain ⟨nn, rfl⟩ := hw; go_simp; exact ⟨⟨_, rfl⟩, _, rfl, Fl.flR (by assumption) (by assumption) _⟩); (rintro _ ⟨_, rfl, _⟩; (try simp only [Act.put, List.setIfInBounds_toArray, List.set_cons_zero, List.set_cons_succ])))
          (refine wpR_cls ?_ (fun w hw => ?_) ?_; rfl; (obtain ⟨nn, rfl⟩ := hw; go_simp; first | exact ⟨_, rfl, by assumption⟩ | exact ⟨⟨_, rfl⟩, _, rfl, by assumption⟩); (rintro _ ⟨_, rfl, _⟩; (try simp only [Act.put, List.setIfInBounds_toArray, List.set_cons_zero, List.set_cons_succ])))
          refine wpR_nil ?_
          rintro w' ⟨nn, rfl⟩
          go_wp2_with fail
          obtain ⟨w2, hw2⟩ : ∃ u, u = w1.drewN nn := ⟨_, rfl⟩
          rw [← hw2]
          have hk2 : Nine w2 b off cs := by rw [hw2]; exact hk1.out
          obtain ⟨z6, hz6, hc6⟩ := hk2 6 (by omega)
          obtain ⟨z7, hz7, hc7⟩ := hk2 7 (by omega)
          obtain ⟨z8, hz8, hc8⟩ := hk2 8 (by omega)
          have hk2 := Lib.hid hk2
          have hw2H := Lib.hid hw2
          clear hw2
          refine wp_region_cls (by kernel_rfl) (by kernel_rfl) (by kernel_rfl) (by kernel_rfl) (fun w' => ∃ n, w' = w2.drewN n) ⟨1, rfl⟩ [Eq1 ?q2179x3u0, Eq1 ?q2179x3u1, Eq1 ?q2179x3u2, Eq1 ?q2179x3u3, FloatIs .f32 (fop .mul .f32 (cs.getD 6 0) (cn .f32 x)), Eq1 ?q2179x3u5, Eq1 ?q2179x3u6, Eq1 ?q2179x3u7, Eq1 ?q2179x3u8, FloatIs .f32 (fop .mul .f32 (cs.getD 7 0) (cn .f32 y)), FloatIs .f32 (fop .add .f32 (fop .mul .f32 (cs.getD 6 0) (cn .f32 x)) (fop .mul .f32 (cs.getD 7 0) (cn .f32 y))), Eq1 ?q2179x3u11, Eq1 ?q2179x3u12, Eq1 ?q2179x3u13, FloatIs .f32 (rowW cs 2 x y), FloatIs .f32 (rowW cs 2 x y)] ?q2179x3main
          case q2179x3main =>
            (refine wpR_pure ?_ (fun w hw => ?_) ?_; rfl; (obtain ⟨nn, rfl⟩ := hw; go_simp; (try with_reducible rfl)); (try simp only [Act.put, List.setIfInBounds_toArray, List.set_cons_zero, List.set_cons_succ]))
            (refine wpR_pure ?_ (fun w hw => ?_) ?_; rfl; (obtain ⟨nn, rfl⟩ := hw; go_simp; (try with_reducible rfl)); (try simp only [Act.put, List.setIfInBounds_toArray, List.set_cons_zero, List.set_cons_succ]))
            (refine wpR_pure ?_ (fun w hw => ?_) ?_; rfl; (obtain ⟨nn, rfl⟩ := hw; go_simp; (try with_reducible rfl)); (try simp only [Act.put, List.setIfInBounds_toArray, List.set_cons_zero, List.set_cons_succ]))
            (refine wpR_pure ?_ (fun w hw => ?_) ?_; rfl; (obtain ⟨nn, rfl⟩ := hw; go_simp; (try with_reducible rfl)); (try simp only [Act.put, List.setIfInBounds_toArray, List.set_cons_zero, List.set_cons_succ]))
            (refine wpR_cls ?_ (fun w hw => ?_) ?_; rfl; (obtain ⟨nn, rfl⟩ := hw; go_simp; exact ⟨⟨_, rfl⟩, _, rfl, Fl.flR (by assumption) (by assumption) _⟩); (rintro _ ⟨_, rfl, _⟩; (try simp only [Act.put, List.setIfInBounds_toArray, List.set_cons_zero, List.set_cons_succ])))
            (refine wpR_pure ?_ (fun w hw => ?_) ?_; rfl; (obtain ⟨nn, rfl⟩ := hw; go_simp; (try with_reducible rfl)); (try simp only [Act.put, List.setIfInBounds_toArray, List.set_cons_zero, List.set_cons_succ]))
            (refine wpR_pure ?_ (fun w hw => ?_) ?_; rfl; (obtain ⟨nn, rfl⟩ := hw; go_simp; (try with_reducible rfl)); (try simp only [Act.put, List.setIfInBounds_toArray, List.set_cons_zero, List.set_cons_succ]))
            (refine wpR_pure ?_ (fun w hw => ?_) ?_; rfl; (obtain ⟨nn, rfl⟩ := hw; go_simp; (try with_reducible rfl)); (try simp only [Act.put, List.setIfInBounds_toArray, List.set_cons_zero, List.set_cons_succ]))
            (refine wpR_pure ?_ (fun w hw => ?_) ?_; rfl; (obtain ⟨nn, rfl⟩ := hw; go_simp; (try with_reducible rfl)); (try simp only [Act.put, List.setIfInBounds_toArray, List.set_cons_zero, List.set_cons_succ]))
            (refine wpR_cls ?_ (fun w hw => ?_) ?_; rfl; (obtain ⟨nn, rfl⟩ := hw; go_simp; exact ⟨⟨_, rfl⟩, _, rfl, Fl.flR (by assumption) (by assumption) _⟩); (rintro _ ⟨_, rfl, _⟩; (try simp only [Act.put, List.setIfInBounds_toArray, List.set_cons_zero, List.set_cons_succ])))
            (refine wpR_cls ?_ (fun w hw => ?_) ?_; rfl; (obtain ⟨nn, rfl⟩ := hw; go_simp; exact ⟨⟨_, rfl⟩, _, rfl, Fl.flR (by assumption) (by assumption) _⟩); (rintro _ ⟨_, rfl, _⟩; (try simp only [Act.put, List.setIfInBounds_toArray, List.set_cons_zero, List.set_cons_succ])))
            (refine wpR_pure ?_ (fun w hw => ?_) ?_; rfl; (obtain ⟨nn, rfl⟩ := hw; go_simp; (try with_reducible rfl)); (try simp only [Act.put, List.setIfInBounds_toArray, List.set_cons_zero, List.set_cons_succ]))
            (refine wpR_pure ?_ (fun w hw => ?_) ?_; rfl; (obtain ⟨nn, rfl⟩ := hw; go_simp; (try with_reducible rfl)); (try simp only [Act.put, List.setIfInBounds_toArray, List.set_cons_zero, List.set_cons_succ]))
            (refine wpR_pure ?_ (fun w hw => ?_) ?_; rfl; (obtain ⟨nn, rfl⟩ := hw; go_simp; (try with_reducible rfl)); (try simp only [Act.put, List.setIfInBounds_toArray, List.set_cons_zero, List.set_cons_succ]))
            (refine wpR_cls ?_ (fun w hw => ?_) ?_; rfl; (obtain ⟨nn, rfl⟩ := hw; go_simp; exact ⟨⟨_, rfl⟩, _, rfl, Fl.flR (by assumption) (by assumption) _⟩); (rintro _ ⟨_, rfl, _⟩; (try simp only [Act.put, List.setIfInBounds_toArray, List.set_cons_zero, List.set_cons_succ])))
            (refine wpR_cls ?_ (fun w hw => ?_) ?_; rfl; (obtain ⟨nn, rfl⟩ := hw; go_simp; first | exact ⟨_, rfl, by assumption⟩ | exact ⟨⟨_, rfl⟩, _, rfl, by assumption⟩); (rintro _ ⟨_, rfl, _⟩; (try simp only [Act.put, List.setIfInBounds_toArray, List.set_cons_zero, List.set_cons_succ])))
            refine wpR_nil ?_
            rintro w' ⟨nn, rfl⟩
            go_wp2_with fail
            refine (caSFin_fl (c := fop .quo .f32 (rowW cs 0 x y) (rowW cs 2 x y)) (Fl.flR (by assumption) (by assumption) _) _).mono ?_
            rintro e v1 ⟨k1, rfl, rfl⟩
            rw [show isF FloatKind.f32 (fop .quo .f32 (rowW cs 0 x y) (rowW cs 2 x y)) = true from h1'.out]
            go_wp2_with fail
            refine (caSFin_fl (c := fop .quo .f32 (rowW cs 1 x y) (rowW cs 2 x y)) (Fl.flR (by assumption) (by assumption) _) _).mono ?_
            rintro e v2 ⟨k2, rfl, rfl⟩
            rw [show isF FloatKind.f32 (fop .quo .f32 (rowW cs 1 x y) (rowW cs 2 x y)) = true from h2'.out]
            go_wp2_with fail
            refine bodyPost_ret (v := ?v21) ?hr21 rfl ?post21
            case hr21 => (simp only [results, Try.results82]; go_simp; try rfl)
            case post21 =>
              refine ⟨_, _, _, rfl, by rw [hw2H.out, hw1H.out, dd, dd], ?_, ?_⟩
              · show Fl .f32 _ (fop .quo .f32 (rowW cs 0 x y) (rowW cs 2 x y)); exact Fl.flR (by assumption) (by assumption) _
              · show Fl .f32 _ (fop .quo .f32 (rowW cs 1 x y) (rowW cs 2 x y)); exact Fl.flR (by assumption) (by assumption) _
def wpOk (cs : List Nat) (x y : Nat) : Bool := warpB cs && ledOk cs x y
def wpU (cs : List Nat) (i x y : Nat) : Nat := sel (wpOk cs x y) (ledU cs i x y)
theorem wpOk_no {cs : List Nat} (x y : Nat) (h : warpB cs = false) : wpOk cs x y = false := by unfold wpOk; rw [h]; rfl
theorem wpOk_yes {cs : List Nat} (x y : Nat) (h : warpB cs = true) : wpOk cs x y = ledOk cs x y := by unfold wpOk; rw [h]; rfl
set_option maxRecDepth 100000 in
set_option maxHeartbeats 2000000 in
theorem warpRow0_any (b off c : Nat) (cs : List Nat) (w : World) (hN0 : Nine w b off cs) (hb : b < w.heap.size) :
    Calls Try.prog 152 #[.slice (some ⟨b, off, none⟩) 9 c, .int .i64 0] w (RV (cs.getD 0 0) (cs.getD 1 0) (cs.getD 2 0) w) := by
  obtain ⟨W, hW⟩ : ∃ W, W = w.alloc (.cells #[.float .f32 0, .float .f32 0, .float .f32 0] 85) := ⟨_, rfl⟩
  have hN : Nine W b off cs := by rw [hW]; intro k hk; obtain ⟨z, h1, h2⟩ := hN0 k hk; exact ⟨z, h1, by rw [(bcell (below1 w _)).1 _ _ hb]; exact h2⟩
  have bw : Below w.heap.size w W := by rw [hW]; exact below1 _ _
  have n0 : W.cell? ⟨w.heap.size, 0, none⟩ = some (.float .f32 0) := by rw [hW]; go_simp
  have n1 : W.cell? ⟨w.heap.size, 1, none⟩ = some (.float .f32 0) := by rw [hW]; go_simp
  have n2 : W.cell? ⟨w.heap.size, 2, none⟩ = some (.float .f32 0) := by rw [hW]; go_simp
  have nf : ∀ o, W.frozen? ⟨w.heap.size, o, none⟩ = false := by intro o; rw [hW]; go_simp

  obtain ⟨z0, hz0, hc0⟩ := hN 0 (by omega)
  obtain ⟨z1, hz1, hc1⟩ := hN 1 (by omega)
  obtain ⟨z2, hz2, hc2⟩ := hN 2 (by omega)
  simp only [Nat.add_zero] at hc0
  have wk0 : IntKind.i64.wrap (0 : Int) = (0 : Int) := IntWalk.i64_in _ (by omega)
  have wk1 : IntKind.i64.wrap (1 : Int) = (1 : Int) := IntWalk.i64_in _ (by omega)
  have wk2 : IntKind.i64.wrap (2 : Int) = (2 : Int) := IntWalk.i64_in _ (by omega)
  have hN' := Lib.hid (And.intro hN0 hN)
  clear hN0 hN
  go_enter Try.func152, Try.ntmps152
  go_wp2_with fail
  rw [← hW]
  clear hW
  refine wp_region_cls_tail 18 (by kernel_rfl) (by kernel_rfl) (by rfl) (by kernel_rfl) (by kernel_rfl) (fun w' => ∃ n, w' = W.drewN n) ⟨1, rfl⟩ [Eq1 ?q5166u0, Eq1 ?q5166u1, Eq1 ?q5166u2, Eq1 ?q5166u3, Eq1 ?q5166u4, Eq1 ?q5166u5, Eq1 ?q5166u6, Eq1 ?q5166u7, Eq1 ?q5166u8, Eq1 ?q5166u9, Eq1 ?q5166u10, Eq1 ?q5166u11, Eq1 ?q5166u12, Eq1 ?q5166u13, Eq1 ?q5166u14, Eq1 ?q5166u15, Eq1 ?q5166u16, Eq1 ?q5166u17] ?q5166main
  case q5166main =>
    simp only [List.take_succ_cons, List.take_zero]
    (refine wpR_pure ?_ (fun w hw => ?_) ?_; rfl; (obtain ⟨nn, rfl⟩ := hw; go_simp; (try with_reducible rfl)); (try simp only [Act.put, List.setIfInBounds_toArray, List.set_cons_zero, List.set_cons_succ]))
    (refine wpR_pure ?_ (fun w hw => ?_) ?_; rfl; (obtain ⟨nn, rfl⟩ := hw; go_simp; (try with_reducible rfl)); (try simp only [Act.put, List.setIfInBounds_toArray, List.set_cons_zero, List.set_cons_succ]))
    (refine wpR_pure ?_ (fun w hw => ?_) ?_; rfl; (obtain ⟨nn, rfl⟩ := hw; go_simp; (try with_reducible rfl)); (try simp only [Act.put, List.setIfInBounds_toArray, List.set_cons_zero, List.set_cons_succ]))
    (refine wpR_pure ?_ (fun w hw => ?_) ?_; rfl; (obtain ⟨nn, rfl⟩ := hw; go_simp; (try with_reducible rfl)); (try simp only [Act.put, List.setIfInBounds_toArray, List.set_cons_zero, List.set_cons_succ]))
    (refine wpR_pure ?_ (fun w hw => ?_) ?_; rfl; (obtain ⟨nn, rfl⟩ := hw; go_simp; (try with_reducible rfl)); (try simp only [Act.put, List.setIfInBounds_toArray, List.set_cons_zero, List.set_cons_succ]))
    (refine wpR_pure ?_ (fun w hw => ?_) ?_; rfl; (obtain ⟨nn, rfl⟩ := hw; go_simp; (try with_reducible rfl)); (try simp only [Act.put, List.setIfInBounds_toArray, List.set_cons_zero, List.set_cons_succ]))
    (refine wpR_pure ?_ (fun w hw => ?_) ?_; rfl; (obtain ⟨nn, rfl⟩ := hw; go_simp; (try with_reducible rfl)); (try simp only [Act.put, List.setIfInBounds_toArray, List.set_cons_zero, List.set_cons_succ]))
    (refine wpR_pure ?_ (fun w hw => ?_) ?_; rfl; (obtain ⟨nn, rfl⟩ := hw; go_simp; (try with_reducible rfl)); (try simp only [Act.put, List.setIfInBounds_toArray, List.set_cons_zero, List.set_cons_succ]))
    (refine wpR_pure ?_ (fun w hw => ?_) ?_; rfl; (obtain ⟨nn, rfl⟩ := hw; go_simp; (try with_reducible rfl)); (try simp only [Act.put, List.setIfInBounds_toArray, List.set_cons_zero, List.set_cons_succ]))
    (refine wpR_pure ?_ (fun w hw => ?_) ?_; rfl; (obtain ⟨nn, rfl⟩ := hw; go_simp; (try with_reducible rfl)); (try simp only [Act.put, List.setIfInBounds_toArray, List.set_cons_zero, List.set_cons_succ]))
    (refine wpR_pure ?_ (fun w hw => ?_) ?_; rfl; (obtain ⟨nn, rfl⟩ := hw; go_simp; (try with_reducible rfl)); (try simp only [Act.put, List.setIfInBounds_toArray, List.set_cons_zero, List.set_cons_succ]))
    (refine wpR_pure ?_ (fun w hw => ?_) ?_; rfl; (obtain ⟨nn, rfl⟩ := hw; go_simp; (try with_reducible rfl)); (try simp only [Act.put, List.setIfInBounds_toArray, List.set_cons_zero, List.set_cons_succ]))
    (refine wpR_pure ?_ (fun w hw => ?_) ?_; rfl; (obtain ⟨nn, rfl⟩ := hw; go_simp; (try with_reducible rfl)); (try simp only [Act.put, List.setIfInBounds_toArray, List.set_cons_zero, List.set_cons_succ]))
    (refine wpR_pure ?_ (fun w hw => ?_) ?_; rfl; (obtain ⟨nn, rfl⟩ := hw; go_simp; (try with_reducible rfl)); (try simp only [Act.put, List.setIfInBounds_toArray, List.set_cons_zero, List.set_cons_succ]))
    (refine wpR_pure ?_ (fun w hw => ?_) ?_; rfl; (obtain ⟨nn, rfl⟩ := hw; go_simp; (try with_reducible rfl)); (try simp only [Act.put, List.setIfInBounds_toArray, List.set_cons_zero, List.set_cons_succ]))
    (refine wpR_pure ?_ (fun w hw => ?_) ?_; rfl; (obtain ⟨nn, rfl⟩ := hw; go_simp; (try with_reducible rfl)); (try simp only [Act.put, List.setIfInBounds_toArray, List.set_cons_zero, List.set_cons_succ]))
    (refine wpR_pure ?_ (fun w hw => ?_) ?_; rfl; (obtain ⟨nn, rfl⟩ := hw; go_simp; (try with_reducible rfl)); (try simp only [Act.put, List.setIfInBounds_toArray, List.set_cons_zero, List.set_cons_succ]))
    (refine wpR_pure ?_ (fun w hw => ?_) ?_; rfl; (obtain ⟨nn, rfl⟩ := hw; go_simp; (try with_reducible rfl)); (try simp only [Act.put, List.setIfInBounds_toArray, List.set_cons_zero, List.set_cons_succ]))
    refine wpR_nil ?_
    rintro w' ⟨nn, rfl⟩
    refine wpAny_last 18 _ (by kernel_rfl) rfl rfl (by kernel_rfl) fun K hK => ?_
    go_simp
    refine hK _ _ ?_
    go_wp2_with fail
    refine bodyPost_ret (v := ?v) ?hr rfl ?post
    case hr => (simp only [results, Try.results152]; go_simp; try rfl)
    case post => exact ⟨_, _, _, rfl, by ((repeat' (first | (refine bel_set ?_ ?_ _) | (refine bel_al ?_ ?_ _) | exact Below.refl _ _ | assumption | (refine below_drewN ?_ _) | (refine Below.drew ?_))) <;> (first | omega | (simp; done) | (simp; omega))), hz0, hz1, hz2⟩

set_option maxRecDepth 100000 in
set_option maxHeartbeats 2000000 in
theorem warpRow1_any (b off c : Nat) (cs : List Nat) (w : World) (hN0 : Nine w b off cs) (hb : b < w.heap.size) :
    Calls Try.prog 152 #[.slice (some ⟨b, off, none⟩) 9 c, .int .i64 1] w (RV (cs.getD 3 0) (cs.getD 4 0) (cs.getD 5 0) w) := by
  obtain ⟨W, hW⟩ : ∃ W, W = w.alloc (.cells #[.float .f32 0, .float .f32 0, .float .f32 0] 85) := ⟨_, rfl⟩
  have hN : Nine W b off cs := by rw [hW]; intro k hk; obtain ⟨z, h1, h2⟩ := hN0 k hk; exact ⟨z, h1, by rw [(bcell (below1 w _)).1 _ _ hb]; exact h2⟩
  have bw : Below w.heap.size w W := by rw [hW]; exact below1 _ _
  have n0 : W.cell? ⟨w.heap.size, 0, none⟩ = some (.float .f32 0) := by rw [hW]; go_simp
  have n1 : W.cell? ⟨w.heap.size, 1, none⟩ = some (.float .f32 0) := by rw [hW]; go_simp
  have n2 : W.cell? ⟨w.heap.size, 2, none⟩ = some (.float .f32 0) := by rw [hW]; go_simp
  have nf : ∀ o, W.frozen? ⟨w.heap.size, o, none⟩ = false := by intro o; rw [hW]; go_simp

  obtain ⟨z0, hz0, hc0⟩ := hN 3 (by omega)
  obtain ⟨z1, hz1, hc1⟩ := hN 4 (by omega)
  obtain ⟨z2, hz2, hc2⟩ := hN 5 (by omega)
  have wk0 : IntKind.i64.wrap (3 : Int) = (3 : Int) := IntWalk.i64_in _ (by omega)
  have wk1 : IntKind.i64.wrap (4 : Int) = (4 : Int) := IntWalk.i64_in _ (by omega)
  have wk2 : IntKind.i64.wrap (5 : Int) = (5 : Int) := IntWalk.i64_in _ (by omega)
  have hN' := Lib.hid (And.intro hN0 hN)
  clear hN0 hN
  go_enter Try.func152, Try.ntmps152
  go_wp2_with fail
  rw [← hW]
  clear hW
  refine wp_region_cls_tail 18 (by kernel_rfl) (by kernel_rfl) (by rfl) (by kernel_rfl) (by kernel_rfl) (fun w' => ∃ n, w' = W.drewN n) ⟨1, rfl⟩ [Eq1 ?q5166x2u0, Eq1 ?q5166x2u1, Eq1 ?q5166x2u2, Eq1 ?q5166x2u3, Eq1 ?q5166x2u4, Eq1 ?q5166x2u5, Eq1 ?q5166x2u6, Eq1 ?q5166x2u7, Eq1 ?q5166x2u8, Eq1 ?q5166x2u9, Eq1 ?q5166x2u10, Eq1 ?q5166x2u11, Eq1 ?q5166x2u12, Eq1 ?q5166x2u13, Eq1 ?q5166x2u14, Eq1 ?q5166x2u15, Eq1 ?q5166x2u16, Eq1 ?q5166x2u17] ?q5166x2main
  case q5166x2main =>
    simp only [List.take_succ_cons, List.take_zero]
    (refine wpR_pure ?_ (fun w hw => ?_) ?_; rfl; (obtain ⟨nn, rfl⟩ := hw; go_simp; (try with_reducible rfl)); (try simp only [Act.put, List.setIfInBounds_toArray, List.set_cons_zero, List.set_cons_succ]))
    (refine wpR_pure ?_ (fun w hw => ?_) ?_; rfl; (obtain ⟨nn, rfl⟩ := hw; go_simp; (try with_reducible rfl)); (try simp only [Act.put, List.setIfInBounds_toArray, List.set_cons_zero, List.set_cons_succ]))
    (refine wpR_pure ?_ (fun w hw => ?_) ?_; rfl; (obtain ⟨nn, rfl⟩ := hw; go_simp; (try with_reducible rfl)); (try simp only [Act.put, List.setIfInBounds_toArray, List.set_cons_zero, List.set_cons_succ]))
    (refine wpR_pure ?_ (fun w hw => ?_) ?_; rfl; (obtain ⟨nn, rfl⟩ := hw; go_simp; (try with_reducible rfl)); (try simp only [Act.put, List.setIfInBounds_toArray, List.set_cons_zero, List.set_cons_succ]))
    (refine wpR_pure ?_ (fun w hw => ?_) ?_; rfl; (obtain ⟨nn, rfl⟩ := hw; go_simp; (try with_reducible rfl)); (try simp only [Act.put, List.setIfInBounds_toArray, List.set_cons_zero, List.set_cons_succ]))
    (refine wpR_pure ?_ (fun w hw => ?_) ?_; rfl; (obtain ⟨nn, rfl⟩ := hw; go_simp; (try with_reducible rfl)); (try simp only [Act.put, List.setIfInBounds_toArray, List.set_cons_zero, List.set_cons_succ]))
    (refine wpR_pure ?_ (fun w hw => ?_) ?_; rfl; (obtain ⟨nn, rfl⟩ := hw; go_simp; (try with_reducible rfl)); (try simp only [Act.put, List.setIfInBounds_toArray, List.set_cons_zero, List.set_cons_succ]))
    (refine wpR_pure ?_ (fun w hw => ?_) ?_; rfl; (obtain ⟨nn, rfl⟩ := hw; go_simp; (try with_reducible rfl)); (try simp only [Act.put, List.setIfInBounds_toArray, List.set_cons_zero, List.set_cons_succ]))
    (refine wpR_pure ?_ (fun w hw => ?_) ?_; rfl; (obtain ⟨nn, rfl⟩ := hw; go_simp; (try with_reducible rfl)); (try simp only [Act.put, List.setIfInBounds_toArray, List.set_cons_zero, List.set_cons_succ]))
    (refine wpR_pure ?_ (fun w hw => ?_) ?_; rfl; (obtain ⟨nn, rfl⟩ := hw; go_simp; (try with_reducible rfl)); (try simp only [Act.put, List.setIfInBounds_toArray, List.set_cons_zero, List.set_cons_succ]))
    (refine wpR_pure ?_ (fun w hw => ?_) ?_; rfl; (obtain ⟨nn, rfl⟩ := hw; go_simp; (try with_reducible rfl)); (try simp only [Act.put, List.setIfInBounds_toArray, List.set_cons_zero, List.set_cons_succ]))
    (refine wpR_pure ?_ (fun w hw => ?_) ?_; rfl; (obtain ⟨nn, rfl⟩ := hw; go_simp; (try with_reducible rfl)); (try simp only [Act.put, List.setIfInBounds_toArray, List.set_cons_zero, List.set_cons_succ]))
    (refine wpR_pure ?_ (fun w hw => ?_) ?_; rfl; (obtain ⟨nn, rfl⟩ := hw; go_simp; (try with_reducible rfl)); (try simp only [Act.put, List.setIfInBounds_toArray, List.set_cons_zero, List.set_cons_succ]))
    (refine wpR_pure ?_ (fun w hw => ?_) ?_; rfl; (obtain ⟨nn, rfl⟩ := hw; go_simp; (try with_reducible rfl)); (try simp only [Act.put, List.setIfInBounds_toArray, List.set_cons_zero, List.set_cons_succ]))
    (refine wpR_pure ?_ (fun w hw => ?_) ?_; rfl; (obtain ⟨nn, rfl⟩ := hw; go_simp; (try with_reducible rfl)); (try simp only [Act.put, List.setIfInBounds_toArray, List.set_cons_zero, List.set_cons_succ]))
    (refine wpR_pure ?_ (fun w hw => ?_) ?_; rfl; (obtain ⟨nn, rfl⟩ := hw; go_simp; (try with_reducible rfl)); (try simp only [Act.put, List.setIfInBounds_toArray, List.set_cons_zero, List.set_cons_succ]))
    (refine wpR_pure ?_ (fun w hw => ?_) ?_; rfl; (obtain ⟨nn, rfl⟩ := hw; go_simp; (try with_reducible rfl)); (try simp only [Act.put, List.setIfInBounds_toArray, List.set_cons_zero, List.set_cons_succ]))
    (refine wpR_pure ?_ (fun w hw => ?_) ?_; rfl; (obtain ⟨nn, rfl⟩ := hw; go_simp; (try with_reducible rfl)); (try simp only [Act.put, List.setIfInBounds_toArray, List.set_cons_zero, List.set_cons_succ]))
    refine wpR_nil ?_
    rintro w' ⟨nn, rfl⟩
    refine wpAny_last 18 _ (by kernel_rfl) rfl rfl (by kernel_rfl) fun K hK => ?_
    go_simp
    refine hK _ _ ?_
    go_wp2_with fail
    refine bodyPost_ret (v := ?v) ?hr rfl ?post
    case hr => (simp only [results, Try.results152]; go_simp; try rfl)
    case post => exact ⟨_, _, _, rfl, by ((repeat' (first | (refine bel_set ?_ ?_ _) | (refine bel_al ?_ ?_ _) | exact Below.refl _ _ | assumption | (refine below_drewN ?_ _) | (refine Below.drew ?_))) <;> (first | omega | (simp; done) | (simp; omega))), hz0, hz1, hz2⟩

set_option maxRecDepth 100000 in
set_option maxHeartbeats 2000000 in
theorem warpRow2_any (b off c : Nat) (cs : List Nat) (w : World) (hN0 : Nine w b off cs) (hb : b < w.heap.size) :
    Calls Try.prog 152 #[.slice (some ⟨b, off, none⟩) 9 c, .int .i64 2] w (RV (cs.getD 6 0) (cs.getD 7 0) (cs.getD 8 0) w) := by
  obtain ⟨W, hW⟩ : ∃ W, W = w.alloc (.cells #[.float .f32 0, .float .f32 0, .float .f32 0] 85) := ⟨_, rfl⟩
  have hN : Nine W b off cs := by rw [hW]; intro k hk; obtain ⟨z, h1, h2⟩ := hN0 k hk; exact ⟨z, h1, by rw [(bcell (below1 w _)).1 _ _ hb]; exact h2⟩
  have bw : Below w.heap.size w W := by rw [hW]; exact below1 _ _
  have n0 : W.cell? ⟨w.heap.size, 0, none⟩ = some (.float .f32 0) := by rw [hW]; go_simp
  have n1 : W.cell? ⟨w.heap.size, 1, none⟩ = some (.float .f32 0) := by rw [hW]; go_simp
  have n2 : W.cell? ⟨w.heap.size, 2, none⟩ = some (.float .f32 0) := by rw [hW]; go_simp
  have nf : ∀ o, W.frozen? ⟨w.heap.size, o, none⟩ = false := by intro o; rw [hW]; go_simp

  obtain ⟨z0, hz0, hc0⟩ := hN 6 (by omega)
  obtain ⟨z1, hz1, hc1⟩ := hN 7 (by omega)
  obtain ⟨z2, hz2, hc2⟩ := hN 8 (by omega)
  have wk0 : IntKind.i64.wrap (6 : Int) = (6 : Int) := IntWalk.i64_in _ (by omega)
  have wk1 : IntKind.i64.wrap (7 : Int) = (7 : Int) := IntWalk.i64_in _ (by omega)
  have wk2 : IntKind.i64.wrap (8 : Int) = (8 : Int) := IntWalk.i64_in _ (by omega)
  have hN' := Lib.hid (And.intro hN0 hN)
  clear hN0 hN
  go_enter Try.func152, Try.ntmps152
  go_wp2_with fail
  rw [← hW]
  clear hW
  refine wp_region_cls_tail 18 (by kernel_rfl) (by kernel_rfl) (by rfl) (by kernel_rfl) (by kernel_rfl) (fun w' => ∃ n, w' = W.drewN n) ⟨1, rfl⟩ [Eq1 ?q5166x3u0, Eq1 ?q5166x3u1, Eq1 ?q5166x3u2, Eq1 ?q5166x3u3, Eq1 ?q5166x3u4, Eq1 ?q5166x3u5, Eq1 ?q5166x3u6, Eq1 ?q5166x3u7, Eq1 ?q5166x3u8, Eq1 ?q5166x3u9, Eq1 ?q5166x3u10, Eq1 ?q5166x3u11, Eq1 ?q5166x3u12, Eq1 ?q5166x3u13, Eq1 ?q5166x3u14, Eq1 ?q5166x3u15, Eq1 ?q5166x3u16, Eq1 ?q5166x3u17] ?q5166x3main
  case q5166x3main =>
    simp only [List.take_succ_cons, List.take_zero]
    (refine wpR_pure ?_ (fun w hw => ?_) ?_; rfl; (obtain ⟨nn, rfl⟩ := hw; go_simp; (try with_reducible rfl)); (try simp only [Act.put, List.setIfInBounds_toArray, List.set_cons_zero, List.set_cons_succ]))
    (refine wpR_pure ?_ (fun w hw => ?_) ?_; rfl; (obtain ⟨nn, rfl⟩ := hw; go_simp; (try with_reducible rfl)); (try simp only [Act.put, List.setIfInBounds_toArray, List.set_cons_zero, List.set_cons_succ]))
    (refine wpR_pure ?_ (fun w hw => ?_) ?_; rfl; (obtain ⟨nn, rfl⟩ := hw; go_simp; (try with_reducible rfl)); (try simp only [Act.put, List.setIfInBounds_toArray, List.set_cons_zero, List.set_cons_succ]))
    (refine wpR_pure ?_ (fun w hw => ?_) ?_; rfl; (obtain ⟨nn, rfl⟩ := hw; go_simp; (try with_reducible rfl)); (try simp only [Act.put, List.setIfInBounds_toArray, List.set_cons_zero, List.set_cons_succ]))
    (refine wpR_pure ?_ (fun w hw => ?_) ?_; rfl; (obtain ⟨nn, rfl⟩ := hw; go_simp; (try with_reducible rfl)); (try simp only [Act.put, List.setIfInBounds_toArray, List.set_cons_zero, List.set_cons_succ]))
    (refine wpR_pure ?_ (fun w hw => ?_) ?_; rfl; (obtain ⟨nn, rfl⟩ := hw; go_simp; (try with_reducible rfl)); (try simp only [Act.put, List.setIfInBounds_toArray, List.set_cons_zero, List.set_cons_succ]))
    (refine wpR_pure ?_ (fun w hw => ?_) ?_; rfl; (obtain ⟨nn, rfl⟩ := hw; go_simp; (try with_reducible rfl)); (try simp only [Act.put, List.setIfInBounds_toArray, List.set_cons_zero, List.set_cons_succ]))
    (refine wpR_pure ?_ (fun w hw => ?_) ?_; rfl; (obtain ⟨nn, rfl⟩ := hw; go_simp; (try with_reducible rfl)); (try simp only [Act.put, List.setIfInBounds_toArray, List.set_cons_zero, List.set_cons_succ]))
    (refine wpR_pure ?_ (fun w hw => ?_) ?_; rfl; (obtain ⟨nn, rfl⟩ := hw; go_simp; (try with_reducible rfl)); (try simp only [Act.put, List.setIfInBounds_toArray, List.set_cons_zero, List.set_cons_succ]))
    (refine wpR_pure ?_ (fun w hw => ?_) ?_; rfl; (obtain ⟨nn, rfl⟩ := hw; go_simp; (try with_reducible rfl)); (try simp only [Act.put, List.setIfInBounds_toArray, List.set_cons_zero, List.set_cons_succ]))
    (refine wpR_pure ?_ (fun w hw => ?_) ?_; rfl; (obtain ⟨nn, rfl⟩ := hw; go_simp; (try with_reducible rfl)); (try simp only [Act.put, List.setIfInBounds_toArray, List.set_cons_zero, List.set_cons_succ]))
    (refine wpR_pure ?_ (fun w hw => ?_) ?_; rfl; (obtain ⟨nn, rfl⟩ := hw; go_simp; (try with_reducible rfl)); (try simp only [Act.put, List.setIfInBounds_toArray, List.set_cons_zero, List.set_cons_succ]))
    (refine wpR_pure ?_ (fun w hw => ?_) ?_; rfl; (obtain ⟨nn, rfl⟩ := hw; go_simp; (try with_reducible rfl)); (try simp only [Act.put, List.setIfInBounds_toArray, List.set_cons_zero, List.set_cons_succ]))
    (refine wpR_pure ?_ (fun w hw => ?_) ?_; rfl; (obtain ⟨nn, rfl⟩ := hw; go_simp; (try with_reducible rfl)); (try simp only [Act.put, List.setIfInBounds_toArray, List.set_cons_zero, List.set_cons_succ]))
    (refine wpR_pure ?_ (fun w hw => ?_) ?_; rfl; (obtain ⟨nn, rfl⟩ := hw; go_simp; (try with_reducible rfl)); (try simp only [Act.put, List.setIfInBounds_toArray, List.set_cons_zero, List.set_cons_succ]))
    (refine wpR_pure ?_ (fun w hw => ?_) ?_; rfl; (obtain ⟨nn, rfl⟩ := hw; go_simp; (try with_reducible rfl)); (try simp only [Act.put, List.setIfInBounds_toArray, List.set_cons_zero, List.set_cons_succ]))
    (refine wpR_pure ?_ (fun w hw => ?_) ?_; rfl; (obtain ⟨nn, rfl⟩ := hw; go_simp; (try with_reducible rfl)); (try simp only [Act.put, List.setIfInBounds_toArray, List.set_cons_zero, List.set_cons_succ]))
    (refine wpR_pure ?_ (fun w hw => ?_) ?_; rfl; (obtain ⟨nn, rfl⟩ := hw; go_simp; (try with_reducible rfl)); (try simp only [Act.put, List.setIfInBounds_toArray, List.set_cons_zero, List.set_cons_succ]))
    refine wpR_nil ?_
    rintro w' ⟨nn, rfl⟩
    refine wpAny_last 18 _ (by kernel_rfl) rfl rfl (by kernel_rfl) fun K hK => ?_
    go_simp
    refine hK _ _ ?_
    go_wp2_with fail
    refine bodyPost_ret (v := ?v) ?hr rfl ?post
    case hr => (simp only [results, Try.results152]; go_simp; try rfl)
    case post => exact ⟨_, _, _, rfl, by ((repeat' (first | (refine bel_set ?_ ?_ _) | (refine bel_al ?_ ?_ _) | exact Below.refl _ _ | assumption | (refine below_drewN ?_ _) | (refine Below.drew ?_))) <;> (first | omega | (simp; done) | (simp; omega))), hz0, hz1, hz2⟩

end Go.Proofs.Ytnbilmlpngcobaa
