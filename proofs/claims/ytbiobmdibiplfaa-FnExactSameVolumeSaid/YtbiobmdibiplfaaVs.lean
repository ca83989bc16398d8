import Derived.Test.YtbiobmdibiplfaaVn
import Derived.Test.YtbiobmdibiplfaaVz
set_option linter.unusedVariables false
set_option linter.unusedSimpArgs false
namespace Go.Proofs.Ytbiobmdibiplfaa
open Go.FX Go.RowKit Go.WideShapes Go.ChangeShapes
theorem l01Same_row (x y : Nat) (w : World) (hx : x < 4294967296) (hy : y < 4294967296) : Calls Try.prog 122 #[.float .f32 x, .float .f32 y] w (RB (cn .f32 x == cn .f32 y) w) := by
  by_cases h1 : isN .f32 x = true <;> by_cases h2 : isN .f32 y = true
  all_goals
    try simp only [Bool.not_eq_true] at h1 h2
    first
      | (have e1 : Hid (cn .f32 x = qn .f32) := Lib.hid (cn_of_nan h1))
      | (have e1 : Hid (cn .f32 x = x) := Lib.hid (cn_of_not h1))
    first
      | (have e2 : Hid (cn .f32 y = qn .f32) := Lib.hid (cn_of_nan h2))
      | (have e2 : Hid (cn .f32 y = y) := Lib.hid (cn_of_not h2))
    go_enter Try.func122, Try.ntmps122
    go_wp2
    go_ret
    refine ⟨0, congrArg (fun b => Ending.returned (.bool b)) ?_, rfl⟩
    rw [e1.out, e2.out, Bool.eq_iff_iff]
    simp [qn]
    try omega
theorem take_succ_eq {xs ys : List Nat} {k : Nat} (hx : k < xs.length) (hy : k < ys.length) (h : xs.take k = ys.take k) : xs.take (k + 1) = ys.take (k + 1) ↔ xs.getD k 0 = ys.getD k 0 := by
  rw [List.take_succ_eq_append_getElem hx, List.take_succ_eq_append_getElem hy, h]
  have e1 : xs.getD k 0 = xs[k] := by simp [List.getD, hx]
  have e2 : ys.getD k 0 = ys[k] := by simp [List.getD, hy]
  rw [e1, e2, List.append_right_inj]
  simp
set_option maxRecDepth 100000 in
set_option maxHeartbeats 4000000 in
theorem l01SameAll_any (v v' : Value) (xs ys : List Nat) (w : World) (hv : FC w v xs) (hv' : FC w v' ys) :
    Calls Try.prog 63 #[v, v'] w (RB (decide (xs = ys)) w) := by
  obtain ⟨a0, cap, rfl, hnc, hcm⟩ := hv.shape
  obtain ⟨a1, cap', rfl, hnc', hcm'⟩ := hv'.shape
  unfold maxLen at hcm hcm'
  by_cases hne : xs.length = ys.length
  case neg =>
    have t0 : decide (xs = ys) = false := decide_eq_false (fun e => hne (by rw [e]))
    rw [t0]
    have h1 : ((xs.length : Int) == (ys.length : Int)) = false := by simp only [beq_eq_false_iff_ne, ne_eq]; omega
    clear t0 hv hv'
    generalize xs.length = na at *
    generalize ys.length = nb at *
    go_enter Try.func63, Try.ntmps63
    go_wp2_with fail
    go_ret
    exact ⟨0, rfl, rfl⟩
  obtain ⟨L, hL⟩ : ∃ L, L = xs.length := ⟨_, rfl⟩
  have hLy : L = ys.length := hL.trans hne
  rw [← hL] at hnc hv ⊢
  rw [← hLy] at hnc' hv' ⊢
  have hL' := Lib.hid hL
  have hLy' := Lib.hid hLy
  have hV := Lib.hid hv
  have hV' := Lib.hid hv'
  clear hL hLy hne hv hv'
  go_enter Try.func63, Try.ntmps63
  go_wp2_with fail
  go_loopw [5] (fun i wr => ∃ k n : Nat, k ≤ L ∧ i = .int .i64 k ∧ Hid (xs.take k = ys.take k) ∧ wr = w.drewN n) (fun i _ => L - (intOf i).toNat)
  case atStart => exact ⟨0, 0, by omega, rfl, Lib.hid (by simp), rfl⟩
  case round =>
    obtain ⟨k, n, hk, rfl, hP, hwr⟩ := hrel
    by_cases hlt : k < L
    · obtain ⟨b, off, _, z, ev, _, _, hb, hz, hc⟩ := hV.out.cell (k := k) (by have := hL'.out; omega)
      obtain ⟨b', off', _, z', ev', _, _, hb', hz', hc'⟩ := hV'.out.cell (k := k) (by have := hLy'.out; omega)
      obtain rfl : a0 = some ⟨b, off, none⟩ := (Value.slice.inj ev).1
      obtain rfl : a1 = some ⟨b', off', none⟩ := (Value.slice.inj ev').1
      clear ev ev'
      have hcr : wr.cell? ⟨b, off + k, none⟩ = some (.float .f32 z) := by rw [hwr]; exact hc
      have hcr' : wr.cell? ⟨b', off' + k, none⟩ = some (.float .f32 z') := by rw [hwr]; exact hc'
      have hs := fun (w1 : World) => l01Same_row z z' w1 hz.lt hz'.lt
      have hstep := Lib.hid (take_succ_eq (xs := xs) (ys := ys) (k := k) (by have := hL'.out; omega) (by have := hLy'.out; omega) hP.out)
      rw [← hz.eq, ← hz'.eq] at hstep
      have hwr' := Lib.hid hwr
      clear hc hc' hwr hz hz'
      go_upto_region 6 with fail
      cases hq : (cn .f32 z == cn .f32 z') with
      | true =>
        have hnext : Hid (xs.take (k + 1) = ys.take (k + 1)) := Lib.hid (hstep.out.2 (by simpa using hq))
        rw [hq] at hs
        clear hq hstep hP
        refine wp_region_cls (by kernel_rfl) (by kernel_rfl) (by kernel_rfl) (by kernel_rfl) (fun w' => ∃ n, w' = wr.drewN n) ⟨1, rfl⟩ [Eq1 ?q181u0, Eq1 ?q181u1, Eq1 ?q181u2, Eq1 ?q181u3, Eq1 ?q181u4, Eq1 ?q181u5, Eq1 ?q181u6, Eq1 ?q181u7, Eq1 (.bool true), Eq1 ?q181u9] ?q181main
        case q181main =>
          (refine wpR_pure ?_ (fun w hw => ?_) ?_; rfl; (obtain ⟨nn, rfl⟩ := hw; go_simp; (try with_reducible rfl)); (try simp only [Act.put, List.setIfInBounds_toArray, List.set_cons_zero, List.set_cons_succ]))
          (refine wpR_pure ?_ (fun w hw => ?_) ?_; rfl; (obtain ⟨nn, rfl⟩ := hw; go_simp; (try with_reducible rfl)); (try simp only [Act.put, List.setIfInBounds_toArray, List.set_cons_zero, List.set_cons_succ]))
          (refine wpR_pure ?_ (fun w hw => ?_) ?_; rfl; (obtain ⟨nn, rfl⟩ := hw; go_simp; (try with_reducible rfl)); (try simp only [Act.put, List.setIfInBounds_toArray, List.set_cons_zero, List.set_cons_succ]))
          (refine wpR_pure ?_ (fun w hw => ?_) ?_; rfl; (obtain ⟨nn, rfl⟩ := hw; go_simp; (try with_reducible rfl)); (try simp only [Act.put, List.setIfInBounds_toArray, List.set_cons_zero, List.set_cons_succ]))
          (refine wpR_pure ?_ (fun w hw => ?_) ?_; rfl; (obtain ⟨nn, rfl⟩ := hw; go_simp; (try with_reducible rfl)); (try simp only [Act.put, List.setIfInBounds_toArray, List.set_cons_zero, List.set_cons_succ]))
          (refine wpR_pure ?_ (fun w hw => ?_) ?_; rfl; (obtain ⟨nn, rfl⟩ := hw; go_simp; (try with_reducible rfl)); (try simp only [Act.put, List.setIfInBounds_toArray, List.set_cons_zero, List.set_cons_succ]))
          (refine wpR_pure ?_ (fun w hw => ?_) ?_; rfl; (obtain ⟨nn, rfl⟩ := hw; go_simp; (try with_reducible rfl)); (try simp only [Act.put, List.setIfInBounds_toArray, List.set_cons_zero, List.set_cons_succ]))
          (refine wpR_pure ?_ (fun w hw => ?_) ?_; rfl; (obtain ⟨nn, rfl⟩ := hw; go_simp; (try with_reducible rfl)); (try simp only [Act.put, List.setIfInBounds_toArray, List.set_cons_zero, List.set_cons_succ]))
          (refine wpR_cls ?_ (fun w hw => ?_) ?_; rfl; (obtain ⟨nn, rfl⟩ := hw; go_simp; refine (hs _).mono ?_; rintro _ _ ⟨nm, rfl, rfl⟩; exact ⟨_, rfl, rfl, nn + nm, by simp⟩); (rintro _ rfl; (try simp only [Act.put, List.setIfInBounds_toArray, List.set_cons_zero, List.set_cons_succ])))
          (refine wpR_pure ?_ (fun w hw => ?_) ?_; rfl; (obtain ⟨nn, rfl⟩ := hw; go_simp; (try with_reducible rfl)); (try simp only [Act.put, List.setIfInBounds_toArray, List.set_cons_zero, List.set_cons_succ]))
          refine wpR_nil ?_
          rintro w' ⟨nn, rfl⟩
          go_wp2_with fail
          go_roundw
          case rel => exact ⟨k + 1, _, by omega, by go_num, hnext, by rw [hwr'.out]; first | rfl | (simp only [World.drewN_drewN]; rfl)⟩
          case measure => simp [intOf]; omega
      | false =>
        have hfin : Hid (decide (xs = ys) = false) := Lib.hid (decide_eq_false (fun e => by
          have := hstep.out.1 (by rw [e])
          rw [this] at hq
          simp at hq))
        rw [hq] at hs
        clear hq hstep hP
        refine wp_region_cls (by kernel_rfl) (by kernel_rfl) (by kernel_rfl) (by kernel_rfl) (fun w' => ∃ n, w' = wr.drewN n) ⟨1, rfl⟩ [Eq1 ?q2751u0, Eq1 ?q2751u1, Eq1 ?q2751u2, Eq1 ?q2751u3, Eq1 ?q2751u4, Eq1 ?q2751u5, Eq1 ?q2751u6, Eq1 ?q2751u7, Eq1 (.bool false), Eq1 ?q2751u9] ?q2751main
        case q2751main =>
          (refine wpR_pure ?_ (fun w hw => ?_) ?_; rfl; (obtain ⟨nn, rfl⟩ := hw; go_simp; (try with_reducible rfl)); (try simp only [Act.put, List.setIfInBounds_toArray, List.set_cons_zero, List.set_cons_succ]))
          (refine wpR_pure ?_ (fun w hw => ?_) ?_; rfl; (obtain ⟨nn, rfl⟩ := hw; go_simp; (try with_reducible rfl)); (try simp only [Act.put, List.setIfInBounds_toArray, List.set_cons_zero, List.set_cons_succ]))
          (refine wpR_pure ?_ (fun w hw => ?_) ?_; rfl; (obtain ⟨nn, rfl⟩ := hw; go_simp; (try with_reducible rfl)); (try simp only [Act.put, List.setIfInBounds_toArray, List.set_cons_zero, List.set_cons_succ]))
          (refine wpR_pure ?_ (fun w hw => ?_) ?_; rfl; (obtain ⟨nn, rfl⟩ := hw; go_simp; (try with_reducible rfl)); (try simp only [Act.put, List.setIfInBounds_toArray, List.set_cons_zero, List.set_cons_succ]))
          (refine wpR_pure ?_ (fun w hw => ?_) ?_; rfl; (obtain ⟨nn, rfl⟩ := hw; go_simp; (try with_reducible rfl)); (try simp only [Act.put, List.setIfInBounds_toArray, List.set_cons_zero, List.set_cons_succ]))
          (refine wpR_pure ?_ (fun w hw => ?_) ?_; rfl; (obtain ⟨nn, rfl⟩ := hw; go_simp; (try with_reducible rfl)); (try simp only [Act.put, List.setIfInBounds_toArray, List.set_cons_zero, List.set_cons_succ]))
          (refine wpR_pure ?_ (fun w hw => ?_) ?_; rfl; (obtain ⟨nn, rfl⟩ := hw; go_simp; (try with_reducible rfl)); (try simp only [Act.put, List.setIfInBounds_toArray, List.set_cons_zero, List.set_cons_succ]))
          (refine wpR_pure ?_ (fun w hw => ?_) ?_; rfl; (obtain ⟨nn, rfl⟩ := hw; go_simp; (try with_reducible rfl)); (try simp only [Act.put, List.setIfInBounds_toArray, List.set_cons_zero, List.set_cons_succ]))
          (refine wpR_cls ?_ (fun w hw => ?_) ?_; rfl; (obtain ⟨nn, rfl⟩ := hw; go_simp; refine (hs _).mono ?_; rintro _ _ ⟨nm, rfl, rfl⟩; exact ⟨_, rfl, rfl, nn + nm, by simp⟩); (rintro _ rfl; (try simp only [Act.put, List.setIfInBounds_toArray, List.set_cons_zero, List.set_cons_succ])))
          (refine wpR_pure ?_ (fun w hw => ?_) ?_; rfl; (obtain ⟨nn, rfl⟩ := hw; go_simp; (try with_reducible rfl)); (try simp only [Act.put, List.setIfInBounds_toArray, List.set_cons_zero, List.set_cons_succ]))
          refine wpR_nil ?_
          rintro w' ⟨nn, rfl⟩
          go_wp2_with fail
          go_ret
          exact ⟨_, (congrArg (fun b => Ending.returned (.bool b)) hfin.out).symm, by rw [hwr'.out]; first | rfl | (simp only [World.drewN_drewN]; rfl)⟩
    · have hfin0 : decide (xs = ys) = true := decide_eq_true (by
        have h := hP.out
        have e2 := hL'.out
        have e3 := hLy'.out
        rwa [List.take_of_length_le (by omega), List.take_of_length_le (by omega)] at h)
      have hfin := Lib.hid hfin0
      have hwr' := Lib.hid hwr
      clear hfin0 hwr
      go_wp2_with fail
      go_ret
      exact ⟨_, (congrArg (fun b => Ending.returned (.bool b)) hfin.out).symm, hwr'.out⟩
set_option maxHeartbeats 4000000 in
theorem specSamePicture_any (W H : Int) (a : Option Addr) (n c : Nat) (xs : List Nat) (W' H' : Int) (a' : Option Addr) (n' c' : Nat) (ys : List Nat) (w : World) (hv : FC w (.slice a n c) xs) (hv' : FC w (.slice a' n' c') ys) (hn : xs.length ≤ 1048576) :
    Calls Try.prog 16 #[.agg #[.int .i64 W, .int .i64 H, .slice a n c], .agg #[.int .i64 W', .int .i64 H', .slice a' n' c']] w (RBb (decide (W = W') && (decide (H = H') && decide (xs = ys))) w) := by
  by_cases eW : W = W'
  case neg =>
    have t1 : (W == W') = false := by simpa using eW
    have t2 := Lib.hid (decide_eq_false eW)
    clear eW
    go_enter Try.func16, Try.ntmps16
    go_wp2_with fail
    go_ret
    exact ⟨congrArg (fun b => Ending.returned (.bool b)) (by rw [t2.out]; simp), below2 _ _ _⟩
  subst eW
  by_cases eH : H = H'
  case neg =>
    have t1 : (H == H') = false := by simpa using eH
    have t2 := Lib.hid (decide_eq_false eH)
    clear eH
    go_enter Try.func16, Try.ntmps16
    go_wp2_with fail
    go_ret
    exact ⟨congrArg (fun b => Ending.returned (.bool b)) (by rw [t2.out]; simp), below2 _ _ _⟩
  subst eH
  have hS := fun (w1 : World) (h1 : Below w.heap.size w w1) => l01SameAll_any _ _ xs ys w1 (hv.below h1) (hv'.below h1)
  obtain ⟨n0, h01, h02⟩ := hv.sized
  obtain ⟨n1, h11, h12⟩ := hv'.sized
  unfold maxLen at h02 h12
  clear hv hv' n0 n1
  go_enter Try.func16, Try.ntmps16
  go_wp2_with fail
  refine (hS _ (below2 _ _ _)).mono ?_
  rintro e w1 ⟨n1, rfl, rfl⟩
  go_wp2_with fail
  go_ret
  exact ⟨congrArg (fun b => Ending.returned (.bool b)) (by simp), below_drewN (below2 _ _ _) _⟩
set_option maxHeartbeats 4000000 in
theorem specSameMap_any (W H : Int) (a : Option Addr) (n c : Nat) (xs : List Nat) (W' H' : Int) (a' : Option Addr) (n' c' : Nat) (ys : List Nat) (w : World) (hv : FC w (.slice a n c) xs) (hv' : FC w (.slice a' n' c') ys) (hn : xs.length ≤ 1048576) :
    Calls Try.prog 21 #[.agg #[.int .i64 W, .int .i64 H, .slice a n c], .agg #[.int .i64 W', .int .i64 H', .slice a' n' c']] w (RBb (decide (W = W') && (decide (H = H') && decide (xs = ys))) w) := by
  by_cases eW : W = W'
  case neg =>
    have t1 : (W == W') = false := by simpa using eW
    have t2 := Lib.hid (decide_eq_false eW)
    clear eW
    go_enter Try.func21, Try.ntmps21
    go_wp2_with fail
    go_ret
    exact ⟨congrArg (fun b => Ending.returned (.bool b)) (by rw [t2.out]; simp), below2 _ _ _⟩
  subst eW
  by_cases eH : H = H'
  case neg =>
    have t1 : (H == H') = false := by simpa using eH
    have t2 := Lib.hid (decide_eq_false eH)
    clear eH
    go_enter Try.func21, Try.ntmps21
    go_wp2_with fail
    go_ret
    exact ⟨congrArg (fun b => Ending.returned (.bool b)) (by rw [t2.out]; simp), below2 _ _ _⟩
  subst eH
  have hS := fun (w1 : World) (h1 : Below w.heap.size w w1) => l01SameAll_any _ _ xs ys w1 (hv.below h1) (hv'.below h1)
  obtain ⟨n0, h01, h02⟩ := hv.sized
  obtain ⟨n1, h11, h12⟩ := hv'.sized
  unfold maxLen at h02 h12
  clear hv hv' n0 n1
  go_enter Try.func21, Try.ntmps21
  go_wp2_with fail
  refine (hS _ (below2 _ _ _)).mono ?_
  rintro e w1 ⟨n1, rfl, rfl⟩
  go_wp2_with fail
  go_ret
  exact ⟨congrArg (fun b => Ending.returned (.bool b)) (by simp), below_drewN (below2 _ _ _) _⟩
set_option maxHeartbeats 4000000 in
theorem specSameVolume_any (W H D : Int) (a : Option Addr) (n c : Nat) (xs : List Nat) (W' H' D' : Int) (a' : Option Addr) (n' c' : Nat) (ys : List Nat) (w : World) (hv : FC w (.slice a n c) xs) (hv' : FC w (.slice a' n' c') ys) (hn : xs.length ≤ 1048576) :
    Calls Try.prog 26 #[.agg #[.int .i64 W, .int .i64 H, .int .i64 D, .slice a n c], .agg #[.int .i64 W', .int .i64 H', .int .i64 D', .slice a' n' c']] w (RBb (decide (W = W') && (decide (H = H') && (decide (D = D') && decide (xs = ys)))) w) := by
  by_cases eW : W = W'
  case neg =>
    have t1 : (W == W') = false := by simpa using eW
    have t2 := Lib.hid (decide_eq_false eW)
    clear eW
    go_enter Try.func26, Try.ntmps26
    go_wp2_with fail
    go_ret
    exact ⟨congrArg (fun b => Ending.returned (.bool b)) (by rw [t2.out]; simp), below2 _ _ _⟩
  subst eW
  by_cases eH : H = H'
  case neg =>
    have t1 : (H == H') = false := by simpa using eH
    have t2 := Lib.hid (decide_eq_false eH)
    clear eH
    go_enter Try.func26, Try.ntmps26
    go_wp2_with fail
    go_ret
    exact ⟨congrArg (fun b => Ending.returned (.bool b)) (by rw [t2.out]; simp), below2 _ _ _⟩
  subst eH
  by_cases eD : D = D'
  case neg =>
    have t1 : (D == D') = false := by simpa using eD
    have t2 := Lib.hid (decide_eq_false eD)
    clear eD
    go_enter Try.func26, Try.ntmps26
    go_wp2_with fail
    go_ret
    exact ⟨congrArg (fun b => Ending.returned (.bool b)) (by rw [t2.out]; simp), below2 _ _ _⟩
  subst eD
  have hS := fun (w1 : World) (h1 : Below w.heap.size w w1) => l01SameAll_any _ _ xs ys w1 (hv.below h1) (hv'.below h1)
  obtain ⟨n0, h01, h02⟩ := hv.sized
  obtain ⟨n1, h11, h12⟩ := hv'.sized
  unfold maxLen at h02 h12
  clear hv hv' n0 n1
  go_enter Try.func26, Try.ntmps26
  go_wp2_with fail
  refine (hS _ (below2 _ _ _)).mono ?_
  rintro e w1 ⟨n1, rfl, rfl⟩
  go_wp2_with fail
  go_ret
  exact ⟨congrArg (fun b => Ending.returned (.bool b)) (by simp), below_drewN (below2 _ _ _) _⟩
set_option maxHeartbeats 4000000 in
theorem implSamePicture_any (W H : Int) (a : Option Addr) (n c : Nat) (xs : List Nat) (W' H' : Int) (a' : Option Addr) (n' c' : Nat) (ys : List Nat) (w : World) (hv : FC w (.slice a n c) xs) (hv' : FC w (.slice a' n' c') ys) (hn : xs.length ≤ 1048576) :
    Calls Try.prog 18 #[.agg #[.int .i64 W, .int .i64 H, .slice a n c], .agg #[.int .i64 W', .int .i64 H', .slice a' n' c']] w (RBb (decide (W = W') && (decide (H = H') && decide (xs = ys))) w) := by
  by_cases eW : W = W'
  case neg =>
    have t1 : (W == W') = false := by simpa using eW
    have t2 := Lib.hid (decide_eq_false eW)
    clear eW
    go_enter Try.func18, Try.ntmps18
    go_wp2_with fail
    go_ret
    exact ⟨congrArg (fun b => Ending.returned (.bool b)) (by rw [t2.out]; simp), below2 _ _ _⟩
  subst eW
  by_cases eH : H = H'
  case neg =>
    have t1 : (H == H') = false := by simpa using eH
    have t2 := Lib.hid (decide_eq_false eH)
    clear eH
    go_enter Try.func18, Try.ntmps18
    go_wp2_with fail
    go_ret
    exact ⟨congrArg (fun b => Ending.returned (.bool b)) (by rw [t2.out]; simp), below2 _ _ _⟩
  subst eH
  have hS := fun (w1 : World) (h1 : Below w.heap.size w w1) => sameNumbers_any _ _ xs ys w1 (hv.below h1) (hv'.below h1) hn
  obtain ⟨n0, h01, h02⟩ := hv.sized
  obtain ⟨n1, h11, h12⟩ := hv'.sized
  unfold maxLen at h02 h12
  clear hv hv' n0 n1
  go_enter Try.func18, Try.ntmps18
  go_wp2_with fail
  refine (hS _ (below2 _ _ _)).mono ?_
  rintro e w1 ⟨rfl, hb1⟩
  go_wp2_with fail
  go_ret
  exact ⟨congrArg (fun b => Ending.returned (.bool b)) (by simp), (below2 _ _ _).trans (hb1.mono (by simp; try omega))⟩
set_option maxHeartbeats 4000000 in
theorem implSameVolume_any (W H D : Int) (a : Option Addr) (n c : Nat) (xs : List Nat) (W' H' D' : Int) (a' : Option Addr) (n' c' : Nat) (ys : List Nat) (w : World) (hv : FC w (.slice a n c) xs) (hv' : FC w (.slice a' n' c') ys) (hn : xs.length ≤ 1048576) :
    Calls Try.prog 28 #[.agg #[.int .i64 W, .int .i64 H, .int .i64 D, .slice a n c], .agg #[.int .i64 W', .int .i64 H', .int .i64 D', .slice a' n' c']] w (RBb (decide (W = W') && (decide (H = H') && (decide (D = D') && decide (xs = ys)))) w) := by
  have hb := fun w1 => hasSize_any W H D a n c W' H' D' a' n' c' w1
  have hS := fun (w1 : World) (h1 : Below w.heap.size w w1) => sameNumbers_any _ _ xs ys w1 (hv.below h1) (hv'.below h1) hn
  obtain ⟨n0, h01, h02⟩ := hv.sized
  obtain ⟨n1, h11, h12⟩ := hv'.sized
  unfold maxLen at h02 h12
  clear hv hv' n0 n1
  cases hq : (decide (W = W') && (decide (H = H') && decide (D = D'))) with
  | false =>
    rw [hq] at hb
    have hfin : Hid ((decide (W = W') && (decide (H = H') && (decide (D = D') && decide (xs = ys)))) = false) := Lib.hid (by
      rw [Bool.and_eq_false_iff, Bool.and_eq_false_iff] at hq
      rcases hq with h | h | h <;> rw [h] <;> simp)
    clear hq
    go_enter Try.func28, Try.ntmps28
    go_wp2_with fail
    refine (hb _).mono ?_
    rintro e w1 ⟨rfl, hb1⟩
    go_wp2_with fail
    go_ret
    exact ⟨(congrArg (fun b => Ending.returned (.bool b)) hfin.out).symm, (below2 _ _ _).trans (hb1.mono (by simp; try omega))⟩
  | true =>
    rw [hq] at hb
    have hfin : Hid ((decide (W = W') && (decide (H = H') && (decide (D = D') && decide (xs = ys)))) = decide (xs = ys)) := Lib.hid (by
      simp only [Bool.and_eq_true] at hq
      rw [hq.1, hq.2.1, hq.2.2]; simp)
    clear hq
    have P1 := Lib.hid ((Pw.new w W H D (.slice a n c) 41).alloc (.cells #[.int .i64 W', .int .i64 H', .int .i64 D', .slice a' n' c'] 41))
    have P2 := Lib.hid (Pw.new (w.alloc (.cells #[.int .i64 W, .int .i64 H, .int .i64 D, .slice a n c] 41)) W' H' D' (.slice a' n' c') 41)
    go_enter Try.func28, Try.ntmps28
    go_wp2_with fail
    refine (hb _).mono ?_
    rintro e w1 ⟨rfl, hb1⟩
    have hb2 : Below w.heap.size w w1 := (below2 _ _ _).trans (hb1.mono (by simp; try omega))
    obtain ⟨_, p1, p2, p3, p4⟩ := P1.out.below hb1
    obtain ⟨_, q1, q2, q3, q4⟩ := P2.out.below hb1
    simp only [World.size_alloc] at q1 q2 q3 q4
    have s1 := hb1.size
    simp only [World.size_alloc] at s1
    go_wp2_with fail
    refine (hS _ hb2).mono ?_
    rintro e w2 ⟨rfl, hb3⟩
    go_wp2_with fail
    go_ret
    exact ⟨(congrArg (fun b => Ending.returned (.bool b)) hfin.out).symm, hb2.trans (hb3.mono hb2.size)⟩
set_option maxHeartbeats 4000000 in
theorem implSameMap_any (W H : Int) (a : Option Addr) (n c : Nat) (xs : List Nat) (W' H' : Int) (a' : Option Addr) (n' c' : Nat) (ys : List Nat) (w : World) (hv : FC w (.slice a n c) xs) (hv' : FC w (.slice a' n' c') ys) (hn : xs.length ≤ 1048576) :
    Calls Try.prog 23 #[.agg #[.int .i64 W, .int .i64 H, .slice a n c], .agg #[.int .i64 W', .int .i64 H', .slice a' n' c']] w (RBb (decide (W = W') && (decide (H = H') && decide (xs = ys))) w) := by
  have hS := fun (w1 : World) (h1 : Below w.heap.size w w1) => implSamePicture_any W H a n c xs W' H' a' n' c' ys w1 (hv.below h1) (hv'.below h1) hn
  have P1 := Lib.hid ((Pv.new w W H (.slice a n c) 34).alloc (.cells #[.int .i64 W', .int .i64 H', .slice a' n' c'] 34))
  have P2 := Lib.hid (Pv.new (w.alloc (.cells #[.int .i64 W, .int .i64 H, .slice a n c] 34)) W' H' (.slice a' n' c') 34)
  have B2 := Lib.hid (below2 w (.cells #[.int .i64 W, .int .i64 H, .slice a n c] 34) (.cells #[.int .i64 W', .int .i64 H', .slice a' n' c'] 34))
  clear hv hv'
  go_enter Try.func23, Try.ntmps23
  go_upto_region 1 with fail
  generalize hX : (w.alloc (.cells #[.int .i64 W, .int .i64 H, .slice a n c] 34)).alloc (.cells #[.int .i64 W', .int .i64 H', .slice a' n' c'] 34) = X at P1 P2 B2 ⊢
  clear hX
  obtain ⟨_, p1, p2, p3⟩ := P1.out
  obtain ⟨_, q1, q2, q3⟩ := P2.out
  simp only [World.size_alloc] at q1 q2 q3
  have s1 := B2.out.size
  have s2 : w.heap.size + 1 < X.heap.size := by have := P2.out.1; simpa using this
  refine wp_region_cls (by kernel_rfl) (by kernel_rfl) (by kernel_rfl) (by kernel_rfl) (fun w' => Below X.heap.size X w') (below_drewN (Below.refl _ _) 1) [Eq1 ?q4415u0, Eq1 (.agg #[.int .i64 W, .int .i64 H, .slice a n c]), Eq1 ?q4415u2, Eq1 (.agg #[.int .i64 W', .int .i64 H', .slice a' n' c']), Eq1 (.bool (decide (W = W') && (decide (H = H') && decide (xs = ys)))), Eq1 ?q4415u5] ?q4415main
  case q4415main =>
    (refine wpR_pure ?_ (fun w hw => ?_) ?_; rfl; (obtain ⟨hwc, hwf⟩ := bcell2 hw; go_simp; (try with_reducible rfl)); (try simp only [Act.put, List.setIfInBounds_toArray, List.set_cons_zero, List.set_cons_succ]))
    (refine wpR_cls ?_ (fun w hw => ?_) ?_; rfl; (go_simp; refine (mapPic_any _ _ _ _ _ _).mono ?_; rintro _ _ ⟨rfl, hcb⟩; exact ⟨_, rfl, rfl, Below.trans hw (hcb.mono hw.size)⟩); (rintro _ rfl; (try simp only [Act.put, List.setIfInBounds_toArray, List.set_cons_zero, List.set_cons_succ])))
    (refine wpR_pure ?_ (fun w hw => ?_) ?_; rfl; (obtain ⟨hwc, hwf⟩ := bcell2 hw; go_simp; (try with_reducible rfl)); (try simp only [Act.put, List.setIfInBounds_toArray, List.set_cons_zero, List.set_cons_succ]))
    (refine wpR_cls ?_ (fun w hw => ?_) ?_; rfl; (go_simp; refine (mapPic_any _ _ _ _ _ _).mono ?_; rintro _ _ ⟨rfl, hcb⟩; exact ⟨_, rfl, rfl, Below.trans hw (hcb.mono hw.size)⟩); (rintro _ rfl; (try simp only [Act.put, List.setIfInBounds_toArray, List.set_cons_zero, List.set_cons_succ])))
    (refine wpR_cls ?_ (fun w hw => ?_) ?_; rfl; (go_simp; refine (hS _ (B2.out.trans (hw.mono B2.out.size))).mono ?_; rintro _ _ ⟨rfl, hcb⟩; exact ⟨_, rfl, rfl, Below.trans hw (hcb.mono hw.size)⟩); (rintro _ rfl; (try simp only [Act.put, List.setIfInBounds_toArray, List.set_cons_zero, List.set_cons_succ])))
    (refine wpR_pure ?_ (fun w hw => ?_) ?_; rfl; (obtain ⟨hwc, hwf⟩ := bcell2 hw; go_simp; (try with_reducible rfl)); (try simp only [Act.put, List.setIfInBounds_toArray, List.set_cons_zero, List.set_cons_succ]))
    refine wpR_nil ?_
    intro w' hw'
    go_wp2_with fail
    go_ret
    exact ⟨rfl, B2.out.trans (hw'.mono B2.out.size)⟩
theorem pairSamePicture (W H : Int) (xs : List Nat) (W' H' : Int) (ys : List Nat) (hn : xs.length ≤ 1048576) :
    ∃ (ok : Bool),
      (∀ a n c a' n' c' w, FC w (.slice a n c) xs → FC w (.slice a' n' c') ys → Calls Try.prog 16 #[.agg #[.int .i64 W, .int .i64 H, .slice a n c], .agg #[.int .i64 W', .int .i64 H', .slice a' n' c']] w (RBb ok w)) ∧
      (∀ a n c a' n' c' w, FC w (.slice a n c) xs → FC w (.slice a' n' c') ys → Calls Try.prog 18 #[.agg #[.int .i64 W, .int .i64 H, .slice a n c], .agg #[.int .i64 W', .int .i64 H', .slice a' n' c']] w (RBb ok w)) :=
  ⟨(decide (W = W') && (decide (H = H') && decide (xs = ys))), fun a n c a' n' c' w hv hv' => specSamePicture_any W H a n c xs W' H' a' n' c' ys w hv hv' hn, fun a n c a' n' c' w hv hv' => implSamePicture_any W H a n c xs W' H' a' n' c' ys w hv hv' hn⟩
theorem pairSameMap (W H : Int) (xs : List Nat) (W' H' : Int) (ys : List Nat) (hn : xs.length ≤ 1048576) :
    ∃ (ok : Bool),
      (∀ a n c a' n' c' w, FC w (.slice a n c) xs → FC w (.slice a' n' c') ys → Calls Try.prog 21 #[.agg #[.int .i64 W, .int .i64 H, .slice a n c], .agg #[.int .i64 W', .int .i64 H', .slice a' n' c']] w (RBb ok w)) ∧
      (∀ a n c a' n' c' w, FC w (.slice a n c) xs → FC w (.slice a' n' c') ys → Calls Try.prog 23 #[.agg #[.int .i64 W, .int .i64 H, .slice a n c], .agg #[.int .i64 W', .int .i64 H', .slice a' n' c']] w (RBb ok w)) :=
  ⟨(decide (W = W') && (decide (H = H') && decide (xs = ys))), fun a n c a' n' c' w hv hv' => specSameMap_any W H a n c xs W' H' a' n' c' ys w hv hv' hn, fun a n c a' n' c' w hv hv' => implSameMap_any W H a n c xs W' H' a' n' c' ys w hv hv' hn⟩
theorem pairSameVolume (W H D : Int) (xs : List Nat) (W' H' D' : Int) (ys : List Nat) (hn : xs.length ≤ 1048576) :
    ∃ (ok : Bool),
      (∀ a n c a' n' c' w, FC w (.slice a n c) xs → FC w (.slice a' n' c') ys → Calls Try.prog 26 #[.agg #[.int .i64 W, .int .i64 H, .int .i64 D, .slice a n c], .agg #[.int .i64 W', .int .i64 H', .int .i64 D', .slice a' n' c']] w (RBb ok w)) ∧
      (∀ a n c a' n' c' w, FC w (.slice a n c) xs → FC w (.slice a' n' c') ys → Calls Try.prog 28 #[.agg #[.int .i64 W, .int .i64 H, .int .i64 D, .slice a n c], .agg #[.int .i64 W', .int .i64 H', .int .i64 D', .slice a' n' c']] w (RBb ok w)) :=
  ⟨(decide (W = W') && (decide (H = H') && (decide (D = D') && decide (xs = ys)))), fun a n c a' n' c' w hv hv' => specSameVolume_any W H D a n c xs W' H' D' a' n' c' ys w hv hv' hn, fun a n c a' n' c' w hv hv' => implSameVolume_any W H D a n c xs W' H' D' a' n' c' ys w hv hv' hn⟩
end Go.Proofs.Ytbiobmdibiplfaa
