import Derived.Test.YtbiobmdibiplfaaErt
set_option linter.unusedVariables false
set_option linter.unusedSimpArgs false
namespace Go.Proofs.Ytbiobmdibiplfaa
open Go.FX Go.RowKit Go.WideShapes Go.ChangeShapes
theorem implErrorOf_no1 (W H : Int) (a : Option Addr) (n c : Nat) (W' H' : Int) (a' : Option Addr) (n' c' : Nat) (W'' H'' : Int) (a'' : Option Addr) (n'' c'' : Nat) (w : World) (hnc : n ≤ c) (hcm : c ≤ maxLen) (hnc' : n' ≤ c') (hcm' : c' ≤ maxLen) (hnc'' : n'' ≤ c'') (hcm'' : c'' ≤ maxLen) (h1 : pairB W H n W' H' n' = false) :
    Calls Try.prog 61 #[.agg #[.int .i64 W, .int .i64 H, .slice a n c], .agg #[.int .i64 W', .int .i64 H', .slice a' n' c'], .agg #[.int .i64 W'', .int .i64 H'', .slice a'' n'' c'']] w (RFBb 0 false w) := by
  have hq1 := fun w1 => isPair_any W H a n c W' H' a' n' c' w1 hnc hcm hnc' hcm'
  rw [h1] at hq1
  clear h1
  obtain ⟨w0, hw0⟩ : ∃ u, u = ((w.alloc (.cells #[.int .i64 W, .int .i64 H, .slice a n c] 27)).alloc (.cells #[.int .i64 W', .int .i64 H', .slice a' n' c'] 27)).alloc (.cells #[.int .i64 W'', .int .i64 H'', .slice a'' n'' c''] 34) := ⟨_, rfl⟩
  have hP : Pv w0 w.heap.size W H (.slice a n c) := by rw [hw0]; exact ((Pv.new _ _ _ _ _).alloc _).alloc _
  have hQ : Pv w0 (w.heap.size + 1) W' H' (.slice a' n' c') := by
    have h := (Pv.new (w.alloc (.cells #[.int .i64 W, .int .i64 H, .slice a n c] 27)) W' H' (.slice a' n' c') 27).alloc (.cells #[.int .i64 W'', .int .i64 H'', .slice a'' n'' c''] 34)
    rw [hw0]; simpa only [World.size_alloc] using h
  have hM : Pv w0 (w.heap.size + 1 + 1) W'' H'' (.slice a'' n'' c'') := by
    have h := Pv.new ((w.alloc (.cells #[.int .i64 W, .int .i64 H, .slice a n c] 27)).alloc (.cells #[.int .i64 W', .int .i64 H', .slice a' n' c'] 27)) W'' H'' (.slice a'' n'' c'') 34
    rw [hw0]; simpa only [World.size_alloc] using h
  have hb0 : Below w.heap.size w w0 := by rw [hw0]; exact below3 _ _ _ _
  have hb0' := Lib.hid hb0
  obtain ⟨lP, p0, p1, p2⟩ := hP
  obtain ⟨lQ, q0, q1, q2⟩ := hQ
  obtain ⟨lM, m0, m1, m2⟩ := hM
  clear hb0
  go_enter Try.func61, Try.ntmps61
  go_upto_region 1 with fail
  rw [← hw0]
  clear hw0
  refine wp_region_skip (by kernel_rfl) (by kernel_rfl) (by kernel_rfl) (by kernel_rfl) (fun w' => Below w0.heap.size w0 w') (below_drewN (Below.refl _ _) 1) [some (Eq1 ?q8708u0), some (Eq1 ?q8708u1), some (Eq1 (.bool false)), some (Eq1 ?q8708u3), some (Eq1 ?q8708u4), none, none, none, none, none, some (Eq1 ?q8708u10)] ?q8708main
  case q8708main =>
    (refine wpS_pure ?_ (fun w hw => ?_) ?_; rfl; (obtain ⟨hwc, hwf⟩ := bcell2 hw; go_simp; (try with_reducible rfl)); (try simp only [Act.put, List.setIfInBounds_toArray, List.set_cons_zero, List.set_cons_succ]))
    (refine wpS_pure ?_ (fun w hw => ?_) ?_; rfl; (obtain ⟨hwc, hwf⟩ := bcell2 hw; go_simp; (try with_reducible rfl)); (try simp only [Act.put, List.setIfInBounds_toArray, List.set_cons_zero, List.set_cons_succ]))
    (refine wpS_cls ?_ (fun w hw => ?_) ?_; rfl; (go_simp; refine (hq1 _).mono ?_; rintro _ _ ⟨rfl, hcb⟩; exact ⟨_, rfl, rfl, Below.trans hw (hcb.mono hw.size)⟩); (rintro _ rfl; (try simp only [Act.put, List.setIfInBounds_toArray, List.set_cons_zero, List.set_cons_succ])))
    (refine wpS_pure ?_ (fun w hw => ?_) ?_; rfl; (obtain ⟨hwc, hwf⟩ := bcell2 hw; go_simp; (try with_reducible rfl)); (try simp only [Act.put, List.setIfInBounds_toArray, List.set_cons_zero, List.set_cons_succ]))
    (refine wpS_pure ?_ (fun w hw => ?_) ?_; rfl; (obtain ⟨hwc, hwf⟩ := bcell2 hw; go_simp; (try with_reducible rfl)); (try simp only [Act.put, List.setIfInBounds_toArray, List.set_cons_zero, List.set_cons_succ]))
    (refine wpS_skip ?_ ?_; rfl; (try simp only [Act.put, List.setIfInBounds_toArray, List.set_cons_zero, List.set_cons_succ]))
    (refine wpS_skip ?_ ?_; rfl; (try simp only [Act.put, List.setIfInBounds_toArray, List.set_cons_zero, List.set_cons_succ]))
    (refine wpS_skip ?_ ?_; rfl; (try simp only [Act.put, List.setIfInBounds_toArray, List.set_cons_zero, List.set_cons_succ]))
    (refine wpS_skip ?_ ?_; rfl; (try simp only [Act.put, List.setIfInBounds_toArray, List.set_cons_zero, List.set_cons_succ]))
    (refine wpS_skip ?_ ?_; rfl; (try simp only [Act.put, List.setIfInBounds_toArray, List.set_cons_zero, List.set_cons_succ]))
    (refine wpS_pure ?_ (fun w hw => ?_) ?_; rfl; (obtain ⟨hwc, hwf⟩ := bcell2 hw; go_simp; (try with_reducible rfl)); (try simp only [Act.put, List.setIfInBounds_toArray, List.set_cons_zero, List.set_cons_succ]))
    refine wpS_nil ?_
    intro w' hw'
    have hbR : Below w0.heap.size w0 w' := hw'
    have hbb := Lib.hid (hb0'.out.trans (hbR.mono hb0'.out.size))
    clear hbR
    go_wp2_with fail
    refine bodyPost_ret (v := ?v) ?hr rfl ?post
    case hr => (simp [results, Try.results61, go_sem]; try rfl)
    case post => exact ⟨_, rfl, hbb.out, ⟨by decide, by decide⟩⟩
theorem implErrorOf_no2 (W H : Int) (a : Option Addr) (n c : Nat) (W' H' : Int) (a' : Option Addr) (n' c' : Nat) (W'' H'' : Int) (a'' : Option Addr) (n'' c'' : Nat) (w : World) (hnc : n ≤ c) (hcm : c ≤ maxLen) (hnc' : n' ≤ c') (hcm' : c' ≤ maxLen) (hnc'' : n'' ≤ c'') (hcm'' : c'' ≤ maxLen) (h1 : pairB W H n W' H' n' = true) (h2 : pairB W H n W'' H'' n'' = false) :
    Calls Try.prog 61 #[.agg #[.int .i64 W, .int .i64 H, .slice a n c], .agg #[.int .i64 W', .int .i64 H', .slice a' n' c'], .agg #[.int .i64 W'', .int .i64 H'', .slice a'' n'' c'']] w (RFBb 0 false w) := by
  have hq1 := fun w1 => isPair_any W H a n c W' H' a' n' c' w1 hnc hcm hnc' hcm'
  rw [h1] at hq1
  have hq2 := fun w1 => isPair_any W H a n c W'' H'' a'' n'' c'' w1 hnc hcm hnc'' hcm''
  rw [h2] at hq2
  clear h2
  clear h1
  obtain ⟨w0, hw0⟩ : ∃ u, u = ((w.alloc (.cells #[.int .i64 W, .int .i64 H, .slice a n c] 27)).alloc (.cells #[.int .i64 W', .int .i64 H', .slice a' n' c'] 27)).alloc (.cells #[.int .i64 W'', .int .i64 H'', .slice a'' n'' c''] 34) := ⟨_, rfl⟩
  have hP : Pv w0 w.heap.size W H (.slice a n c) := by rw [hw0]; exact ((Pv.new _ _ _ _ _).alloc _).alloc _
  have hQ : Pv w0 (w.heap.size + 1) W' H' (.slice a' n' c') := by
    have h := (Pv.new (w.alloc (.cells #[.int .i64 W, .int .i64 H, .slice a n c] 27)) W' H' (.slice a' n' c') 27).alloc (.cells #[.int .i64 W'', .int .i64 H'', .slice a'' n'' c''] 34)
    rw [hw0]; simpa only [World.size_alloc] using h
  have hM : Pv w0 (w.heap.size + 1 + 1) W'' H'' (.slice a'' n'' c'') := by
    have h := Pv.new ((w.alloc (.cells #[.int .i64 W, .int .i64 H, .slice a n c] 27)).alloc (.cells #[.int .i64 W', .int .i64 H', .slice a' n' c'] 27)) W'' H'' (.slice a'' n'' c'') 34
    rw [hw0]; simpa only [World.size_alloc] using h
  have hb0 : Below w.heap.size w w0 := by rw [hw0]; exact below3 _ _ _ _
  have hb0' := Lib.hid hb0
  obtain ⟨lP, p0, p1, p2⟩ := hP
  obtain ⟨lQ, q0, q1, q2⟩ := hQ
  obtain ⟨lM, m0, m1, m2⟩ := hM
  clear hb0
  go_enter Try.func61, Try.ntmps61
  go_upto_region 1 with fail
  rw [← hw0]
  clear hw0
  refine wp_region_skip (by kernel_rfl) (by kernel_rfl) (by kernel_rfl) (by kernel_rfl) (fun w' => Below w0.heap.size w0 w') (below_drewN (Below.refl _ _) 1) [some (Eq1 ?q2951u0), some (Eq1 ?q2951u1), some (Eq1 (.bool true)), some (Eq1 ?q2951u3), some (Eq1 ?q2951u4), some (Eq1 ?q2951u5), some (Eq1 ?q2951u6), some (Eq1 (.agg #[.int .i64 W'', .int .i64 H'', .slice a'' n'' c''])), some (Eq1 (.bool false)), some (Eq1 ?q2951u9), some (Eq1 ?q2951u10)] ?q2951main
  case q2951main =>
    (refine wpS_pure ?_ (fun w hw => ?_) ?_; rfl; (obtain ⟨hwc, hwf⟩ := bcell2 hw; go_simp; (try with_reducible rfl)); (try simp only [Act.put, List.setIfInBounds_toArray, List.set_cons_zero, List.set_cons_succ]))
    (refine wpS_pure ?_ (fun w hw => ?_) ?_; rfl; (obtain ⟨hwc, hwf⟩ := bcell2 hw; go_simp; (try with_reducible rfl)); (try simp only [Act.put, List.setIfInBounds_toArray, List.set_cons_zero, List.set_cons_succ]))
    (refine wpS_cls ?_ (fun w hw => ?_) ?_; rfl; (go_simp; refine (hq1 _).mono ?_; rintro _ _ ⟨rfl, hcb⟩; exact ⟨_, rfl, rfl, Below.trans hw (hcb.mono hw.size)⟩); (rintro _ rfl; (try simp only [Act.put, List.setIfInBounds_toArray, List.set_cons_zero, List.set_cons_succ])))
    (refine wpS_pure ?_ (fun w hw => ?_) ?_; rfl; (obtain ⟨hwc, hwf⟩ := bcell2 hw; go_simp; (try with_reducible rfl)); (try simp only [Act.put, List.setIfInBounds_toArray, List.set_cons_zero, List.set_cons_succ]))
    (refine wpS_pure ?_ (fun w hw => ?_) ?_; rfl; (obtain ⟨hwc, hwf⟩ := bcell2 hw; go_simp; (try with_reducible rfl)); (try simp only [Act.put, List.setIfInBounds_toArray, List.set_cons_zero, List.set_cons_succ]))
    (refine wpS_pure ?_ (fun w hw => ?_) ?_; rfl; (obtain ⟨hwc, hwf⟩ := bcell2 hw; go_simp; (try with_reducible rfl)); (try simp only [Act.put, List.setIfInBounds_toArray, List.set_cons_zero, List.set_cons_succ]))
    (refine wpS_pure ?_ (fun w hw => ?_) ?_; rfl; (obtain ⟨hwc, hwf⟩ := bcell2 hw; go_simp; (try with_reducible rfl)); (try simp only [Act.put, List.setIfInBounds_toArray, List.set_cons_zero, List.set_cons_succ]))
    (refine wpS_cls ?_ (fun w hw => ?_) ?_; rfl; (go_simp; refine (mapPic_any _ _ _ _ _ _).mono ?_; rintro _ _ ⟨rfl, hcb⟩; exact ⟨_, rfl, rfl, Below.trans hw (hcb.mono hw.size)⟩); (rintro _ rfl; (try simp only [Act.put, List.setIfInBounds_toArray, List.set_cons_zero, List.set_cons_succ])))
    (refine wpS_cls ?_ (fun w hw => ?_) ?_; rfl; (go_simp; refine (hq2 _).mono ?_; rintro _ _ ⟨rfl, hcb⟩; exact ⟨_, rfl, rfl, Below.trans hw (hcb.mono hw.size)⟩); (rintro _ rfl; (try simp only [Act.put, List.setIfInBounds_toArray, List.set_cons_zero, List.set_cons_succ])))
    (refine wpS_pure ?_ (fun w hw => ?_) ?_; rfl; (obtain ⟨hwc, hwf⟩ := bcell2 hw; go_simp; (try with_reducible rfl)); (try simp only [Act.put, List.setIfInBounds_toArray, List.set_cons_zero, List.set_cons_succ]))
    (refine wpS_pure ?_ (fun w hw => ?_) ?_; rfl; (obtain ⟨hwc, hwf⟩ := bcell2 hw; go_simp; (try with_reducible rfl)); (try simp only [Act.put, List.setIfInBounds_toArray, List.set_cons_zero, List.set_cons_succ]))
    refine wpS_nil ?_
    intro w' hw'
    have hbR : Below w0.heap.size w0 w' := hw'
    have hbb := Lib.hid (hb0'.out.trans (hbR.mono hb0'.out.size))
    clear hbR
    go_wp2_with fail
    refine bodyPost_ret (v := ?v) ?hr rfl ?post
    case hr => (simp [results, Try.results61, go_sem]; try rfl)
    case post => exact ⟨_, rfl, hbb.out, ⟨by decide, by decide⟩⟩
theorem specErrorOf_no1 (W H : Int) (a : Option Addr) (n c : Nat) (W' H' : Int) (a' : Option Addr) (n' c' : Nat) (W'' H'' : Int) (a'' : Option Addr) (n'' c'' : Nat) (w : World) (hnc : n ≤ c) (hcm : c ≤ maxLen) (hnc' : n' ≤ c') (hcm' : c' ≤ maxLen) (hnc'' : n'' ≤ c'') (hcm'' : c'' ≤ maxLen) (h1 : pairB W H n W'' H'' n'' = false) :
    Calls Try.prog 60 #[.agg #[.int .i64 W, .int .i64 H, .slice a n c], .agg #[.int .i64 W', .int .i64 H', .slice a' n' c'], .agg #[.int .i64 W'', .int .i64 H'', .slice a'' n'' c'']] w (RFBb 0 false w) := by
  have hq1 := fun w1 hp hq => specFits_any W H a n c w.heap.size W'' H'' a'' n'' c'' (w.heap.size + 1 + 1) w1 hp hq (by unfold maxLen at hcm; omega) (by unfold maxLen at hcm''; omega)
  rw [h1] at hq1
  clear h1
  obtain ⟨w0, hw0⟩ : ∃ u, u = ((w.alloc (.cells #[.int .i64 W, .int .i64 H, .slice a n c] 27)).alloc (.cells #[.int .i64 W', .int .i64 H', .slice a' n' c'] 27)).alloc (.cells #[.int .i64 W'', .int .i64 H'', .slice a'' n'' c''] 34) := ⟨_, rfl⟩
  have hP : Pv w0 w.heap.size W H (.slice a n c) := by rw [hw0]; exact ((Pv.new _ _ _ _ _).alloc _).alloc _
  have hQ : Pv w0 (w.heap.size + 1) W' H' (.slice a' n' c') := by
    have h := (Pv.new (w.alloc (.cells #[.int .i64 W, .int .i64 H, .slice a n c] 27)) W' H' (.slice a' n' c') 27).alloc (.cells #[.int .i64 W'', .int .i64 H'', .slice a'' n'' c''] 34)
    rw [hw0]; simpa only [World.size_alloc] using h
  have hM : Pv w0 (w.heap.size + 1 + 1) W'' H'' (.slice a'' n'' c'') := by
    have h := Pv.new ((w.alloc (.cells #[.int .i64 W, .int .i64 H, .slice a n c] 27)).alloc (.cells #[.int .i64 W', .int .i64 H', .slice a' n' c'] 27)) W'' H'' (.slice a'' n'' c'') 34
    rw [hw0]; simpa only [World.size_alloc] using h
  have hb0 : Below w.heap.size w w0 := by rw [hw0]; exact below3 _ _ _ _
  have hb0' := Lib.hid hb0
  have hq1 := hq1 w0 hP hM
  clear hb0 hP hQ hM
  go_enter Try.func60, Try.ntmps60
  go_upto_region 1 with fail
  rw [← hw0]
  clear hw0
  go_wp2_with fail
  refine hq1.mono ?_
  rintro e w5 ⟨k5, rfl, rfl⟩
  go_wp2_with fail
  refine bodyPost_ret (v := ?v) ?hr rfl ?post
  case hr => (simp [results, Try.results60, go_sem]; try rfl)
  case post => exact ⟨_, rfl, by first | exact below_drewN hb0'.out _ | exact below_drewN (below_drewN hb0'.out _) _, ⟨by decide, by decide⟩⟩
theorem specErrorOf_no2 (W H : Int) (a : Option Addr) (n c : Nat) (W' H' : Int) (a' : Option Addr) (n' c' : Nat) (W'' H'' : Int) (a'' : Option Addr) (n'' c'' : Nat) (w : World) (hnc : n ≤ c) (hcm : c ≤ maxLen) (hnc' : n' ≤ c') (hcm' : c' ≤ maxLen) (hnc'' : n'' ≤ c'') (hcm'' : c'' ≤ maxLen) (h1 : pairB W H n W'' H'' n'' = true) (h2 : pairB W' H' n' W'' H'' n'' = false) :
    Calls Try.prog 60 #[.agg #[.int .i64 W, .int .i64 H, .slice a n c], .agg #[.int .i64 W', .int .i64 H', .slice a' n' c'], .agg #[.int .i64 W'', .int .i64 H'', .slice a'' n'' c'']] w (RFBb 0 false w) := by
  have hq1 := fun w1 hp hq => specFits_any W H a n c w.heap.size W'' H'' a'' n'' c'' (w.heap.size + 1 + 1) w1 hp hq (by unfold maxLen at hcm; omega) (by unfold maxLen at hcm''; omega)
  rw [h1] at hq1
  have hq2 := fun w1 hp hq => specFits_any W' H' a' n' c' (w.heap.size + 1) W'' H'' a'' n'' c'' (w.heap.size + 1 + 1) w1 hp hq (by unfold maxLen at hcm'; omega) (by unfold maxLen at hcm''; omega)
  rw [h2] at hq2
  clear h2
  clear h1
  obtain ⟨w0, hw0⟩ : ∃ u, u = ((w.alloc (.cells #[.int .i64 W, .int .i64 H, .slice a n c] 27)).alloc (.cells #[.int .i64 W', .int .i64 H', .slice a' n' c'] 27)).alloc (.cells #[.int .i64 W'', .int .i64 H'', .slice a'' n'' c''] 34) := ⟨_, rfl⟩
  have hP : Pv w0 w.heap.size W H (.slice a n c) := by rw [hw0]; exact ((Pv.new _ _ _ _ _).alloc _).alloc _
  have hQ : Pv w0 (w.heap.size + 1) W' H' (.slice a' n' c') := by
    have h := (Pv.new (w.alloc (.cells #[.int .i64 W, .int .i64 H, .slice a n c] 27)) W' H' (.slice a' n' c') 27).alloc (.cells #[.int .i64 W'', .int .i64 H'', .slice a'' n'' c''] 34)
    rw [hw0]; simpa only [World.size_alloc] using h
  have hM : Pv w0 (w.heap.size + 1 + 1) W'' H'' (.slice a'' n'' c'') := by
    have h := Pv.new ((w.alloc (.cells #[.int .i64 W, .int .i64 H, .slice a n c] 27)).alloc (.cells #[.int .i64 W', .int .i64 H', .slice a' n' c'] 27)) W'' H'' (.slice a'' n'' c'') 34
    rw [hw0]; simpa only [World.size_alloc] using h
  have hb0 : Below w.heap.size w w0 := by rw [hw0]; exact below3 _ _ _ _
  have hb0' := Lib.hid hb0
  have hq1 := hq1 w0 hP hM
  have hq2 := fun k => hq2 (w0.drewN k) (hQ.drewN k) (hM.drewN k)
  clear hb0 hP hQ hM
  go_enter Try.func60, Try.ntmps60
  go_upto_region 1 with fail
  rw [← hw0]
  clear hw0
  go_wp2_with fail
  refine hq1.mono ?_
  rintro e w5 ⟨k5, rfl, rfl⟩
  go_wp2_with fail
  refine (hq2 _).mono ?_
  rintro e w6 ⟨k6, rfl, rfl⟩
  go_wp2_with fail
  refine bodyPost_ret (v := ?v) ?hr rfl ?post
  case hr => (simp [results, Try.results60, go_sem]; try rfl)
  case post => exact ⟨_, rfl, by first | exact below_drewN hb0'.out _ | exact below_drewN (below_drewN hb0'.out _) _, ⟨by decide, by decide⟩⟩
theorem pairErrorOf (W H : Int) (cs : List Nat) (W' H' : Int) (cs' : List Nat) (W'' H'' : Int) (cs'' : List Nat) :
    ∃ (g : Nat) (ok : Bool),
      (∀ a n c a' n' c' a'' n'' c'' w, FC w (.slice a n c) cs → FC w (.slice a' n' c') cs' → FC w (.slice a'' n'' c'') cs'' → Calls Try.prog 60 #[.agg #[.int .i64 W, .int .i64 H, .slice a n c], .agg #[.int .i64 W', .int .i64 H', .slice a' n' c'], .agg #[.int .i64 W'', .int .i64 H'', .slice a'' n'' c'']] w (RFBb g ok w)) ∧
      (∀ a n c a' n' c' a'' n'' c'' w, FC w (.slice a n c) cs → FC w (.slice a' n' c') cs' → FC w (.slice a'' n'' c'') cs'' → Calls Try.prog 61 #[.agg #[.int .i64 W, .int .i64 H, .slice a n c], .agg #[.int .i64 W', .int .i64 H', .slice a' n' c'], .agg #[.int .i64 W'', .int .i64 H'', .slice a'' n'' c'']] w (RFBb g ok w)) := by
  cases hA : pairB W H cs.length W' H' cs'.length with
  | false =>
    refine ⟨0, false, fun a n c a' n' c' a'' n'' c'' w f f' f'' => ?_, fun a n c a' n' c' a'' n'' c'' w f f' f'' => ?_⟩
    · obtain ⟨rfl, h1, h2⟩ := f.sized
      obtain ⟨rfl, h3, h4⟩ := f'.sized
      obtain ⟨rfl, h5, h6⟩ := f''.sized
      cases hB : pairB W H cs.length W'' H'' cs''.length with
      | false => exact specErrorOf_no1 W H a _ c W' H' a' _ c' W'' H'' a'' _ c'' w h1 h2 h3 h4 h5 h6 hB
      | true =>
        refine specErrorOf_no2 W H a _ c W' H' a' _ c' W'' H'' a'' _ c'' w h1 h2 h3 h4 h5 h6 hB ?_
        cases hC : pairB W' H' cs'.length W'' H'' cs''.length with
        | false => rfl
        | true =>
          unfold pairB at hA hB hC
          simp only [Bool.and_eq_true, decide_eq_true_eq] at hB hC
          obtain ⟨v1, v2, rfl, rfl⟩ := hB
          obtain ⟨v3, v4, rfl, rfl⟩ := hC
          simp [v1, v3] at hA
    · obtain ⟨rfl, h1, h2⟩ := f.sized
      obtain ⟨rfl, h3, h4⟩ := f'.sized
      obtain ⟨rfl, h5, h6⟩ := f''.sized
      exact implErrorOf_no1 W H a _ c W' H' a' _ c' W'' H'' a'' _ c'' w h1 h2 h3 h4 h5 h6 hA
  | true =>
    cases hB : pairB W H cs.length W'' H'' cs''.length with
    | false =>
      refine ⟨0, false, fun a n c a' n' c' a'' n'' c'' w f f' f'' => ?_, fun a n c a' n' c' a'' n'' c'' w f f' f'' => ?_⟩
      · obtain ⟨rfl, h1, h2⟩ := f.sized
        obtain ⟨rfl, h3, h4⟩ := f'.sized
        obtain ⟨rfl, h5, h6⟩ := f''.sized
        exact specErrorOf_no1 W H a _ c W' H' a' _ c' W'' H'' a'' _ c'' w h1 h2 h3 h4 h5 h6 hB
      · obtain ⟨rfl, h1, h2⟩ := f.sized
        obtain ⟨rfl, h3, h4⟩ := f'.sized
        obtain ⟨rfl, h5, h6⟩ := f''.sized
        exact implErrorOf_no2 W H a _ c W' H' a' _ c' W'' H'' a'' _ c'' w h1 h2 h3 h4 h5 h6 hA hB
    | true =>
      unfold pairB at hA hB
      simp only [Bool.and_eq_true, decide_eq_true_eq] at hA hB
      obtain ⟨v1, v2, e1, e2⟩ := hA
      obtain ⟨_, v3, e3, e4⟩ := hB
      subst e1 e2 e3 e4
      obtain ⟨Wn, Hn, rfl, rfl, b1, b2, b3, b4, b5, hl⟩ := validB_parts v1
      obtain ⟨Wm, Hm, e5, e6, _, _, _, _, _, hl'⟩ := validB_parts v2
      obtain rfl : Wm = Wn := by omega
      obtain rfl : Hm = Hn := by omega
      obtain ⟨Wk, Hk, e7, e8, _, _, _, _, _, hl''⟩ := validB_parts v3
      obtain rfl : Wk = Wm := by omega
      obtain rfl : Hk = Hm := by omega
      exact ⟨_, _, fun a n c a' n' c' a'' n'' c'' w f f' f'' => specErrorOf_any Wk Hk a n c cs a' n' c' cs' a'' n'' c'' cs'' w f f' f'' b1 b2 b3 b4 b5 hl hl' hl'', fun a n c a' n' c' a'' n'' c'' w f f' f'' => implErrorOf_any Wk Hk a n c cs a' n' c' cs' a'' n'' c'' cs'' w f f' f'' b1 b2 b3 b4 b5 hl hl' hl''⟩
end Go.Proofs.Ytbiobmdibiplfaa
