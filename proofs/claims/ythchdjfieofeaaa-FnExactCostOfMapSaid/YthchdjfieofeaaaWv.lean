import Derived.Test.YthchdjfieofeaaaVa
import Derived.Test.YthchdjfieofeaaaWp
import Derived.Test.YthchdjfieofeaaaPj
import Derived.IntWalk
set_option linter.unusedVariables false
set_option linter.unusedSimpArgs false
namespace Go.FX
open Go Go.RowKit
/-! What a map costs. -/
def sameCB (W H D : Int) (n : Nat) (W' H' : Int) (n' : Nat) : Bool := volB W H D n && (validB W' H' n' && (decide (W = W') && decide (H = H')))
def costTo (D : Nat) (cs ms : List Nat) : Nat → Nat
  | 0 => 0
  | i + 1 => if idxB (placeI (ms.getD i 0)) D = true then fop .add .f32 (costTo D cs ms i) (cs.getD (i * D + (placeI (ms.getD i 0)).toNat) 0) else costTo D cs ms i
theorem costTo_yes {D : Nat} {cs ms : List Nat} {i p : Nat} (h : placeI (ms.getD i 0) = p) (hp : p < D) : costTo D cs ms (i + 1) = fop .add .f32 (costTo D cs ms i) (cs.getD (i * D + p) 0) := by
  show (if _ then _ else _) = _
  rw [h, if_pos (by simp [idxB]; omega), Int.toNat_natCast]
theorem costTo_no {D : Nat} {cs ms : List Nat} {i : Nat} (h : idxB (placeI (ms.getD i 0)) D = false) : costTo D cs ms (i + 1) = costTo D cs ms i := by
  show (if _ then _ else _) = _
  rw [if_neg (by rw [h]; simp)]
end Go.FX
namespace Go.Proofs.Ythchdjfieofeaaa
open Go.FX Go.RowKit Go.WideShapes Go.ChangeShapes

set_option maxHeartbeats 1000000 in
theorem haveSame_any (W H D : Int) (a : Option Addr) (n c : Nat) (W' H' : Int) (a' : Option Addr) (n' c' : Nat) (w : World) (hnc : n ≤ c) (hcm : c ≤ maxLen) (hnc' : n' ≤ c') (hcm' : c' ≤ maxLen) :
    Calls Try.prog 66 #[.agg #[.int .i64 W, .int .i64 H, .int .i64 D, .slice a n c], .agg #[.int .i64 W', .int .i64 H', .slice a' n' c']] w (RBb (sameCB W H D n W' H' n') w) := by
  have h1 := fun w1 => validVol_any W H D (.slice a n c) n w1 ⟨a, c, rfl, hnc, hcm⟩
  have h2 := fun w1 => validPic_any W' H' (.slice a' n' c') n' w1 ⟨a', c', rfl, hnc', hcm'⟩
  cases v1 : volB W H D n with
  | false =>
    have o1 := Lib.hid v1
    go_enter Try.func66, Try.ntmps66
    go_wp2_with fail
    refine (h1 _).mono ?_
    rintro e w1 ⟨rfl, hb1⟩
    rw [o1.out]
    have s1 := hb1.size; simp only [World.size_alloc] at s1
    go_wp2_with fail
    go_ret
    exact ⟨by simp [sameCB, v1], by ((repeat' (first | (refine bel_set ?_ ?_ _) | (refine bel_al ?_ ?_ _) | exact Below.refl _ _ | assumption | (refine below_drewN ?_ _) | (refine Below.drew ?_) | (refine Below.trans ?_ (Below.mono hb1 ?_)))) <;> (first | omega | (simp; done) | (simp; omega)))⟩
  | true =>
    have o1 := Lib.hid v1
    have hQ0 := fun w1 (h : Below ((w.alloc (.cells #[.int .i64 W, .int .i64 H, .int .i64 D, .slice a n c] 52)).alloc (.cells #[.int .i64 W', .int .i64 H', .slice a' n' c'] 29)).heap.size ((w.alloc (.cells #[.int .i64 W, .int .i64 H, .int .i64 D, .slice a n c] 52)).alloc (.cells #[.int .i64 W', .int .i64 H', .slice a' n' c'] 29)) w1) => (Pv.new (w.alloc (.cells #[.int .i64 W, .int .i64 H, .int .i64 D, .slice a n c] 52)) W' H' (.slice a' n' c') 29).below h
    simp only [World.size_alloc] at hQ0
    cases v2 : validB W' H' n' with
    | false =>
      have o2 := Lib.hid v2
      go_enter Try.func66, Try.ntmps66
      go_wp2_with fail
      refine (h1 _).mono ?_
      rintro e w1 ⟨rfl, hb1⟩
      rw [o1.out]
      have hQ := hQ0 _ (by simpa using hb1)
      have s1 := hb1.size; simp only [World.size_alloc] at s1
      obtain ⟨l1, q0, q1, q2⟩ := id hQ
      go_wp2_with fail
      refine (h2 _).mono ?_
      rintro e w2 ⟨rfl, hb2⟩
      rw [o2.out]
      have s2 := hb2.size
      go_wp2_with fail
      go_ret
      exact ⟨by simp [sameCB, v1, v2], by ((repeat' (first | (refine bel_set ?_ ?_ _) | (refine bel_al ?_ ?_ _) | exact Below.refl _ _ | assumption | (refine below_drewN ?_ _) | (refine Below.drew ?_) | (refine Below.trans ?_ (Below.mono hb2 ?_)) | (refine Below.trans ?_ (Below.mono hb1 ?_)))) <;> (first | omega | (simp; done) | (simp; omega)))⟩
    | true =>
      have o2 := Lib.hid v2
      by_cases e1 : W = W'
      · subst e1
        by_cases e2 : H = H'
        · subst e2
          go_enter Try.func66, Try.ntmps66
          go_wp2_with fail
          refine (h1 _).mono ?_
          rintro e w1 ⟨rfl, hb1⟩
          rw [o1.out]
          have hQ := hQ0 _ (by simpa using hb1)
          have hP := ((Pw.new _ _ _ _ _ _).alloc _).below hb1
          have s1 := hb1.size; simp only [World.size_alloc] at s1
          obtain ⟨l1, q0, q1, q2⟩ := id hQ
          go_wp2_with fail
          refine (h2 _).mono ?_
          rintro e w2 ⟨rfl, hb2⟩
          rw [o2.out]
          have s2 := hb2.size
          obtain ⟨l2, r0, r1, r2⟩ := hQ.below hb2
          obtain ⟨l3, p0, p1, p2, p3⟩ := hP.below hb2
          go_wp2_with fail
          go_ret
          exact ⟨by simp [sameCB, v1, v2], by ((repeat' (first | (refine bel_set ?_ ?_ _) | (refine bel_al ?_ ?_ _) | exact Below.refl _ _ | assumption | (refine below_drewN ?_ _) | (refine Below.drew ?_) | (refine Below.trans ?_ (Below.mono hb2 ?_)) | (refine Below.trans ?_ (Below.mono hb1 ?_)))) <;> (first | omega | (simp; done) | (simp; omega)))⟩
        · have f1 : (H == H') = false := by simpa using e2
          have f2 : decide (H = H') = false := by simpa using e2
          have ee := Lib.hid e2
          clear e2
          go_enter Try.func66, Try.ntmps66
          go_wp2_with fail
          refine (h1 _).mono ?_
          rintro e w1 ⟨rfl, hb1⟩
          rw [o1.out]
          have hQ := hQ0 _ (by simpa using hb1)
          have hP := ((Pw.new _ _ _ _ _ _).alloc _).below hb1
          have s1 := hb1.size; simp only [World.size_alloc] at s1
          obtain ⟨l1, q0, q1, q2⟩ := id hQ
          go_wp2_with fail
          refine (h2 _).mono ?_
          rintro e w2 ⟨rfl, hb2⟩
          rw [o2.out]
          have s2 := hb2.size
          obtain ⟨l2, r0, r1, r2⟩ := hQ.below hb2
          obtain ⟨l3, p0, p1, p2, p3⟩ := hP.below hb2
          go_wp2_with fail
          go_ret
          exact ⟨by simp [sameCB, v1, v2, f2], by ((repeat' (first | (refine bel_set ?_ ?_ _) | (refine bel_al ?_ ?_ _) | exact Below.refl _ _ | assumption | (refine below_drewN ?_ _) | (refine Below.drew ?_) | (refine Below.trans ?_ (Below.mono hb2 ?_)) | (refine Below.trans ?_ (Below.mono hb1 ?_)))) <;> (first | omega | (simp; done) | (simp; omega)))⟩
      · have f1 : (W == W') = false := by simpa using e1
        have f2 : decide (W = W') = false := by simpa using e1
        have ee := Lib.hid e1
        clear e1
        go_enter Try.func66, Try.ntmps66
        go_wp2_with fail
        refine (h1 _).mono ?_
        rintro e w1 ⟨rfl, hb1⟩
        rw [o1.out]
        have hQ := hQ0 _ (by simpa using hb1)
        have hP := ((Pw.new _ _ _ _ _ _).alloc _).below hb1
        have s1 := hb1.size; simp only [World.size_alloc] at s1
        obtain ⟨l1, q0, q1, q2⟩ := id hQ
        go_wp2_with fail
        refine (h2 _).mono ?_
        rintro e w2 ⟨rfl, hb2⟩
        rw [o2.out]
        have s2 := hb2.size
        obtain ⟨l2, r0, r1, r2⟩ := hQ.below hb2
        obtain ⟨l3, p0, p1, p2, p3⟩ := hP.below hb2
        go_wp2_with fail
        go_ret
        exact ⟨by simp [sameCB, v1, v2, f2], by ((repeat' (first | (refine bel_set ?_ ?_ _) | (refine bel_al ?_ ?_ _) | exact Below.refl _ _ | assumption | (refine below_drewN ?_ _) | (refine Below.drew ?_) | (refine Below.trans ?_ (Below.mono hb2 ?_)) | (refine Below.trans ?_ (Below.mono hb1 ?_)))) <;> (first | omega | (simp; done) | (simp; omega)))⟩
set_option maxHeartbeats 4000000 in
theorem implCostOfMap_any (W H D : Nat) (a : Option Addr) (n c : Nat) (cs : List Nat) (a' : Option Addr) (n' c' : Nat) (ms : List Nat) (w : World) (hv : FC w (.slice a n c) cs) (hv' : FC w (.slice a' n' c') ms) (b1 : 1 ≤ W) (b2 : W ≤ 24) (b3 : 1 ≤ H) (b4 : H ≤ 24) (b5 : H * W ≤ 256) (d1 : 1 ≤ D) (d2 : D ≤ 8) (hl : cs.length = H * W * D) (hl' : ms.length = H * W) :
    Calls Try.prog 31 #[.agg #[.int .i64 W, .int .i64 H, .int .i64 D, .slice a n c], .agg #[.int .i64 W, .int .i64 H, .slice a' n' c']] w (RFBb (costTo D cs ms (H * W)) true w) := by
  obtain ⟨rfl, hnc, hcm⟩ := hv.sized
  obtain ⟨rfl, hnc', hcm'⟩ := hv'.sized
  have hsame : Hid (sameCB W H D cs.length W H ms.length = true) := Lib.hid (by unfold sameCB; rw [volB_mk b1 b2 b3 b4 b5 d1 d2 hl, validB_mk b1 b2 b3 b4 b5 hl']; simp)
  have h1 := fun w1 => haveSame_any W H D a cs.length c W H a' ms.length c' w1 hnc hcm hnc' hcm'
  have q2 : H * W * D ≤ 256 * 8 := Nat.mul_le_mul b5 d2
  have hcell0 : 0 < cs.length := by rw [hl]; exact Nat.mul_pos (Nat.mul_pos b3 b1) d1
  obtain ⟨bb, off, cc, z0, ev, _, _, hbb, _, _⟩ := hv.cell (k := 0) hcell0
  simp only [Value.slice.injEq, true_and] at ev
  obtain ⟨rfl, rfl⟩ := ev
  have hco := fun w1 ci cell (hci : ci = ((cell : Nat) : Int)) (hc : cell < H * W) => costsOf_any W H D bb off c cell ci hci w1 hc b5 d1 d2 (by rw [← hl]; exact hnc) hcm
  rw [← hl] at hco
  have hP0 := (Pw.new w (W : Int) (H : Int) (D : Int) (.slice (some ⟨bb, off, none⟩) cs.length c) 52).alloc (.cells #[.int .i64 W, .int .i64 H, .slice a' ms.length c'] 42)
  have hQ0 := Pv.new (w.alloc (.cells #[.int .i64 W, .int .i64 H, .int .i64 D, .slice (some ⟨bb, off, none⟩) cs.length c] 52)) (W : Int) (H : Int) (.slice a' ms.length c') 42
  have hb0 := below2 w (.cells #[.int .i64 W, .int .i64 H, .int .i64 D, .slice (some ⟨bb, off, none⟩) cs.length c] 52) (.cells #[.int .i64 W, .int .i64 H, .slice a' ms.length c'] 42)
  obtain ⟨w0, hw0⟩ : ∃ w0, w0 = ((w.alloc (.cells #[.int .i64 W, .int .i64 H, .int .i64 D, .slice (some ⟨bb, off, none⟩) cs.length c] 52)).alloc (.cells #[.int .i64 W, .int .i64 H, .slice a' ms.length c'] 42)) := ⟨_, rfl⟩
  rw [← hw0] at hP0 hb0
  have hQ0 : Pv w0 (w.heap.size + 1) (W : Int) (H : Int) (.slice a' ms.length c') := by rw [hw0]; simpa using hQ0
  have hL := Lib.hid (And.intro hl (And.intro hl' (And.intro hv hv')))
  have hl2 : H * W = ms.length := hl'.symm
  have hpos : 0 < H * W := Nat.mul_pos b3 b1
  rw [hl2] at hco b5 hpos ⊢
  clear hv hv' hl hl' hl2 hcell0
  go_enter Try.func31, Try.ntmps31
  go_upto_region 1 with fail
  rw [← hw0]
  clear hw0
  obtain ⟨lp, p0, p1, p2, p3⟩ := id hP0
  obtain ⟨lq, q0, q1, q3⟩ := id hQ0
  have hp := Lib.hid (And.intro hP0 (And.intro hQ0 hb0))
  clear hP0 hQ0 hb0
  go_region_held3 (fun w' => Below w0.heap.size w0 w' ∧ w0.heap.size ≤ w'.heap.size ∧ (∀ b o, b < w0.heap.size → w'.cell? ⟨b, o, none⟩ = w0.cell? ⟨b, o, none⟩)) (first | exact keepStart _ | assumption | exact ⟨by assumption, by assumption, by assumption⟩ | exact keepCall (by assumption) (by assumption) | exact keepAlloc (by assumption) | (refine keepSet ?_ (keepSet ?_ (keepSet ?_ (keepSet ?_ ?_))) <;> first | assumption | omega | (simp; done) | (simp; omega)) | (refine keepSet ?_ (keepSet ?_ (keepSet ?_ ?_)) <;> first | assumption | omega | (simp; done) | (simp; omega)) | (refine keepSet ?_ (keepSet ?_ ?_) <;> first | assumption | omega | (simp; done) | (simp; omega)) | (refine keepSet ?_ ?_ <;> first | assumption | omega | (simp; done) | (simp; omega)))
    (first
      | (go_at_call 59; (with_reducible refine (mapPic_any _ _ _ _ _ _).mono ?_); rintro e w1 ⟨rfl, hb1⟩; have hI := keepCall (n := w0.heap.size) (W1 := w0) (by assumption) hb1; obtain ⟨hc, hf⟩ := bcell hb1; have hz := hb1.size; (try simp at hz); (try simp only [World.size_drew, World.cell?_drew] at hc); (try simp only [World.size_drew, World.frozen?_drew] at hf); first | (have hs := Nat.lt_of_succ_le hz) | (have hs := Nat.lt_of_lt_of_le hs hz) | skip)
      | (go_at_call 66; (with_reducible refine (h1 _).mono ?_); rintro e w2 ⟨rfl, hb2⟩; rw [hsame.out]; have hI := keepCall (n := w0.heap.size) (W1 := w0) (by assumption) hb2; obtain ⟨hc, hf⟩ := bcell hb2; have hz := hb2.size; (try simp at hz); (try simp only [World.size_drew, World.cell?_drew] at hc); (try simp only [World.size_drew, World.frozen?_drew] at hf); first | (have hs := Nat.lt_of_succ_le hz) | (have hs := Nat.lt_of_lt_of_le hs hz) | skip))
  have hbR : Below w0.heap.size w0 w2 := And.left (by assumption)
  obtain ⟨m1, v0, v1, v2, v3⟩ := hp.out.1.below hbR
  obtain ⟨m2, y0, y1, y2⟩ := hp.out.2.1.below hbR
  have hbW : Below w.heap.size w w2 := hp.out.2.2.trans (hbR.mono hp.out.2.2.size)
  go_wp2_with fail
  go_loopw [6, 18] (fun s i wr => ∃ (k r : Nat), k ≤ ms.length ∧ i = .int .i64 k ∧ s = .float .f32 r ∧ Hid (Fl .f32 r (costTo D cs ms k) ∧ Below w2.heap.size w2 wr)) (fun _ i _ => ms.length - (intOf i).toNat)
  case atStart => exact ⟨0, 0, Nat.zero_le _, rfl, rfl, Lib.hid ⟨zeroFl, by first | exact Below.refl _ _ | exact below_drewN (Below.refl _ _) _⟩⟩
  case round =>
    obtain ⟨k, r, hk, rfl, rfl, hin⟩ := hrel
    by_cases hlk : k < ms.length
    · have hbl := hin.out.2
      have hbV : Below w.heap.size w wr := hbW.trans (hbl.mono hbW.size)
      obtain ⟨b', off', cc', z, ev, _, _, hbz, hzf, hzc⟩ := (hL.out.2.2.2.below hbV).cell hlk
      simp only [Value.slice.injEq, true_and] at ev
      obtain ⟨rfl, rfl⟩ := ev
      obtain ⟨P, eP⟩ : ∃ P, P = placeI (ms.getD k 0) := ⟨_, rfl⟩
      have hpl := Lib.hid ((placeI_fl hzf).trans eP.symm)
      have eP' := Lib.hid eP
      have cV := (hp.out.1.below hbR).below hbl
      obtain ⟨_, x0, x1, x2, x3⟩ := cV
      have hbb' : bb < wr.heap.size := Nat.lt_of_lt_of_le hbb hbV.size
      clear eP hzf
      cases hS : idxB P D with
      | false =>
        have hS' := Lib.hid hS
        have hval : Hid (costTo D cs ms (k + 1) = costTo D cs ms k) := Lib.hid (costTo_no (by rw [← eP'.out, hS]))
        clear hS
        go_wp2_with fail
        refine (placeOf_any _ _).mono ?_
        rintro e w3 ⟨n3, rfl, rfl⟩
        rw [hpl.out]
        go_wp2_with fail
        refine (isIndex_any _ _ _).mono ?_
        rintro e w' ⟨rfl, rfl⟩
        rw [hS'.out]
        go_wp2_with fail
        go_roundw
        case rel => exact ⟨k + 1, r, by omega, by go_num, rfl, Lib.hid ⟨by rw [hval.out]; exact hin.out.1, by first | exact below_drewN hbl _ | exact below_drewN (below_drewN hbl _) _⟩⟩
        case measure => simp [intOf]; omega
      | true =>
        have hS' := Lib.hid hS
        have hlo : 0 ≤ P ∧ P < D := by unfold idxB at hS; simpa using hS
        obtain ⟨p, rfl⟩ := Int.eq_ofNat_of_zero_le hlo.1
        have hpd : p < D := by omega
        have hlin : k * D + p < cs.length := by
          have e1 : k * D + D ≤ ms.length * D := by rw [← Nat.succ_mul]; exact Nat.mul_le_mul_right _ hlk
          have e2 := hL.out.1
          rw [← hL.out.2.1] at e2
          omega
        obtain ⟨b4', off4, cc4, zc, ev4, _, _, _, hzcf, hzcc⟩ := hL.out.2.2.1.cell hlin
        simp only [Value.slice.injEq, Option.some.injEq, Addr.mk.injEq, and_true, true_and] at ev4
        obtain ⟨⟨rfl, rfl⟩, rfl⟩ := ev4
        have hval := Lib.hid (costTo_yes (cs := cs) eP'.out.symm hpd)
        have hcl := Lib.hid (fun w1 (hb1 : Below w.heap.size w w1) => ((bcell hb1).1 bb (off + (k * D + p)) hbb).trans hzcc)
        have hzF := Lib.hid hzcf
        clear hS hlo hzcc hzcf
        go_wp2_with fail
        refine (placeOf_any _ _).mono ?_
        rintro e w3 ⟨n3, rfl, rfl⟩
        rw [hpl.out]
        go_wp2_with fail
        refine (isIndex_any _ _ _).mono ?_
        rintro e w' ⟨rfl, rfl⟩
        rw [hS'.out]
        go_wp2_with fail
        refine (hco _ _ k rfl hlk).mono ?_
        rintro e w5 ⟨rfl, hb5⟩
        have hb5' : Below w2.heap.size w2 w5 := (below_drewN hbl n3).trans (hb5.mono (by simpa using hbl.size))
        have hc5 := hcl.out w5 (hbW.trans (hb5'.mono hbW.size))
        rw [← Nat.add_assoc] at hc5
        go_wp2_with fail
        go_roundw
        case rel => exact ⟨k + 1, _, by omega, by go_num, rfl, Lib.hid ⟨by rw [hval.out]; exact hin.out.1.flR hzF.out _, by first | exact below_drewN hb5' _ | exact hb5'⟩⟩
        case measure => simp [intOf]; omega
    · obtain rfl : k = ms.length := by omega
      have hbl := hin.out.2
      go_wp2_with fail
      go_ret2
      exact ⟨_, rfl, hbW.trans (hbl.mono hbW.size), hin.out.1⟩
theorem implCostOfMap_no (W H D : Int) (a : Option Addr) (n c : Nat) (W' H' : Int) (a' : Option Addr) (n' c' : Nat) (w : World) (hnc : n ≤ c) (hcm : c ≤ maxLen) (hnc' : n' ≤ c') (hcm' : c' ≤ maxLen) (hval : sameCB W H D n W' H' n' = false) :
    Calls Try.prog 31 #[.agg #[.int .i64 W, .int .i64 H, .int .i64 D, .slice a n c], .agg #[.int .i64 W', .int .i64 H', .slice a' n' c']] w (RFBb 0 false w) := by
  have h1 := fun w1 => haveSame_any W H D a n c W' H' a' n' c' w1 hnc hcm hnc' hcm'
  have hsame := Lib.hid hval
  have hP0 := (Pw.new w W H D (.slice a n c) 52).alloc (.cells #[.int .i64 W', .int .i64 H', .slice a' n' c'] 42)
  have hQ0 := Pv.new (w.alloc (.cells #[.int .i64 W, .int .i64 H, .int .i64 D, .slice a n c] 52)) W' H' (.slice a' n' c') 42
  have hb0 := below2 w (.cells #[.int .i64 W, .int .i64 H, .int .i64 D, .slice a n c] 52) (.cells #[.int .i64 W', .int .i64 H', .slice a' n' c'] 42)
  obtain ⟨w0, hw0⟩ : ∃ w0, w0 = ((w.alloc (.cells #[.int .i64 W, .int .i64 H, .int .i64 D, .slice a n c] 52)).alloc (.cells #[.int .i64 W', .int .i64 H', .slice a' n' c'] 42)) := ⟨_, rfl⟩
  rw [← hw0] at hP0 hb0
  have hQ0 : Pv w0 (w.heap.size + 1) W' H' (.slice a' n' c') := by rw [hw0]; simpa using hQ0
  clear hval
  go_enter Try.func31, Try.ntmps31
  go_upto_region 1 with fail
  rw [← hw0]
  clear hw0
  obtain ⟨lp, p0, p1, p2, p3⟩ := id hP0
  obtain ⟨lq, q0, q1, q3⟩ := id hQ0
  have hp := Lib.hid (And.intro hP0 (And.intro hQ0 hb0))
  clear hP0 hQ0 hb0
  go_region_held3 (fun w' => Below w0.heap.size w0 w' ∧ w0.heap.size ≤ w'.heap.size ∧ (∀ b o, b < w0.heap.size → w'.cell? ⟨b, o, none⟩ = w0.cell? ⟨b, o, none⟩)) (first | exact keepStart _ | assumption | exact ⟨by assumption, by assumption, by assumption⟩ | exact keepCall (by assumption) (by assumption) | exact keepAlloc (by assumption) | (refine keepSet ?_ (keepSet ?_ (keepSet ?_ (keepSet ?_ ?_))) <;> first | assumption | omega | (simp; done) | (simp; omega)) | (refine keepSet ?_ (keepSet ?_ (keepSet ?_ ?_)) <;> first | assumption | omega | (simp; done) | (simp; omega)) | (refine keepSet ?_ (keepSet ?_ ?_) <;> first | assumption | omega | (simp; done) | (simp; omega)) | (refine keepSet ?_ ?_ <;> first | assumption | omega | (simp; done) | (simp; omega)))
    (first
      | (go_at_call 59; (with_reducible refine (mapPic_any _ _ _ _ _ _).mono ?_); rintro e w1 ⟨rfl, hb1⟩; have hI := keepCall (n := w0.heap.size) (W1 := w0) (by assumption) hb1; obtain ⟨hc, hf⟩ := bcell hb1; have hz := hb1.size; (try simp at hz); (try simp only [World.size_drew, World.cell?_drew] at hc); (try simp only [World.size_drew, World.frozen?_drew] at hf); first | (have hs := Nat.lt_of_succ_le hz) | (have hs := Nat.lt_of_lt_of_le hs hz) | skip)
      | (go_at_call 66; (with_reducible refine (h1 _).mono ?_); rintro e w2 ⟨rfl, hb2⟩; rw [hsame.out]; have hI := keepCall (n := w0.heap.size) (W1 := w0) (by assumption) hb2; obtain ⟨hc, hf⟩ := bcell hb2; have hz := hb2.size; (try simp at hz); (try simp only [World.size_drew, World.cell?_drew] at hc); (try simp only [World.size_drew, World.frozen?_drew] at hf); first | (have hs := Nat.lt_of_succ_le hz) | (have hs := Nat.lt_of_lt_of_le hs hz) | skip))
  have hbR : Below w0.heap.size w0 w2 := And.left (by assumption)
  have hbW : Below w.heap.size w w2 := hp.out.2.2.trans (hbR.mono hp.out.2.2.size)
  go_wp2_with fail
  go_ret2
  exact ⟨_, rfl, hbW, zeroFl⟩
set_option maxHeartbeats 4000000 in
theorem specCostOfMap_any (W H D : Nat) (a : Option Addr) (n c : Nat) (cs : List Nat) (a' : Option Addr) (n' c' : Nat) (ms : List Nat) (w : World) (hv : FC w (.slice a n c) cs) (hv' : FC w (.slice a' n' c') ms) (b1 : 1 ≤ W) (b2 : W ≤ 24) (b3 : 1 ≤ H) (b4 : H ≤ 24) (b5 : H * W ≤ 256) (d1 : 1 ≤ D) (d2 : D ≤ 8) (hl : cs.length = H * W * D) (hl' : ms.length = H * W) :
    Calls Try.prog 29 #[.agg #[.int .i64 W, .int .i64 H, .int .i64 D, .slice a n c], .agg #[.int .i64 W, .int .i64 H, .slice a' n' c']] w (RFBb (costTo D cs ms (H * W)) true w) := by
  obtain ⟨rfl, hnc, hcm⟩ := hv.sized
  obtain ⟨rfl, hnc', hcm'⟩ := hv'.sized
  have hval := Lib.hid (volB_mk b1 b2 b3 b4 b5 d1 d2 hl)
  have hval' := Lib.hid (validB_mk b1 b2 b3 b4 b5 hl')
  have q2 : H * W * D ≤ 256 * 8 := Nat.mul_le_mul b5 d2
  have hcell0 : 0 < cs.length := by rw [hl]; exact Nat.mul_pos (Nat.mul_pos b3 b1) d1
  obtain ⟨bb, off, cc, z0, ev, _, _, hbb, _, _⟩ := hv.cell (k := 0) hcell0
  simp only [Value.slice.injEq, true_and] at ev
  obtain ⟨rfl, rfl⟩ := ev
  have h0 := fun w1 hp => specVIs_any W H D (some ⟨bb, off, none⟩) cs.length c w.heap.size w1 hp (by unfold maxLen at hcm; omega)
  have h1 := fun w1 hp => specMIs_any W H a' ms.length c' (w.heap.size + 1) w1 hp (by unfold maxLen at hcm'; omega)
  have hP0 := (Pw.new w (W : Int) (H : Int) (D : Int) (.slice (some ⟨bb, off, none⟩) cs.length c) 52).alloc (.cells #[.int .i64 W, .int .i64 H, .slice a' ms.length c'] 42)
  have hQ1 := Pv.new (w.alloc (.cells #[.int .i64 W, .int .i64 H, .int .i64 D, .slice (some ⟨bb, off, none⟩) cs.length c] 52)) (W : Int) (H : Int) (.slice a' ms.length c') 42
  have hb0 := below2 w (.cells #[.int .i64 W, .int .i64 H, .int .i64 D, .slice (some ⟨bb, off, none⟩) cs.length c] 52) (.cells #[.int .i64 W, .int .i64 H, .slice a' ms.length c'] 42)
  obtain ⟨w0, hw0⟩ : ∃ w0, w0 = ((w.alloc (.cells #[.int .i64 W, .int .i64 H, .int .i64 D, .slice (some ⟨bb, off, none⟩) cs.length c] 52)).alloc (.cells #[.int .i64 W, .int .i64 H, .slice a' ms.length c'] 42)) := ⟨_, rfl⟩
  rw [← hw0] at hP0 hb0
  have hQ0 : Pv w0 (w.heap.size + 1) (W : Int) (H : Int) (.slice a' ms.length c') := by rw [hw0]; simpa using hQ1
  have hL := Lib.hid (And.intro hl (And.intro hl' (And.intro (hv.below hb0) (hv'.below hb0))))
  have hl2 : H * W = ms.length := hl'.symm
  have q3 : cs.length ≤ 2048 := by rw [hl]; exact q2
  rw [hl2] at b5 ⊢
  clear hv hv' hl hl' hl2 hcell0 hQ1 q2
  go_enter Try.func29, Try.ntmps29
  go_upto_region 1 with fail
  rw [← hw0]
  clear hw0
  obtain ⟨lp, p0, p1, p2, p3⟩ := id hP0
  obtain ⟨lq, q0, q1, q2⟩ := id hQ0
  have hb0 := Lib.hid hb0
  go_wp2_with fail
  refine (h0 _ hP0).mono ?_
  rintro e w1 ⟨k0, rfl, rfl⟩
  rw [hval.out]
  go_wp2_with fail
  refine (h1 _ (hQ0.drewN k0)).mono ?_
  rintro e w1 ⟨k1, rfl, rfl⟩
  rw [hval'.out]
  clear hP0 hQ0 h0 h1
  go_wp2_with fail
  go_loopw [6, 32] (fun s i wr => ∃ (k r m : Nat), k ≤ ms.length ∧ i = .int .i64 k ∧ s = .float .f32 r ∧ wr = w0.drewN m ∧ Hid (Fl .f32 r (costTo D cs ms k))) (fun _ i _ => ms.length - (intOf i).toNat)
  case atStart => exact ⟨0, 0, _, Nat.zero_le _, rfl, rfl, by first | rfl | (simp only [World.drewN_drewN]; rfl), Lib.hid zeroFl⟩
  case round =>
    obtain ⟨k, r, m, hk, rfl, rfl, rfl, hin⟩ := hrel
    by_cases hlk : k < ms.length
    · obtain ⟨b', off', cc', z, ev, _, _, hbz, hzf, hzc⟩ := hL.out.2.2.2.cell hlk
      simp only [Value.slice.injEq, true_and] at ev
      obtain ⟨rfl, rfl⟩ := ev
      obtain ⟨P, eP⟩ : ∃ P, P = placeI (ms.getD k 0) := ⟨_, rfl⟩
      have hpl := Lib.hid ((placeI_fl hzf).trans eP.symm)
      have eP' := Lib.hid eP
      clear eP hzf
      cases hS : idxB P D with
      | false =>
        have hS' := Lib.hid hS
        have hval : Hid (costTo D cs ms (k + 1) = costTo D cs ms k) := Lib.hid (costTo_no (by rw [← eP'.out, hS]))
        clear hS
        go_wp2_with fail
        refine (specPlace_any _ _).mono ?_
        rintro e w3 ⟨n3, rfl, rfl⟩
        rw [hpl.out]
        go_wp2_with fail
        refine (specIn_any _ _ _ _).mono ?_
        rintro e w' ⟨rfl, hw'⟩
        obtain rfl := hw'.symm
        rw [inB_idx, hS'.out]
        go_wp2_with fail
        go_roundw
        case rel => exact ⟨k + 1, r, _, by omega, by go_num, rfl, by first | rfl | (simp only [World.drewN_drewN]; rfl), Lib.hid (by rw [hval.out]; exact hin.out)⟩
        case measure => simp [intOf]; omega
      | true =>
        have hS' := Lib.hid hS
        have hlo : 0 ≤ P ∧ P < D := by unfold idxB at hS; simpa using hS
        obtain ⟨p, rfl⟩ := Int.eq_ofNat_of_zero_le hlo.1
        have hpd : p < D := by omega
        have hval := Lib.hid (costTo_yes (cs := cs) eP'.out.symm hpd)
        have hlin : k * D + p < cs.length := by
          have e1 : k * D + D ≤ ms.length * D := by rw [← Nat.succ_mul]; exact Nat.mul_le_mul_right _ hlk
          have e2 := hL.out.1
          rw [← hL.out.2.1] at e2
          omega
        obtain ⟨b4', off4, cc4, zc, ev4, _, _, _, hzcf, hzcc⟩ := hL.out.2.2.1.cell hlin
        simp only [Value.slice.injEq, Option.some.injEq, Addr.mk.injEq, and_true, true_and] at ev4
        obtain ⟨⟨rfl, rfl⟩, rfl⟩ := ev4
        have m0 : (k : Int) * (D : Int) = ((k * D : Nat) : Int) := by rw [Int.natCast_mul]
        have hzF := Lib.hid hzcf
        clear hS hlo hzcf
        generalize k * D = pd at m0 hlin hzcc hzF hval
        have g0 : IntKind.i64.wrap (pd : Int) = (pd : Int) := IntWalk.i64_in _ (by omega)
        have g1 : IntKind.i64.wrap ((pd : Int) + (p : Int)) = (pd : Int) + (p : Int) := IntWalk.i64_in _ (by omega)
        have g2 : (0 : Int) ≤ (pd : Int) + (p : Int) := by omega
        have g3 : (pd : Int) + (p : Int) < (cs.length : Int) := by omega
        have g4 : ((pd : Int) + (p : Int)).toNat = pd + p := by omega
        go_wp2_with fail
        refine (specPlace_any _ _).mono ?_
        rintro e w3 ⟨n3, rfl, rfl⟩
        rw [hpl.out]
        go_wp2_with fail
        refine (specIn_any _ _ _ _).mono ?_
        rintro e w' ⟨rfl, hw'⟩
        obtain rfl := hw'.symm
        rw [inB_idx, hS'.out]
        go_wp2_with fail
        go_roundw
        case rel => exact ⟨k + 1, _, _, by omega, by go_num, rfl, by first | rfl | (simp only [World.drewN_drewN]; rfl), Lib.hid (by rw [hval.out]; exact hin.out.flR hzF.out _)⟩
        case measure => simp [intOf]; omega
    · obtain rfl : k = ms.length := by omega
      go_wp2_with fail
      go_ret2
      exact ⟨_, rfl, below_drewN hb0.out _, hin.out⟩
set_option maxHeartbeats 4000000 in
theorem specCostOfMap_no (W H D : Int) (a : Option Addr) (n c : Nat) (W' H' : Int) (a' : Option Addr) (n' c' : Nat) (w : World) (hnc : n ≤ c) (hcm : c ≤ maxLen) (hnc' : n' ≤ c') (hcm' : c' ≤ maxLen) (hval : sameCB W H D n W' H' n' = false) :
    Calls Try.prog 29 #[.agg #[.int .i64 W, .int .i64 H, .int .i64 D, .slice a n c], .agg #[.int .i64 W', .int .i64 H', .slice a' n' c']] w (RFBb 0 false w) := by
  have h0 := fun w1 hp => specVIs_any W H D a n c w.heap.size w1 hp (by unfold maxLen at hcm; omega)
  have h1 := fun w1 hp => specMIs_any W' H' a' n' c' (w.heap.size + 1) w1 hp (by unfold maxLen at hcm'; omega)
  have hP0 := (Pw.new w W H D (.slice a n c) 52).alloc (.cells #[.int .i64 W', .int .i64 H', .slice a' n' c'] 42)
  have hQ1 := Pv.new (w.alloc (.cells #[.int .i64 W, .int .i64 H, .int .i64 D, .slice a n c] 52)) W' H' (.slice a' n' c') 42
  have hb0 := below2 w (.cells #[.int .i64 W, .int .i64 H, .int .i64 D, .slice a n c] 52) (.cells #[.int .i64 W', .int .i64 H', .slice a' n' c'] 42)
  obtain ⟨w0, hw0⟩ : ∃ w0, w0 = ((w.alloc (.cells #[.int .i64 W, .int .i64 H, .int .i64 D, .slice a n c] 52)).alloc (.cells #[.int .i64 W', .int .i64 H', .slice a' n' c'] 42)) := ⟨_, rfl⟩
  rw [← hw0] at hP0 hb0
  have hQ0 : Pv w0 (w.heap.size + 1) W' H' (.slice a' n' c') := by rw [hw0]; simpa using hQ1
  clear hQ1
  obtain ⟨lp, p0, p1, p2, p3⟩ := id hP0
  obtain ⟨lq, q0, q1, q2⟩ := id hQ0
  have hb0 := Lib.hid hb0
  cases v1 : volB W H D n with
  | false =>
    have o1 := Lib.hid v1
    clear v1 hval
    go_enter Try.func29, Try.ntmps29
    go_upto_region 1 with fail
    rw [← hw0]
    clear hw0
    go_wp2_with fail
    refine (h0 _ hP0).mono ?_
    rintro e w1 ⟨k0, rfl, rfl⟩
    rw [o1.out]
    go_wp2_with fail
    go_ret2
    exact ⟨_, rfl, below_drewN hb0.out _, zeroFl⟩
  | true =>
    cases v2 : validB W' H' n' with
    | false =>
      have o1 := Lib.hid v1
      have o2 := Lib.hid v2
      clear v1 v2 hval
      go_enter Try.func29, Try.ntmps29
      go_upto_region 1 with fail
      rw [← hw0]
      clear hw0
      go_wp2_with fail
      refine (h0 _ hP0).mono ?_
      rintro e w1 ⟨k0, rfl, rfl⟩
      rw [o1.out]
      go_wp2_with fail
      refine (h1 _ (hQ0.drewN k0)).mono ?_
      rintro e w1 ⟨k1, rfl, rfl⟩
      rw [o2.out]
      go_wp2_with fail
      go_ret2
      exact ⟨_, rfl, below_drewN hb0.out _, zeroFl⟩
    | true =>
      have hne : ¬ (W = W' ∧ H = H') := fun h => by
        unfold sameCB at hval
        rw [v1, v2, decide_eq_true h.1, decide_eq_true h.2] at hval
        simp at hval
      have o1 := Lib.hid v1
      have o2 := Lib.hid v2
      clear v1 v2 hval
      by_cases e1 : W = W'
      · have e2 : ¬ H = H' := fun h => hne ⟨e1, h⟩
        subst e1
        have f2 : (H == H') = false := by simpa using e2
        clear hne
        go_enter Try.func29, Try.ntmps29
        go_upto_region 1 with fail
        rw [← hw0]
        clear hw0
        go_wp2_with fail
        refine (h0 _ hP0).mono ?_
        rintro e w1 ⟨k0, rfl, rfl⟩
        rw [o1.out]
        go_wp2_with fail
        refine (h1 _ (hQ0.drewN k0)).mono ?_
        rintro e w1 ⟨k1, rfl, rfl⟩
        rw [o2.out]
        go_wp2_with fail
        go_ret2
        exact ⟨_, rfl, below_drewN hb0.out _, zeroFl⟩
      · have f1 : (W == W') = false := by simpa using e1
        clear hne
        go_enter Try.func29, Try.ntmps29
        go_upto_region 1 with fail
        rw [← hw0]
        clear hw0
        go_wp2_with fail
        refine (h0 _ hP0).mono ?_
        rintro e w1 ⟨k0, rfl, rfl⟩
        rw [o1.out]
        go_wp2_with fail
        refine (h1 _ (hQ0.drewN k0)).mono ?_
        rintro e w1 ⟨k1, rfl, rfl⟩
        rw [o2.out]
        go_wp2_with fail
        go_ret2
        exact ⟨_, rfl, below_drewN hb0.out _, zeroFl⟩
theorem pairCostOfMap (W H D : Int) (cs : List Nat) (W' H' : Int) (cs' : List Nat) :
    ∃ (g : Nat) (ok : Bool),
      (∀ a n c a' n' c' w, FC w (.slice a n c) cs → FC w (.slice a' n' c') cs' → Calls Try.prog 29 #[.agg #[.int .i64 W, .int .i64 H, .int .i64 D, .slice a n c], .agg #[.int .i64 W', .int .i64 H', .slice a' n' c']] w (RFBb g ok w)) ∧
      (∀ a n c a' n' c' w, FC w (.slice a n c) cs → FC w (.slice a' n' c') cs' → Calls Try.prog 31 #[.agg #[.int .i64 W, .int .i64 H, .int .i64 D, .slice a n c], .agg #[.int .i64 W', .int .i64 H', .slice a' n' c']] w (RFBb g ok w)) := by
  cases hval : sameCB W H D cs.length W' H' cs'.length with
  | true =>
    unfold sameCB at hval
    simp only [Bool.and_eq_true, decide_eq_true_eq] at hval
    obtain ⟨hv, hv', rfl, rfl⟩ := hval
    obtain ⟨wn, hn, dn, rfl, rfl, rfl, b1, b2, b3, b4, b5, d1, d2, hl⟩ := volB_parts hv
    obtain ⟨Wm, Hm, e1, e2, _, _, _, _, _, hl'⟩ := validB_parts hv'
    obtain rfl : Wm = wn := by omega
    obtain rfl : Hm = hn := by omega
    exact ⟨_, _, fun a n c a' n' c' w hv hv' => specCostOfMap_any Wm Hm dn a n c cs a' n' c' cs' w hv hv' b1 b2 b3 b4 b5 d1 d2 hl hl', fun a n c a' n' c' w hv hv' => implCostOfMap_any Wm Hm dn a n c cs a' n' c' cs' w hv hv' b1 b2 b3 b4 b5 d1 d2 hl hl'⟩
  | false =>
    refine ⟨0, false, fun a n c a' n' c' w hv hv' => ?_, fun a n c a' n' c' w hv hv' => ?_⟩
    · obtain ⟨rfl, h1, h2⟩ := hv.sized
      obtain ⟨rfl, h3, h4⟩ := hv'.sized
      exact specCostOfMap_no W H D a _ c W' H' a' _ c' w h1 h2 h3 h4 hval
    · obtain ⟨rfl, h1, h2⟩ := hv.sized
      obtain ⟨rfl, h3, h4⟩ := hv'.sized
      exact implCostOfMap_no W H D a _ c W' H' a' _ c' w h1 h2 h3 h4 hval
end Go.Proofs.Ythchdjfieofeaaa
