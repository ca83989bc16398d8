import Derived.Test.YtbiobmdibiplfaaRos
import Derived.Test.YtbiobmdibiplfaaWs
import Derived.Test.YtbiobmdibiplfaaPj
set_option linter.unusedVariables false
set_option linter.unusedSimpArgs false
namespace Go.Proofs.Ytbiobmdibiplfaa
open Go.FX Go.RowKit Go.WideShapes Go.ChangeShapes
set_option maxRecDepth 100000 in
set_option maxHeartbeats 8000000 in
theorem specRowOffset_any (W H : Nat) (a : Option Addr) (n c : Nat) (cs : List Nat) (a' : Option Addr) (n' c' : Nat) (cs' : List Nat) (m : Nat) (w : World) (hv : FC w (.slice a n c) cs) (hv' : FC w (.slice a' n' c') cs') (m8 : m ≤ 8) (b1 : 1 ≤ W) (b2 : W ≤ 24) (b3 : 1 ≤ H) (b4 : H ≤ 24) (b5 : H * W ≤ 256) (hl : cs.length = H * W) (hl' : cs'.length = H * W) :
    Calls Try.prog 36 #[.agg #[.int .i64 W, .int .i64 H, .slice a n c], .agg #[.int .i64 W, .int .i64 H, .slice a' n' c'], .int .i64 m] w
      (ROff (if offB W H cs cs' m < 0 then 0 else offB W H cs cs' m - (m : Int)) (if offB W H cs cs' m < 0 then 0 else offS W H cs cs' m (offB W H cs cs' m).toNat) (if offB W H cs cs' m < 0 then false else true) w) := by
  obtain ⟨rfl, hnc, hcm⟩ := hv.sized
  obtain ⟨rfl, hnc', hcm'⟩ := hv'.sized
  have hpair : pairB W H cs.length W H cs'.length = true := by simp [pairB, validB_mk b1 b2 b3 b4 b5 hl, validB_mk b1 b2 b3 b4 b5 hl']
  have hT := fun w1 hp hq => specTwo_any W H a cs.length c w.heap.size W H a' cs'.length c' (w.heap.size + 1) w1 hp hq (by omega) (by unfold maxLen at hcm; omega) (by unfold maxLen at hcm'; omega)
  rw [hpair] at hT
  have h2 := fun w1 => (specIn_any (m : Int) 0 8 w1).mono (R' := fun e w' => e = .returned (.bool true) ∧ w' = w1) fun e w' h => ⟨by rw [h.1, show inB (m : Int) 0 8 = true by unfold inB; simp; omega], h.2⟩
  have hS := fun k w1 hp hq (hb : Below w.heap.size w w1) (k0 : -8 ≤ k) (k8 : k ≤ 8) => specRows_any W H a cs.length c w.heap.size cs a' cs'.length c' (w.heap.size + 1) cs' k w1 hp (hv.below hb) hq (hv'.below hb) k0 k8 b1 b2 b3 b4 b5 hl hl'
  obtain ⟨S, hSe⟩ : ∃ S, S = offS W H cs cs' m := ⟨_, rfl⟩
  obtain ⟨B, hBe⟩ : ∃ B, B = offB W H cs cs' m := ⟨_, rfl⟩
  obtain ⟨row, hrow⟩ : ∃ r, r = seqL S (2 * m + 1) := ⟨_, rfl⟩
  have hBS : B = bestTo row (fun _ => true) (2 * m + 1) := by rw [hBe, hrow, hSe]; unfold offB winI; rw [seqL_len]
  have hrg : ∀ j, j < 2 * m + 1 → row.getD j 0 = S j := fun j hj => by rw [hrow, seqL_get _ _ _ hj]
  have hSk : ∀ j : Nat, offSum W H cs cs' (-(m : Int) + (j : Int)) = S j := fun j => by rw [hSe]; rfl
  rw [← hBe, ← hSe]
  have hSk' := Lib.hid hSk
  have hBS' := Lib.hid hBS
  have hrg' := Lib.hid hrg
  obtain ⟨vb, hvb⟩ : ∃ v, v = (if B < 0 then 0 else B - (m : Int)) := ⟨_, rfl⟩
  obtain ⟨vc, hvc⟩ : ∃ v, v = (if B < 0 then 0 else S B.toNat) := ⟨_, rfl⟩
  obtain ⟨vo, hvo⟩ : ∃ v, v = (if B < 0 then false else true) := ⟨_, rfl⟩
  rw [← hvb, ← hvc, ← hvo]
  have hv3 := Lib.hid (And.intro hvb (And.intro hvc hvo))
  clear hBe hSe hSk hBS hl hl' hv hv' hpair hvb hvc hvo hrow hrg
  obtain ⟨w0, hw0⟩ : ∃ u, u = ((w.alloc (.cells #[.int .i64 W, .int .i64 H, .slice a cs.length c] 27)).alloc (.cells #[.int .i64 W, .int .i64 H, .slice a' cs'.length c'] 27)) := ⟨_, rfl⟩
  have hP : Pv w0 w.heap.size W H (.slice a cs.length c) := by rw [hw0]; exact (Pv.new _ _ _ _ _).alloc _
  have hQ : Pv w0 (w.heap.size + 1) W H (.slice a' cs'.length c') := by
    have h := (Pv.new (w.alloc (.cells #[.int .i64 W, .int .i64 H, .slice a cs.length c] 27)) W H (.slice a' cs'.length c') 27)
    rw [hw0]; simpa only [World.size_alloc] using h
  have hb0 : Below w.heap.size w w0 := by rw [hw0]; exact below2 _ _ _
  have hT := hT w0 hP hQ
  have hS := fun k m1 (k0 : -8 ≤ k) (k8 : k ≤ 8) => hS k (w0.drewN m1) (hP.drewN m1) (hQ.drewN m1) (below_drewN hb0 m1) k0 k8
  have hb0' := Lib.hid hb0
  clear hP hQ hb0
  go_enter Try.func36, Try.ntmps36
  go_upto_region 1 with fail
  rw [← hw0]
  clear hw0
  go_wp2_with fail
  refine hT.mono ?_
  rintro e w1 ⟨n1, rfl, rfl⟩
  go_wp2_with fail
  refine (h2 _).mono ?_
  rintro e w2 ⟨rfl, rfl⟩
  have g1 : IntKind.i64.wrap (-(m : Int)) = -(m : Int) := IntWalk.i64_in _ (by omega)
  go_wp2_with fail
  go_loopw [9, 10, 11, 12] (fun s9 s10 s11 i wr => ∃ j n : Nat, j ≤ 2 * m + 1 ∧ i = .int .i64 (-(m : Int) + (j : Int)) ∧ wr = w0.drewN n ∧
    ((bestTo row (fun _ => true) j = -1 ∧ s9 = .int .i64 0 ∧ s10 = .float .f32 0 ∧ s11 = .bool false) ∨
      ∃ b r : Nat, bestTo row (fun _ => true) j = (b : Int) ∧ b < 2 * m + 1 ∧ s9 = .int .i64 (-(m : Int) + (b : Int)) ∧ s10 = .float .f32 r ∧ Hid (Fl .f32 r (S b)) ∧ s11 = .bool true)) (fun _ _ _ i _ => (30 - intOf i).toNat)
  case atStart => exact ⟨0, n1, by omega, by simp, rfl, .inl ⟨rfl, rfl, rfl, rfl⟩⟩
  case round =>
    obtain ⟨j, n, hj, rfl, rfl, hst⟩ := hrel
    by_cases hlt : j < 2 * m + 1
    · have hS1 := hS (-(m : Int) + (j : Int)) n (by omega) (by omega)
      rw [hSk'.out j] at hS1
      have g2 : IntKind.i64.wrap (-(m : Int) + (j : Int) + 1) = -(m : Int) + (j : Int) + 1 := IntWalk.i64_in _ (by omega)
      have g3 : -(m : Int) + (j : Int) ≤ (m : Int) := by omega
      have hgj := hrg'.out j hlt
      cases hN : isN .f32 (S j) with
      | true =>
        have hsame := Lib.hid (bestTo_same (cs := row) (p := fun _ => true) (k := j) (by unfold validC; rw [hgj, hN]; rfl))
        have hN' := Lib.hid hN
        clear hN hgj
        rcases hst with ⟨hb, rfl, rfl, rfl⟩ | ⟨b, r, hb, hbl, rfl, rfl, hr, rfl⟩
        · have hb' := Lib.hid hb
          clear hb
          go_wp2_with fail
          refine hS1.mono ?_
          rintro e w2 ⟨r, k2, rfl, rfl, hr⟩
          have q0 : (FloatKind.f32.format.order r r == some Ordering.eq) = false := by rw [order_nan_left (by rw [← isN_cn, hr.eq]; exact hN'.out)]; rfl
          go_wp2_with fail
          go_roundw
          case rel => exact ⟨j + 1, _, by omega, by go_num, by first | rfl | (simp only [World.drewN_drewN]; rfl), .inl ⟨by rw [hsame.out]; exact hb'.out, rfl, rfl, rfl⟩⟩
          case measure => simp [intOf, g2]; omega
        · have hb' := Lib.hid hb
          clear hb
          go_wp2_with fail
          refine hS1.mono ?_
          rintro e w2 ⟨r2, k2, rfl, rfl, hr2⟩
          have q0 : (FloatKind.f32.format.order r2 r2 == some Ordering.eq) = false := by rw [order_nan_left (by rw [← isN_cn, hr2.eq]; exact hN'.out)]; rfl
          go_wp2_with fail
          go_roundw
          case rel => exact ⟨j + 1, _, by omega, by go_num, by first | rfl | (simp only [World.drewN_drewN]; rfl), .inr ⟨b, r, by rw [hsame.out]; exact hb'.out, hbl, rfl, rfl, hr, rfl⟩⟩
          case measure => simp [intOf, g2]; omega
      | false =>
        have hvd : validC row (fun _ => true) j = true := by unfold validC; rw [hgj, hN]; rfl
        have hN' := Lib.hid hN
        clear hN
        rcases hst with ⟨hb, rfl, rfl, rfl⟩ | ⟨b, r, hb, hbl, rfl, rfl, hr, rfl⟩
        · have hval := Lib.hid (bestTo_first hvd hb)
          clear hb hvd hgj
          go_wp2_with fail
          refine hS1.mono ?_
          rintro e w2 ⟨r, k2, rfl, rfl, hr⟩
          have hn2 : isN .f32 r = false := by rw [← isN_cn, hr.eq]; exact hN'.out
          have q0 : (FloatKind.f32.format.order r r == some Ordering.eq) = true := by rw [order_key _ _ _ hn2 hn2]; simp
          have hr' := Lib.hid hr
          clear hr hn2
          go_wp2_with fail
          go_roundw
          case rel => exact ⟨j + 1, _, by omega, by go_num, by first | rfl | (simp only [World.drewN_drewN]; rfl), .inr ⟨j, r, hval.out, hlt, rfl, rfl, hr', rfl⟩⟩
          case measure => simp [intOf, g2]; omega
        · have hgb := hrg'.out b hbl
          cases tl : cLess (S j) (S b) with
          | true =>
            have hval := Lib.hid (bestTo_less hvd hb (by rw [hgj, hgb]; exact tl))
            have tl' := Lib.hid tl
            clear hb hvd hgj hgb tl
            go_wp2_with fail
            refine hS1.mono ?_
            rintro e w2 ⟨r2, k2, rfl, rfl, hr2⟩
            have hn2 : isN .f32 r2 = false := by rw [← isN_cn, hr2.eq]; exact hN'.out
            have q0 : (FloatKind.f32.format.order r2 r2 == some Ordering.eq) = true := by rw [order_key _ _ _ hn2 hn2]; simp
            have q1 : (FloatKind.f32.format.order r2 r == some Ordering.lt) = true := (cLess_fl hr2 hr.out).trans tl'.out
            have hr' := Lib.hid hr2
            clear hr2 hn2
            go_wp2_with fail
            go_roundw
            case rel => exact ⟨j + 1, _, by omega, by go_num, by first | rfl | (simp only [World.drewN_drewN]; rfl), .inr ⟨j, r2, hval.out, hlt, rfl, rfl, hr', rfl⟩⟩
            case measure => simp [intOf, g2]; omega
          | false =>
            have hval := Lib.hid (bestTo_keep hb (by rw [hgj, hgb]; exact tl))
            have tl' := Lib.hid tl
            clear hb hvd hgj hgb tl
            go_wp2_with fail
            refine hS1.mono ?_
            rintro e w2 ⟨r2, k2, rfl, rfl, hr2⟩
            have hn2 : isN .f32 r2 = false := by rw [← isN_cn, hr2.eq]; exact hN'.out
            have q0 : (FloatKind.f32.format.order r2 r2 == some Ordering.eq) = true := by rw [order_key _ _ _ hn2 hn2]; simp
            have q1 : (FloatKind.f32.format.order r2 r == some Ordering.lt) = false := (cLess_fl hr2 hr.out).trans tl'.out
            clear hr2 hn2
            go_wp2_with fail
            go_roundw
            case rel => exact ⟨j + 1, _, by omega, by go_num, by first | rfl | (simp only [World.drewN_drewN]; rfl), .inr ⟨b, r, hval.out, hbl, rfl, rfl, hr, rfl⟩⟩
            case measure => simp [intOf, g2]; omega
    · obtain rfl : j = 2 * m + 1 := by omega
      have g3 : ¬ -(m : Int) + ((2 * m + 1 : Nat) : Int) ≤ (m : Int) := by omega
      obtain ⟨e1, e2, e3⟩ := hv3.out
      rcases hst with ⟨hb, rfl, rfl, rfl⟩ | ⟨b, r, hb, hbl, rfl, rfl, hr, rfl⟩
      · have hB0 : B < 0 := by rw [hBS'.out, hb]; omega
        rw [if_pos hB0] at e1 e2 e3
        subst e1 e2 e3
        clear hb hB0
        go_wp2_with fail
        refine bodyPost_ret (v := ?v1) ?hr1 rfl ?post1
        case hr1 => (simp [results, Try.results36, go_sem]; try rfl)
        case post1 => exact ⟨_, rfl, below_drewN hb0'.out _, ⟨by decide, by decide⟩⟩
      · have hBb : B = (b : Int) := by rw [hBS'.out, hb]
        have hB0 : ¬ B < 0 := by omega
        rw [if_neg hB0] at e1 e2 e3
        rw [hBb] at e1 e2
        rw [Int.toNat_natCast] at e2
        have e1' : Hid (vb = -(m : Int) + (b : Int)) := Lib.hid (by omega)
        have e2' := Lib.hid e2
        have e3' := Lib.hid e3
        clear hb hB0 hBb e1 e2 e3
        go_wp2_with fail
        refine bodyPost_ret (v := ?v2) ?hr2 rfl ?post2
        case hr2 => (simp [results, Try.results36, go_sem]; try rfl)
        case post2 => exact ⟨_, by rw [e1'.out, e3'.out], below_drewN hb0'.out _, by rw [e2'.out]; exact hr.out⟩
end Go.Proofs.Ytbiobmdibiplfaa
