import Derived.Test.YtbiobmdibiplfaaRop
set_option linter.unusedVariables false
set_option linter.unusedSimpArgs false
namespace Go.FX
open Go Go.RowKit
/-- A whole number, a number and whether it is there. -/
def ROff (b : Int) (c : Nat) (ok : Bool) (w : World) (e : Ending) (w' : World) : Prop :=
  ∃ r, e = .returned (.tuple #[.int .i64 b, .float .f32 r, .bool ok]) ∧ Below w.heap.size w w' ∧ Fl .f32 r c
def offS (W H : Nat) (cs cs' : List Nat) (m : Nat) (j : Nat) : Nat := offSum W H cs cs' (-(m : Int) + (j : Int))
def offB (W H : Nat) (cs cs' : List Nat) (m : Nat) : Int := winI (seqL (offS W H cs cs' m) (2 * m + 1)) fun _ => true
end Go.FX
namespace Go.Proofs.Ytbiobmdibiplfaa
open Go.FX Go.RowKit Go.WideShapes Go.ChangeShapes
set_option maxRecDepth 100000 in
set_option maxHeartbeats 8000000 in
theorem implRowOffset_any (W H : Nat) (a : Option Addr) (n c : Nat) (cs : List Nat) (a' : Option Addr) (n' c' : Nat) (cs' : List Nat) (m : Nat) (w : World) (hv : FC w (.slice a n c) cs) (hv' : FC w (.slice a' n' c') cs') (m8 : m ≤ 8) (b1 : 1 ≤ W) (b2 : W ≤ 24) (b3 : 1 ≤ H) (b4 : H ≤ 24) (b5 : H * W ≤ 256) (hl : cs.length = H * W) (hl' : cs'.length = H * W) :
    Calls Try.prog 37 #[.agg #[.int .i64 W, .int .i64 H, .slice a n c], .agg #[.int .i64 W, .int .i64 H, .slice a' n' c'], .int .i64 m] w
      (ROff (if offB W H cs cs' m < 0 then 0 else offB W H cs cs' m - (m : Int)) (if offB W H cs cs' m < 0 then 0 else offS W H cs cs' m (offB W H cs cs' m).toNat) (if offB W H cs cs' m < 0 then false else true) w) := by
  obtain ⟨i0, hi, hz0, hz1, hz2⟩ := info_parts info_f32
  obtain ⟨rfl, hnc, hcm⟩ := hv.sized
  obtain ⟨rfl, hnc', hcm'⟩ := hv'.sized
  have h1 := fun w1 => isPair_any W H a cs.length c W H a' cs'.length c' w1 hnc hcm hnc' hcm'
  have hpair : pairB W H cs.length W H cs'.length = true := by simp [pairB, validB_mk b1 b2 b3 b4 b5 hl, validB_mk b1 b2 b3 b4 b5 hl']
  rw [hpair] at h1
  have h2 := fun w1 => (isIndex_any (m : Int) 9 w1).mono (R' := fun e w' => e = .returned (.bool true) ∧ w1 = w') fun e w' h => ⟨by rw [h.1, show idxB (m : Int) 9 = true by unfold idxB; simp; omega], h.2⟩
  have hS := fun k w1 (hb : Below w.heap.size w w1) (k0 : -8 ≤ k) (k8 : k ≤ 8) => sumOffBy_any W H a cs.length c cs a' cs'.length c' cs' k w1 (hv.below hb) (hv'.below hb) k0 k8 b1 b2 b3 b4 b5 hl hl'
  obtain ⟨S, hSe⟩ : ∃ S, S = offS W H cs cs' m := ⟨_, rfl⟩
  obtain ⟨B, hBe⟩ : ∃ B, B = offB W H cs cs' m := ⟨_, rfl⟩
  have hBS : B = winI (seqL S (2 * m + 1)) fun _ => true := by rw [hBe, hSe]; rfl
  have hSk : ∀ j : Nat, offSum W H cs cs' (-(m : Int) + (j : Int)) = S j := fun j => by rw [hSe]; rfl
  rw [← hBe, ← hSe]
  have hSk' := Lib.hid hSk
  have hBS' := Lib.hid hBS
  obtain ⟨vb, hvb⟩ : ∃ v, v = (if B < 0 then 0 else B - (m : Int)) := ⟨_, rfl⟩
  obtain ⟨vc, hvc⟩ : ∃ v, v = (if B < 0 then 0 else S B.toNat) := ⟨_, rfl⟩
  obtain ⟨vo, hvo⟩ : ∃ v, v = (if B < 0 then false else true) := ⟨_, rfl⟩
  rw [← hvb, ← hvc, ← hvo]
  have hv3 := Lib.hid (And.intro hvb (And.intro hvc hvo))
  clear hBe hSe hSk hBS hl hl' hv hv' hpair hvb hvc hvo
  obtain ⟨w0, hw0⟩ : ∃ u, u = ((w.alloc (.cells #[.int .i64 W, .int .i64 H, .slice a cs.length c] 27)).alloc (.cells #[.int .i64 W, .int .i64 H, .slice a' cs'.length c'] 27)) := ⟨_, rfl⟩
  have hP : Pv w0 w.heap.size W H (.slice a cs.length c) := by rw [hw0]; exact (Pv.new _ _ _ _ _).alloc _
  have hQ : Pv w0 (w.heap.size + 1) W H (.slice a' cs'.length c') := by
    have h := (Pv.new (w.alloc (.cells #[.int .i64 W, .int .i64 H, .slice a cs.length c] 27)) W H (.slice a' cs'.length c') 27)
    rw [hw0]; simpa only [World.size_alloc] using h
  have hb0 : Below w.heap.size w w0 := by rw [hw0]; exact below2 _ _ _
  have hpv := Lib.hid (And.intro hP hQ)
  obtain ⟨lP, p0, p1, p2⟩ := id hP
  obtain ⟨lQ, q0, q1, q2⟩ := id hQ
  clear hP hQ
  go_enter Try.func37, Try.ntmps37
  go_upto_region 1 with fail
  rw [← hw0]
  clear hw0
  go_wp2_with fail
  refine (h1 _).mono ?_
  rintro e w1 ⟨rfl, hb1⟩
  go_wp2_with fail
  refine (h2 _).mono ?_
  rintro e w2 ⟨rfl, rfl⟩
  have hb01 : Below w.heap.size w w1 := hb0.trans (hb1.mono hb0.size)
  have hR0 := Lib.hid (And.intro hb01 (And.intro (hpv.out.1.below hb1) (hpv.out.2.below hb1)))
  clear p0 p1 p2 q0 q1 q2
  have g1 : IntKind.i64.wrap (-(m : Int)) = -(m : Int) := IntWalk.i64_in _ (by omega)
  go_wp2_with fail
  go_loopw [9, 10] (fun s i wr => ∃ j : Nat, j ≤ 2 * m + 1 ∧ i = .int .i64 (-(m : Int) + (j : Int)) ∧ Hid (Below w.heap.size w wr ∧ Pv wr w.heap.size W H (.slice a cs.length c) ∧ Pv wr (w.heap.size + 1) W H (.slice a' cs'.length c') ∧ OC wr (w.heap.size + 2) 49 s (seqL S j))) (fun _ i _ => (30 - intOf i).toNat)
  case atStart => exact ⟨0, by omega, by simp, Lib.hid ⟨hR0.out.1, hR0.out.2.1, hR0.out.2.2, OC.nil _ _ _⟩⟩
  case round =>
    clear hR0
    obtain ⟨j, hj, rfl, hR⟩ := hrel
    by_cases hlt : j < 2 * m + 1
    · have hS1 := hS (-(m : Int) + (j : Int)) wr hR.out.1 (by omega) (by omega)
      rw [hSk'.out j] at hS1
      obtain ⟨_, p0, p1, p2⟩ := id hR.out.2.1
      obtain ⟨_, q0, q1, q2⟩ := id hR.out.2.2.1
      have g2 : IntKind.i64.wrap (-(m : Int) + (j : Int) + 1) = -(m : Int) + (j : Int) + 1 := IntWalk.i64_in _ (by omega)
      have g3 : -(m : Int) + (j : Int) ≤ (m : Int) := by omega
      obtain ⟨zs, hzs, hzm, hown⟩ := hR.out.2.2.2
      have hzl : zs.length = j := by have e := congrArg List.length hzm; simpa [seqL_len] using e
      have hsz := hR.out.2.2.1.1
      obtain ⟨av, cv, rfl⟩ : ∃ a k, u9 = .slice a j k := by
        obtain ⟨aa, cap, e, _⟩ := hR.out.2.2.2.len
        rw [seqL_len] at e
        exact ⟨_, _, e⟩
      rw [hzl] at hown
      go_wp2_with fail
      refine hS1.mono ?_
      rintro e w2 ⟨r, rfl, hb2, hr⟩
      have hB2 : Below w.heap.size w w2 := hR.out.1.trans (hb2.mono hR.out.1.size)
      have hown2 := hown.kept (grown_of_below hb2 none) (own_none _)
      have hP2 := hR.out.2.1.below hb2
      have hQ2 := hR.out.2.2.1.below hb2
      have hAll := Lib.hid (And.intro hB2 (And.intro hP2 (And.intro hQ2 hown2)))
      have hzz := Lib.hid (And.intro hzs hzm)
      have hs2 := hb2.size
      clear hown hB2 hown2 hP2 hQ2 hzs hzm p0 p1 p2 q0 q1 q2
      go_wp2_with (at_builtin; refine wpList_append_own _ rfl _ _ 22 rfl (w.heap.size + 2) 49 i0 (.float .f32 0) 1 4 Try.underlying22 hi hz0 hz1 hz2 rfl (by decide) _ _ _ rfl (hAll.out.2.2.2.alloc (.cells #[.float .f32 r] 49)) ⟨w2.heap.size, 0, none⟩ 1 1 [.float .f32 r] rfl rfl ?c1 ?c2 ?c3 ?c4 ?c5 ?_)
      case c1 =>
        intro j u hj
        match j, hj with
        | 0, hj => simp at hj; subst hj; simp [Addr.add]
      case c2 => intro u hu; simp at hu; subst hu; rfl
      case c3 => unfold maxLen; omega
      case c4 => omega
      case c5 => simp; omega
      intro v' w4 hown' hgrow _
      have hbl4 : Below w.heap.size w w4 := ((hAll.out.1.alloc (by omega) (.cells #[.float .f32 r] 49)).grown hgrow (by simp; omega) (fun k hk => by have := (hAll.out.2.2.2.lt k hk).1; omega))
      have hne4 : ∀ q, q < w.heap.size + 2 → (Value.slice av j cv).ownBlock ≠ some q := fun q hq e => by have := (hAll.out.2.2.2.lt q e).1; omega
      have hp4 := (hAll.out.2.1.alloc (.cells #[.float .f32 r] 49)).kept hgrow (hne4 _ (by omega))
      have hq4 := (hAll.out.2.2.1.alloc (.cells #[.float .f32 r] 49)).kept hgrow (hne4 _ (by omega))
      have ho4 : OC w4 (w.heap.size + 2) 49 v' (seqL S (j + 1)) := by
        rw [seqL_succ]
        exact OC.push hzz.out.1 hzz.out.2 hr (by rw [hzl]; exact hown')
      have HS := Lib.hid (And.intro hbl4 (And.intro hp4 (And.intro hq4 ho4)))
      clear hbl4 hp4 hq4 ho4 hown' hgrow hne4 hAll
      go_wp2_with fail
      go_roundw
      case rel => exact ⟨j + 1, by omega, by go_num, HS⟩
      case measure => simp [intOf, g2]; omega
    · obtain rfl : j = 2 * m + 1 := by omega
      have hw := fun w1 (hb : Below wr.heap.size wr w1) => winnerOf_any u9 (seqL S (2 * m + 1)) w1 (hR.out.2.2.2.fc.below hb) (by rw [seqL_len]; omega)
      rw [← hBS'.out] at hw
      have hwb := winI_lt (seqL S (2 * m + 1)) (fun _ => true)
      rw [← hBS'.out, seqL_len] at hwb
      have g3 : ¬ -(m : Int) + ((2 * m + 1 : Nat) : Int) ≤ (m : Int) := by omega
      cases hB : decide (B < 0) with
      | true =>
        have hB0 := of_decide_eq_true hB
        obtain ⟨e1, e2, e3⟩ := hv3.out
        rw [if_pos hB0] at e1 e2 e3
        subst e1 e2 e3
        have hbw := hR.out.1
        clear hR
        go_wp2_with fail
        refine (hw _ (Below.refl _ _)).mono ?_
        rintro e w2 ⟨k2, rfl, rfl⟩
        go_wp2_with fail
        refine bodyPost_ret (v := ?v1) ?hr1 rfl ?post1
        case hr1 => (simp [results, Try.results37, go_sem]; try rfl)
        case post1 => exact ⟨_, rfl, below_drewN hbw _, ⟨by decide, by decide⟩⟩
      | false =>
        have hB0 := of_decide_eq_false hB
        obtain ⟨e1, e2, e3⟩ := hv3.out
        rw [if_neg hB0] at e1 e2 e3
        obtain ⟨bn, hbn⟩ : ∃ b : Nat, B = (b : Int) := ⟨B.toNat, by omega⟩
        have hbn2 : bn < 2 * m + 1 := by omega
        obtain ⟨bb, off, cc, z, ev, _, _, hbl, hzf, hzc⟩ := hR.out.2.2.2.fc.cell (k := bn) (by rw [seqL_len]; exact hbn2)
        rw [seqL_len] at ev
        subst ev
        rw [seqL_get _ _ _ hbn2] at hzf
        have e2' : vc = S bn := by rw [e2, hbn, Int.toNat_natCast]
        have hbw := hR.out.1
        rw [hbn] at hw e1
        have e1' := Lib.hid e1
        have e2h := Lib.hid e2'
        have e3' := Lib.hid e3
        have s1 : IntKind.i64.wrap ((bn : Int) - (m : Int)) = (bn : Int) - (m : Int) := IntWalk.i64_in _ (by omega)
        have s2 : (0 : Int) ≤ (bn : Int) := Int.natCast_nonneg _
        have s3 : (bn : Int) < ((2 * m + 1 : Nat) : Int) := by omega
        clear hR hB hB0 e1 e2 e3 e2' hbn
        go_wp2_with fail
        refine (hw _ (Below.refl _ _)).mono ?_
        rintro e w2 ⟨k2, rfl, rfl⟩
        go_upto_region 11 with fail
        go_region
        go_wp2_with fail
        refine bodyPost_ret (v := ?v2) ?hr2 rfl ?post2
        case hr2 => (simp [results, Try.results37, go_sem]; try rfl)
        case post2 => exact ⟨_, by rw [e1'.out, e3'.out], below_drewN hbw _, by rw [e2h.out]; exact hzf⟩
end Go.Proofs.Ytbiobmdibiplfaa
