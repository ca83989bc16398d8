import Derived.Test.YtaclgmafcakiiaaCk
import Derived.Deep.DeepCutAuto
import Derived.Deep.DrawnRows
set_option linter.unusedVariables false
set_option linter.unusedSimpArgs false
namespace Go.Proofs.Ytaclgmafcakiiaa
open Go.FX Go.RowKit Go.WideShapes Go.ChangeShapes
attribute [local go_sem ↓] Go.wp_at_zero Go.wp_at_succ
set_option maxRecDepth 100000 in
set_option maxHeartbeats 8000000 in
theorem specCheck_any (W H : Nat) (a : Option Addr) (n c bp : Nat) (cs : List Nat) (a' : Option Addr) (n' c' bm : Nat) (ms : List Nat) (m cm : Nat) (hm : Fl .f32 m cm) (w : World) (hp : Pv w bp W H (.slice a n c)) (hv : FC w (.slice a n c) cs) (hq : Pv w bm W H (.slice a' n' c')) (hv' : FC w (.slice a' n' c') ms) (b1 : 1 ≤ W) (b2 : W ≤ 24) (b3 : 1 ≤ H) (b4 : H ≤ 24) (b5 : H * W ≤ 256) (hl : cs.length = H * W) (hl' : ms.length = H * W) :
    Calls Try.prog 40 #[.pointer (some ⟨bp, 0, none⟩), .pointer (some ⟨bm, 0, none⟩), .float .f32 m] w (RPic1 37 W H (seqL (chkI W cs ms cm) (H * W)) w) := by
  obtain ⟨rfl, hnc, hcm⟩ := hv.sized
  obtain ⟨rfl, hnc', hcm'⟩ := hv'.sized
  have h3 := fun w1 => specMFlat_any W H 3212836864 3212836864 flM1c w1 b1 b2 b3 b4 b5
  have h0 : 0 < H * W := Nat.mul_pos b3 b1
  obtain ⟨N, hN⟩ : ∃ N, N = H * W := ⟨_, rfl⟩
  rw [← hN] at h3 h0 b5 hl hl' ⊢
  obtain ⟨os, hos⟩ : ∃ os, os = seqL (fun _ => 3212836864) N := ⟨_, rfl⟩
  have hol : os.length = N := by rw [hos, seqL_len]
  have hog : ∀ k, k < N → os.getD k 0 = 3212836864 := fun k hk => by rw [hos, seqL_get _ _ _ hk]
  rw [← hos] at h3
  have hog' := Lib.hid hog
  have hlc := Lib.hid hl
  have hlm := Lib.hid hl'
  clear hos hl hl' hN hog
  obtain ⟨w0, hw0⟩ : ∃ w0, w0 = w.alloc (.cells #[.int .i64 0, .int .i64 0, .slice none 0 0] 27) := ⟨_, rfl⟩
  have hp0 : Pv w0 bp W H (.slice a cs.length c) := by rw [hw0]; exact hp.alloc _
  have hq0 : Pv w0 bm W H (.slice a' ms.length c') := by rw [hw0]; exact hq.alloc _
  have hn0 : Nv w0 w.heap.size (.int .i64 0) (.int .i64 0) (.slice none 0 0) := by rw [hw0]; exact Nv.new _ _ _ _ _
  have hb0 : Below w.heap.size w w0 := by rw [hw0]; exact below1 _ _
  have hlt0 : w.heap.size < w0.heap.size := hn0.1
  have hpv := Lib.hid (And.intro hp0 (And.intro (hv.below hb0) (And.intro hn0 (And.intro hb0 (And.intro hq0 (hv'.below hb0))))))
  obtain ⟨hp1, p0, p1, p2⟩ := id hp0
  clear hp hv hq hv' hn0 hb0 hq0 hp0
  go_enter Try.func40, Try.ntmps40
  go_upto_region 1 with fail
  rw [← hw0]
  clear hw0
  go_cut [7] (fun s4 wx => ∃ bo, s4 = .pointer (some ⟨bo, 0, none⟩) ∧ Mk 37 w0 bo W H os wx)
  case first =>
    go_region_held3 (fun w' => Below w0.heap.size w0 w' ∧ w0.heap.size ≤ w'.heap.size ∧ (∀ b o, b < w0.heap.size → w'.cell? ⟨b, o, none⟩ = w0.cell? ⟨b, o, none⟩)) (first | exact keepStart _ | assumption | exact ⟨by assumption, by assumption, by assumption⟩ | exact keepCall (by assumption) (by assumption) | exact keepAlloc (by assumption) | (refine keepSet ?_ (keepSet ?_ (keepSet ?_ (keepSet ?_ ?_))) <;> first | assumption | omega | (simp; done) | (simp; omega)) | (refine keepSet ?_ (keepSet ?_ (keepSet ?_ ?_)) <;> first | assumption | omega | (simp; done) | (simp; omega)) | (refine keepSet ?_ (keepSet ?_ ?_) <;> first | assumption | omega | (simp; done) | (simp; omega)) | (refine keepSet ?_ ?_ <;> first | assumption | omega | (simp; done) | (simp; omega)) | ((refine keepOf ?_; ((repeat' (first | (refine bel_set ?_ ?_ _) | (refine bel_al ?_ ?_ _) | exact Below.refl _ _ | assumption | exact And.left (by assumption) | (refine below_drewN ?_ _) | (refine Below.drew ?_))) <;> (first | omega | (simp; done) | (simp; omega))))))
      (first | (go_at_call 21; (with_reducible refine (h3 _).mono ?_); rintro e w1 ⟨a1, n1, c1, rfl, hb1, ho1⟩; have hI := keepCall (n := w0.heap.size) (W1 := w0) (by assumption) hb1; obtain ⟨hc, hf⟩ := bcell hb1; have hz := hb1.size; (try simp at hz); (try simp only [World.size_drew, World.cell?_drew] at hc); (try simp only [World.size_drew, World.frozen?_drew] at hf); first | (have hs := Nat.lt_of_succ_le hz) | (have hs := Nat.lt_of_lt_of_le hs hz) | skip))
    all_goals go_wp2_with fail
    all_goals go_meet
    all_goals first
      | exact ⟨_, rfl, Mk.start1 (undrewN hb1) ho1⟩
      | exact ⟨_, rfl, Mk.start2 (undrewN hb1) ho1⟩
      | exact ⟨_, rfl, Mk.start1 (undrew hb1) ho1⟩
      | exact ⟨_, rfl, Mk.start2 (undrew hb1) ho1⟩
  case rest =>
    obtain ⟨bo, rfl, hmk⟩ := hcut
    obtain ⟨a1, n1, c1, hN, ho, hne, hbo, hbl⟩ := id hmk
    obtain ⟨_, p0', p1', p2'⟩ := hpv.out.1.below hbl
    have hmk := Lib.hid hmk
    clear ho hne hbo hbl hN p0 p1 p2
    have hlc2 := Lib.hid hlc.out
    go_wp2_with fail
    clear p0' p1' p2'
    go_loopw [26] (fun i wr => ∃ k : Nat, k ≤ cs.length ∧ i = .int .i64 k ∧ Hid (Mk 37 w0 bo W H (part2 (chkI W cs ms cm) os k) wr)) (fun i _ => cs.length - (intOf i).toNat)
    case atStart => exact ⟨0, Nat.zero_le _, rfl, by rw [part2_zero]; exact hmk⟩
    case round =>
      clear hmk
      obtain ⟨k, hk, rfl, hmk⟩ := hrel
      obtain ⟨a2, n2, c2, hN, ho, hne, hbo, hbl⟩ := hmk.out
      by_cases hlk : k < cs.length
      · obtain ⟨lp, e0, e1, e2⟩ := hpv.out.1.below hbl
        obtain ⟨lm, q0, q1, q2⟩ := hpv.out.2.2.2.2.1.below hbl
        obtain ⟨bb, off, cc, zv, ev, _, _, _, hzvf, hzvc⟩ := (hpv.out.2.1.below hbl).cell hlk
        simp only [Value.slice.injEq, true_and] at ev
        obtain ⟨rfl, rfl⟩ := ev
        have hkN : k < N := by have := hlc.out; omega
        have hlen := part2_len (chkI W cs ms cm) os k (by omega)
        obtain ⟨g, cap, eg, hn2, rr⟩ := OC.own_form ho (by rw [hlen]; omega)
        obtain ⟨rfl, _, rfl⟩ := Value.slice.inj eg
        clear eg
        rw [hlen, hol] at hn2
        subst hn2
        obtain ⟨zold, holdF, hold⟩ := ho.row_at (k := k) (by rw [hlen]; omega)
        obtain ⟨_, j0, j1, j2, jf⟩ := id hN
        have hset := Lib.hid (part2_set (chkI W cs ms cm) os k (by omega))
        have hkeep0 := part2_keep (chkI W cs ms cm) os k (by omega)
        rw [hog'.out k hkN] at hkeep0
        have hkeep := Lib.hid hkeep0
        have hput := Lib.hid (fun (r c : Nat) (hr : Fl .f32 r c) => Mk.put hN ho hne hbo hbl (k := k) (by rw [hlen]; omega) hr)
        have hfz : wr.frozen? ⟨g, k, none⟩ = false := rr _
        obtain ⟨cv, hcv⟩ : ∃ v, v = cs.getD k 0 := ⟨_, rfl⟩
        rw [← hcv] at hzvf
        have hpl := placeI_fl hzvf
        have hplc := specPlace_any zv
        rw [hpl] at hplc
        obtain ⟨t, ht⟩ : ∃ t, t = decide (0 ≤ placeI cv ∧ placeI cv ≤ ((k % W : Nat) : Int)) := ⟨_, rfl⟩
        obtain ⟨rv, hrv⟩ : ∃ r, r = ms.getD ((k : Int) - placeI cv).toNat 0 := ⟨_, rfl⟩
        have hI : chkI W cs ms cm k = chkV cv rv cm t := by unfold chkI; rw [← hcv, ← ht, ← hrv]
        have hpl1 := placeI_lo cv
        have hpl2 := placeI_top' cv
        generalize placeI cv = PL at hplc ht hrv hpl1 hpl2
        have hmod : (k : Int) % (W : Int) = ((k % W : Nat) : Int) := by rw [Int.natCast_emod]
        have hxk : k % W ≤ k := Nat.mod_le _ _
        have g5 : (0 : Int) ≤ (k : Int) := Int.natCast_nonneg _
        have g6 : (k : Int) < (n2 : Int) := by omega
        have g7 : (k : Int) < (cs.length : Int) := by omega
        have g8 : ¬ (W : Int) = 0 := by omega
        have hhv := Lib.hid (holeB_fl hzvf)
        generalize k % W = x at hmod ht hxk
        have hin := fun w1 => (specIn_any PL 0 (x : Int) w1).mono (R' := fun e w' => e = .returned (.bool t) ∧ w' = w1) fun e w' h => ⟨by rw [h.1, ht]; rfl, h.2⟩
        have hI' := Lib.hid hI
        have ht' := Lib.hid ht
        have hrv' := Lib.hid hrv
        have hol' := Lib.hid hol
        have hblw := Lib.hid hbl
        clear hN ho hne hbl holdF hlen rr hol hpl hI ht hrv hcv hkeep0
        cases hA : holeB cv with
        | true =>
          have hV : Hid (chkI W cs ms cm k = 3212836864) := Lib.hid (hI'.out.trans (chk_h hA))
          have hA' := Lib.hid hA
          clear hA
          go_wp2_with fail
          refine (hplc _).mono ?_
          rintro e w2 ⟨k2, rfl, rfl⟩
          go_wp2_with fail
          refine (specHole_any _ _).mono ?_
          rintro e w' ⟨rfl, rfl⟩
          rw [hhv.out, hA'.out]
          go_wp2_with fail
          go_roundw
          case rel => exact ⟨k + 1, by omega, by go_num, by rw [← hkeep.out hV.out]; exact Lib.hid (hmk.out.drewN _)⟩
          case measure => simp [intOf]; omega
        | false =>
          have hA' := Lib.hid hA
          clear hA
          cases t with
          | false =>
            have hV : Hid (chkI W cs ms cm k = 3212836864) := Lib.hid (hI'.out.trans (chk_f rfl))
            go_wp2_with fail
            refine (hplc _).mono ?_
            rintro e w2 ⟨k2, rfl, rfl⟩
            go_wp2_with fail
            refine (specHole_any _ _).mono ?_
            rintro e w' ⟨rfl, rfl⟩
            rw [hhv.out, hA'.out]
            go_wp2_with fail
            refine (hin _).mono ?_
            rintro e w' ⟨rfl, rfl⟩
            go_wp2_with fail
            go_roundw
            case rel => exact ⟨k + 1, by omega, by go_num, by rw [← hkeep.out hV.out]; exact Lib.hid (hmk.out.drewN _)⟩
            case measure => simp [intOf]; omega
          | true =>
            obtain ⟨pl0, plx⟩ : 0 ≤ PL ∧ PL ≤ (x : Int) := of_decide_eq_true ht'.out.symm
            obtain ⟨kp, hkp⟩ : ∃ kp : Nat, (k : Int) - PL = (kp : Int) := ⟨((k : Int) - PL).toNat, by omega⟩
            have hkp2 : kp < n2 := by omega
            obtain ⟨bb2, off2, cc2, zr, ev2, _, _, _, hzrf, hzrc⟩ := (hpv.out.2.2.2.2.2.below hblw.out).cell (k := kp) (by rw [hlm.out]; exact hkp2)
            simp only [Value.slice.injEq, true_and] at ev2
            obtain ⟨rfl, rfl⟩ := ev2
            have hrr : rv = ms.getD kp 0 := by rw [hrv'.out, hkp, Int.toNat_natCast]
            rw [← hrr] at hzrf
            have s1 : IntKind.i64.wrap ((k : Int) - PL) = (k : Int) - PL := IntWalk.i64_in _ (by omega)
            have s2 : (0 : Int) ≤ (k : Int) - PL := by omega
            have s3 : (k : Int) - PL < (ms.length : Int) := by have := hlm.out; omega
            have s4 : ((k : Int) - PL).toNat = kp := by omega
            have hhr := Lib.hid (holeB_fl hzrf)
            have hrr' := Lib.hid hrr
            clear hrr hkp
            cases hR : holeB rv with
            | true =>
              have hV : Hid (chkI W cs ms cm k = 3212836864) := Lib.hid (hI'.out.trans (chk_r hR))
              have hR' := Lib.hid hR
              clear hR
              go_wp2_with fail
              refine (hplc _).mono ?_
              rintro e w2 ⟨k2, rfl, rfl⟩
              go_wp2_with fail
              refine (specHole_any _ _).mono ?_
              rintro e w' ⟨rfl, rfl⟩
              rw [hhv.out, hA'.out]
              go_wp2_with fail
              refine (hin _).mono ?_
              rintro e w' ⟨rfl, rfl⟩
              go_wp2_with fail
              refine (specHole_any _ _).mono ?_
              rintro e w' ⟨rfl, rfl⟩
              rw [hhr.out, hR'.out]
              go_wp2_with fail
              go_roundw
              case rel => exact ⟨k + 1, by omega, by go_num, by rw [← hkeep.out hV.out]; exact Lib.hid (hmk.out.drewN _)⟩
              case measure => simp [intOf]; omega
            | false =>
              have hR' := Lib.hid hR
              obtain ⟨d, hd⟩ : ∃ d, d = fop .sub .f32 cv rv := ⟨_, rfl⟩
              have hdl : d < 4294967296 := by rw [hd, ← (hzvf.flR (op := .sub) hzrf w0).eq]; exact cn_lt (hzvf.flR (op := .sub) hzrf w0).1
              have hd' := Lib.hid hd
              have hcmp : ∀ b, nearB d cm = b → Hid (∀ r, Fl .f32 r (sizeF d) → (FloatKind.f32.format.order r m == some Ordering.lt || FloatKind.f32.format.order r m == some Ordering.eq) = b) := fun b hb => Lib.hid fun r hr => by
                rw [hr.order hm, ← hb]
                exact le2_size d cm hdl
              have hsz := fun (r : Nat) (hr : Fl .f32 r d) (w1 : World) => specSz_any (c := d) w1 hr
              have hA2 := hA'.out
              have hfl := Lib.hid (fun w1 => (show Fl .f32 (flR .sub .f32 zv zr w1) d by rw [hd]; exact hzvf.flR hzrf w1))
              cases hB : nearB d cm with
              | false =>
                have hV : Hid (chkI W cs ms cm k = 3212836864) := Lib.hid (hI'.out.trans (chk_n (by rw [← hd]; exact hB)))
                have hcm1 := hcmp _ hB
                clear hR hB hcmp hd hA2
                go_wp2_with fail
                refine (hplc _).mono ?_
                rintro e w2 ⟨k2, rfl, rfl⟩
                go_wp2_with fail
                refine (specHole_any _ _).mono ?_
                rintro e w' ⟨rfl, rfl⟩
                rw [hhv.out, hA'.out]
                go_wp2_with fail
                refine (hin _).mono ?_
                rintro e w' ⟨rfl, rfl⟩
                go_wp2_with fail
                refine (specHole_any _ _).mono ?_
                rintro e w' ⟨rfl, rfl⟩
                rw [hhr.out, hR'.out]
                go_wp2_with fail
                refine (hsz _ (hfl.out _) _).mono ?_
                rintro e w5 ⟨r5, n5, rfl, rfl, hr5⟩
                have hq := hcm1.out r5 hr5
                go_wp2_with fail
                go_roundw
                case rel => exact ⟨k + 1, by omega, by go_num, by rw [← hkeep.out hV.out]; exact Lib.hid (by first | exact hmk.out.drewN _ | exact (hmk.out.drewN _).drewN _ | exact ((hmk.out.drewN _).drewN _).drewN _)⟩
                case measure => simp [intOf]; omega
              | true =>
                have hV : Hid (chkI W cs ms cm k = cv) := Lib.hid (hI'.out.trans (chk_y hA2 rfl hR (by rw [← hd]; exact hB)))
                have hM := hput.out zv (chkI W cs ms cm k) (by rw [hV.out]; exact hzvf)
                rw [hset.out] at hM
                have hM := Lib.hid hM
                have hcm1 := hcmp _ hB
                clear hR hB hcmp hd hA2 hput hset
                go_wp2_with fail
                refine (hplc _).mono ?_
                rintro e w2 ⟨k2, rfl, rfl⟩
                go_wp2_with fail
                refine (specHole_any _ _).mono ?_
                rintro e w' ⟨rfl, rfl⟩
                rw [hhv.out, hA'.out]
                go_wp2_with fail
                refine (hin _).mono ?_
                rintro e w' ⟨rfl, rfl⟩
                go_wp2_with fail
                refine (specHole_any _ _).mono ?_
                rintro e w' ⟨rfl, rfl⟩
                rw [hhr.out, hR'.out]
                go_wp2_with fail
                refine (hsz _ (hfl.out _) _).mono ?_
                rintro e w5 ⟨r5, n5, rfl, rfl, hr5⟩
                have hq := hcm1.out r5 hr5
                go_wp2_with fail
                go_roundw
                case rel => exact ⟨k + 1, by omega, by go_num, Lib.hid (by first | exact hM.out.drewN _ | exact (hM.out.drewN _).drewN _ | exact ((hM.out.drewN _).drewN _).drewN _)⟩
                case measure => simp [intOf]; omega
      · obtain rfl : k = cs.length := by omega
        obtain ⟨_, f0, f1, f2, f3⟩ := hN
        obtain ⟨_, r0, r1, r2, rf⟩ := hpv.out.2.2.1.below hbl
        have hoc := Lib.hid ho
        have hlc3 := Lib.hid hlc.out
        clear ho
        go_wp2_with fail
        refine bodyPost_ret (v := ?v) ?hr rfl ?post
        case hr => (simp [results, Try.results40, go_sem, f0, f1, f2, r0, r1, r2, rf]; try rfl)
        case post =>
          have h0 := hpv.out.2.2.2.1
          have hoo := hoc.out
          have hlen := hlc3.out
          rw [show cs.length = os.length by omega, part2_end, hol] at hoo
          refine ⟨_, _, _, rfl, ?_, ?_⟩
          · ((repeat' (first | (refine bel_set ?_ ?_ _) | (refine bel_al ?_ ?_ _) | exact Below.refl _ _ | assumption | (refine below_drewN ?_ _) | (refine Below.drew ?_) | (refine Below.trans ?_ (Below.mono hbl ?_)))) <;> (first | omega | (simp; done) | (simp; omega)))
          · (refine OC.mono (base := ?bb) ?hh ?hl; (case hh => ((repeat' (first | (refine OC.set ?_ _ ?_) | (refine OC.alloc ?_ _) | exact hoo | (refine OC.drewN ?_ _))) <;> (first | omega | (simp; done) | (simp; omega)))); (case hl => (first | omega | (simp; done) | (simp; omega))))
end Go.Proofs.Ytaclgmafcakiiaa
