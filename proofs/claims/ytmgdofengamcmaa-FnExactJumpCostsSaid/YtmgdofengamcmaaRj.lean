import Derived.Test.YtmgdofengamcmaaRd
set_option linter.unusedVariables false
set_option linter.unusedSimpArgs false
namespace Go.FX
open Go Go.RowKit
/-- What a call gives back that gives a slice of its own. -/
def ROC (E : TypeId) (cs : List Nat) (w : World) (e : Ending) (w' : World) : Prop :=
  ∃ a n c, e = .returned (.slice a n c) ∧ Below w.heap.size w w' ∧ OC w' w.heap.size E (.slice a n c) cs
/-- What it costs to come to a disparity: first of itself, then of the one before, then of the next one, then of all. -/
def j1F (cs : List Nat) (xc d : Nat) : Nat := if 0 < d then minF (cs.getD d 0) (fop .add .f32 (cs.getD (d - 1) 0) xc) else cs.getD d 0
def j2F (cs : List Nat) (xc d : Nat) : Nat := if d + 1 < cs.length then minF (j1F cs xc d) (fop .add .f32 (cs.getD (d + 1) 0) xc) else j1F cs xc d
def farF (cs : List Nat) (yc : Nat) : Nat := fop .add .f32 yc (leastL cs)
def jumpF (cs : List Nat) (xc yc d : Nat) : Nat := minF (j2F cs xc d) (farF cs yc)
def jumpsL (cs : List Nat) (xc yc : Nat) : List Nat := seqL (jumpF cs xc yc) cs.length
theorem FC.lit1 {w : World} {E : TypeId} {r c : Nat} (h : Fl .f32 r c) : FC (w.alloc (.cells #[.float .f32 r] E)) (.slice (some ⟨w.heap.size, 0, none⟩) 1 1) [c] := by
  refine ⟨[r], ⟨by intro z hz; simp at hz; rw [hz]; exact h.lt, some ⟨w.heap.size, 0, none⟩, 1, rfl, by simp, by simp [maxLen], .inr ⟨w.heap.size, 0, rfl, by simp, fun i hi => ?_⟩⟩, by simp [h.eq]⟩
  simp at hi; subst hi; simp [List.getD]
theorem FC.lit2 {w : World} {E : TypeId} {r c r2 c2 : Nat} (h : Fl .f32 r c) (h2 : Fl .f32 r2 c2) : FC (w.alloc (.cells #[.float .f32 r, .float .f32 r2] E)) (.slice (some ⟨w.heap.size, 0, none⟩) 2 2) [c, c2] := by
  refine ⟨[r, r2], ⟨by intro z hz; simp at hz; rcases hz with hz | hz <;> (rw [hz]; first | exact h.lt | exact h2.lt), some ⟨w.heap.size, 0, none⟩, 2, rfl, by simp, by simp [maxLen], .inr ⟨w.heap.size, 0, rfl, by simp, fun i hi => ?_⟩⟩, by simp [h.eq, h2.eq]⟩
  simp at hi
  match i, hi with
  | 0, _ => simp [List.getD]
  | 1, _ => simp [List.getD]
end Go.FX
namespace Go.Proofs.Ytmgdofengamcmaa
open Go.FX Go.RowKit Go.WideShapes Go.ChangeShapes

theorem least_b (v : Value) (cs : List Nat) (w : World) (hv : FC w v cs) (h0 : 0 < cs.length) (hmx : cs.length ≤ 1048576) :
    Calls Try.prog 102 #[v] w (RFb .f32 (leastL cs) w) :=
  (least_any v cs w hv h0 hmx).mono fun _ _ ⟨r, n, h1, h2, h3⟩ => ⟨r, h1, by rw [h2]; exact below_drewN (Below.refl _ _) _, h3⟩
set_option maxRecDepth 100000 in
set_option maxHeartbeats 8000000 in
theorem jumps_any (x xc y yc : Nat) (hx : Fl .f32 x xc) (hy : Fl .f32 y yc) (v : Value) (cs : List Nat) (w : World) (hv : FC w v cs) (h0 : 0 < cs.length) (h8 : cs.length ≤ 8) :
    Calls Try.prog 83 #[.agg #[.float .f32 x, .float .f32 y], v] w (ROC 22 (jumpsL cs xc yc) w) := by
  obtain ⟨i0, hi, hz0, hz1, hz2⟩ := info_parts info_f32
  obtain ⟨zs, ⟨hz, a', cap', rfl, k1, k2, k3⟩, hzc⟩ := id hv
  have hlz : zs.length = cs.length := by rw [← hzc, List.length_map]
  rcases k3 with k3 | ⟨b, off, rfl, hb, hc⟩
  · subst k3; simp at hlz; omega
  have hF : ∀ k, k < cs.length → Fl .f32 (zs.getD k 0) (cs.getD k 0) := fun k hk => by
    rw [← hzc, getD_map zs k (by omega)]
    exact Fl.of (hz _ (by simp [List.getD, show k < zs.length by omega]))
  rw [hlz] at hv hc k1 ⊢
  clear hzc hz hlz
  have hF' := Lib.hid hF
  clear hF
  go_enter Try.func83, Try.ntmps83
  go_upto_region 1 with fail
  obtain ⟨w1, hw1⟩ : ∃ w1, w1 = w.alloc (.cells #[.float .f32 x, .float .f32 y] 26) := ⟨_, rfl⟩
  rw [← hw1]
  have hp1 : P2 w1 w.heap.size x y := by rw [hw1]; exact P2.new _ _ _ _
  have hv1 : FC w1 (.slice (some ⟨b, off, none⟩) cs.length cap') cs := by rw [hw1]; exact hv.alloc _
  have hb1 : Below w.heap.size w w1 := by rw [hw1]; exact below1 _ _
  have hbb : b < w1.heap.size := Nat.lt_of_lt_of_le hb hb1.size
  have hc1 : Hid (∀ i, i < cs.length → w1.cell? ⟨b, off + i, none⟩ = some (.float .f32 (zs.getD i 0))) := Lib.hid fun i hi => by rw [(bcell hb1).1 b _ hb]; exact hc i hi
  clear hw1 hv hc
  obtain ⟨l0, p0, p1⟩ := id hp1
  have hle := fun w2 (h : Below w1.heap.size w1 w2) => least_b _ cs w2 (hv1.below h) h0 (by omega)
  refine wp_region_cls (by kernel_rfl) (by kernel_rfl) (by kernel_rfl) (by kernel_rfl) (fun w' => Below w1.heap.size w1 w') (below_drewN (Below.refl _ _) 1) [Eq1 ?q4974u0, Eq1 ?q4974u1, Eq1 ?q4974u2, FloatIs .f32 (leastL cs), FloatIs .f32 (farF cs yc), FloatIs .f32 (farF cs yc)] ?q4974main
  case q4974main =>
    (refine wpR_pure ?_ (fun w hw => ?_) ?_; rfl; (obtain ⟨hwc, hwf⟩ := bcell2 hw; go_simp; (try with_reducible rfl)); (try simp only [Act.put, List.setIfInBounds_toArray, List.set_cons_zero, List.set_cons_succ]))
    (refine wpR_pure ?_ (fun w hw => ?_) ?_; rfl; (obtain ⟨hwc, hwf⟩ := bcell2 hw; go_simp; (try with_reducible rfl)); (try simp only [Act.put, List.setIfInBounds_toArray, List.set_cons_zero, List.set_cons_succ]))
    (refine wpR_pure ?_ (fun w hw => ?_) ?_; rfl; (obtain ⟨hwc, hwf⟩ := bcell2 hw; go_simp; (try with_reducible rfl)); (try simp only [Act.put, List.setIfInBounds_toArray, List.set_cons_zero, List.set_cons_succ]))
    (refine wpR_cls ?_ (fun w hw => ?_) ?_; rfl; (go_simp; refine (hle _ hw).mono ?_; rintro _ _ ⟨_, rfl, hcb, hcr⟩; exact ⟨_, rfl, ⟨_, rfl, hcr⟩, Below.trans hw (hcb.mono hw.size)⟩); (rintro _ ⟨_, rfl, _⟩; (try simp only [Act.put, List.setIfInBounds_toArray, List.set_cons_zero, List.set_cons_succ])))
    (refine wpR_cls ?_ (fun w hw => ?_) ?_; rfl; (go_simp; exact ⟨below_drewN hw _, _, rfl, Fl.flR (by assumption) (by assumption) _⟩); (rintro _ ⟨_, rfl, _⟩; (try simp only [Act.put, List.setIfInBounds_toArray, List.set_cons_zero, List.set_cons_succ])))
    (refine wpR_cls ?_ (fun w hw => ?_) ?_; rfl; (go_simp; first | exact ⟨_, rfl, by assumption⟩ | exact ⟨hw, _, rfl, by assumption⟩); (rintro _ ⟨_, rfl, _⟩; (try simp only [Act.put, List.setIfInBounds_toArray, List.set_cons_zero, List.set_cons_succ])))
    refine wpR_nil ?_
    intro w' hw'
    rename_i rC hC rF hFF far hfar
    have hfar := Lib.hid hfar
    have hp2 := hp1.below hw'
    have hb2 := Lib.hid hw'
    clear hC hFF hle p0 p1 l0
    obtain ⟨l0, p0, p1⟩ := id hp2
    go_wp2_with (at_make; refine wpList_make_own _ rfl _ _ 37 rfl w1.heap.size 22 i0 (.float .f32 0) 1 Try.underlying37 hi hz0 hz1 .i64 .i64 _ cs.length rfl rfl ?c0 ?b2 ?b3 ?b4 ?_)
    case c0 => rfl
    case b2 => rw [hz2]; omega
    case b3 => unfold maxLen; omega
    case b4 => exact hw'.size
    intro w3 hown hgrow
    have hbel : Below w1.heap.size w1 w3 := hw'.grown hgrow hw'.size (fun _ h => nomatch h)
    clear hgrow p0 p1 l0 hp2
    go_wp2_with fail
    go_loopw [6, 19] (fun l i wr => ∃ (d : Nat) (a : Option Addr) (n c : Nat), d ≤ cs.length ∧ i = .int .i64 d ∧ l = .slice a n c ∧ Hid (OC wr w1.heap.size 22 (.slice a n c) (seqL (jumpF cs xc yc) d)) ∧ Below w1.heap.size w1 wr) (fun _ i _ => cs.length - (intOf i).toNat)
    case atStart => exact ⟨0, _, _, _, Nat.zero_le _, rfl, rfl, ⟨[], by simp, by simp [seqL], hown⟩, hbel⟩
    case round =>
      clear hown hbel hw'
      obtain ⟨d, a, n, c, hd, rfl, rfl, hown, hbel⟩ := hrel
      obtain ⟨l0, p0, p1⟩ := hp1.below hbel
      by_cases hld : d < cs.length
      · obtain ⟨wq, rfl⟩ : ∃ wq : World, wq = wr := ⟨_, rfl⟩
        have hcell := fun i (hi : i < cs.length) => ((bcell hbel).1 b (off + i) hbb).trans (hc1.out i hi)
        obtain ⟨rq, hrq⟩ : ∃ r, r = zs.getD d 0 := ⟨_, rfl⟩
        have hcd : wq.cell? ⟨b, off + d, none⟩ = some (.float .f32 rq) := by rw [hrq]; exact hcell d hld
        have hq : Hid (Fl .f32 rq (cs.getD d 0)) := Lib.hid (by rw [hrq]; exact hF'.out d hld)
        have hcellH := Lib.hid hcell
        clear hrq hcell
        by_cases hd0 : 0 < d
        case pos =>
          obtain ⟨zp, ezp⟩ : ∃ r, r = zs.getD (d - 1) 0 := ⟨_, rfl⟩
          have hzp : wq.cell? ⟨b, off + (d - 1), none⟩ = some (.float .f32 zp) := by rw [ezp]; exact hcellH.out (d - 1) (by omega)
          obtain ⟨cp, ecp⟩ : ∃ r, r = cs.getD (d - 1) 0 := ⟨_, rfl⟩
          have hFzp : Fl .f32 zp cp := by rw [ezp, ecp]; exact hF'.out (d - 1) (by omega)
          have Ecp := Lib.hid ecp
          clear ezp ecp
          have i1 : IntKind.i64.wrap ((d : Int) - 1) = ((d - 1 : Nat) : Int) := by rw [IntWalk.i64_in _ (by omega)]; omega
          have i2 : d - 1 < cs.length := by omega
          have i5 : (0 : Int) < (d : Int) := by omega
          go_wp2_with fail
          refine wp_region_cls_tail 9 (by kernel_rfl) (by kernel_rfl) (by rfl) (by kernel_rfl) (by kernel_rfl) (fun w' => ∃ n, w' = wq.drewN n) ⟨1, rfl⟩ [Eq1 ?q2905u0, Eq1 ?q2905u1, Eq1 ?q2905u2, Eq1 ?q2905u3, Eq1 ?q2905u4, Eq1 ?q2905u5, Eq1 ?q2905u6, Eq1 ?q2905u7, FloatIs .f32 (fop .add .f32 cp xc)] ?q2905main
          case q2905main =>
            simp only [List.take_succ_cons, List.take_zero]
            (refine wpR_pure ?_ (fun w hw => ?_) ?_; rfl; (obtain ⟨nn, rfl⟩ := hw; go_simp; (try with_reducible rfl)); (try simp only [Act.put, List.setIfInBounds_toArray, List.set_cons_zero, List.set_cons_succ]))
            (refine wpR_pure ?_ (fun w hw => ?_) ?_; rfl; (obtain ⟨nn, rfl⟩ := hw; go_simp; (try with_reducible rfl)); (try simp only [Act.put, List.setIfInBounds_toArray, List.set_cons_zero, List.set_cons_succ]))
            (refine wpR_pure ?_ (fun w hw => ?_) ?_; rfl; (obtain ⟨nn, rfl⟩ := hw; go_simp; (try with_reducible rfl)); (try simp only [Act.put, List.setIfInBounds_toArray, List.set_cons_zero, List.set_cons_succ]))
            (refine wpR_pure ?_ (fun w hw => ?_) ?_; rfl; (obtain ⟨nn, rfl⟩ := hw; go_simp; (try with_reducible rfl)); (try simp only [Act.put, List.setIfInBounds_toArray, List.set_cons_zero, List.set_cons_succ]))
            (refine wpR_pure ?_ (fun w hw => ?_) ?_; rfl; (obtain ⟨nn, rfl⟩ := hw; go_simp; (try with_reducible rfl)); (try simp only [Act.put, List.setIfInBounds_toArray, List.set_cons_zero, List.set_cons_succ]))
            (refine wpR_pure ?_ (fun w hw => ?_) ?_; rfl; (obtain ⟨nn, rfl⟩ := hw; go_simp; (try with_reducible rfl)); (try simp only [Act.put, List.setIfInBounds_toArray, List.set_cons_zero, List.set_cons_succ]))
            (refine wpR_pure ?_ (fun w hw => ?_) ?_; rfl; (obtain ⟨nn, rfl⟩ := hw; go_simp; (try with_reducible rfl)); (try simp only [Act.put, List.setIfInBounds_toArray, List.set_cons_zero, List.set_cons_succ]))
            (refine wpR_pure ?_ (fun w hw => ?_) ?_; rfl; (obtain ⟨nn, rfl⟩ := hw; go_simp; (try with_reducible rfl)); (try simp only [Act.put, List.setIfInBounds_toArray, List.set_cons_zero, List.set_cons_succ]))
            (refine wpR_cls ?_ (fun w hw => ?_) ?_; rfl; (obtain ⟨nn, rfl⟩ := hw; go_simp; exact ⟨⟨_, rfl⟩, _, rfl, Fl.flR (by assumption) (by assumption) _⟩); (rintro _ ⟨_, rfl, _⟩; (try simp only [Act.put, List.setIfInBounds_toArray, List.set_cons_zero, List.set_cons_succ])))
            refine wpR_nil ?_
            rintro w' ⟨nn, rfl⟩
            rename_i rsa hrsa
            have hf2a := (FC.lit2 (w := wq) (E := 22) hq.out hrsa).drewN nn
            have hlsa := least_any _ _ _ hf2a (by simp) (by simp)
            refine wpAny_one 9 _ (by kernel_rfl) rfl rfl fun Ka hKa => ?_
            go_simp
            refine hKa _ _ ?_
            refine wpAny_one 10 _ (by kernel_rfl) rfl rfl fun La hLa => ?_
            go_wp2_with (go_at_call 102; refine hlsa.mono ?_; rintro eLa wLa ⟨ra, na, rfl, rfl, ha⟩)
            refine wpAny_last 11 _ (by kernel_rfl) rfl rfl (by kernel_rfl) fun Ma hMa => ?_
            go_simp
            refine hMa _ _ ?_
            obtain ⟨wa, hwa⟩ : ∃ wa, wa = (wq.alloc (.cells #[.float .f32 rq, .float .f32 rsa] 22)).drewN (nn + na) := ⟨_, rfl⟩
            rw [← hwa]
            have hba : Below wq.heap.size wq wa := by rw [hwa]; exact below_drewN (below1 _ _) _
            clear hwa hlsa hf2a
            have hj1 : Hid (Fl .f32 ra (j1F cs xc d)) := Lib.hid (by have h := ha; rw [least2, Ecp.out] at h; unfold j1F; rw [if_pos hd0]; exact h)
            by_cases hdn : d + 1 < cs.length
            case pos =>
              have hcn := (((bcell hba).1 b (off + (d + 1)) (Nat.lt_of_lt_of_le hbb hbel.size)).trans (hcellH.out (d + 1) hdn))
              obtain ⟨zn, ezn⟩ : ∃ r, r = zs.getD (d + 1) 0 := ⟨_, rfl⟩
              have hzn : wa.cell? ⟨b, off + (d + 1), none⟩ = some (.float .f32 zn) := by rw [ezn]; exact hcn
              obtain ⟨cx, ecx⟩ : ∃ r, r = cs.getD (d + 1) 0 := ⟨_, rfl⟩
              have hFzn : Fl .f32 zn cx := by rw [ezn, ecx]; exact hF'.out (d + 1) (by omega)
              have Ecx := Lib.hid ecx
              clear ezn ecx
              clear hcn
              obtain ⟨lk, pk0, pk1⟩ := (hp1.below hbel).below hba
              have i3 : IntKind.i64.wrap ((d : Int) + 1) = ((d + 1 : Nat) : Int) := by rw [IntWalk.i64_in _ (by omega)]; omega
              have i4 : ((d + 1 : Nat) : Int) < (cs.length : Int) := by omega
              have i6 : (0 : Int) ≤ (d : Int) + 1 := by omega
              go_wp2_with fail
              refine wp_region_cls_tail 9 (by kernel_rfl) (by kernel_rfl) (by rfl) (by kernel_rfl) (by kernel_rfl) (fun w' => ∃ n, w' = wa.drewN n) ⟨1, rfl⟩ [Eq1 ?q482u0, Eq1 ?q482u1, Eq1 ?q482u2, Eq1 ?q482u3, Eq1 ?q482u4, Eq1 ?q482u5, Eq1 ?q482u6, Eq1 ?q482u7, FloatIs .f32 (fop .add .f32 cx xc)] ?q482main
              case q482main =>
                simp only [List.take_succ_cons, List.take_zero]
                (refine wpR_pure ?_ (fun w hw => ?_) ?_; rfl; (obtain ⟨nn, rfl⟩ := hw; go_simp; (try with_reducible rfl)); (try simp only [Act.put, List.setIfInBounds_toArray, List.set_cons_zero, List.set_cons_succ]))
                (refine wpR_pure ?_ (fun w hw => ?_) ?_; rfl; (obtain ⟨nn, rfl⟩ := hw; go_simp; (try with_reducible rfl)); (try simp only [Act.put, List.setIfInBounds_toArray, List.set_cons_zero, List.set_cons_succ]))
                (refine wpR_pure ?_ (fun w hw => ?_) ?_; rfl; (obtain ⟨nn, rfl⟩ := hw; go_simp; (try with_reducible rfl)); (try simp only [Act.put, List.setIfInBounds_toArray, List.set_cons_zero, List.set_cons_succ]))
                (refine wpR_pure ?_ (fun w hw => ?_) ?_; rfl; (obtain ⟨nn, rfl⟩ := hw; go_simp; (try with_reducible rfl)); (try simp only [Act.put, List.setIfInBounds_toArray, List.set_cons_zero, List.set_cons_succ]))
                (refine wpR_pure ?_ (fun w hw => ?_) ?_; rfl; (obtain ⟨nn, rfl⟩ := hw; go_simp; (try with_reducible rfl)); (try simp only [Act.put, List.setIfInBounds_toArray, List.set_cons_zero, List.set_cons_succ]))
                (refine wpR_pure ?_ (fun w hw => ?_) ?_; rfl; (obtain ⟨nn, rfl⟩ := hw; go_simp; (try with_reducible rfl)); (try simp only [Act.put, List.setIfInBounds_toArray, List.set_cons_zero, List.set_cons_succ]))
                (refine wpR_pure ?_ (fun w hw => ?_) ?_; rfl; (obtain ⟨nn, rfl⟩ := hw; go_simp; (try with_reducible rfl)); (try simp only [Act.put, List.setIfInBounds_toArray, List.set_cons_zero, List.set_cons_succ]))
                (refine wpR_pure ?_ (fun w hw => ?_) ?_; rfl; (obtain ⟨nn, rfl⟩ := hw; go_simp; (try with_reducible rfl)); (try simp only [Act.put, List.setIfInBounds_toArray, List.set_cons_zero, List.set_cons_succ]))
                (refine wpR_cls ?_ (fun w hw => ?_) ?_; rfl; (obtain ⟨nn, rfl⟩ := hw; go_simp; exact ⟨⟨_, rfl⟩, _, rfl, Fl.flR (by assumption) (by assumption) _⟩); (rintro _ ⟨_, rfl, _⟩; (try simp only [Act.put, List.setIfInBounds_toArray, List.set_cons_zero, List.set_cons_succ])))
                refine wpR_nil ?_
                rintro w' ⟨nn, rfl⟩
                rename_i rsab hrsab
                have hf2ab := (FC.lit2 (w := wa) (E := 22) hj1.out hrsab).drewN nn
                have hlsab := least_any _ _ _ hf2ab (by simp) (by simp)
                refine wpAny_one 9 _ (by kernel_rfl) rfl rfl fun Kab hKab => ?_
                go_simp
                refine hKab _ _ ?_
                refine wpAny_one 10 _ (by kernel_rfl) rfl rfl fun Lab hLab => ?_
                go_wp2_with (go_at_call 102; refine hlsab.mono ?_; rintro eLab wLab ⟨rab, nab, rfl, rfl, hab⟩)
                refine wpAny_last 11 _ (by kernel_rfl) rfl rfl (by kernel_rfl) fun Mab hMab => ?_
                go_simp
                refine hMab _ _ ?_
                obtain ⟨wab, hwab⟩ : ∃ wab, wab = (wa.alloc (.cells #[.float .f32 ra, .float .f32 rsab] 22)).drewN (nn + nab) := ⟨_, rfl⟩
                rw [← hwab]
                have hbab : Below wa.heap.size wa wab := by rw [hwab]; exact below_drewN (below1 _ _) _
                clear hwab hlsab hf2ab
                have hj : Hid (Fl .f32 rab (j2F cs xc d)) := Lib.hid (by have h := hab; rw [least2, Ecx.out] at h; unfold j2F; rw [if_pos hdn]; exact h)
                have hbk2 : Below wq.heap.size wq wab := hba.trans (hbab.mono hba.size)
                have hlT := least_b _ _ _ (FC.lit2 (w := wab) (E := 22) hj.out hfar.out) (by simp) (by simp)
                obtain ⟨ys, hyz, hym, hrow⟩ := hown.out
                have hyl : ys.length = d := by have h := congrArg List.length hym; rw [List.length_map, seqL_len] at h; exact h
                have hym' := Lib.hid hym
                have hyl' := Lib.hid hyl
                clear hym hyl
                go_wp2_with (first
                  | (go_at_call 102; refine hlT.mono ?_; rintro eT wT ⟨rT, rfl, hbT, hT⟩; have hbqT : Below wq.heap.size wq wT := hbk2.trans (((below1 _ _).trans (hbT.mono (by simp))).mono hbk2.size); have hrowT := (hrow.kept (grown_of_below hbqT none) (own_none _)).alloc (.cells #[.float .f32 rT] 22))
                  | (at_builtin; refine wpList_append_own _ rfl _ _ 37 rfl w1.heap.size 22 i0 (.float .f32 0) 1 4 Try.underlying37 hi hz0 hz1 hz2 rfl (by decide) _ _ _ rfl hrowT ⟨wT.heap.size, 0, none⟩ 1 1 [.float .f32 rT] rfl rfl ?c1ab ?c2ab ?c3ab ?c4ab ?c5ab ?_))
                case c1ab =>
                  intro j u hj
                  match j, hj with
                  | 0, hj => simp at hj; subst hj; simp [Addr.add]
                case c2ab => intro u hu; simp at hu; subst hu; rfl
                case c3ab => have := hyl'.out; unfold maxLen; omega
                case c4ab => have := hyl'.out; omega
                case c5ab => have := hbqT.size; have := hbel.size; simp; omega
                intro v' w5 hown' hgrow _
                have hT2 : Fl .f32 rT (jumpF cs xc yc d) := by rw [least2] at hT; exact hT
                obtain ⟨a3, n3, c3, rfl, hoc, hne⟩ := OC.appended hyz hym'.out hT2 hrowT hgrow hown'
                rw [← seqL_succ] at hoc
                have hbel5 : Below w1.heap.size w1 w5 := ((hbel.trans (hbqT.mono hbel.size)).alloc (Nat.le_trans hbel.size hbqT.size) _).grown hgrow (by have := hbel.size; have := hbqT.size; simp; omega) (fun k hk => (hrowT.lt k hk).1)
                have HS := Lib.hid (And.intro hoc hbel5)
                clear hoc hbel5 hown' hgrow hrowT hrow hbqT hbT hlT hyz hne hbel
                go_wp2_with fail
                go_roundw
                case rel => exact ⟨d + 1, _, _, _, by omega, by go_num, rfl, HS.out.1, HS.out.2⟩
                case measure => simp [intOf]; omega
            case neg =>
              have hj : Hid (Fl .f32 ra (j2F cs xc d)) := Lib.hid (by have h := hj1.out; unfold j2F; rw [if_neg hdn]; exact h)
              have i3 : IntKind.i64.wrap ((d : Int) + 1) = ((d + 1 : Nat) : Int) := by rw [IntWalk.i64_in _ (by omega)]; omega
              have i4 : ¬ ((d + 1 : Nat) : Int) < (cs.length : Int) := by omega
              have hlT := least_b _ _ _ (FC.lit2 (w := wa) (E := 22) hj.out hfar.out) (by simp) (by simp)
              obtain ⟨ys, hyz, hym, hrow⟩ := hown.out
              have hyl : ys.length = d := by have h := congrArg List.length hym; rw [List.length_map, seqL_len] at h; exact h
              have hym' := Lib.hid hym
              have hyl' := Lib.hid hyl
              clear hym hyl
              go_wp2_with (first
                | (go_at_call 102; refine hlT.mono ?_; rintro eT wT ⟨rT, rfl, hbT, hT⟩; have hbqT : Below wq.heap.size wq wT := hba.trans (((below1 _ _).trans (hbT.mono (by simp))).mono hba.size); have hrowT := (hrow.kept (grown_of_below hbqT none) (own_none _)).alloc (.cells #[.float .f32 rT] 22))
                | (at_builtin; refine wpList_append_own _ rfl _ _ 37 rfl w1.heap.size 22 i0 (.float .f32 0) 1 4 Try.underlying37 hi hz0 hz1 hz2 rfl (by decide) _ _ _ rfl hrowT ⟨wT.heap.size, 0, none⟩ 1 1 [.float .f32 rT] rfl rfl ?c1ac ?c2ac ?c3ac ?c4ac ?c5ac ?_))
              case c1ac =>
                intro j u hj
                match j, hj with
                | 0, hj => simp at hj; subst hj; simp [Addr.add]
              case c2ac => intro u hu; simp at hu; subst hu; rfl
              case c3ac => have := hyl'.out; unfold maxLen; omega
              case c4ac => have := hyl'.out; omega
              case c5ac => have := hbqT.size; have := hbel.size; simp; omega
              intro v' w5 hown' hgrow _
              have hT2 : Fl .f32 rT (jumpF cs xc yc d) := by rw [least2] at hT; exact hT
              obtain ⟨a3, n3, c3, rfl, hoc, hne⟩ := OC.appended hyz hym'.out hT2 hrowT hgrow hown'
              rw [← seqL_succ] at hoc
              have hbel5 : Below w1.heap.size w1 w5 := ((hbel.trans (hbqT.mono hbel.size)).alloc (Nat.le_trans hbel.size hbqT.size) _).grown hgrow (by have := hbel.size; have := hbqT.size; simp; omega) (fun k hk => (hrowT.lt k hk).1)
              have HS := Lib.hid (And.intro hoc hbel5)
              clear hoc hbel5 hown' hgrow hrowT hrow hbqT hbT hlT hyz hne hbel
              go_wp2_with fail
              go_roundw
              case rel => exact ⟨d + 1, _, _, _, by omega, by go_num, rfl, HS.out.1, HS.out.2⟩
              case measure => simp [intOf]; omega
        case neg =>
          have i5 : ¬ (0 : Int) < (d : Int) := by omega
          have hj1 : Hid (Fl .f32 rq (j1F cs xc d)) := Lib.hid (by have h := hq.out; unfold j1F; rw [if_neg hd0]; exact h)
          have hb0 : Below wq.heap.size wq wq := Below.refl _ _
          by_cases hdn : d + 1 < cs.length
          case pos =>
            have hcn := (((bcell hb0).1 b (off + (d + 1)) (Nat.lt_of_lt_of_le hbb hbel.size)).trans (hcellH.out (d + 1) hdn))
            obtain ⟨zn, ezn⟩ : ∃ r, r = zs.getD (d + 1) 0 := ⟨_, rfl⟩
            have hzn : wq.cell? ⟨b, off + (d + 1), none⟩ = some (.float .f32 zn) := by rw [ezn]; exact hcn
            obtain ⟨cx, ecx⟩ : ∃ r, r = cs.getD (d + 1) 0 := ⟨_, rfl⟩
            have hFzn : Fl .f32 zn cx := by rw [ezn, ecx]; exact hF'.out (d + 1) (by omega)
            have Ecx := Lib.hid ecx
            clear ezn ecx
            clear hcn
            obtain ⟨lk, pk0, pk1⟩ := (hp1.below hbel).below hb0
            have i3 : IntKind.i64.wrap ((d : Int) + 1) = ((d + 1 : Nat) : Int) := by rw [IntWalk.i64_in _ (by omega)]; omega
            have i4 : ((d + 1 : Nat) : Int) < (cs.length : Int) := by omega
            have i6 : (0 : Int) ≤ (d : Int) + 1 := by omega
            go_wp2_with fail
            refine wp_region_cls_tail 9 (by kernel_rfl) (by kernel_rfl) (by rfl) (by kernel_rfl) (by kernel_rfl) (fun w' => ∃ n, w' = wq.drewN n) ⟨1, rfl⟩ [Eq1 ?q1606u0, Eq1 ?q1606u1, Eq1 ?q1606u2, Eq1 ?q1606u3, Eq1 ?q1606u4, Eq1 ?q1606u5, Eq1 ?q1606u6, Eq1 ?q1606u7, FloatIs .f32 (fop .add .f32 cx xc)] ?q1606main
            case q1606main =>
              simp only [List.take_succ_cons, List.take_zero]
              (refine wpR_pure ?_ (fun w hw => ?_) ?_; rfl; (obtain ⟨nn, rfl⟩ := hw; go_simp; (try with_reducible rfl)); (try simp only [Act.put, List.setIfInBounds_toArray, List.set_cons_zero, List.set_cons_succ]))
              (refine wpR_pure ?_ (fun w hw => ?_) ?_; rfl; (obtain ⟨nn, rfl⟩ := hw; go_simp; (try with_reducible rfl)); (try simp only [Act.put, List.setIfInBounds_toArray, List.set_cons_zero, List.set_cons_succ]))
              (refine wpR_pure ?_ (fun w hw => ?_) ?_; rfl; (obtain ⟨nn, rfl⟩ := hw; go_simp; (try with_reducible rfl)); (try simp only [Act.put, List.setIfInBounds_toArray, List.set_cons_zero, List.set_cons_succ]))
              (refine wpR_pure ?_ (fun w hw => ?_) ?_; rfl; (obtain ⟨nn, rfl⟩ := hw; go_simp; (try with_reducible rfl)); (try simp only [Act.put, List.setIfInBounds_toArray, List.set_cons_zero, List.set_cons_succ]))
              (refine wpR_pure ?_ (fun w hw => ?_) ?_; rfl; (obtain ⟨nn, rfl⟩ := hw; go_simp; (try with_reducible rfl)); (try simp only [Act.put, List.setIfInBounds_toArray, List.set_cons_zero, List.set_cons_succ]))
              (refine wpR_pure ?_ (fun w hw => ?_) ?_; rfl; (obtain ⟨nn, rfl⟩ := hw; go_simp; (try with_reducible rfl)); (try simp only [Act.put, List.setIfInBounds_toArray, List.set_cons_zero, List.set_cons_succ]))
              (refine wpR_pure ?_ (fun w hw => ?_) ?_; rfl; (obtain ⟨nn, rfl⟩ := hw; go_simp; (try with_reducible rfl)); (try simp only [Act.put, List.setIfInBounds_toArray, List.set_cons_zero, List.set_cons_succ]))
              (refine wpR_pure ?_ (fun w hw => ?_) ?_; rfl; (obtain ⟨nn, rfl⟩ := hw; go_simp; (try with_reducible rfl)); (try simp only [Act.put, List.setIfInBounds_toArray, List.set_cons_zero, List.set_cons_succ]))
              (refine wpR_cls ?_ (fun w hw => ?_) ?_; rfl; (obtain ⟨nn, rfl⟩ := hw; go_simp; exact ⟨⟨_, rfl⟩, _, rfl, Fl.flR (by assumption) (by assumption) _⟩); (rintro _ ⟨_, rfl, _⟩; (try simp only [Act.put, List.setIfInBounds_toArray, List.set_cons_zero, List.set_cons_succ])))
              refine wpR_nil ?_
              rintro w' ⟨nn, rfl⟩
              rename_i rszb hrszb
              have hf2zb := (FC.lit2 (w := wq) (E := 22) hj1.out hrszb).drewN nn
              have hlszb := least_any _ _ _ hf2zb (by simp) (by simp)
              refine wpAny_one 9 _ (by kernel_rfl) rfl rfl fun Kzb hKzb => ?_
              go_simp
              refine hKzb _ _ ?_
              refine wpAny_one 10 _ (by kernel_rfl) rfl rfl fun Lzb hLzb => ?_
              go_wp2_with (go_at_call 102; refine hlszb.mono ?_; rintro eLzb wLzb ⟨rzb, nzb, rfl, rfl, hzb⟩)
              refine wpAny_last 11 _ (by kernel_rfl) rfl rfl (by kernel_rfl) fun Mzb hMzb => ?_
              go_simp
              refine hMzb _ _ ?_
              obtain ⟨wzb, hwzb⟩ : ∃ wzb, wzb = (wq.alloc (.cells #[.float .f32 rq, .float .f32 rszb] 22)).drewN (nn + nzb) := ⟨_, rfl⟩
              rw [← hwzb]
              have hbzb : Below wq.heap.size wq wzb := by rw [hwzb]; exact below_drewN (below1 _ _) _
              clear hwzb hlszb hf2zb
              have hj : Hid (Fl .f32 rzb (j2F cs xc d)) := Lib.hid (by have h := hzb; rw [least2, Ecx.out] at h; unfold j2F; rw [if_pos hdn]; exact h)
              have hbk2 : Below wq.heap.size wq wzb := hb0.trans (hbzb.mono hb0.size)
              have hlT := least_b _ _ _ (FC.lit2 (w := wzb) (E := 22) hj.out hfar.out) (by simp) (by simp)
              obtain ⟨ys, hyz, hym, hrow⟩ := hown.out
              have hyl : ys.length = d := by have h := congrArg List.length hym; rw [List.length_map, seqL_len] at h; exact h
              have hym' := Lib.hid hym
              have hyl' := Lib.hid hyl
              clear hym hyl
              go_wp2_with (first
                | (go_at_call 102; refine hlT.mono ?_; rintro eT wT ⟨rT, rfl, hbT, hT⟩; have hbqT : Below wq.heap.size wq wT := hbk2.trans (((below1 _ _).trans (hbT.mono (by simp))).mono hbk2.size); have hrowT := (hrow.kept (grown_of_below hbqT none) (own_none _)).alloc (.cells #[.float .f32 rT] 22))
                | (at_builtin; refine wpList_append_own _ rfl _ _ 37 rfl w1.heap.size 22 i0 (.float .f32 0) 1 4 Try.underlying37 hi hz0 hz1 hz2 rfl (by decide) _ _ _ rfl hrowT ⟨wT.heap.size, 0, none⟩ 1 1 [.float .f32 rT] rfl rfl ?c1zb ?c2zb ?c3zb ?c4zb ?c5zb ?_))
              case c1zb =>
                intro j u hj
                match j, hj with
                | 0, hj => simp at hj; subst hj; simp [Addr.add]
              case c2zb => intro u hu; simp at hu; subst hu; rfl
              case c3zb => have := hyl'.out; unfold maxLen; omega
              case c4zb => have := hyl'.out; omega
              case c5zb => have := hbqT.size; have := hbel.size; simp; omega
              intro v' w5 hown' hgrow _
              have hT2 : Fl .f32 rT (jumpF cs xc yc d) := by rw [least2] at hT; exact hT
              obtain ⟨a3, n3, c3, rfl, hoc, hne⟩ := OC.appended hyz hym'.out hT2 hrowT hgrow hown'
              rw [← seqL_succ] at hoc
              have hbel5 : Below w1.heap.size w1 w5 := ((hbel.trans (hbqT.mono hbel.size)).alloc (Nat.le_trans hbel.size hbqT.size) _).grown hgrow (by have := hbel.size; have := hbqT.size; simp; omega) (fun k hk => (hrowT.lt k hk).1)
              have HS := Lib.hid (And.intro hoc hbel5)
              clear hoc hbel5 hown' hgrow hrowT hrow hbqT hbT hlT hyz hne hbel
              go_wp2_with fail
              go_roundw
              case rel => exact ⟨d + 1, _, _, _, by omega, by go_num, rfl, HS.out.1, HS.out.2⟩
              case measure => simp [intOf]; omega
          case neg =>
            have hj : Hid (Fl .f32 rq (j2F cs xc d)) := Lib.hid (by have h := hj1.out; unfold j2F; rw [if_neg hdn]; exact h)
            have i3 : IntKind.i64.wrap ((d : Int) + 1) = ((d + 1 : Nat) : Int) := by rw [IntWalk.i64_in _ (by omega)]; omega
            have i4 : ¬ ((d + 1 : Nat) : Int) < (cs.length : Int) := by omega
            have hlT := least_b _ _ _ (FC.lit2 (w := wq) (E := 22) hj.out hfar.out) (by simp) (by simp)
            obtain ⟨ys, hyz, hym, hrow⟩ := hown.out
            have hyl : ys.length = d := by have h := congrArg List.length hym; rw [List.length_map, seqL_len] at h; exact h
            have hym' := Lib.hid hym
            have hyl' := Lib.hid hyl
            clear hym hyl
            go_wp2_with (first
              | (go_at_call 102; refine hlT.mono ?_; rintro eT wT ⟨rT, rfl, hbT, hT⟩; have hbqT : Below wq.heap.size wq wT := hb0.trans (((below1 _ _).trans (hbT.mono (by simp))).mono hb0.size); have hrowT := (hrow.kept (grown_of_below hbqT none) (own_none _)).alloc (.cells #[.float .f32 rT] 22))
              | (at_builtin; refine wpList_append_own _ rfl _ _ 37 rfl w1.heap.size 22 i0 (.float .f32 0) 1 4 Try.underlying37 hi hz0 hz1 hz2 rfl (by decide) _ _ _ rfl hrowT ⟨wT.heap.size, 0, none⟩ 1 1 [.float .f32 rT] rfl rfl ?c1zc ?c2zc ?c3zc ?c4zc ?c5zc ?_))
            case c1zc =>
              intro j u hj
              match j, hj with
              | 0, hj => simp at hj; subst hj; simp [Addr.add]
            case c2zc => intro u hu; simp at hu; subst hu; rfl
            case c3zc => have := hyl'.out; unfold maxLen; omega
            case c4zc => have := hyl'.out; omega
            case c5zc => have := hbqT.size; have := hbel.size; simp; omega
            intro v' w5 hown' hgrow _
            have hT2 : Fl .f32 rT (jumpF cs xc yc d) := by rw [least2] at hT; exact hT
            obtain ⟨a3, n3, c3, rfl, hoc, hne⟩ := OC.appended hyz hym'.out hT2 hrowT hgrow hown'
            rw [← seqL_succ] at hoc
            have hbel5 : Below w1.heap.size w1 w5 := ((hbel.trans (hbqT.mono hbel.size)).alloc (Nat.le_trans hbel.size hbqT.size) _).grown hgrow (by have := hbel.size; have := hbqT.size; simp; omega) (fun k hk => (hrowT.lt k hk).1)
            have HS := Lib.hid (And.intro hoc hbel5)
            clear hoc hbel5 hown' hgrow hrowT hrow hbqT hbT hlT hyz hne hbel
            go_wp2_with fail
            go_roundw
            case rel => exact ⟨d + 1, _, _, _, by omega, by go_num, rfl, HS.out.1, HS.out.2⟩
            case measure => simp [intOf]; omega
      · obtain rfl : d = cs.length := by omega
        go_wp2_with fail
        go_ret
        have ho := hown.out
        refine ⟨_, _, _, rfl, ?_, ?_⟩
        · exact hb1.trans (hbel.mono hb1.size)
        · exact ho.mono hb1.size
end Go.Proofs.Ytmgdofengamcmaa
