import Derived.Test.YtmgdofengamcmaaRj
import Derived.Test.YtmgdofengamcmaaR7
import Derived.Deep.RegionLaw
set_option linter.unusedVariables false
set_option linter.unusedSimpArgs false
namespace Go.FX
open Go Go.RowKit
theorem OC.lit1 {w : World} {E : TypeId} {r c : Nat} (h : Fl .f32 r c) : OC (w.alloc (.cells #[.float .f32 r] E)) w.heap.size E (.slice (some ⟨w.heap.size, 0, none⟩) 1 1) [c] := by
  have ho := World.ownsRow_lit (base := w.heap.size) (e := E) (size := 1) w #[.float .f32 r] 1 (Nat.le_refl _) (by simp [maxLen]) (by simp)
  exact ⟨[r], by intro z hz; simp at hz; rw [hz]; exact h.lt, by simp [h.eq], by simpa using ho⟩
theorem leastL_2 (a b : Nat) : leastL ([a] ++ [b]) = minF a b := by rw [leastL_push _ _ (by simp), leastL_one]
theorem leastL_3 (a b c : Nat) : leastL ([a] ++ [b] ++ [c]) = minF (minF a b) c := by rw [leastL_push _ _ (by simp), leastL_2]
theorem leastL_4 (a b c d : Nat) : leastL ([a] ++ [b] ++ [c] ++ [d]) = minF (minF (minF a b) c) d := by rw [leastL_push _ _ (by simp), leastL_3]
end Go.FX
namespace Go.Proofs.Ytmgdofengamcmaa
open Go.FX Go.RowKit Go.WideShapes Go.ChangeShapes

theorem specLeast_b (v : Value) (cs : List Nat) (w : World) (hv : FC w v cs) (h0 : 0 < cs.length) (hmx : cs.length ≤ 1048576) :
    Calls Try.prog 101 #[v] w (RFb .f32 (leastL cs) w) :=
  (specLeast_any v cs w hv h0 hmx).mono fun _ _ ⟨r, n, h1, h2, h3⟩ => ⟨r, h1, by rw [h2]; exact below_drewN (Below.refl _ _) _, h3⟩
set_option maxRecDepth 100000 in
set_option maxHeartbeats 16000000 in
theorem specJumps_any (x xc y yc : Nat) (hx : Fl .f32 x xc) (hy : Fl .f32 y yc) (v : Value) (cs : List Nat) (bp : Nat) (w : World) (hp : P2 w bp x y) (hv : FC w v cs) (h0 : 0 < cs.length) (h8 : cs.length ≤ 8) :
    Calls Try.prog 81 #[v, .pointer (some ⟨bp, 0, none⟩)] w (ROC 22 (jumpsL cs xc yc) w) := by
  obtain ⟨i0, hi, hz0, hz1, hz2⟩ := info_parts info_f32
  obtain ⟨zs, ⟨hz, a', cap', rfl, k1, k2, k3⟩, hzc⟩ := id hv
  have hlz : zs.length = cs.length := by rw [← hzc, List.length_map]
  rcases k3 with k3 | ⟨b, off, rfl, hb, hc⟩
  · subst k3; simp at hlz; omega
  have hF : ∀ k, k < cs.length → Fl .f32 (zs.getD k 0) (cs.getD k 0) := fun k hk => by
    rw [← hzc, getD_map zs k (by omega)]
    exact Fl.of (hz _ (by simp [List.getD, show k < zs.length by omega]))
  rw [hlz] at hv hc k1 ⊢
  clear hzc hz hlz
  have hF' := Lib.hid hF
  have hcH := Lib.hid hc
  clear hF hc
  have hle := specLeast_any _ cs w hv h0 (by omega)
  go_enter Try.func81, Try.ntmps81
  go_wp2_with fail
  refine hle.mono ?_
  rintro e w' ⟨ml, nl, rfl, rfl, hml⟩
  have hml := Lib.hid hml
  go_upto_region 2 with fail
  obtain ⟨w1, hw1⟩ : ∃ w1, w1 = w.drewN nl := ⟨_, rfl⟩
  rw [← hw1]
  have hp1 : P2 w1 bp x y := by rw [hw1]; exact hp.drewN _
  have hb1 : Below w.heap.size w w1 := by rw [hw1]; exact below_drewN (Below.refl _ _) _
  have hbb : b < w1.heap.size := Nat.lt_of_lt_of_le hb hb1.size
  have hc1 : Hid (∀ i, i < cs.length → w1.cell? ⟨b, off + i, none⟩ = some (.float .f32 (zs.getD i 0))) := Lib.hid fun i hi => by rw [(bcell hb1).1 b _ hb]; exact hcH.out i hi
  clear hw1 hv hle
  have hoc0 := Lib.hid (OC.lit0 w1 22)
  go_wp2_with fail
  go_loopw [6, 7] (fun l i wr => ∃ (d : Nat) (a : Option Addr) (n c : Nat), d ≤ cs.length ∧ i = .int .i64 d ∧ l = .slice a n c ∧ Hid (OC wr w1.heap.size 22 (.slice a n c) (seqL (jumpF cs xc yc) d)) ∧ Below w1.heap.size w1 wr) (fun _ i _ => cs.length - (intOf i).toNat)
  case atStart => exact ⟨0, _, _, _, Nat.zero_le _, rfl, rfl, hoc0, below1 _ _⟩
  case round =>
    clear hoc0
    obtain ⟨d, a, n, c, hd, rfl, rfl, hown, hbel⟩ := hrel
    by_cases hld : d < cs.length
    · obtain ⟨wq, rfl⟩ : ∃ wq : World, wq = wr := ⟨_, rfl⟩
      have hcell := fun i (hi : i < cs.length) => ((bcell hbel).1 b (off + i) hbb).trans (hc1.out i hi)
      obtain ⟨rq, hrq⟩ : ∃ r, r = zs.getD d 0 := ⟨_, rfl⟩
      have hcd : wq.cell? ⟨b, off + d, none⟩ = some (.float .f32 rq) := by rw [hrq]; exact hcell d hld
      have hq : Hid (Fl .f32 rq (cs.getD d 0)) := Lib.hid (by rw [hrq]; exact hF'.out d hld)
      have hcellH := Lib.hid hcell
      clear hrq hcell
      have i7 : (d : Int) < (cs.length : Int) := by omega
      go_upto_region 6 with fail
      have hl1 := Lib.hid (OC.lit1 (w := wq) (E := 22) hq.out)
      obtain ⟨wl, hwl⟩ : ∃ wl, wl = wq.alloc (.cells #[.float .f32 rq] 22) := ⟨_, rfl⟩
      rw [← hwl] at hl1
      have hbk : Below wq.heap.size wq wl := by rw [hwl]; exact below1 _ _
      by_cases hd0 : 0 < d
      case pos =>
        have hcp := (((bcell hbk).1 b (off + (d - 1)) (Nat.lt_of_lt_of_le hbb hbel.size)).trans (hcellH.out (d - 1) (by omega)))
        obtain ⟨zp, ezp⟩ : ∃ r, r = zs.getD (d - 1) 0 := ⟨_, rfl⟩
        have hzp : wl.cell? ⟨b, off + (d - 1), none⟩ = some (.float .f32 zp) := by rw [ezp]; exact hcp
        obtain ⟨cpv, ecpv⟩ : ∃ r, r = cs.getD (d - 1) 0 := ⟨_, rfl⟩
        have hFzp : Fl .f32 zp cpv := by rw [ezp, ecpv]; exact hF'.out (d - 1) (by omega)
        have Ecpv := Lib.hid ecpv
        clear ezp ecpv
        clear hcp
        obtain ⟨lk, pk0, pk1⟩ := (hp1.below hbel).below hbk
        have i1 : IntKind.i64.wrap ((d : Int) - 1) = ((d - 1 : Nat) : Int) := by rw [IntWalk.i64_in _ (by omega)]; omega
        have i2 : d - 1 < cs.length := by omega
        have i5 : (0 : Int) < (d : Int) := by omega
        go_wp2_with fail
        rw [← hwl]
        clear hwl
        go_cut [8] (fun s8 wx => ∃ (aa : Option Addr) (na ca : Nat), s8 = .slice aa na ca ∧ Hid (OC wx wq.heap.size 22 (.slice aa na ca) ([cs.getD d 0] ++ [fop .add .f32 cpv xc])) ∧ Below wq.heap.size wq wx)
        case first =>
          obtain ⟨lsp, lzp, lmp, hrowp⟩ := hl1.out
          have lmp' := Lib.hid lmp
          have llp : lsp.length ≤ 4 := by have h := congrArg List.length lmp; rw [List.length_map] at h; simp at h; omega
          clear lmp
          have hrwp : ∀ (o : Obj) (m : Nat), ((wl.alloc o).drewN m).ownsRow wq.heap.size 22 1 (.slice (some ⟨wq.heap.size, 0, none⟩) 1 1) lsp.length (lsp.map (.float .f32)) := fun o m => hrowp.alloc o
          have hszp : wq.heap.size ≤ wl.heap.size := hbk.size
          go_region_law ((refine step_append_lies _ (by rfl) _ _ _ (by rfl) wq.heap.size 22 i0 _ 1 4 Try.underlying37 hi hz0 hz1 hz2 rfl (by omega) (.slice (some ⟨wq.heap.size, 0, none⟩) 1 1) lsp.length (lsp.map (.float .f32)) (by rfl) (hrwp _ _) ⟨wl.heap.size, 0, none⟩ 1 1 [.float .f32 (flR .add .f32 zp x wl.drew)] (by rfl) (by rfl) (World.news_of_block (cs := #[.float .f32 (flR .add .f32 zp x wl.drew)]) (t := 22) (fr := (0, 0)) (heap_alloc_new wl _)) (by simp [Value.oneCell']) (by omega) (by unfold maxLen; omega) (by omega) (by simp; omega) (wl.heap.size + 1) (by simp) ?_; intro ggp capp wp hownp hgrowp hatp hltp))
          all_goals
            have hlp : Hid (OC wp wq.heap.size 22 (.slice (some ⟨ggp, 0, none⟩) (lsp.length + 1) capp) ([cs.getD d 0] ++ [fop .add .f32 cpv xc])) := Lib.hid (OC.push lzp lmp'.out (Fl.flR hFzp hx _) hownp)
            have hbx : Below wq.heap.size wq ((wl.alloc (.cells #[.float .f32 (flR .add .f32 zp x wl.drew)] 22)).drewN 0) := hbk.alloc hszp _
            have hbkp : Below wq.heap.size wq wp := ⟨hgrowp.os.trans hbx.os, hgrowp.tape.trans hbx.tape, hgrowp.output.trans hbx.output, Nat.le_trans hbx.size hgrowp.size, fun k hk => (hgrowp.block k (Nat.lt_of_lt_of_le hk hbx.size) (fun e => by have h := (hrowp.lt k e.symm).1; omega)).trans (hbx.block k hk)⟩
            clear hgrowp hownp hatp hrowp hrwp hbx
            go_wp2_with fail
            go_meet
            exact ⟨_, _, _, rfl, hlp, hbkp⟩
        case rest =>
          obtain ⟨ap, np, cp, rfl, hlp, hbkp⟩ := hcut
          obtain ⟨wp, hVp⟩ : ∃ V, V = wc := ⟨_, rfl⟩
          subst hVp
          by_cases hdn : d + 1 < cs.length
          case pos =>
            have hcn := (((bcell hbkp).1 b (off + (d + 1)) (Nat.lt_of_lt_of_le hbb hbel.size)).trans (hcellH.out (d + 1) hdn))
            obtain ⟨zn, ezn⟩ : ∃ r, r = zs.getD (d + 1) 0 := ⟨_, rfl⟩
            have hzn : wp.cell? ⟨b, off + (d + 1), none⟩ = some (.float .f32 zn) := by rw [ezn]; exact hcn
            obtain ⟨cx, ecx⟩ : ∃ r, r = cs.getD (d + 1) 0 := ⟨_, rfl⟩
            have hFzn : Fl .f32 zn cx := by rw [ezn, ecx]; exact hF'.out (d + 1) (by omega)
            have Ecx := Lib.hid ecx
            clear ezn ecx
            clear hcn
            obtain ⟨lkn, pn0, pn1⟩ := (hp1.below hbel).below hbkp
            have i3 : IntKind.i64.wrap ((d : Int) + 1) = ((d + 1 : Nat) : Int) := by rw [IntWalk.i64_in _ (by omega)]; omega
            have i4 : ((d + 1 : Nat) : Int) < (cs.length : Int) := by omega
            have i6 : (0 : Int) ≤ (d : Int) + 1 := by omega
            go_wp2_with fail
            go_cut [8] (fun s8 wx => ∃ (aa : Option Addr) (na ca : Nat), s8 = .slice aa na ca ∧ Hid (OC wx wq.heap.size 22 (.slice aa na ca) (([cs.getD d 0] ++ [fop .add .f32 cpv xc]) ++ [fop .add .f32 cx xc])) ∧ Below wq.heap.size wq wx)
            case first =>
              obtain ⟨lspn, lzpn, lmpn, hrowpn⟩ := hlp.out
              have lmpn' := Lib.hid lmpn
              have llpn : lspn.length ≤ 4 := by have h := congrArg List.length lmpn; rw [List.length_map] at h; simp at h; omega
              clear lmpn
              have hrwpn : ∀ (o : Obj) (m : Nat), ((wp.alloc o).drewN m).ownsRow wq.heap.size 22 1 (.slice ap np cp) lspn.length (lspn.map (.float .f32)) := fun o m => hrowpn.alloc o
              have hszpn : wq.heap.size ≤ wp.heap.size := hbkp.size
              go_region_law ((refine step_append_lies _ (by rfl) _ _ _ (by rfl) wq.heap.size 22 i0 _ 1 4 Try.underlying37 hi hz0 hz1 hz2 rfl (by omega) (.slice ap np cp) lspn.length (lspn.map (.float .f32)) (by rfl) (hrwpn _ _) ⟨wp.heap.size, 0, none⟩ 1 1 [.float .f32 (flR .add .f32 zn x wp.drew)] (by rfl) (by rfl) (World.news_of_block (cs := #[.float .f32 (flR .add .f32 zn x wp.drew)]) (t := 22) (fr := (0, 0)) (heap_alloc_new wp _)) (by simp [Value.oneCell']) (by omega) (by unfold maxLen; omega) (by omega) (by simp; omega) (wp.heap.size + 1) (by simp) ?_; intro ggpn cappn wpn hownpn hgrowpn hatpn hltpn))
              all_goals
                have hlpn : Hid (OC wpn wq.heap.size 22 (.slice (some ⟨ggpn, 0, none⟩) (lspn.length + 1) cappn) (([cs.getD d 0] ++ [fop .add .f32 cpv xc]) ++ [fop .add .f32 cx xc])) := Lib.hid (OC.push lzpn lmpn'.out (Fl.flR hFzn hx _) hownpn)
                have hbx : Below wq.heap.size wq ((wp.alloc (.cells #[.float .f32 (flR .add .f32 zn x wp.drew)] 22)).drewN 0) := hbkp.alloc hszpn _
                have hbkpn : Below wq.heap.size wq wpn := ⟨hgrowpn.os.trans hbx.os, hgrowpn.tape.trans hbx.tape, hgrowpn.output.trans hbx.output, Nat.le_trans hbx.size hgrowpn.size, fun k hk => (hgrowpn.block k (Nat.lt_of_lt_of_le hk hbx.size) (fun e => by have h := (hrowpn.lt k e.symm).1; omega)).trans (hbx.block k hk)⟩
                clear hgrowpn hownpn hatpn hrowpn hrwpn hbx
                go_wp2_with fail
                go_meet
                exact ⟨_, _, _, rfl, hlpn, hbkpn⟩
            case rest =>
              obtain ⟨apn, npn, cpn, rfl, hlpn, hbkpn⟩ := hcut
              obtain ⟨wpn, hVpn⟩ : ∃ V, V = wc := ⟨_, rfl⟩
              subst hVpn
              obtain ⟨lkpnf, pm0, pm1⟩ := (hp1.below hbel).below hbkpn
              obtain ⟨lspnf, lzpnf, lmpnf, hrowpnf⟩ := hlpn.out
              have lmpnf' := Lib.hid lmpnf
              have llpnf : lspnf.length ≤ 4 := by have h := congrArg List.length lmpnf; rw [List.length_map] at h; simp at h; omega
              clear lmpnf
              have hrwpnf : ∀ (o : Obj) (m : Nat), ((wpn.alloc o).drewN m).ownsRow wq.heap.size 22 1 (.slice apn npn cpn) lspnf.length (lspnf.map (.float .f32)) := fun o m => hrowpnf.alloc o
              have hszpnf : wq.heap.size ≤ wpn.heap.size := hbkpn.size
              obtain ⟨ys, hyz, hym, hrow⟩ := hown.out
              have hyl : ys.length = d := by have h := congrArg List.length hym; rw [List.length_map, seqL_len] at h; exact h
              have hym' := Lib.hid hym
              have hyl' := Lib.hid hyl
              clear hym hyl
              have hrowq : ∀ w9, Below wq.heap.size wq w9 → w9.ownsRow w1.heap.size 22 1 (.slice a n c) ys.length (ys.map (.float .f32)) := fun w9 h9 => hrow.kept (grown_of_below h9 none) (own_none _)
              have hlsq : ∀ w9 v9 (c9 : List Nat), OC w9 wq.heap.size 22 v9 c9 → 0 < c9.length → c9.length ≤ 1048576 → Calls Try.prog 101 #[v9] w9 (RFb .f32 (leastL c9) w9) := fun w9 v9 c9 h9 h1 h2 => specLeast_b v9 c9 w9 h9.fc h1 h2
              go_wp2_with (at_builtin; refine wpList_append_lies _ (by rfl) _ _ _ (by rfl) wq.heap.size 22 i0 _ 1 4 Try.underlying37 hi hz0 hz1 hz2 rfl (by omega) (.slice apn npn cpn) lspnf.length (lspnf.map (.float .f32)) (by rfl) (hrwpnf _ _) ⟨wpn.heap.size, 0, none⟩ 1 1 [.float .f32 (flR .add .f32 y ml wpn)] (by rfl) (by rfl) (World.news_of_block (cs := #[.float .f32 (flR .add .f32 y ml wpn)]) (t := 22) (fr := (0, 0)) (heap_alloc_new wpn _)) (by simp [Value.oneCell']) (by omega) (by unfold maxLen; omega) (by omega) (by simp; omega) (wpn.heap.size + 1) (by simp) ?_; intro ggpnf cappnf wpnf hownpnf hgrowpnf hatpnf hltpnf)
              have hlpnf : Hid (OC wpnf wq.heap.size 22 (.slice (some ⟨ggpnf, 0, none⟩) (lspnf.length + 1) cappnf) (([cs.getD d 0] ++ [fop .add .f32 cpv xc]) ++ [fop .add .f32 cx xc] ++ [farF cs yc])) := Lib.hid (OC.push lzpnf lmpnf'.out (Fl.flR hy hml.out _) hownpnf)
              have hbx : Below wq.heap.size wq ((wpn.alloc (.cells #[.float .f32 (flR .add .f32 y ml wpn)] 22)).drewN 0) := hbkpn.alloc hszpnf _
              have hbkpnf : Below wq.heap.size wq wpnf := ⟨hgrowpnf.os.trans hbx.os, hgrowpnf.tape.trans hbx.tape, hgrowpnf.output.trans hbx.output, Nat.le_trans hbx.size hgrowpnf.size, fun k hk => (hgrowpnf.block k (Nat.lt_of_lt_of_le hk hbx.size) (fun e => by have h := (hrowpnf.lt k e.symm).1; omega)).trans (hbx.block k hk)⟩
              clear hgrowpnf hownpnf hatpnf hrowpnf hrwpnf hbx
              have hlT := hlsq _ _ _ hlpnf.out (by simp) (by simp)
              go_wp2_with (first
                | (go_at_call 101; refine hlT.mono ?_; rintro eT wT ⟨rT, rfl, hbT, hT⟩; have hbqT : Below wq.heap.size wq wT := hbkpnf.trans (hbT.mono hbkpnf.size); have hrowT := (hrowq wT hbqT).alloc (.cells #[.float .f32 rT] 22))
                | (at_builtin; refine wpList_append_own _ rfl _ _ 37 rfl w1.heap.size 22 i0 (.float .f32 0) 1 4 Try.underlying37 hi hz0 hz1 hz2 rfl (by decide) _ _ _ rfl hrowT ⟨wT.heap.size, 0, none⟩ 1 1 [.float .f32 rT] rfl rfl ?c1pnf ?c2pnf ?c3pnf ?c4pnf ?c5pnf ?_))
              case c1pnf =>
                intro j u hj
                match j, hj with
                | 0, hj => simp at hj; subst hj; simp [Addr.add]
              case c2pnf => intro u hu; simp at hu; subst hu; rfl
              case c3pnf => have := hyl'.out; unfold maxLen; omega
              case c4pnf => have := hyl'.out; omega
              case c5pnf => have := hbqT.size; have := hbel.size; simp; omega
              intro v' w5 hown' hgrow _
              have hT2 : Fl .f32 rT (jumpF cs xc yc d) := by
                have h := hT
                rw [leastL_4] at h
                unfold jumpF j2F j1F
                rw [if_pos hdn, if_pos hd0]
                rw [Ecpv.out, Ecx.out] at h
                exact h
              obtain ⟨a3, n3, c3, rfl, hoc, hne⟩ := OC.appended hyz hym'.out hT2 hrowT hgrow hown'
              rw [← seqL_succ] at hoc
              have hbel5 : Below w1.heap.size w1 w5 := ((hbel.trans (hbqT.mono hbel.size)).alloc (Nat.le_trans hbel.size hbqT.size) _).grown hgrow (by have := hbel.size; have := hbqT.size; simp; omega) (fun k hk => (hrowT.lt k hk).1)
              have HS := Lib.hid (And.intro hoc hbel5)
              clear hoc hbel5 hown' hgrow hrowT hrow hbqT hbT hlT hyz hne hbel
              go_wp2_with fail
              go_roundw
              case rel => exact ⟨d + 1, _, _, _, by omega, by go_num, rfl, HS.out.1, HS.out.2⟩
              case measure => simp [intOf]; omega
          case neg =>
            have i3 : IntKind.i64.wrap ((d : Int) + 1) = ((d + 1 : Nat) : Int) := by rw [IntWalk.i64_in _ (by omega)]; omega
            have i4 : ¬ ((d + 1 : Nat) : Int) < (cs.length : Int) := by omega
            obtain ⟨lkpof, pm0, pm1⟩ := (hp1.below hbel).below hbkp
            obtain ⟨lspof, lzpof, lmpof, hrowpof⟩ := hlp.out
            have lmpof' := Lib.hid lmpof
            have llpof : lspof.length ≤ 4 := by have h := congrArg List.length lmpof; rw [List.length_map] at h; simp at h; omega
            clear lmpof
            have hrwpof : ∀ (o : Obj) (m : Nat), ((wp.alloc o).drewN m).ownsRow wq.heap.size 22 1 (.slice ap np cp) lspof.length (lspof.map (.float .f32)) := fun o m => hrowpof.alloc o
            have hszpof : wq.heap.size ≤ wp.heap.size := hbkp.size
            obtain ⟨ys, hyz, hym, hrow⟩ := hown.out
            have hyl : ys.length = d := by have h := congrArg List.length hym; rw [List.length_map, seqL_len] at h; exact h
            have hym' := Lib.hid hym
            have hyl' := Lib.hid hyl
            clear hym hyl
            have hrowq : ∀ w9, Below wq.heap.size wq w9 → w9.ownsRow w1.heap.size 22 1 (.slice a n c) ys.length (ys.map (.float .f32)) := fun w9 h9 => hrow.kept (grown_of_below h9 none) (own_none _)
            have hlsq : ∀ w9 v9 (c9 : List Nat), OC w9 wq.heap.size 22 v9 c9 → 0 < c9.length → c9.length ≤ 1048576 → Calls Try.prog 101 #[v9] w9 (RFb .f32 (leastL c9) w9) := fun w9 v9 c9 h9 h1 h2 => specLeast_b v9 c9 w9 h9.fc h1 h2
            go_wp2_with (at_builtin; refine wpList_append_lies _ (by rfl) _ _ _ (by rfl) wq.heap.size 22 i0 _ 1 4 Try.underlying37 hi hz0 hz1 hz2 rfl (by omega) (.slice ap np cp) lspof.length (lspof.map (.float .f32)) (by rfl) (hrwpof _ _) ⟨wp.heap.size, 0, none⟩ 1 1 [.float .f32 (flR .add .f32 y ml wp)] (by rfl) (by rfl) (World.news_of_block (cs := #[.float .f32 (flR .add .f32 y ml wp)]) (t := 22) (fr := (0, 0)) (heap_alloc_new wp _)) (by simp [Value.oneCell']) (by omega) (by unfold maxLen; omega) (by omega) (by simp; omega) (wp.heap.size + 1) (by simp) ?_; intro ggpof cappof wpof hownpof hgrowpof hatpof hltpof)
            have hlpof : Hid (OC wpof wq.heap.size 22 (.slice (some ⟨ggpof, 0, none⟩) (lspof.length + 1) cappof) (([cs.getD d 0] ++ [fop .add .f32 cpv xc]) ++ [farF cs yc])) := Lib.hid (OC.push lzpof lmpof'.out (Fl.flR hy hml.out _) hownpof)
            have hbx : Below wq.heap.size wq ((wp.alloc (.cells #[.float .f32 (flR .add .f32 y ml wp)] 22)).drewN 0) := hbkp.alloc hszpof _
            have hbkpof : Below wq.heap.size wq wpof := ⟨hgrowpof.os.trans hbx.os, hgrowpof.tape.trans hbx.tape, hgrowpof.output.trans hbx.output, Nat.le_trans hbx.size hgrowpof.size, fun k hk => (hgrowpof.block k (Nat.lt_of_lt_of_le hk hbx.size) (fun e => by have h := (hrowpof.lt k e.symm).1; omega)).trans (hbx.block k hk)⟩
            clear hgrowpof hownpof hatpof hrowpof hrwpof hbx
            have hlT := hlsq _ _ _ hlpof.out (by simp) (by simp)
            go_wp2_with (first
              | (go_at_call 101; refine hlT.mono ?_; rintro eT wT ⟨rT, rfl, hbT, hT⟩; have hbqT : Below wq.heap.size wq wT := hbkpof.trans (hbT.mono hbkpof.size); have hrowT := (hrowq wT hbqT).alloc (.cells #[.float .f32 rT] 22))
              | (at_builtin; refine wpList_append_own _ rfl _ _ 37 rfl w1.heap.size 22 i0 (.float .f32 0) 1 4 Try.underlying37 hi hz0 hz1 hz2 rfl (by decide) _ _ _ rfl hrowT ⟨wT.heap.size, 0, none⟩ 1 1 [.float .f32 rT] rfl rfl ?c1pof ?c2pof ?c3pof ?c4pof ?c5pof ?_))
            case c1pof =>
              intro j u hj
              match j, hj with
              | 0, hj => simp at hj; subst hj; simp [Addr.add]
            case c2pof => intro u hu; simp at hu; subst hu; rfl
            case c3pof => have := hyl'.out; unfold maxLen; omega
            case c4pof => have := hyl'.out; omega
            case c5pof => have := hbqT.size; have := hbel.size; simp; omega
            intro v' w5 hown' hgrow _
            have hT2 : Fl .f32 rT (jumpF cs xc yc d) := by
              have h := hT
              rw [leastL_3] at h
              unfold jumpF j2F j1F
              rw [if_neg hdn, if_pos hd0]
              rw [Ecpv.out] at h
              exact h
            obtain ⟨a3, n3, c3, rfl, hoc, hne⟩ := OC.appended hyz hym'.out hT2 hrowT hgrow hown'
            rw [← seqL_succ] at hoc
            have hbel5 : Below w1.heap.size w1 w5 := ((hbel.trans (hbqT.mono hbel.size)).alloc (Nat.le_trans hbel.size hbqT.size) _).grown hgrow (by have := hbel.size; have := hbqT.size; simp; omega) (fun k hk => (hrowT.lt k hk).1)
            have HS := Lib.hid (And.intro hoc hbel5)
            clear hoc hbel5 hown' hgrow hrowT hrow hbqT hbT hlT hyz hne hbel
            go_wp2_with fail
            go_roundw
            case rel => exact ⟨d + 1, _, _, _, by omega, by go_num, rfl, HS.out.1, HS.out.2⟩
            case measure => simp [intOf]; omega
      case neg =>
        have i5 : ¬ (0 : Int) < (d : Int) := by omega
        by_cases hdn : d + 1 < cs.length
        case pos =>
          have hcn := (((bcell hbk).1 b (off + (d + 1)) (Nat.lt_of_lt_of_le hbb hbel.size)).trans (hcellH.out (d + 1) hdn))
          obtain ⟨zn, ezn⟩ : ∃ r, r = zs.getD (d + 1) 0 := ⟨_, rfl⟩
          have hzn : wl.cell? ⟨b, off + (d + 1), none⟩ = some (.float .f32 zn) := by rw [ezn]; exact hcn
          obtain ⟨cx, ecx⟩ : ∃ r, r = cs.getD (d + 1) 0 := ⟨_, rfl⟩
          have hFzn : Fl .f32 zn cx := by rw [ezn, ecx]; exact hF'.out (d + 1) (by omega)
          have Ecx := Lib.hid ecx
          clear ezn ecx
          clear hcn
          obtain ⟨lkn, pn0, pn1⟩ := (hp1.below hbel).below hbk
          have i3 : IntKind.i64.wrap ((d : Int) + 1) = ((d + 1 : Nat) : Int) := by rw [IntWalk.i64_in _ (by omega)]; omega
          have i4 : ((d + 1 : Nat) : Int) < (cs.length : Int) := by omega
          have i6 : (0 : Int) ≤ (d : Int) + 1 := by omega
          go_wp2_with fail
          rw [← hwl]
          clear hwl
          go_cut [8] (fun s8 wx => ∃ (aa : Option Addr) (na ca : Nat), s8 = .slice aa na ca ∧ Hid (OC wx wq.heap.size 22 (.slice aa na ca) ([cs.getD d 0] ++ [fop .add .f32 cx xc])) ∧ Below wq.heap.size wq wx)
          case first =>
            obtain ⟨lszn, lzzn, lmzn, hrowzn⟩ := hl1.out
            have lmzn' := Lib.hid lmzn
            have llzn : lszn.length ≤ 4 := by have h := congrArg List.length lmzn; rw [List.length_map] at h; simp at h; omega
            clear lmzn
            have hrwzn : ∀ (o : Obj) (m : Nat), ((wl.alloc o).drewN m).ownsRow wq.heap.size 22 1 (.slice (some ⟨wq.heap.size, 0, none⟩) 1 1) lszn.length (lszn.map (.float .f32)) := fun o m => hrowzn.alloc o
            have hszzn : wq.heap.size ≤ wl.heap.size := hbk.size
            go_region_law ((refine step_append_lies _ (by rfl) _ _ _ (by rfl) wq.heap.size 22 i0 _ 1 4 Try.underlying37 hi hz0 hz1 hz2 rfl (by omega) (.slice (some ⟨wq.heap.size, 0, none⟩) 1 1) lszn.length (lszn.map (.float .f32)) (by rfl) (hrwzn _ _) ⟨wl.heap.size, 0, none⟩ 1 1 [.float .f32 (flR .add .f32 zn x wl.drew)] (by rfl) (by rfl) (World.news_of_block (cs := #[.float .f32 (flR .add .f32 zn x wl.drew)]) (t := 22) (fr := (0, 0)) (heap_alloc_new wl _)) (by simp [Value.oneCell']) (by omega) (by unfold maxLen; omega) (by omega) (by simp; omega) (wl.heap.size + 1) (by simp) ?_; intro ggzn capzn wzn hownzn hgrowzn hatzn hltzn))
            all_goals
              have hlzn : Hid (OC wzn wq.heap.size 22 (.slice (some ⟨ggzn, 0, none⟩) (lszn.length + 1) capzn) ([cs.getD d 0] ++ [fop .add .f32 cx xc])) := Lib.hid (OC.push lzzn lmzn'.out (Fl.flR hFzn hx _) hownzn)
              have hbx : Below wq.heap.size wq ((wl.alloc (.cells #[.float .f32 (flR .add .f32 zn x wl.drew)] 22)).drewN 0) := hbk.alloc hszzn _
              have hbkzn : Below wq.heap.size wq wzn := ⟨hgrowzn.os.trans hbx.os, hgrowzn.tape.trans hbx.tape, hgrowzn.output.trans hbx.output, Nat.le_trans hbx.size hgrowzn.size, fun k hk => (hgrowzn.block k (Nat.lt_of_lt_of_le hk hbx.size) (fun e => by have h := (hrowzn.lt k e.symm).1; omega)).trans (hbx.block k hk)⟩
              clear hgrowzn hownzn hatzn hrowzn hrwzn hbx
              go_wp2_with fail
              go_meet
              exact ⟨_, _, _, rfl, hlzn, hbkzn⟩
          case rest =>
            obtain ⟨azn, nzn, czn, rfl, hlzn, hbkzn⟩ := hcut
            obtain ⟨wzn, hVzn⟩ : ∃ V, V = wc := ⟨_, rfl⟩
            subst hVzn
            obtain ⟨lkznf, pm0, pm1⟩ := (hp1.below hbel).below hbkzn
            obtain ⟨lsznf, lzznf, lmznf, hrowznf⟩ := hlzn.out
            have lmznf' := Lib.hid lmznf
            have llznf : lsznf.length ≤ 4 := by have h := congrArg List.length lmznf; rw [List.length_map] at h; simp at h; omega
            clear lmznf
            have hrwznf : ∀ (o : Obj) (m : Nat), ((wzn.alloc o).drewN m).ownsRow wq.heap.size 22 1 (.slice azn nzn czn) lsznf.length (lsznf.map (.float .f32)) := fun o m => hrowznf.alloc o
            have hszznf : wq.heap.size ≤ wzn.heap.size := hbkzn.size
            obtain ⟨ys, hyz, hym, hrow⟩ := hown.out
            have hyl : ys.length = d := by have h := congrArg List.length hym; rw [List.length_map, seqL_len] at h; exact h
            have hym' := Lib.hid hym
            have hyl' := Lib.hid hyl
            clear hym hyl
            have hrowq : ∀ w9, Below wq.heap.size wq w9 → w9.ownsRow w1.heap.size 22 1 (.slice a n c) ys.length (ys.map (.float .f32)) := fun w9 h9 => hrow.kept (grown_of_below h9 none) (own_none _)
            have hlsq : ∀ w9 v9 (c9 : List Nat), OC w9 wq.heap.size 22 v9 c9 → 0 < c9.length → c9.length ≤ 1048576 → Calls Try.prog 101 #[v9] w9 (RFb .f32 (leastL c9) w9) := fun w9 v9 c9 h9 h1 h2 => specLeast_b v9 c9 w9 h9.fc h1 h2
            go_wp2_with (at_builtin; refine wpList_append_lies _ (by rfl) _ _ _ (by rfl) wq.heap.size 22 i0 _ 1 4 Try.underlying37 hi hz0 hz1 hz2 rfl (by omega) (.slice azn nzn czn) lsznf.length (lsznf.map (.float .f32)) (by rfl) (hrwznf _ _) ⟨wzn.heap.size, 0, none⟩ 1 1 [.float .f32 (flR .add .f32 y ml wzn)] (by rfl) (by rfl) (World.news_of_block (cs := #[.float .f32 (flR .add .f32 y ml wzn)]) (t := 22) (fr := (0, 0)) (heap_alloc_new wzn _)) (by simp [Value.oneCell']) (by omega) (by unfold maxLen; omega) (by omega) (by simp; omega) (wzn.heap.size + 1) (by simp) ?_; intro ggznf capznf wznf hownznf hgrowznf hatznf hltznf)
            have hlznf : Hid (OC wznf wq.heap.size 22 (.slice (some ⟨ggznf, 0, none⟩) (lsznf.length + 1) capznf) ([cs.getD d 0] ++ [fop .add .f32 cx xc] ++ [farF cs yc])) := Lib.hid (OC.push lzznf lmznf'.out (Fl.flR hy hml.out _) hownznf)
            have hbx : Below wq.heap.size wq ((wzn.alloc (.cells #[.float .f32 (flR .add .f32 y ml wzn)] 22)).drewN 0) := hbkzn.alloc hszznf _
            have hbkznf : Below wq.heap.size wq wznf := ⟨hgrowznf.os.trans hbx.os, hgrowznf.tape.trans hbx.tape, hgrowznf.output.trans hbx.output, Nat.le_trans hbx.size hgrowznf.size, fun k hk => (hgrowznf.block k (Nat.lt_of_lt_of_le hk hbx.size) (fun e => by have h := (hrowznf.lt k e.symm).1; omega)).trans (hbx.block k hk)⟩
            clear hgrowznf hownznf hatznf hrowznf hrwznf hbx
            have hlT := hlsq _ _ _ hlznf.out (by simp) (by simp)
            go_wp2_with (first
              | (go_at_call 101; refine hlT.mono ?_; rintro eT wT ⟨rT, rfl, hbT, hT⟩; have hbqT : Below wq.heap.size wq wT := hbkznf.trans (hbT.mono hbkznf.size); have hrowT := (hrowq wT hbqT).alloc (.cells #[.float .f32 rT] 22))
              | (at_builtin; refine wpList_append_own _ rfl _ _ 37 rfl w1.heap.size 22 i0 (.float .f32 0) 1 4 Try.underlying37 hi hz0 hz1 hz2 rfl (by decide) _ _ _ rfl hrowT ⟨wT.heap.size, 0, none⟩ 1 1 [.float .f32 rT] rfl rfl ?c1znf ?c2znf ?c3znf ?c4znf ?c5znf ?_))
            case c1znf =>
              intro j u hj
              match j, hj with
              | 0, hj => simp at hj; subst hj; simp [Addr.add]
            case c2znf => intro u hu; simp at hu; subst hu; rfl
            case c3znf => have := hyl'.out; unfold maxLen; omega
            case c4znf => have := hyl'.out; omega
            case c5znf => have := hbqT.size; have := hbel.size; simp; omega
            intro v' w5 hown' hgrow _
            have hT2 : Fl .f32 rT (jumpF cs xc yc d) := by
              have h := hT
              rw [leastL_3] at h
              unfold jumpF j2F j1F
              rw [if_pos hdn, if_neg hd0]
              rw [Ecx.out] at h
              exact h
            obtain ⟨a3, n3, c3, rfl, hoc, hne⟩ := OC.appended hyz hym'.out hT2 hrowT hgrow hown'
            rw [← seqL_succ] at hoc
            have hbel5 : Below w1.heap.size w1 w5 := ((hbel.trans (hbqT.mono hbel.size)).alloc (Nat.le_trans hbel.size hbqT.size) _).grown hgrow (by have := hbel.size; have := hbqT.size; simp; omega) (fun k hk => (hrowT.lt k hk).1)
            have HS := Lib.hid (And.intro hoc hbel5)
            clear hoc hbel5 hown' hgrow hrowT hrow hbqT hbT hlT hyz hne hbel
            go_wp2_with fail
            go_roundw
            case rel => exact ⟨d + 1, _, _, _, by omega, by go_num, rfl, HS.out.1, HS.out.2⟩
            case measure => simp [intOf]; omega
        case neg =>
          have i3 : IntKind.i64.wrap ((d : Int) + 1) = ((d + 1 : Nat) : Int) := by rw [IntWalk.i64_in _ (by omega)]; omega
          have i4 : ¬ ((d + 1 : Nat) : Int) < (cs.length : Int) := by omega
          go_upto_region 11 with fail
          rw [← hwl]
          clear hwl
          obtain ⟨lkzof, pm0, pm1⟩ := (hp1.below hbel).below hbk
          obtain ⟨lszof, lzzof, lmzof, hrowzof⟩ := hl1.out
          have lmzof' := Lib.hid lmzof
          have llzof : lszof.length ≤ 4 := by have h := congrArg List.length lmzof; rw [List.length_map] at h; simp at h; omega
          clear lmzof
          have hrwzof : ∀ (o : Obj) (m : Nat), ((wl.alloc o).drewN m).ownsRow wq.heap.size 22 1 (.slice (some ⟨wq.heap.size, 0, none⟩) 1 1) lszof.length (lszof.map (.float .f32)) := fun o m => hrowzof.alloc o
          have hszzof : wq.heap.size ≤ wl.heap.size := hbk.size
          obtain ⟨ys, hyz, hym, hrow⟩ := hown.out
          have hyl : ys.length = d := by have h := congrArg List.length hym; rw [List.length_map, seqL_len] at h; exact h
          have hym' := Lib.hid hym
          have hyl' := Lib.hid hyl
          clear hym hyl
          have hrowq : ∀ w9, Below wq.heap.size wq w9 → w9.ownsRow w1.heap.size 22 1 (.slice a n c) ys.length (ys.map (.float .f32)) := fun w9 h9 => hrow.kept (grown_of_below h9 none) (own_none _)
          have hlsq : ∀ w9 v9 (c9 : List Nat), OC w9 wq.heap.size 22 v9 c9 → 0 < c9.length → c9.length ≤ 1048576 → Calls Try.prog 101 #[v9] w9 (RFb .f32 (leastL c9) w9) := fun w9 v9 c9 h9 h1 h2 => specLeast_b v9 c9 w9 h9.fc h1 h2
          go_wp2_with (at_builtin; refine wpList_append_lies _ (by rfl) _ _ _ (by rfl) wq.heap.size 22 i0 _ 1 4 Try.underlying37 hi hz0 hz1 hz2 rfl (by omega) (.slice (some ⟨wq.heap.size, 0, none⟩) 1 1) lszof.length (lszof.map (.float .f32)) (by rfl) (hrwzof _ _) ⟨wl.heap.size, 0, none⟩ 1 1 [.float .f32 (flR .add .f32 y ml wl)] (by rfl) (by rfl) (World.news_of_block (cs := #[.float .f32 (flR .add .f32 y ml wl)]) (t := 22) (fr := (0, 0)) (heap_alloc_new wl _)) (by simp [Value.oneCell']) (by omega) (by unfold maxLen; omega) (by omega) (by simp; omega) (wl.heap.size + 1) (by simp) ?_; intro ggzof capzof wzof hownzof hgrowzof hatzof hltzof)
          have hlzof : Hid (OC wzof wq.heap.size 22 (.slice (some ⟨ggzof, 0, none⟩) (lszof.length + 1) capzof) ([cs.getD d 0] ++ [farF cs yc])) := Lib.hid (OC.push lzzof lmzof'.out (Fl.flR hy hml.out _) hownzof)
          have hbx : Below wq.heap.size wq ((wl.alloc (.cells #[.float .f32 (flR .add .f32 y ml wl)] 22)).drewN 0) := hbk.alloc hszzof _
          have hbkzof : Below wq.heap.size wq wzof := ⟨hgrowzof.os.trans hbx.os, hgrowzof.tape.trans hbx.tape, hgrowzof.output.trans hbx.output, Nat.le_trans hbx.size hgrowzof.size, fun k hk => (hgrowzof.block k (Nat.lt_of_lt_of_le hk hbx.size) (fun e => by have h := (hrowzof.lt k e.symm).1; omega)).trans (hbx.block k hk)⟩
          clear hgrowzof hownzof hatzof hrowzof hrwzof hbx
          have hlT := hlsq _ _ _ hlzof.out (by simp) (by simp)
          go_wp2_with (first
            | (go_at_call 101; refine hlT.mono ?_; rintro eT wT ⟨rT, rfl, hbT, hT⟩; have hbqT : Below wq.heap.size wq wT := hbkzof.trans (hbT.mono hbkzof.size); have hrowT := (hrowq wT hbqT).alloc (.cells #[.float .f32 rT] 22))
            | (at_builtin; refine wpList_append_own _ rfl _ _ 37 rfl w1.heap.size 22 i0 (.float .f32 0) 1 4 Try.underlying37 hi hz0 hz1 hz2 rfl (by decide) _ _ _ rfl hrowT ⟨wT.heap.size, 0, none⟩ 1 1 [.float .f32 rT] rfl rfl ?c1zof ?c2zof ?c3zof ?c4zof ?c5zof ?_))
          case c1zof =>
            intro j u hj
            match j, hj with
            | 0, hj => simp at hj; subst hj; simp [Addr.add]
          case c2zof => intro u hu; simp at hu; subst hu; rfl
          case c3zof => have := hyl'.out; unfold maxLen; omega
          case c4zof => have := hyl'.out; omega
          case c5zof => have := hbqT.size; have := hbel.size; simp; omega
          intro v' w5 hown' hgrow _
          have hT2 : Fl .f32 rT (jumpF cs xc yc d) := by
            have h := hT
            rw [leastL_2] at h
            unfold jumpF j2F j1F
            rw [if_neg hdn, if_neg hd0]
            exact h
          obtain ⟨a3, n3, c3, rfl, hoc, hne⟩ := OC.appended hyz hym'.out hT2 hrowT hgrow hown'
          rw [← seqL_succ] at hoc
          have hbel5 : Below w1.heap.size w1 w5 := ((hbel.trans (hbqT.mono hbel.size)).alloc (Nat.le_trans hbel.size hbqT.size) _).grown hgrow (by have := hbel.size; have := hbqT.size; simp; omega) (fun k hk => (hrowT.lt k hk).1)
          have HS := Lib.hid (And.intro hoc hbel5)
          clear hoc hbel5 hown' hgrow hrowT hrow hbqT hbT hlT hyz hne hbel
          go_wp2_with fail
          go_roundw
          case rel => exact ⟨d + 1, _, _, _, by omega, by go_num, rfl, HS.out.1, HS.out.2⟩
          case measure => simp [intOf]; omega
    · obtain rfl : d = cs.length := by omega
      go_wp2_with fail
      go_ret
      have ho := hown.out
      refine ⟨_, _, _, rfl, ?_, ?_⟩
      · exact hb1.trans (hbel.mono hb1.size)
      · exact ho.mono hb1.size
end Go.Proofs.Ytmgdofengamcmaa
