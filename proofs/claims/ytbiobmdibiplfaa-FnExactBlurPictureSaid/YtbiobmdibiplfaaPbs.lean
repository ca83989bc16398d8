import Derived.Test.YtbiobmdibiplfaaPb
import Derived.Deep.DrawnRows
set_option linter.unusedVariables false
set_option linter.unusedSimpArgs false
namespace Go.Proofs.Ytbiobmdibiplfaa
open Go.FX Go.RowKit Go.WideShapes Go.ChangeShapes
attribute [local go_sem ↓] Go.wp_at_zero Go.wp_at_succ

set_option maxRecDepth 100000 in
set_option maxHeartbeats 8000000 in
theorem specBlur_any (W H : Nat) (a0 : Option Addr) (n0 c0 bp : Nat) (cs : List Nat) (dx dy : Int) (x1 : 0 ≤ dx) (x2 : dx ≤ 1) (y1 : 0 ≤ dy) (y2 : dy ≤ 1) (w : World) (hp : Pv w bp W H (.slice a0 n0 c0)) (hv : FC w (.slice a0 n0 c0) cs) (b1 : 1 ≤ W) (b2 : W ≤ 24) (b3 : 1 ≤ H) (b4 : H ≤ 24) (b5 : H * W ≤ 256) (hl : cs.length = H * W) :
    Calls Try.prog 104 #[.pointer (some ⟨bp, 0, none⟩), .int .i64 dx, .int .i64 dy] w (RPic1 49 W H (gridL W (blurF W H cs dx dy) (H * W)) w) := by
  obtain ⟨i0, hi, hz0, hz1, hz2⟩ := info_parts info_f32
  obtain ⟨rfl, hnc, hcm⟩ := hv.sized
  have hl' := Lib.hid hl
  clear hl
  go_enter Try.func104, Try.ntmps104
  go_upto_region 1 with fail
  obtain ⟨w0, hw0⟩ : ∃ w0, w0 = w.alloc (.cells #[.int .i64 0, .int .i64 0, .slice none 0 0] 27) := ⟨_, rfl⟩
  rw [← hw0]
  have hp0 : Pv w0 bp W H (.slice a0 cs.length c0) := by rw [hw0]; exact hp.alloc _
  have hv0 : FC w0 (.slice a0 cs.length c0) cs := by rw [hw0]; exact hv.alloc _
  have hn0 : Nv w0 w.heap.size (.int .i64 0) (.int .i64 0) (.slice none 0 0) := by rw [hw0]; exact Nv.new _ _ _ _ _
  have hb0 : Below w.heap.size w w0 := by rw [hw0]; exact below1 _ _
  have hlt0 : w.heap.size < w0.heap.size := hn0.1
  clear hw0 hp hv
  obtain ⟨hp1, p0, p1, p2⟩ := id hp0
  have hpv := Lib.hid (And.intro hp0 (And.intro hv0 (And.intro hn0 hb0)))
  clear hp0 hv0 hn0 hb0
  go_cut [7] (fun s3 wx => ∃ bo, s3 = .pointer (some ⟨bo, 0, none⟩) ∧ Mk 49 w0 bo W H [] wx)
  case first =>
    go_region_held3 (fun w' => Below w0.heap.size w0 w' ∧ w0.heap.size ≤ w'.heap.size ∧ (∀ b o, b < w0.heap.size → w'.cell? ⟨b, o, none⟩ = w0.cell? ⟨b, o, none⟩)) (first | exact keepStart _ | assumption | exact ⟨by assumption, by assumption, by assumption⟩ | exact keepCall (by assumption) (by assumption) | exact keepAlloc (by assumption) | (refine keepSet ?_ (keepSet ?_ (keepSet ?_ (keepSet ?_ ?_))) <;> first | assumption | omega | (simp; done) | (simp; omega)) | (refine keepSet ?_ (keepSet ?_ (keepSet ?_ ?_)) <;> first | assumption | omega | (simp; done) | (simp; omega)) | (refine keepSet ?_ (keepSet ?_ ?_) <;> first | assumption | omega | (simp; done) | (simp; omega)) | (refine keepSet ?_ ?_ <;> first | assumption | omega | (simp; done) | (simp; omega)))
      (first | (go_at_call 143; refine (specNew_any _ _ _).mono ?_; rintro e w1 ⟨a1, n1, c1, rfl, hb1, ho1⟩; have hI := keepCall (n := w0.heap.size) (W1 := w0) (by assumption) hb1; obtain ⟨hc, hf⟩ := bcell hb1; have hz := hb1.size; (try simp at hz); (try simp only [World.size_drew, World.cell?_drew] at hc); (try simp only [World.size_drew, World.frozen?_drew] at hf); first | (have hs := Nat.lt_of_succ_le hz) | (have hs := Nat.lt_of_lt_of_le hs hz) | skip))
    all_goals go_wp2_with fail
    all_goals go_meet
    · exact ⟨_, rfl, Mk.start1 (undrew hb1) ho1⟩
    · exact ⟨_, rfl, Mk.start2 (undrew hb1) ho1⟩
  case rest =>
    obtain ⟨bo, rfl, hmk⟩ := hcut
    have hmk := Lib.hid hmk
    go_wp2_with fail
    go_loopw [8] (fun i wr => ∃ y : Nat, y ≤ H ∧ i = .int .i64 y ∧ Hid (Mk 49 w0 bo W H (gridL W (blurF W H cs dx dy) (y * W + 0)) wr)) (fun i _ => H - (intOf i).toNat)
    case atStart => exact ⟨0, Nat.zero_le _, rfl, by simpa [gridL] using hmk⟩
    case round =>
      clear hmk
      obtain ⟨y, hy, rfl, hmk⟩ := hrel
      obtain ⟨wo, rfl⟩ : ∃ wo : World, wo = wr := ⟨_, rfl⟩
      have hbl := hmk.out.choose_spec.choose_spec.choose_spec.2.2.2.2
      obtain ⟨_, k0, k1, k2⟩ := hpv.out.1.below hbl
      by_cases hly : y < H
      · go_wp2_with fail
        clear k0 k1 k2 hbl
        go_loopw [9, 10] (fun i sv wr => ∃ x : Nat, x ≤ W ∧ i = .int .i64 x ∧ Hid (Mk 49 w0 bo W H (gridL W (blurF W H cs dx dy) (y * W + x)) wr)) (fun i _ _ => W - (intOf i).toNat)
        case atStart => exact ⟨0, Nat.zero_le _, rfl, hmk⟩
        case round =>
          clear hmk
          obtain ⟨x, hx, rfl, hmk⟩ := hrel
          obtain ⟨a, n, c, hN, ⟨zs, hz, hzm, hrow⟩, hne, hbo, hbl⟩ := hmk.out
          obtain ⟨_, k0, k1, k2⟩ := hpv.out.1.below hbl
          by_cases hlx : x < W
          · have hlen : zs.length = y * W + x := by rw [← gridL_len W (blurF W H cs dx dy) (y * W + x), ← hzm, List.length_map]
            have hle : y * W + x + 1 ≤ 256 := by
              have h1 : y * W + W ≤ H * W := by rw [← Nat.succ_mul]; exact Nat.mul_le_mul_right _ hly
              omega
            have hh := Lib.hid (And.intro hz (And.intro hzm (And.intro hlen (And.intro hle (And.intro hbl hN)))))
            have hat := fun (u v : Int) w1 (hb1 : Below wr.heap.size wr w1) => specAt_any W H a0 cs.length c0 bp cs u v w1 ((hpv.out.1.below hbl).below hb1) ((hpv.out.2.1.below hbl).below hb1) b1 b2 b3 b4 hl'.out
            have hrowA : ∀ (o : Obj) (m : Nat), ((wr.alloc o).drewN m).ownsRow w0.heap.size 49 1 (.slice a n c) zs.length (zs.map (.float .f32)) := fun o m => hrow.alloc o
            have hsz0 : w0.heap.size ≤ wr.heap.size := hbl.size
            have hbo2 : bo < wr.heap.size := hN.1
            have k3 : wr.cell? ⟨bo, 2, none⟩ = some (.slice a n c) := hN.2.2.2.1
            have s1 : IntKind.i64.wrap ((x : Int) - dx) = (x : Int) - dx := IntWalk.i64_in _ (by omega)
            have s2 : IntKind.i64.wrap ((y : Int) - dy) = (y : Int) - dy := IntWalk.i64_in _ (by omega)
            have s3 : IntKind.i64.wrap ((x : Int) + dx) = (x : Int) + dx := IntWalk.i64_in _ (by omega)
            have s4 : IntKind.i64.wrap ((y : Int) + dy) = (y : Int) + dy := IntWalk.i64_in _ (by omega)
            clear hlen hzm hz hbl hmk hN
            go_wp2_with fail
            refine (hat _ _ _ (by ((repeat' (first | (refine bel_set ?_ ?_ _) | (refine bel_al ?_ ?_ _) | exact Below.refl _ _ | assumption | (refine below_drewN ?_ _) | (refine Below.drew ?_))) <;> (first | omega | (simp; done) | (simp; omega))))).mono ?_
            rintro e w2 ⟨r1, m1, rfl, rfl, hr1⟩
            go_wp2_with fail
            refine (hat _ _ _ (by ((repeat' (first | (refine bel_set ?_ ?_ _) | (refine bel_al ?_ ?_ _) | exact Below.refl _ _ | assumption | (refine below_drewN ?_ _) | (refine Below.drew ?_))) <;> (first | omega | (simp; done) | (simp; omega))))).mono ?_
            rintro e w2 ⟨r2, m2, rfl, rfl, hr2⟩
            have hSF : ∀ w1 w2, Fl .f32 (flR .mul .f32 1056964608 (flR .add .f32 r1 r2 w1) w2) (fop .mul .f32 (fop .add .f32 (atC W H cs ((x : Int) - dx) ((y : Int) - dy)) (atC W H cs ((x : Int) + dx) ((y : Int) + dy))) 1056964608) := fun w1 w2 => by
              have h := Fl.flR (op := .mul) halfFl (hr1.flR (op := .add) hr2 w1) w2
              rw [fop_mul_comm] at h
              exact h
            have hSF := Lib.hid hSF
            clear hr1 hr2
            go_upto_region 9 with fail
            have hS := hSF.out (wr.drewN (m1 + m2)) (wr.drewN (m1 + m2 + flN .add .f32 r1 r2))
            generalize flR .mul .f32 1056964608 (flR .add .f32 r1 r2 (wr.drewN (m1 + m2))) (wr.drewN (m1 + m2 + flN .add .f32 r1 r2)) = sv0 at hS ⊢
            have hFl : Hid (∀ r w1 w2, Fl .f32 r (atC W H cs (x : Int) (y : Int)) → Fl .f32 (flR .mul .f32 1056964608 (flR .add .f32 sv0 r w1) w2) (blurF W H cs dx dy x y)) := Lib.hid fun r w1 w2 hr => by
              have h := Fl.flR (op := .mul) halfFl (hS.flR (op := .add) hr w1) w2
              rw [fop_mul_comm] at h
              exact h
            have hatx := fun w1 hb1 => hat (x : Int) (y : Int) w1 hb1
            generalize hVw : wr.drewN (m1 + m2 + flN .add .f32 r1 r2 + flN .mul .f32 1056964608 (flR .add .f32 r1 r2 (wr.drewN (m1 + m2)))) = V
            have v1 : V.cell? ⟨bo, 2, none⟩ = some (.slice a n c) := by rw [← hVw]; exact k3
            have v2 : V.heap.size = wr.heap.size := by rw [← hVw]; rfl
            have vb : Below wr.heap.size wr V := by rw [← hVw]; exact below_drewN (Below.refl _ _) _
            have hatV := fun w1 (hb1 : Below V.heap.size V w1) => hatx w1 (vb.trans (by rw [← v2]; exact hb1))
            have hrowV : ∀ (o : Obj) (m : Nat), ((V.alloc o).drewN m).ownsRow w0.heap.size 49 1 (.slice a n c) zs.length (zs.map (.float .f32)) := by
              intro o m; rw [← hVw]; exact hrow.alloc o
            have hsV : w0.heap.size ≤ V.heap.size := by rw [v2]; exact hsz0
            have hbV : bo < V.heap.size := by rw [v2]; exact hbo2
            have hrowV0 : V.ownsRow w0.heap.size 49 1 (.slice a n c) zs.length (zs.map (.float .f32)) := by rw [← hVw]; exact hrow
            have hblV : Below w0.heap.size w0 V := by rw [← hVw]; exact below_drewN hh.out.2.2.2.2.1 _
            have hNV : Nv V bo (.int .i64 W) (.int .i64 H) (.slice a n c) := by rw [← hVw]; exact hh.out.2.2.2.2.2.drewN _
            have hblV := Lib.hid hblV
            have hNV := Lib.hid hNV
            clear hVw hrowA hrow hat hatx hSF hS v2 vb hsz0 hbo2 k0 k1 k2 k3
            go_region_law
              (first
                | (refine step_append_lies _ (by rfl) _ _ _ (by rfl) w0.heap.size 49 i0 _ 1 4 Try.underlying22 hi hz0 hz1 hz2 rfl (by omega) (.slice a n c) zs.length (zs.map (.float .f32)) (by rfl) (hrowV _ _)
                    ⟨V.heap.size, 0, none⟩ 1 1 [.float .f32 _] (by rfl) (by rfl) (World.news_of_block (cs := #[.float .f32 _]) (t := 49) (fr := (0, 0)) (heap_alloc_new V _)) (by simp [Value.oneCell'])
                    (by omega) (by have := hh.out.2.2.1; have := hh.out.2.2.2.1; unfold maxLen; omega) (by have := hh.out.2.2.1; have := hh.out.2.2.2.1; omega) (by simp; omega) (V.heap.size + 1) (by simp) ?_; intro gg cap w3 hown3 hgrow hat3 hlt3; have hN3 := Mk.nv3 hNV.out hne hgrow; have j2 := hN3.2.2.2.1; have jf := hN3.2.2.2.2 2)
                | (refine step_plain rfl ?_; go_wp2_with (go_at_call 128; refine (hatV _ (by ((repeat' (first | (refine bel_set ?_ ?_ _) | (refine bel_al ?_ ?_ _) | exact Below.refl _ _ | assumption | (refine below_drewN ?_ _) | (refine Below.drew ?_))) <;> (first | omega | (simp; done) | (simp; omega))))).mono ?_; rintro e w2 ⟨r, kk, rfl, rfl, hr⟩)))
            all_goals
              have hM : Mk 49 w0 bo W H (gridL W (blurF W H cs dx dy) (y * W + (x + 1))) (w3.setCell ⟨bo, 2, none⟩ (.slice (some ⟨gg, 0, none⟩) (zs.length + 1) cap)) := by
                rw [gridL_step W _ y hlx]
                exact Mk.step hNV.out hrowV0 hh.out.1 hh.out.2.1 hne hbo hblV.out (hFl.out _ _ _ hr) hown3 hgrow hat3
              have hM := Lib.hid hM
              clear hgrow hown3 hat3 hrowV hrowV0 hFl
              go_wp2_with fail
              go_roundw
              case rel => exact ⟨x + 1, by omega, by go_num, by first | exact hM | exact Lib.hid (hM.out.drewN _)⟩
              case measure => simp [intOf]; omega
          · obtain rfl : x = W := by omega
            rw [gridL_row] at hmk
            have hN := Lib.hid (And.intro hN (And.intro hz (And.intro hzm (And.intro hrow (And.intro hne (And.intro hbo hbl))))))
            clear hz hzm hrow hne hbo hbl
            go_wp2_with fail
            go_roundw
            case rel => exact ⟨y + 1, by omega, by go_num, hmk⟩
            case measure => simp [intOf]; omega
      · obtain rfl : y = H := by omega
        clear k0 k1 k2 hbl
        obtain ⟨a, n, c, hN, hoc, hne, hbo, hbl2⟩ := hmk.out
        obtain ⟨_, k0, k1, k2⟩ := hpv.out.1.below hbl2
        obtain ⟨_, f0, f1, f2, f3⟩ := hN
        obtain ⟨_, r0, r1, r2, rf⟩ := hpv.out.2.2.1.below hbl2
        have hoc := Lib.hid hoc
        go_wp2_with fail
        refine bodyPost_ret (v := ?v) ?hr rfl ?post
        case hr => (simp [results, Try.results104, go_sem, f0, f1, f2, r0, r1, r2, rf]; try rfl)
        case post =>
          have h0 := hpv.out.2.2.2
          have ho := hoc.out
          rw [Nat.add_zero] at ho
          refine ⟨_, _, _, rfl, ?_, ?_⟩
          · ((repeat' (first | (refine bel_set ?_ ?_ _) | (refine bel_al ?_ ?_ _) | exact Below.refl _ _ | assumption | (refine below_drewN ?_ _) | (refine Below.drew ?_) | (refine Below.trans ?_ (Below.mono hbl2 ?_)))) <;> (first | omega | (simp; done) | (simp; omega)))
          · (refine OC.mono (base := ?bb) ?hh ?hl; (case hh => ((repeat' (first | (refine OC.set ?_ _ ?_) | (refine OC.alloc ?_ _) | exact ho | (refine OC.drewN ?_ _))) <;> (first | omega | (simp; done) | (simp; omega)))); (case hl => (first | omega | (simp; done) | (simp; omega))))
end Go.Proofs.Ytbiobmdibiplfaa
