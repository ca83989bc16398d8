import Derived.Test.YtblaojflcemfdaaPh
import Derived.Deep.DrawnRows
set_option linter.unusedVariables false
set_option linter.unusedSimpArgs false
namespace Go.Proofs.Ytblaojflcemfdaa
open Go.FX Go.RowKit Go.WideShapes Go.ChangeShapes
attribute [local go_sem ↓] Go.wp_at_zero Go.wp_at_succ

set_option maxRecDepth 100000 in
set_option maxHeartbeats 8000000 in
theorem specHalve_any (W H : Nat) (a0 : Option Addr) (n0 c0 bp : Nat) (cs : List Nat) (W' H' : Nat) (hW : W' = (W + 1) / 2) (hH : H' = (H + 1) / 2) (w : World) (hp : Pv w bp W H (.slice a0 n0 c0)) (hv : FC w (.slice a0 n0 c0) cs) (b1 : 1 ≤ W) (b2 : W ≤ 24) (b3 : 1 ≤ H) (b4 : H ≤ 24) (b5 : H * W ≤ 256) (hl : cs.length = H * W) :
    Calls Try.prog 29 #[.pointer (some ⟨bp, 0, none⟩)] w (RPic1 61 W' H' (gridL W' (quarterF W H cs) (H' * W')) w) := by
  obtain ⟨i0, hi, hz0, hz1, hz2⟩ := info_parts info_f32
  obtain ⟨rfl, hnc, hcm⟩ := hv.sized
  have hsz : H' * W' ≤ 256 := Nat.le_trans (Nat.mul_le_mul (by omega : H' ≤ H) (by omega : W' ≤ W)) b5
  have hl' := Lib.hid hl
  have hq := quartFl
  have q1 : ((W : Int) + 1) / 2 = (W' : Int) := by omega
  have q2 : ((H : Int) + 1) / 2 = (H' : Int) := by omega
  have t1 : IntKind.i64.wrap ((W : Int) + 1) = (W : Int) + 1 := IntWalk.i64_in _ (by omega)
  have t2 : IntKind.i64.wrap ((H : Int) + 1) = (H : Int) + 1 := IntWalk.i64_in _ (by omega)
  have u1 : ((W : Int) + 1).tdiv 2 = (W' : Int) := by rw [Int.tdiv_eq_ediv_of_nonneg (by omega)]; exact q1
  have u2 : ((H : Int) + 1).tdiv 2 = (H' : Int) := by rw [Int.tdiv_eq_ediv_of_nonneg (by omega)]; exact q2
  have v1 : IntKind.i64.wrap (W' : Int) = (W' : Int) := IntWalk.i64_in _ (by omega)
  have v2 : IntKind.i64.wrap (H' : Int) = (H' : Int) := IntWalk.i64_in _ (by omega)
  have hW24 : W' ≤ 24 := by omega
  have hH24 : H' ≤ 24 := by omega
  clear hl hW hH
  go_enter Try.func29, Try.ntmps29
  go_upto_region 1 with fail
  obtain ⟨w0, hw0⟩ : ∃ w0, w0 = w.alloc (.cells #[.int .i64 0, .int .i64 0, .slice none 0 0] 30) := ⟨_, rfl⟩
  rw [← hw0]
  have hp0 : Pv w0 bp W H (.slice a0 cs.length c0) := by rw [hw0]; exact hp.alloc _
  have hv0 : FC w0 (.slice a0 cs.length c0) cs := by rw [hw0]; exact hv.alloc _
  have hn0 : Nv w0 w.heap.size (.int .i64 0) (.int .i64 0) (.slice none 0 0) := by rw [hw0]; exact Nv.new _ _ _ _ _
  have hb0 : Below w.heap.size w w0 := by rw [hw0]; exact below1 _ _
  have hlt0 : w.heap.size < w0.heap.size := hn0.1
  clear hw0 hp hv
  obtain ⟨hp1, p0, p1, p2⟩ := id hp0
  have hpv := Lib.hid (And.intro hp0 (And.intro hv0 (And.intro hn0 hb0)))
  clear hp0 hv0 hn0 hb0
  go_cut [3] (fun s3 wx => ∃ bo, s3 = .pointer (some ⟨bo, 0, none⟩) ∧ Mk 61 w0 bo W' H' [] wx)
  case first =>
    go_region_held3 (fun w' => Below w0.heap.size w0 w' ∧ w0.heap.size ≤ w'.heap.size ∧ (∀ b o, b < w0.heap.size → w'.cell? ⟨b, o, none⟩ = w0.cell? ⟨b, o, none⟩)) (first | exact keepStart _ | assumption | exact ⟨by assumption, by assumption, by assumption⟩ | exact keepCall (by assumption) (by assumption) | exact keepAlloc (by assumption) | (refine keepSet ?_ (keepSet ?_ (keepSet ?_ (keepSet ?_ ?_))) <;> first | assumption | omega | (simp; done) | (simp; omega)) | (refine keepSet ?_ (keepSet ?_ (keepSet ?_ ?_)) <;> first | assumption | omega | (simp; done) | (simp; omega)) | (refine keepSet ?_ (keepSet ?_ ?_) <;> first | assumption | omega | (simp; done) | (simp; omega)) | (refine keepSet ?_ ?_ <;> first | assumption | omega | (simp; done) | (simp; omega)))
      (first | (go_at_call 54; refine (specNew_any _ _ _).mono ?_; rintro e w1 ⟨a1, n1, c1, rfl, hb1, ho1⟩; have hI := keepCall (n := w0.heap.size) (W1 := w0) (by assumption) hb1; obtain ⟨hc, hf⟩ := bcell hb1; have hz := hb1.size; (try simp at hz); (try simp only [World.size_drew, World.cell?_drew] at hc); (try simp only [World.size_drew, World.frozen?_drew] at hf); first | (have hs := Nat.lt_of_succ_le hz) | (have hs := Nat.lt_of_lt_of_le hs hz) | skip))
    all_goals go_wp2_with fail
    all_goals go_meet
    · exact ⟨_, rfl, Mk.start1 (undrew hb1) ho1⟩
    · exact ⟨_, rfl, Mk.start2 (undrew hb1) ho1⟩
  case rest =>
    obtain ⟨bo, rfl, hmk⟩ := hcut
    have hmk := Lib.hid hmk
    clear t1 t2 u1 u2 v1 v2 q1 q2
    go_wp2_with fail
    go_loopw [4] (fun i wr => ∃ y : Nat, y ≤ H' ∧ i = .int .i64 y ∧ Hid (Mk 61 w0 bo W' H' (gridL W' (quarterF W H cs) (y * W' + 0)) wr)) (fun i _ => H' - (intOf i).toNat)
    case atStart => exact ⟨0, Nat.zero_le _, rfl, by simpa [gridL] using hmk⟩
    case round =>
      clear hmk
      obtain ⟨y, hy, rfl, hmk⟩ := hrel
      obtain ⟨wo, rfl⟩ : ∃ wo : World, wo = wr := ⟨_, rfl⟩
      obtain ⟨_, k0, k1, k2, _⟩ := hmk.out.choose_spec.choose_spec.choose_spec.1
      by_cases hly : y < H'
      · go_wp2_with fail
        clear k0 k1 k2
        go_loopw [5, 6] (fun i sv wr => ∃ x : Nat, x ≤ W' ∧ i = .int .i64 x ∧ Hid (Mk 61 w0 bo W' H' (gridL W' (quarterF W H cs) (y * W' + x)) wr)) (fun i _ _ => W' - (intOf i).toNat)
        case atStart => exact ⟨0, Nat.zero_le _, rfl, hmk⟩
        case round =>
          clear hmk
          obtain ⟨x, hx, rfl, hmk⟩ := hrel
          obtain ⟨a, n, c, hN, ⟨zs, hz, hzm, hrow⟩, hne, hbo, hbl⟩ := hmk.out
          obtain ⟨_, k0, k1, k2, _⟩ := id hN
          by_cases hlx : x < W'
          · have hlen : zs.length = y * W' + x := by rw [← gridL_len W' (quarterF W H cs) (y * W' + x), ← hzm, List.length_map]
            have hle : y * W' + x + 1 ≤ 256 := by
              have h1 : y * W' + W' ≤ H' * W' := by rw [← Nat.succ_mul]; exact Nat.mul_le_mul_right _ hly
              omega
            have hh := Lib.hid (And.intro hz (And.intro hzm (And.intro hlen (And.intro hle (And.intro hbl hN)))))
            have hat := fun (u v : Int) w1 (hb1 : Below wr.heap.size wr w1) => specAt_any W H a0 cs.length c0 bp cs u v w1 ((hpv.out.1.below hbl).below hb1) ((hpv.out.2.1.below hbl).below hb1) b1 b2 b3 b4 hl'.out
            have hrowA : ∀ (o : Obj) (m : Nat), ((wr.alloc o).drewN m).ownsRow w0.heap.size 61 1 (.slice a n c) zs.length (zs.map (.float .f32)) := fun o m => hrow.alloc o
            have hsz0 : w0.heap.size ≤ wr.heap.size := hbl.size
            have hbo2 : bo < wr.heap.size := hN.1
            have x2 : (x : Int) ≤ 24 := by omega
            have y2 : (y : Int) ≤ 24 := by omega
            clear hlen hzm hz hbl hmk hN
            go_wp2_with fail
            refine (hat _ _ _ (by ((repeat' (first | (refine bel_set ?_ ?_ _) | (refine bel_al ?_ ?_ _) | exact Below.refl _ _ | assumption | (refine below_drewN ?_ _) | (refine Below.drew ?_))) <;> (first | omega | (simp; done) | (simp; omega))))).mono ?_
            rintro e w2 ⟨r1, m1, rfl, rfl, hr1⟩
            go_wp2_with fail
            refine (hat _ _ _ (by ((repeat' (first | (refine bel_set ?_ ?_ _) | (refine bel_al ?_ ?_ _) | exact Below.refl _ _ | assumption | (refine below_drewN ?_ _) | (refine Below.drew ?_))) <;> (first | omega | (simp; done) | (simp; omega))))).mono ?_
            rintro e w2 ⟨r2, m2, rfl, rfl, hr2⟩
            go_wp2_with fail
            refine (hat _ _ _ (by ((repeat' (first | (refine bel_set ?_ ?_ _) | (refine bel_al ?_ ?_ _) | exact Below.refl _ _ | assumption | (refine below_drewN ?_ _) | (refine Below.drew ?_))) <;> (first | omega | (simp; done) | (simp; omega))))).mono ?_
            rintro e w2 ⟨r3, m3, rfl, rfl, hr3⟩
            go_wp2_with fail
            refine (hat _ _ _ (by ((repeat' (first | (refine bel_set ?_ ?_ _) | (refine bel_al ?_ ?_ _) | exact Below.refl _ _ | assumption | (refine below_drewN ?_ _) | (refine Below.drew ?_))) <;> (first | omega | (simp; done) | (simp; omega))))).mono ?_
            rintro e w2 ⟨r4, m4, rfl, rfl, hr4⟩
            have hFl : Hid (∀ w1 w2 w3 w4, Fl .f32 (flR .mul .f32 1048576000 (flR .add .f32 (flR .add .f32 (flR .add .f32 r1 r2 w1) r3 w2) r4 w3) w4) (quarterF W H cs x y)) := fun w1 w2 w3 w4 => by
              have h := Fl.flR (op := .mul) hq (((hr1.flR (op := .add) hr2 w1).flR (op := .add) hr3 w2).flR (op := .add) hr4 w3) w4
              rw [fop_mul_comm] at h
              exact h
            clear hr1 hr2 hr3 hr4 hat
            go_wp2_with (at_builtin; refine wpList_append_lies _ rfl _ _ _ rfl w0.heap.size 61 i0 _ 1 4 Try.underlying22 hi hz0 hz1 hz2 rfl (by omega) (.slice a n c) zs.length (zs.map (.float .f32)) rfl (hrowA _ _) ⟨wr.heap.size, 0, none⟩ 1 1 [.float .f32 _] rfl rfl (World.news_of_block (cs := #[.float .f32 _]) (t := 61) (fr := (0, 0)) (heap_alloc_new wr _)) (by simp [Value.oneCell']) (by omega) (by have := hh.out.2.2.1; have := hh.out.2.2.2.1; unfold maxLen; omega) (by have := hh.out.2.2.1; have := hh.out.2.2.2.1; omega) (by simp; omega) (wr.heap.size + 1) (by simp) ?_; intro gg cap w3 hown3 hgrow hat3 hlt3; have hN3 := Mk.nv3 hh.out.2.2.2.2.2 hne hgrow; have j2 := hN3.2.2.2.1; have jf := hN3.2.2.2.2 2)
            have hM : Mk 61 w0 bo W' H' (gridL W' (quarterF W H cs) (y * W' + (x + 1))) (w3.setCell ⟨bo, 2, none⟩ (.slice (some ⟨gg, 0, none⟩) (zs.length + 1) cap)) := by
              rw [gridL_step W' _ y hlx]
              exact Mk.step hh.out.2.2.2.2.2 hrow hh.out.1 hh.out.2.1 hne hbo hh.out.2.2.2.2.1 (hFl _ _ _ _) hown3 hgrow hat3
            have hM := Lib.hid hM
            clear hgrow hown3 hat3 hrow hrowA hFl
            go_wp2_with fail
            go_roundw
            case rel => exact ⟨x + 1, by omega, by go_num, by first | exact hM | exact Lib.hid (hM.out.drewN _)⟩
            case measure => simp [intOf]; omega
          · obtain rfl : x = W' := by omega
            rw [gridL_row] at hmk
            have hN := Lib.hid (And.intro hN (And.intro hz (And.intro hzm (And.intro hrow (And.intro hne (And.intro hbo hbl))))))
            clear hz hzm hrow hne hbo hbl
            go_wp2_with fail
            go_roundw
            case rel => exact ⟨y + 1, by omega, by go_num, hmk⟩
            case measure => simp [intOf]; omega
      · obtain rfl : y = H' := by omega
        clear k0 k1 k2
        obtain ⟨a, n, c, hN, hoc, hne, hbo, hbl2⟩ := hmk.out
        obtain ⟨_, f0, f1, f2, f3⟩ := hN
        obtain ⟨_, r0, r1, r2, rf⟩ := hpv.out.2.2.1.below hbl2
        have hoc := Lib.hid hoc
        go_wp2_with fail
        refine bodyPost_ret (v := ?v) ?hr rfl ?post
        case hr => (simp [results, Try.results29, go_sem, f0, f1, f2, r0, r1, r2, rf]; try rfl)
        case post =>
          have h0 := hpv.out.2.2.2
          have ho := hoc.out
          rw [Nat.add_zero] at ho
          refine ⟨_, _, _, rfl, ?_, ?_⟩
          · ((repeat' (first | (refine bel_set ?_ ?_ _) | (refine bel_al ?_ ?_ _) | exact Below.refl _ _ | assumption | (refine below_drewN ?_ _) | (refine Below.drew ?_) | (refine Below.trans ?_ (Below.mono hbl2 ?_)))) <;> (first | omega | (simp; done) | (simp; omega)))
          · (refine OC.mono (base := ?bb) ?hh ?hl; (case hh => ((repeat' (first | (refine OC.set ?_ _ ?_) | (refine OC.alloc ?_ _) | exact ho | (refine OC.drewN ?_ _))) <;> (first | omega | (simp; done) | (simp; omega)))); (case hl => (first | omega | (simp; done) | (simp; omega))))
end Go.Proofs.Ytblaojflcemfdaa
