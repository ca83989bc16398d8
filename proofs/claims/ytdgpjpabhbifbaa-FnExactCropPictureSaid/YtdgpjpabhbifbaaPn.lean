import Derived.Test.YtdgpjpabhbifbaaPl
set_option linter.unusedVariables false
set_option linter.unusedSimpArgs false
namespace Go.Proofs.Ytdgpjpabhbifbaa
open Go.FX Go.RowKit Go.WideShapes Go.ChangeShapes

set_option maxRecDepth 100000 in
set_option maxHeartbeats 4000000 in
theorem specShift0_any (W H : Nat) (a0 : Option Addr) (n0 c0 bp : Nat) (cs : List Nat) (w : World) (hp : Pv w bp W H (.slice a0 n0 c0)) (hv : FC w (.slice a0 n0 c0) cs) (b1 : 1 ≤ W) (b2 : W ≤ 24) (b3 : 1 ≤ H) (b4 : H ≤ 24) (b5 : H * W ≤ 256) (hl : cs.length = H * W) (by_ : Int) (e1 : -24 ≤ by_) (e2 : by_ ≤ 24) :
    Calls Try.prog 70 #[.pointer (some ⟨bp, 0, none⟩), .int .i64 by_] w (RPic1 32 W H (gridL W (fun x y => atC W H cs (x + by_) y) (H * W)) w) := by
  obtain ⟨i0, hi, hz0, hz1, hz2⟩ := info_parts info_f32
  obtain ⟨rfl, hnc, hcm⟩ := hv.sized
  have hbW : 1 ≤ W ∧ W ≤ 24 ∧ 1 ≤ H ∧ H ≤ 24 ∧ H * W ≤ 256 := ⟨by omega, by omega, by omega, by omega, b5⟩
  obtain ⟨d1, d2, d3, d4, d5⟩ := hbW
  have hl' := Lib.hid hl
  clear hl
  go_enter Try.func70, Try.ntmps70
  go_upto_region 1 with fail
  obtain ⟨w0, hw0⟩ : ∃ w0, w0 = w.alloc (.cells #[.int .i64 0, .int .i64 0, .slice none 0 0] 27) := ⟨_, rfl⟩
  rw [← hw0]
  have hp0 : Pv w0 bp W H (.slice a0 cs.length c0) := by rw [hw0]; exact hp.alloc _
  have hv0 : FC w0 (.slice a0 cs.length c0) cs := by rw [hw0]; exact hv.alloc _
  have hn0 : Nv w0 w.heap.size (.int .i64 0) (.int .i64 0) (.slice none 0 0) := by rw [hw0]; exact Nv.new _ _ _ _ _
  have hb0 : Below w.heap.size w w0 := by rw [hw0]; exact below1 _ _
  have hlt0 : w.heap.size < w0.heap.size := hn0.1
  clear hw0 hv hp
  obtain ⟨hp1, p0, p1, p2⟩ := id hp0
  have hpv := Lib.hid (And.intro hp0 (And.intro hv0 (And.intro hn0 hb0)))
  clear hp0 hv0 hn0 hb0
  go_cut [5] (fun s3 wx => ∃ bo, s3 = .pointer (some ⟨bo, 0, none⟩) ∧ Mk 32 w0 bo W H [] wx)
  case first =>
    go_region_held3 (fun w' => Below w0.heap.size w0 w' ∧ w0.heap.size ≤ w'.heap.size ∧ (∀ b o, b < w0.heap.size → w'.cell? ⟨b, o, none⟩ = w0.cell? ⟨b, o, none⟩)) (first | exact keepStart _ | assumption | exact ⟨by assumption, by assumption, by assumption⟩ | exact keepCall (by assumption) (by assumption) | exact keepAlloc (by assumption) | (refine keepSet ?_ (keepSet ?_ (keepSet ?_ ?_)) <;> first | assumption | omega | (simp; done) | (simp; omega)) | (refine keepSet ?_ (keepSet ?_ ?_) <;> first | assumption | omega | (simp; done) | (simp; omega)) | (refine keepSet ?_ ?_ <;> first | assumption | omega | (simp; done) | (simp; omega)))
      (first | (go_at_call 53; refine (specNew_any _ _ _).mono ?_; rintro e w1 ⟨a1, n1, c1, rfl, hb1, ho1⟩; have hI := keepCall (n := w0.heap.size) (W1 := w0) (by assumption) hb1; obtain ⟨hc, hf⟩ := bcell hb1; have hz := hb1.size; (try simp at hz); (try simp only [World.size_drew, World.cell?_drew] at hc); (try simp only [World.size_drew, World.frozen?_drew] at hf); first | (have hs := Nat.lt_of_succ_le hz) | (have hs := Nat.lt_of_lt_of_le hs hz) | skip))
    all_goals go_wp2_with fail
    all_goals go_meet
    · exact ⟨_, rfl, Mk.start1 (undrew hb1) ho1⟩
    · exact ⟨_, rfl, Mk.start2 (undrew hb1) ho1⟩
  case rest =>
    obtain ⟨bo, rfl, hmk⟩ := hcut
    have hmk := Lib.hid hmk
    go_wp2_with fail
    go_loopw [6] (fun i wr => ∃ y : Nat, y ≤ H ∧ i = .int .i64 y ∧ Hid (Mk 32 w0 bo W H (gridL W (fun x y => atC W H cs (x + by_) y) (y * W + 0)) wr)) (fun i _ => H - (intOf i).toNat)
    case atStart => exact ⟨0, Nat.zero_le _, rfl, by simpa [gridL] using hmk⟩
    case round =>
      clear hmk
      obtain ⟨y, hy, rfl, hmk⟩ := hrel
      obtain ⟨wo, rfl⟩ : ∃ wo : World, wo = wr := ⟨_, rfl⟩
      have hbl : Below w0.heap.size w0 wo := hmk.out.choose_spec.choose_spec.choose_spec.2.2.2.2
      obtain ⟨_, e0, e1, e2⟩ := hpv.out.1.below hbl
      have hbl := Lib.hid hbl
      by_cases hly : y < H
      · go_wp2_with fail
        clear e0 e1 e2 hbl
        go_loopw [7] (fun i wr => ∃ x : Nat, x ≤ W ∧ i = .int .i64 x ∧ Hid (Mk 32 w0 bo W H (gridL W (fun x y => atC W H cs (x + by_) y) (y * W + x)) wr)) (fun i _ => W - (intOf i).toNat)
        case atStart => exact ⟨0, Nat.zero_le _, rfl, hmk⟩
        case round =>
          clear hmk
          obtain ⟨x, hx, rfl, hmk⟩ := hrel
          obtain ⟨a, n, c, hN, ⟨zs, hz, hzm, hrow⟩, hne, hbo, hbl⟩ := hmk.out
          obtain ⟨_, e0, e1, e2⟩ := hpv.out.1.below hbl
          by_cases hlx : x < W
          · have hlen : zs.length = y * W + x := by rw [← gridL_len W (fun x y => atC W H cs (x + by_) y) (y * W + x), ← hzm, List.length_map]
            have hle : y * W + x + 1 ≤ 256 := by
              have h1 : y * W + W ≤ H * W := by rw [← Nat.succ_mul]; exact Nat.mul_le_mul_right _ hly
              omega
            have hh := Lib.hid (And.intro hz (And.intro hzm (And.intro hlen (And.intro hle (And.intro hbl hN)))))
            have hat := fun w1 (hb1 : Below wr.heap.size wr w1) => specAt_any W H a0 cs.length c0 bp cs ((x : Int) + by_) (y) w1 ((hpv.out.1.below hbl).below hb1) ((hpv.out.2.1.below hbl).below hb1) b1 b2 b3 b4 hl'.out
            have hrowA : ∀ (o : Obj) (m : Nat), ((wr.alloc o).drewN m).ownsRow w0.heap.size 32 1 (.slice a n c) zs.length (zs.map (.float .f32)) := fun o m => hrow.alloc o
            have hsz : w0.heap.size ≤ wr.heap.size := hbl.size
            have k2 : wr.cell? ⟨bo, 2, none⟩ = some (.slice a n c) := hN.2.2.2.1
            have hbo2 : bo < wr.heap.size := hN.1
            clear hlen hzm hz hbl hmk hN e2
            go_wp2_with fail
            have s0 : IntKind.i64.wrap ((x : Int) + by_) = (x : Int) + by_ := IntWalk.i64_in _ (by omega)
            go_region_law
              (first
                | (refine step_append_lies _ (by rfl) _ _ _ (by rfl) w0.heap.size 32 i0 _ 1 4 Try.underlying22 hi hz0 hz1 hz2 rfl (by omega) (.slice a n c) zs.length (zs.map (.float .f32)) (by rfl) (hrowA _ _)
                    ⟨wr.heap.size, 0, none⟩ 1 1 [.float .f32 r] (by rfl) (by rfl) (World.news_of_block (cs := #[.float .f32 r]) (t := 32) (fr := (0, 0)) (heap_alloc_new wr _)) (by simp [Value.oneCell'])
                    (by omega) (by have := hh.out.2.2; unfold maxLen; omega) (by have := hh.out.2.2; omega) (by simp; omega) (wr.heap.size + 1) (by simp) ?_; intro gg cap w3 hown3 hgrow hat3 hlt3; have hN3 := Mk.nv3 hh.out.2.2.2.2.2 hne hgrow; have j2 := hN3.2.2.2.1; have jf := hN3.2.2.2.2 2)
                | (refine step_plain rfl ?_; go_wp2_with (go_at_call 59; refine (hat _ (by ((repeat' (first | exact Below.refl _ _ | assumption | (refine bel_set ?_ ?_ _) | (refine bel_al ?_ ?_ _) | (refine below_drewN ?_ _) | (refine Below.drew ?_))) <;> (first | omega | (simp; done) | (simp; omega))))).mono ?_; rintro e w2 ⟨r, k, rfl, rfl, hr⟩)))
            all_goals
              have hM : Mk 32 w0 bo W H (gridL W (fun x y => atC W H cs (x + by_) y) (y * W + (x + 1))) (w3.setCell ⟨bo, 2, none⟩ (.slice (some ⟨gg, 0, none⟩) (zs.length + 1) cap)) := by
                rw [gridL_step W _ y hlx]
                exact Mk.step hh.out.2.2.2.2.2 hrow hh.out.1 hh.out.2.1 hne hbo hh.out.2.2.2.2.1 hr hown3 hgrow hat3
              have hM := Lib.hid hM
              clear hgrow hown3 hat3 hrow hrowA s0
              go_wp2_with fail
              go_roundw
              case rel => exact ⟨x + 1, by omega, by go_num, by first | exact hM | exact Lib.hid (hM.out.drewN _)⟩
              case measure => simp [intOf]; omega
          · obtain rfl : x = W := by omega
            rw [gridL_row] at hmk
            have hN := Lib.hid (And.intro hN (And.intro hz (And.intro hzm (And.intro hrow (And.intro hne (And.intro hbo hbl))))))
            go_wp2_with fail
            go_roundw
            case rel => exact ⟨y + 1, by omega, by go_num, hmk⟩
            case measure => simp [intOf]; omega
      · obtain rfl : y = H := by omega
        obtain ⟨a, n, c, hN, hoc, hne, hbo, hbl2⟩ := hmk.out
        obtain ⟨_, f0, f1, f2, f3⟩ := hN
        obtain ⟨_, r0, r1, r2, rf⟩ := hpv.out.2.2.1.below hbl2
        have hoc := Lib.hid hoc
        go_wp2_with fail
        refine bodyPost_ret (v := ?v) ?hr rfl ?post
        case hr => (simp [results, Try.results70, go_sem, f0, f1, f2, r0, r1, r2, rf]; try rfl)
        case post =>
          have h0 := hpv.out.2.2.2
          have ho := hoc.out
          rw [Nat.add_zero] at ho
          refine ⟨_, _, _, rfl, ?_, ?_⟩
          · ((repeat' (first | exact Below.refl _ _ | assumption | (refine bel_set ?_ ?_ _) | (refine bel_al ?_ ?_ _) | (refine below_drewN ?_ _) | (refine Below.drew ?_) | (refine Below.trans ?_ (Below.mono hbl2 ?_)))) <;> (first | omega | (simp; done) | (simp; omega)))
          · (refine OC.mono (base := ?bb) ?hh ?hl; (case hh => ((repeat' (first | exact ho | (refine OC.set ?_ _ ?_) | (refine OC.alloc ?_ _) | (refine OC.drewN ?_ _))) <;> (first | omega | (simp; done) | (simp; omega)))); (case hl => (first | omega | (simp; done) | (simp; omega))))

set_option maxRecDepth 100000 in
set_option maxHeartbeats 4000000 in
theorem specFlipPicture_any (W H : Nat) (a0 : Option Addr) (n0 c0 : Nat) (cs : List Nat) (w : World) (hv : FC w (.slice a0 n0 c0) cs) (b1 : 1 ≤ W) (b2 : W ≤ 24) (b3 : 1 ≤ H) (b4 : H ≤ 24) (b5 : H * W ≤ 256) (hl : cs.length = H * W)  :
    Calls Try.prog 33 #[.agg #[.int .i64 W, .int .i64 H, .slice a0 n0 c0]] w (RPic 32 W H (gridL W (fun x y => atC W H cs x ((H : Int) - 1 - y)) (H * W)) true w) := by
  obtain ⟨i0, hi, hz0, hz1, hz2⟩ := info_parts info_f32
  obtain ⟨rfl, hnc, hcm⟩ := hv.sized
  have hbW : 1 ≤ W ∧ W ≤ 24 ∧ 1 ≤ H ∧ H ≤ 24 ∧ H * W ≤ 256 := ⟨by omega, by omega, by omega, by omega, b5⟩
  obtain ⟨d1, d2, d3, d4, d5⟩ := hbW
  have hval := Lib.hid (validB_mk b1 b2 b3 b4 b5 hl)
  have h1 := fun w1 hp => specIs_any W H a0 cs.length c0 w.heap.size w1 hp (by unfold maxLen at hcm; omega)
  have hl' := Lib.hid hl
  clear hl
  go_enter Try.func33, Try.ntmps33
  go_wp2_with fail
  refine (h1 _ ((Pv.new _ _ _ _ _).alloc _)).mono ?_
  rintro e w1 ⟨k0, rfl, rfl⟩
  rw [hval.out]
  go_wp2_with fail
  obtain ⟨w0, hw0⟩ : ∃ w0, w0 = ((w.alloc (.cells #[.int .i64 W, .int .i64 H, .slice a0 cs.length c0] 27)).alloc (.cells #[.int .i64 0, .int .i64 0, .slice none 0 0] 27)).drewN k0 := ⟨_, rfl⟩
  rw [← hw0]
  have hp0 : Pv w0 w.heap.size W H (.slice a0 cs.length c0) := by rw [hw0]; exact ((Pv.new _ _ _ _ _).alloc _).drewN _
  have hv0 : FC w0 (.slice a0 cs.length c0) cs := by rw [hw0]; exact ((hv.alloc _).alloc _).drewN _
  have hn0 : Nv w0 (w.heap.size + 1) (.int .i64 0) (.int .i64 0) (.slice none 0 0) := by rw [hw0]; have := (Nv.new (w.alloc (.cells #[.int .i64 W, .int .i64 H, .slice a0 cs.length c0] 27)) (.int .i64 0) (.int .i64 0) (.slice none 0 0) 27).drewN k0; simpa only [World.size_alloc] using this
  have hb0 : Below w.heap.size w w0 := by rw [hw0]; exact below_drewN (below2 _ _ _) _
  have hlt0 : w.heap.size + 1 < w0.heap.size := hn0.1
  clear hw0 hv
  obtain ⟨hp1, p0, p1, p2⟩ := id hp0
  have hpv := Lib.hid (And.intro hp0 (And.intro hv0 (And.intro hn0 hb0)))
  clear hp0 hv0 hn0 hb0
  refine (specNew_any _ _ _).mono ?_
  rintro e w1 ⟨a1, n1, c1, rfl, hb1, ho1⟩
  obtain ⟨bo, hbo0⟩ : ∃ b, b = w1.heap.size := ⟨_, rfl⟩
  have hmk := Lib.hid (Mk.start1 (W := (W : Int)) (H := (H : Int)) (T := 27) hb1 ho1)
  rw [← hbo0] at hmk
  have hbl := hb1.size
  obtain ⟨_, e0, e1, e2⟩ := (hpv.out.1.below hb1)
  clear hb1 ho1
  go_wp2_with fail
  rw [← hbo0]
  clear hbo0 e0 e1 e2 hbl
  go_loopw [5] (fun i wr => ∃ y : Nat, y ≤ H ∧ i = .int .i64 y ∧ Hid (Mk 32 w0 bo W H (gridL W (fun x y => atC W H cs x ((H : Int) - 1 - y)) (y * W + 0)) wr)) (fun i _ => H - (intOf i).toNat)
  case atStart => exact ⟨0, Nat.zero_le _, rfl, by simpa [gridL] using hmk⟩
  case round =>
    clear hmk
    obtain ⟨y, hy, rfl, hmk⟩ := hrel
    obtain ⟨wo, rfl⟩ : ∃ wo : World, wo = wr := ⟨_, rfl⟩
    have hbl : Below w0.heap.size w0 wo := hmk.out.choose_spec.choose_spec.choose_spec.2.2.2.2
    obtain ⟨_, e0, e1, e2⟩ := hpv.out.1.below hbl
    have hbl := Lib.hid hbl
    by_cases hly : y < H
    · go_wp2_with fail
      clear e0 e1 e2 hbl
      go_loopw [6] (fun i wr => ∃ x : Nat, x ≤ W ∧ i = .int .i64 x ∧ Hid (Mk 32 w0 bo W H (gridL W (fun x y => atC W H cs x ((H : Int) - 1 - y)) (y * W + x)) wr)) (fun i _ => W - (intOf i).toNat)
      case atStart => exact ⟨0, Nat.zero_le _, rfl, hmk⟩
      case round =>
        clear hmk
        obtain ⟨x, hx, rfl, hmk⟩ := hrel
        obtain ⟨a, n, c, hN, ⟨zs, hz, hzm, hrow⟩, hne, hbo, hbl⟩ := hmk.out
        obtain ⟨_, e0, e1, e2⟩ := hpv.out.1.below hbl
        by_cases hlx : x < W
        · have hlen : zs.length = y * W + x := by rw [← gridL_len W (fun x y => atC W H cs x ((H : Int) - 1 - y)) (y * W + x), ← hzm, List.length_map]
          have hle : y * W + x + 1 ≤ 256 := by
            have h1 : y * W + W ≤ H * W := by rw [← Nat.succ_mul]; exact Nat.mul_le_mul_right _ hly
            omega
          have hh := Lib.hid (And.intro hz (And.intro hzm (And.intro hlen (And.intro hle (And.intro hbl hN)))))
          have hat := fun w1 (hb1 : Below wr.heap.size wr w1) => specAt_any W H a0 cs.length c0 w.heap.size cs (x) ((H : Int) - 1 - y) w1 ((hpv.out.1.below hbl).below hb1) ((hpv.out.2.1.below hbl).below hb1) b1 b2 b3 b4 hl'.out
          have hrowA : ∀ (o : Obj) (m : Nat), ((wr.alloc o).drewN m).ownsRow w0.heap.size 32 1 (.slice a n c) zs.length (zs.map (.float .f32)) := fun o m => hrow.alloc o
          have hsz : w0.heap.size ≤ wr.heap.size := hbl.size
          have k2 : wr.cell? ⟨bo, 2, none⟩ = some (.slice a n c) := hN.2.2.2.1
          have hbo2 : bo < wr.heap.size := hN.1
          clear hlen hzm hz hbl hmk hN e2
          go_wp2_with fail
          have s0 : IntKind.i64.wrap ((H : Int) - 1) = (H : Int) - 1 := IntWalk.i64_in _ (by omega)
          have s1 : IntKind.i64.wrap ((H : Int) - 1 - (y : Int)) = (H : Int) - 1 - (y : Int) := IntWalk.i64_in _ (by omega)
          go_region_law
            (first
              | (refine step_append_lies _ (by rfl) _ _ _ (by rfl) w0.heap.size 32 i0 _ 1 4 Try.underlying22 hi hz0 hz1 hz2 rfl (by omega) (.slice a n c) zs.length (zs.map (.float .f32)) (by rfl) (hrowA _ _)
                  ⟨wr.heap.size, 0, none⟩ 1 1 [.float .f32 r] (by rfl) (by rfl) (World.news_of_block (cs := #[.float .f32 r]) (t := 32) (fr := (0, 0)) (heap_alloc_new wr _)) (by simp [Value.oneCell'])
                  (by omega) (by have := hh.out.2.2; unfold maxLen; omega) (by have := hh.out.2.2; omega) (by simp; omega) (wr.heap.size + 1) (by simp) ?_; intro gg cap w3 hown3 hgrow hat3 hlt3; have hN3 := Mk.nv3 hh.out.2.2.2.2.2 hne hgrow; have j2 := hN3.2.2.2.1; have jf := hN3.2.2.2.2 2)
              | (refine step_plain rfl ?_; go_wp2_with (go_at_call 59; refine (hat _ (by ((repeat' (first | exact Below.refl _ _ | assumption | (refine bel_set ?_ ?_ _) | (refine bel_al ?_ ?_ _) | (refine below_drewN ?_ _) | (refine Below.drew ?_))) <;> (first | omega | (simp; done) | (simp; omega))))).mono ?_; rintro e w2 ⟨r, k, rfl, rfl, hr⟩)))
          all_goals
            have hM : Mk 32 w0 bo W H (gridL W (fun x y => atC W H cs x ((H : Int) - 1 - y)) (y * W + (x + 1))) (w3.setCell ⟨bo, 2, none⟩ (.slice (some ⟨gg, 0, none⟩) (zs.length + 1) cap)) := by
              rw [gridL_step W _ y hlx]
              exact Mk.step hh.out.2.2.2.2.2 hrow hh.out.1 hh.out.2.1 hne hbo hh.out.2.2.2.2.1 hr hown3 hgrow hat3
            have hM := Lib.hid hM
            clear hgrow hown3 hat3 hrow hrowA s0 s1
            go_wp2_with fail
            go_roundw
            case rel => exact ⟨x + 1, by omega, by go_num, by first | exact hM | exact Lib.hid (hM.out.drewN _)⟩
            case measure => simp [intOf]; omega
        · obtain rfl : x = W := by omega
          rw [gridL_row] at hmk
          have hN := Lib.hid (And.intro hN (And.intro hz (And.intro hzm (And.intro hrow (And.intro hne (And.intro hbo hbl))))))
          go_wp2_with fail
          go_roundw
          case rel => exact ⟨y + 1, by omega, by go_num, hmk⟩
          case measure => simp [intOf]; omega
    · obtain rfl : y = H := by omega
      obtain ⟨a, n, c, hN, hoc, hne, hbo, hbl2⟩ := hmk.out
      obtain ⟨_, f0, f1, f2, f3⟩ := hN
      obtain ⟨_, r0, r1, r2, rf⟩ := hpv.out.2.2.1.below hbl2
      have hoc := Lib.hid hoc
      go_wp2_with fail
      refine bodyPost_ret (v := ?v) ?hr rfl ?post
      case hr => (simp [results, Try.results33, go_sem, f0, f1, f2, r0, r1, r2, rf]; try rfl)
      case post =>
        have h0 := hpv.out.2.2.2
        have ho := hoc.out
        rw [Nat.add_zero] at ho
        refine ⟨_, _, _, rfl, ?_, ?_⟩
        · ((repeat' (first | exact Below.refl _ _ | assumption | (refine bel_set ?_ ?_ _) | (refine bel_al ?_ ?_ _) | (refine below_drewN ?_ _) | (refine Below.drew ?_) | (refine Below.trans ?_ (Below.mono hbl2 ?_)))) <;> (first | omega | (simp; done) | (simp; omega)))
        · (refine OC.mono (base := ?bb) ?hh ?hl; (case hh => ((repeat' (first | exact ho | (refine OC.set ?_ _ ?_) | (refine OC.alloc ?_ _) | (refine OC.drewN ?_ _))) <;> (first | omega | (simp; done) | (simp; omega)))); (case hl => (first | omega | (simp; done) | (simp; omega))))



set_option maxRecDepth 100000 in
set_option maxHeartbeats 4000000 in
theorem specSwapPicture_any (W H : Nat) (a0 : Option Addr) (n0 c0 : Nat) (cs : List Nat) (w : World) (hv : FC w (.slice a0 n0 c0) cs) (b1 : 1 ≤ W) (b2 : W ≤ 24) (b3 : 1 ≤ H) (b4 : H ≤ 24) (b5 : H * W ≤ 256) (hl : cs.length = H * W)  :
    Calls Try.prog 35 #[.agg #[.int .i64 W, .int .i64 H, .slice a0 n0 c0]] w (RPic 32 H W (gridL H (fun x y => atC W H cs y x) (W * H)) true w) := by
  obtain ⟨i0, hi, hz0, hz1, hz2⟩ := info_parts info_f32
  obtain ⟨rfl, hnc, hcm⟩ := hv.sized
  have hbW : 1 ≤ H ∧ H ≤ 24 ∧ 1 ≤ W ∧ W ≤ 24 ∧ W * H ≤ 256 := ⟨by omega, by omega, by omega, by omega, (by rw [Nat.mul_comm]; exact b5)⟩
  obtain ⟨d1, d2, d3, d4, d5⟩ := hbW
  have hval := Lib.hid (validB_mk b1 b2 b3 b4 b5 hl)
  have h1 := fun w1 hp => specIs_any W H a0 cs.length c0 w.heap.size w1 hp (by unfold maxLen at hcm; omega)
  have hl' := Lib.hid hl
  clear hl
  go_enter Try.func35, Try.ntmps35
  go_wp2_with fail
  refine (h1 _ ((Pv.new _ _ _ _ _).alloc _)).mono ?_
  rintro e w1 ⟨k0, rfl, rfl⟩
  rw [hval.out]
  go_wp2_with fail
  obtain ⟨w0, hw0⟩ : ∃ w0, w0 = ((w.alloc (.cells #[.int .i64 W, .int .i64 H, .slice a0 cs.length c0] 27)).alloc (.cells #[.int .i64 0, .int .i64 0, .slice none 0 0] 27)).drewN k0 := ⟨_, rfl⟩
  rw [← hw0]
  have hp0 : Pv w0 w.heap.size W H (.slice a0 cs.length c0) := by rw [hw0]; exact ((Pv.new _ _ _ _ _).alloc _).drewN _
  have hv0 : FC w0 (.slice a0 cs.length c0) cs := by rw [hw0]; exact ((hv.alloc _).alloc _).drewN _
  have hn0 : Nv w0 (w.heap.size + 1) (.int .i64 0) (.int .i64 0) (.slice none 0 0) := by rw [hw0]; have := (Nv.new (w.alloc (.cells #[.int .i64 W, .int .i64 H, .slice a0 cs.length c0] 27)) (.int .i64 0) (.int .i64 0) (.slice none 0 0) 27).drewN k0; simpa only [World.size_alloc] using this
  have hb0 : Below w.heap.size w w0 := by rw [hw0]; exact below_drewN (below2 _ _ _) _
  have hlt0 : w.heap.size + 1 < w0.heap.size := hn0.1
  clear hw0 hv
  obtain ⟨hp1, p0, p1, p2⟩ := id hp0
  have hpv := Lib.hid (And.intro hp0 (And.intro hv0 (And.intro hn0 hb0)))
  clear hp0 hv0 hn0 hb0
  refine (specNew_any _ _ _).mono ?_
  rintro e w1 ⟨a1, n1, c1, rfl, hb1, ho1⟩
  obtain ⟨bo, hbo0⟩ : ∃ b, b = w1.heap.size := ⟨_, rfl⟩
  have hmk := Lib.hid (Mk.start1 (W := (H : Int)) (H := (W : Int)) (T := 27) hb1 ho1)
  rw [← hbo0] at hmk
  have hbl := hb1.size
  obtain ⟨_, e0, e1, e2⟩ := (hpv.out.1.below hb1)
  clear hb1 ho1
  go_wp2_with fail
  rw [← hbo0]
  clear hbo0 e0 e1 e2 hbl
  go_loopw [5] (fun i wr => ∃ y : Nat, y ≤ W ∧ i = .int .i64 y ∧ Hid (Mk 32 w0 bo H W (gridL H (fun x y => atC W H cs y x) (y * H + 0)) wr)) (fun i _ => W - (intOf i).toNat)
  case atStart => exact ⟨0, Nat.zero_le _, rfl, by simpa [gridL] using hmk⟩
  case round =>
    clear hmk
    obtain ⟨y, hy, rfl, hmk⟩ := hrel
    obtain ⟨wo, rfl⟩ : ∃ wo : World, wo = wr := ⟨_, rfl⟩
    have hbl : Below w0.heap.size w0 wo := hmk.out.choose_spec.choose_spec.choose_spec.2.2.2.2
    obtain ⟨_, e0, e1, e2⟩ := hpv.out.1.below hbl
    have hbl := Lib.hid hbl
    by_cases hly : y < W
    · go_wp2_with fail
      clear e0 e1 e2 hbl
      go_loopw [6] (fun i wr => ∃ x : Nat, x ≤ H ∧ i = .int .i64 x ∧ Hid (Mk 32 w0 bo H W (gridL H (fun x y => atC W H cs y x) (y * H + x)) wr)) (fun i _ => H - (intOf i).toNat)
      case atStart => exact ⟨0, Nat.zero_le _, rfl, hmk⟩
      case round =>
        clear hmk
        obtain ⟨x, hx, rfl, hmk⟩ := hrel
        obtain ⟨a, n, c, hN, ⟨zs, hz, hzm, hrow⟩, hne, hbo, hbl⟩ := hmk.out
        obtain ⟨_, e0, e1, e2⟩ := hpv.out.1.below hbl
        by_cases hlx : x < H
        · have hlen : zs.length = y * H + x := by rw [← gridL_len H (fun x y => atC W H cs y x) (y * H + x), ← hzm, List.length_map]
          have hle : y * H + x + 1 ≤ 256 := by
            have h1 : y * H + H ≤ W * H := by rw [← Nat.succ_mul]; exact Nat.mul_le_mul_right _ hly
            omega
          have hh := Lib.hid (And.intro hz (And.intro hzm (And.intro hlen (And.intro hle (And.intro hbl hN)))))
          have hat := fun w1 (hb1 : Below wr.heap.size wr w1) => specAt_any W H a0 cs.length c0 w.heap.size cs (y) (x) w1 ((hpv.out.1.below hbl).below hb1) ((hpv.out.2.1.below hbl).below hb1) b1 b2 b3 b4 hl'.out
          have hrowA : ∀ (o : Obj) (m : Nat), ((wr.alloc o).drewN m).ownsRow w0.heap.size 32 1 (.slice a n c) zs.length (zs.map (.float .f32)) := fun o m => hrow.alloc o
          have hsz : w0.heap.size ≤ wr.heap.size := hbl.size
          have k2 : wr.cell? ⟨bo, 2, none⟩ = some (.slice a n c) := hN.2.2.2.1
          have hbo2 : bo < wr.heap.size := hN.1
          clear hlen hzm hz hbl hmk hN e2
          go_wp2_with fail
          go_region_law
            (first
              | (refine step_append_lies _ (by rfl) _ _ _ (by rfl) w0.heap.size 32 i0 _ 1 4 Try.underlying22 hi hz0 hz1 hz2 rfl (by omega) (.slice a n c) zs.length (zs.map (.float .f32)) (by rfl) (hrowA _ _)
                  ⟨wr.heap.size, 0, none⟩ 1 1 [.float .f32 r] (by rfl) (by rfl) (World.news_of_block (cs := #[.float .f32 r]) (t := 32) (fr := (0, 0)) (heap_alloc_new wr _)) (by simp [Value.oneCell'])
                  (by omega) (by have := hh.out.2.2; unfold maxLen; omega) (by have := hh.out.2.2; omega) (by simp; omega) (wr.heap.size + 1) (by simp) ?_; intro gg cap w3 hown3 hgrow hat3 hlt3; have hN3 := Mk.nv3 hh.out.2.2.2.2.2 hne hgrow; have j2 := hN3.2.2.2.1; have jf := hN3.2.2.2.2 2)
              | (refine step_plain rfl ?_; go_wp2_with (go_at_call 59; refine (hat _ (by ((repeat' (first | exact Below.refl _ _ | assumption | (refine bel_set ?_ ?_ _) | (refine bel_al ?_ ?_ _) | (refine below_drewN ?_ _) | (refine Below.drew ?_))) <;> (first | omega | (simp; done) | (simp; omega))))).mono ?_; rintro e w2 ⟨r, k, rfl, rfl, hr⟩)))
          all_goals
            have hM : Mk 32 w0 bo H W (gridL H (fun x y => atC W H cs y x) (y * H + (x + 1))) (w3.setCell ⟨bo, 2, none⟩ (.slice (some ⟨gg, 0, none⟩) (zs.length + 1) cap)) := by
              rw [gridL_step H _ y hlx]
              exact Mk.step hh.out.2.2.2.2.2 hrow hh.out.1 hh.out.2.1 hne hbo hh.out.2.2.2.2.1 hr hown3 hgrow hat3
            have hM := Lib.hid hM
            clear hgrow hown3 hat3 hrow hrowA 
            go_wp2_with fail
            go_roundw
            case rel => exact ⟨x + 1, by omega, by go_num, by first | exact hM | exact Lib.hid (hM.out.drewN _)⟩
            case measure => simp [intOf]; omega
        · obtain rfl : x = H := by omega
          rw [gridL_row] at hmk
          have hN := Lib.hid (And.intro hN (And.intro hz (And.intro hzm (And.intro hrow (And.intro hne (And.intro hbo hbl))))))
          go_wp2_with fail
          go_roundw
          case rel => exact ⟨y + 1, by omega, by go_num, hmk⟩
          case measure => simp [intOf]; omega
    · obtain rfl : y = W := by omega
      obtain ⟨a, n, c, hN, hoc, hne, hbo, hbl2⟩ := hmk.out
      obtain ⟨_, f0, f1, f2, f3⟩ := hN
      obtain ⟨_, r0, r1, r2, rf⟩ := hpv.out.2.2.1.below hbl2
      have hoc := Lib.hid hoc
      go_wp2_with fail
      refine bodyPost_ret (v := ?v) ?hr rfl ?post
      case hr => (simp [results, Try.results35, go_sem, f0, f1, f2, r0, r1, r2, rf]; try rfl)
      case post =>
        have h0 := hpv.out.2.2.2
        have ho := hoc.out
        rw [Nat.add_zero] at ho
        refine ⟨_, _, _, rfl, ?_, ?_⟩
        · ((repeat' (first | exact Below.refl _ _ | assumption | (refine bel_set ?_ ?_ _) | (refine bel_al ?_ ?_ _) | (refine below_drewN ?_ _) | (refine Below.drew ?_) | (refine Below.trans ?_ (Below.mono hbl2 ?_)))) <;> (first | omega | (simp; done) | (simp; omega)))
        · (refine OC.mono (base := ?bb) ?hh ?hl; (case hh => ((repeat' (first | exact ho | (refine OC.set ?_ _ ?_) | (refine OC.alloc ?_ _) | (refine OC.drewN ?_ _))) <;> (first | omega | (simp; done) | (simp; omega)))); (case hl => (first | omega | (simp; done) | (simp; omega))))

end Go.Proofs.Ytdgpjpabhbifbaa
