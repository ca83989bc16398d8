import Derived.Test.YtmbohiebjgafoaaPl
import Derived.Test.YtmbohiebjgafoaaPi
import Derived.Test.YtmbohiebjgafoaaPq
import Derived.Test.YtmbohiebjgafoaaVg
import Derived.Test.YtmbohiebjgafoaaRg
import Derived.IntWalk
import Derived.Deep.AppendLies
import Derived.Deep.DrawnRows
import Derived.Deep.RegionLaw
set_option linter.unusedVariables false
set_option linter.unusedSimpArgs false
namespace Go.FX
open Go Go.RowKit
/-- A byte of a text, as a number. -/
def sb (s : ByteArray) (i : Nat) : Nat := (s.data.toList.getD i 0).toNat
theorem sb_at (s : ByteArray) (k : Nat) (h : k < s.size) : s[k].toNat = sb s k := by
  unfold sb
  have : k < s.data.toList.length := by simpa using h
  rw [List.getD_eq_getElem?_getD, List.getElem?_eq_getElem this]; rfl
theorem sb_lt (s : ByteArray) (k : Nat) : sb s k < 256 := (s.data.toList.getD k 0).toNat_lt
def greyOf (b : Nat) : Nat := fop .quo .f32 (fi b) 1132396544
theorem fi_fl (k : Int) : Fl .f32 (floatOfInt .f32 k) (fi k) := ⟨fi_lt k, cn_of_not (fi_not k)⟩
theorem c255_fl : Fl .f32 1132396544 1132396544 := ⟨by decide, by decide⟩
end Go.FX
namespace Go.Proofs.Ytmbohiebjgafoaa
open Go.FX Go.RowKit Go.WideShapes Go.ChangeShapes
attribute [local go_sem ↓] Go.wp_at_zero Go.wp_at_succ

theorem grey_fn (W H : Nat) (s : ByteArray) (bs bw : Nat) (w : World) (hls : bs < w.heap.size) (hcs : w.cell? ⟨bs, 0, none⟩ = some (.string s)) (hlw : bw < w.heap.size) (hcw : w.cell? ⟨bw, 0, none⟩ = some (.int .i64 W)) (b1 : 1 ≤ W) (b2 : W ≤ 24) (b3 : 1 ≤ H) (b4 : H ≤ 24) (hl : s.size = H * W) :
    GreyFn Try.prog 84 #[] #[.pointer (some ⟨bs, 0, none⟩), .pointer (some ⟨bw, 0, none⟩)] W H (fun x y => greyOf (sb s (x + W * y).toNat)) w := fun w1 x y hb hx hy => by
  have qs := (bcell hb).1 bs 0 hls
  rw [hcs] at qs
  have qw := (bcell hb).1 bw 0 hlw
  rw [hcw] at qw
  obtain ⟨k, hk⟩ : ∃ k, k = y * W + x := ⟨_, rfl⟩
  have hkl : k < s.size := by
    have h1 : y * W + W ≤ H * W := by rw [← Nat.succ_mul]; exact Nat.mul_le_mul_right _ hy
    rw [hl]; omega
  have e1 : (x : Int) + (W : Int) * (y : Int) = ((k : Nat) : Int) := by rw [hk]; push_cast; rw [Int.mul_comm, Int.add_comm]
  have e2 : (W : Int) * (y : Int) = ((y * W : Nat) : Int) := by push_cast; rw [Int.mul_comm]
  have hyw : y * W ≤ 24 * 24 := Nat.mul_le_mul (by omega) b2
  show Calls Try.prog 84 #[.int .i64 x, .int .i64 y, .pointer (some ⟨bs, 0, none⟩), .pointer (some ⟨bw, 0, none⟩)] w1 (RFb .f32 (greyOf (sb s ((x : Int) + (W : Int) * (y : Int)).toNat)) w1)
  rw [e1, Int.toNat_natCast, ← sb_at s k hkl]
  have e3 : (x : Int) + ((y * W : Nat) : Int) = ((k : Nat) : Int) := by omega
  generalize y * W = yw at *
  have m1 : IntKind.i64.wrap (yw : Int) = (yw : Int) := IntWalk.i64_in _ (by omega)
  have m2 : IntKind.i64.wrap (k : Int) = (k : Int) := IntWalk.i64_in _ (by omega)
  have hf := fi_fl (s[k].toNat : Int)
  have hf' := Lib.hid hf
  clear hcs hcw hb hl hk e1 hf
  go_enter Try.func84, Try.ntmps84
  go_wp2_with fail
  go_ret
  exact ⟨_, rfl, below_drewN (Below.refl _ _) _, Fl.flR hf'.out c255_fl _⟩

set_option maxHeartbeats 1000000 in
theorem implGreyPicture_any (W H : Nat) (s : ByteArray) (w : World) (b1 : 1 ≤ W) (b2 : W ≤ 24) (b3 : 1 ≤ H) (b4 : H ≤ 24) (b5 : H * W ≤ 256) (hl : s.size = H * W) :
    Calls Try.prog 39 #[.string s, .int .i64 W, .int .i64 H] w (RPic 22 W H (gridL W (fun x y => greyOf (sb s (x + W * y).toNat)) (H * W)) true w) := by
  have hs := Lib.hid (sizeB_mk b1 b2 b3 b4 b5)
  have hd := fun w1 hls hcs hlw hcw => draw_any W H b1 b2 b3 b4 b5 _ _ _ _ w1 (enters_of Try.func84 (by kernel_rfl) rfl) (grey_fn W H s w.heap.size (w.heap.size + 1) w1 hls hcs hlw hcw b1 b2 b3 b4 hl)
  have e2 : (W : Int) * (H : Int) = ((H * W : Nat) : Int) := by push_cast; rw [Int.mul_comm]
  have hl' := Lib.hid hl
  have hsz : (s.size : Int) = ((H * W : Nat) : Int) := by rw [hl]
  generalize gridL W (fun x y => greyOf (sb s (x + W * y).toNat)) (H * W) = G at *
  clear hl hl'
  generalize H * W = A at *
  have m1 : IntKind.i64.wrap (A : Int) = (A : Int) := IntWalk.i64_in _ (by omega)
  obtain ⟨u2, hu2⟩ : ∃ u2, u2 = ((w.alloc (.cells #[.string s] 9)).alloc (.cells #[.int .i64 W] 2)).alloc (.cells #[.int .i64 0, .int .i64 0, .slice none 0 0] 46) := ⟨_, rfl⟩
  have hN : Nv u2 (w.heap.size + 1 + 1) (.int .i64 0) (.int .i64 0) (.slice none 0 0) := by
    have h := Nv.new ((w.alloc (.cells #[.string s] 9)).alloc (.cells #[.int .i64 W] 2)) (.int .i64 0) (.int .i64 0) (.slice none 0 0) 46
    rw [hu2]; simpa only [World.size_alloc] using h
  have hcs : u2.cell? ⟨w.heap.size, 0, none⟩ = some (.string s) := by rw [hu2]; go_simp
  have hcw : u2.cell? ⟨w.heap.size + 1, 0, none⟩ = some (.int .i64 W) := by rw [hu2]; go_simp
  have hb0 : Below w.heap.size w u2 := by rw [hu2]; exact below3 _ _ _ _
  have hsu : w.heap.size + 1 + 1 < u2.heap.size := hN.1
  go_enter Try.func39, Try.ntmps39
  go_upto_region 1 with fail
  rw [← hu2]
  clear hu2
  go_wp2_with fail
  refine (isSize_any _ _ _).mono ?_
  rintro e w1 ⟨rfl, rfl⟩
  rw [hs.out]
  go_wp2_with fail
  refine (hd _ (by omega) hcs (by omega) hcw).mono ?_
  rintro e w1 ⟨a1, n1, c1, rfl, hb1, ho1⟩
  obtain ⟨l1, q0, q1, q2, qf⟩ := hN.below hb1
  go_wp2_with fail
  refine bodyPost_ret (v := ?v) ?hr rfl ?post
  case hr => (simp [results, Try.results39, go_sem, q0, q1, q2, qf]; try rfl)
  case post =>
    refine ⟨_, _, _, rfl, ?_, ?_⟩
    · ((repeat' (first | (refine bel_set ?_ ?_ _) | (refine bel_al ?_ ?_ _) | exact Below.refl _ _ | assumption | (refine below_drewN ?_ _) | (refine Below.drew ?_) | (refine Below.trans ?_ (Below.mono hb1 ?_)) | (refine Below.trans ?_ (Below.mono hb0 ?_)))) <;> (first | omega | (simp; done) | (simp; omega)))
    · (refine OC.mono (base := ?bb) ?hh ?hl; (case hh => ((repeat' (first | (refine OC.set ?_ _ ?_) | (refine OC.alloc ?_ _) | exact ho1 | (refine OC.drewN ?_ _))) <;> (first | omega | (simp; done) | (simp; omega)))); (case hl => (first | omega | (simp; done) | (simp; omega))))

set_option maxHeartbeats 1000000 in
theorem implGreyPicture_no (W H : Int) (s : ByteArray) (w : World) (hs64 : s.size ≤ 1048576) (hno : validB W H s.size = false) :
    Calls Try.prog 39 #[.string s, .int .i64 W, .int .i64 H] w (RPic 22 0 0 [] false w) := by
  obtain ⟨u2, hu2⟩ : ∃ u2, u2 = ((w.alloc (.cells #[.string s] 9)).alloc (.cells #[.int .i64 W] 2)).alloc (.cells #[.int .i64 0, .int .i64 0, .slice none 0 0] 46) := ⟨_, rfl⟩
  have hN : Nv u2 (w.heap.size + 1 + 1) (.int .i64 0) (.int .i64 0) (.slice none 0 0) := by
    have h := Nv.new ((w.alloc (.cells #[.string s] 9)).alloc (.cells #[.int .i64 W] 2)) (.int .i64 0) (.int .i64 0) (.slice none 0 0) 46
    rw [hu2]; simpa only [World.size_alloc] using h
  have hcs : u2.cell? ⟨w.heap.size, 0, none⟩ = some (.string s) := by rw [hu2]; go_simp
  have hcw : u2.cell? ⟨w.heap.size + 1, 0, none⟩ = some (.int .i64 W) := by rw [hu2]; go_simp
  have hb0 : Below w.heap.size w u2 := by rw [hu2]; exact below3 _ _ _ _
  obtain ⟨l1, q0, q1, q2, qf⟩ := id hN
  cases hsz : sizeB W H with
  | false =>
    have hsz' := Lib.hid hsz
    clear hsz hno
    go_enter Try.func39, Try.ntmps39
    go_upto_region 1 with fail
    rw [← hu2]
    clear hu2
    go_wp2_with fail
    refine (isSize_any _ _ _).mono ?_
    rintro e w1 ⟨rfl, rfl⟩
    rw [hsz'.out]
    go_wp2_with fail
    refine bodyPost_ret (v := ?v) ?hr rfl ?post
    case hr => (simp [results, Try.results39, go_sem, q0, q1, q2, qf]; try rfl)
    case post => exact ⟨_, _, _, rfl, by ((repeat' (first | (refine bel_set ?_ ?_ _) | (refine bel_al ?_ ?_ _) | exact Below.refl _ _ | assumption | (refine below_drewN ?_ _) | (refine Below.drew ?_) | (refine Below.trans ?_ (Below.mono hb0 ?_)))) <;> (first | omega | (simp; done) | (simp; omega))), OC.nil _ _ _⟩
  | true =>
    obtain ⟨g1, g2, g3, g4, g5⟩ := sizeB_iff.1 hsz
    have a1 := area_lo g1 g3
    have hne : ¬ ((s.size : Int) = W * H) := fun h => by
      have : validB W H s.size = true := by unfold validB; rw [hsz]; simp [h]
      rw [this] at hno; cases hno
    have hsz' := Lib.hid hsz
    clear hsz hno
    have m1 : IntKind.i64.wrap (W * H) = W * H := IntWalk.i64_in _ (by omega)
    go_enter Try.func39, Try.ntmps39
    go_upto_region 1 with fail
    rw [← hu2]
    clear hu2
    go_wp2_with fail
    refine (isSize_any _ _ _).mono ?_
    rintro e w1 ⟨rfl, rfl⟩
    rw [hsz'.out]
    go_wp2_with fail
    refine bodyPost_ret (v := ?v2) ?hr2 rfl ?post2
    case hr2 => (simp [results, Try.results39, go_sem, q0, q1, q2, qf]; try rfl)
    case post2 => exact ⟨_, _, _, rfl, by ((repeat' (first | (refine bel_set ?_ ?_ _) | (refine bel_al ?_ ?_ _) | exact Below.refl _ _ | assumption | (refine below_drewN ?_ _) | (refine Below.drew ?_) | (refine Below.trans ?_ (Below.mono hb0 ?_)))) <;> (first | omega | (simp; done) | (simp; omega))), OC.nil _ _ _⟩

set_option maxHeartbeats 1000000 in
theorem specGreyPicture_no (W H : Int) (s : ByteArray) (w : World) (hs64 : s.size ≤ 1048576) (hno : validB W H s.size = false) :
    Calls Try.prog 38 #[.string s, .int .i64 W, .int .i64 H] w (RPic 22 0 0 [] false w) := by
  cases hsz : sizeB W H with
  | false =>
    have hsz' := Lib.hid hsz
    clear hsz hno
    go_enter Try.func38, Try.ntmps38
    go_wp2_with fail
    refine (specSize_any _ _ _).mono ?_
    rintro e w1 ⟨rfl, rfl⟩
    rw [hsz'.out]
    go_wp2_with fail
    refine bodyPost_ret (v := ?v) ?hr rfl ?post
    case hr => (simp [results, Try.results38, go_sem]; try rfl)
    case post => exact ⟨_, _, _, rfl, by ((repeat' (first | (refine bel_set ?_ ?_ _) | (refine bel_al ?_ ?_ _) | exact Below.refl _ _ | assumption | (refine below_drewN ?_ _) | (refine Below.drew ?_))) <;> (first | omega | (simp; done) | (simp; omega))), OC.nil _ _ _⟩
  | true =>
    obtain ⟨g1, g2, g3, g4, g5⟩ := sizeB_iff.1 hsz
    have a1 := area_lo g1 g3
    have hne : ¬ ((s.size : Int) = W * H) := fun h => by
      have : validB W H s.size = true := by unfold validB; rw [hsz]; simp [h]
      rw [this] at hno; cases hno
    have hsz' := Lib.hid hsz
    clear hsz hno
    have m1 : IntKind.i64.wrap (W * H) = W * H := IntWalk.i64_in _ (by omega)
    go_enter Try.func38, Try.ntmps38
    go_wp2_with fail
    refine (specSize_any _ _ _).mono ?_
    rintro e w1 ⟨rfl, rfl⟩
    rw [hsz'.out]
    go_wp2_with fail
    refine bodyPost_ret (v := ?v2) ?hr2 rfl ?post2
    case hr2 => (simp [results, Try.results38, go_sem]; try rfl)
    case post2 => exact ⟨_, _, _, rfl, by ((repeat' (first | (refine bel_set ?_ ?_ _) | (refine bel_al ?_ ?_ _) | exact Below.refl _ _ | assumption | (refine below_drewN ?_ _) | (refine Below.drew ?_))) <;> (first | omega | (simp; done) | (simp; omega))), OC.nil _ _ _⟩

set_option maxRecDepth 100000 in
set_option maxHeartbeats 4000000 in
theorem specGreyPicture_any (W H : Nat) (s : ByteArray) (w : World) (b1 : 1 ≤ W) (b2 : W ≤ 24) (b3 : 1 ≤ H) (b4 : H ≤ 24) (b5 : H * W ≤ 256) (hl : s.size = H * W) :
    Calls Try.prog 38 #[.string s, .int .i64 W, .int .i64 H] w (RPic 22 W H (seqL (fun i => greyOf (sb s i)) (H * W)) true w) := by
  obtain ⟨i0, hi, hz0, hz1, hz2⟩ := info_parts info_f32
  have hs := Lib.hid (sizeB_mk b1 b2 b3 b4 b5)
  have e2 : (W : Int) * (H : Int) = ((H * W : Nat) : Int) := by push_cast; rw [Int.mul_comm]
  have hsz : (s.size : Int) = ((H * W : Nat) : Int) := by rw [hl]
  obtain ⟨A, hA⟩ : ∃ A, A = H * W := ⟨_, rfl⟩
  rw [← hA] at e2 hsz b5 hl ⊢
  have hA' := Lib.hid hA
  have hl' := Lib.hid hl
  have hpos : 1 ≤ A := by rw [hA]; exact Nat.mul_pos b3 b1
  clear hA hl
  have m1 : IntKind.i64.wrap (A : Int) = (A : Int) := IntWalk.i64_in _ (by omega)
  go_enter Try.func38, Try.ntmps38
  go_wp2_with fail
  refine (specSize_any _ _ _).mono ?_
  rintro e w1 ⟨rfl, rfl⟩
  rw [hs.out]
  go_wp2_with fail
  obtain ⟨w0, hw0⟩ : ∃ w0, w0 = w.alloc (.cells #[.int .i64 0, .int .i64 0, .slice none 0 0] 46) := ⟨_, rfl⟩
  rw [← hw0]
  have hn0 : Nv w0 w.heap.size (.int .i64 0) (.int .i64 0) (.slice none 0 0) := by rw [hw0]; exact Nv.new _ _ _ _ _
  have hb0 : Below w.heap.size w w0 := by rw [hw0]; exact below1 _ _
  have hlt0 : w.heap.size < w0.heap.size := hn0.1
  clear hw0
  refine (specNew_any _ _ _).mono ?_
  rintro e w1 ⟨a1, n1, c1, rfl, hb1, ho1⟩
  obtain ⟨bo, hbo0⟩ : ∃ b, b = w1.heap.size := ⟨_, rfl⟩
  have hmk := Lib.hid (Mk.start1 (W := (W : Int)) (H := (H : Int)) (T := 46) hb1 ho1)
  rw [← hbo0] at hmk
  have hbl := hb1.size
  have hpv := Lib.hid (And.intro hn0 hb0)
  clear hb1 ho1 hn0 hb0 e2 hsz m1
  go_wp2_with fail
  rw [← hbo0]
  clear hbo0 hbl
  go_loopw [9] (fun i wr => ∃ k : Nat, k ≤ A ∧ i = .int .i64 k ∧ Hid (Mk 22 w0 bo W H (seqL (fun i => greyOf (sb s i)) k) wr)) (fun i _ => A - (intOf i).toNat)
  case atStart => exact ⟨0, Nat.zero_le _, by simp, by simpa [seqL_zero] using hmk⟩
  case round =>
    clear hmk
    obtain ⟨k, hk, rfl, hmk⟩ := hrel
    have hszs : (s.size : Int) = (A : Int) := by rw [hl'.out]
    by_cases hlt : k < A
    · obtain ⟨a, n, c, hN, ⟨zs, hz, hzm, hrow⟩, hne, hbo, hbl⟩ := hmk.out
      have hlen : zs.length = k := by rw [← seqL_len (fun i => greyOf (sb s i)) k, ← hzm, List.length_map]
      have hks : k < s.size := by rw [hl'.out]; exact hlt
      have hf := fi_fl (s[k].toNat : Int)
      have hc := c255_fl
      have hh := Lib.hid (And.intro hz (And.intro hzm (And.intro hlen (And.intro hbl hN))))
      have hrowA : ∀ (o : Obj) (m : Nat), ((wr.alloc o).drewN m).ownsRow w0.heap.size 22 1 (.slice a n c) zs.length (zs.map (.float .f32)) := fun o m => hrow.alloc o
      have hsz0 : w0.heap.size ≤ wr.heap.size := hbl.size
      obtain ⟨hbo2, n0, n1, n2, nf⟩ := id hN
      have hg : greyOf (s[k].toNat) = greyOf (sb s k) := by rw [sb_at s k hks]
      have hg' := Lib.hid hg
      clear hlen hzm hz hbl hmk hN hg
      go_upto_region 7 with fail
      have hr : Fl .f32 (flR .quo .f32 (floatOfInt .f32 (s[k].toNat : Int)) 1132396544 wr.drew) (greyOf (sb s k)) := by rw [← hg'.out]; exact Fl.flR hf hc _
      go_region_law
        ((refine step_append_lies _ (by rfl) _ _ _ (by rfl) w0.heap.size 22 i0 _ 1 4 Try.underlying39 hi hz0 hz1 hz2 rfl (by omega) (.slice a n c) zs.length (zs.map (.float .f32)) (by rfl) (hrowA _ _)
            ⟨wr.heap.size, 0, none⟩ 1 1 [.float .f32 (flR .quo .f32 (floatOfInt .f32 (s[k].toNat : Int)) 1132396544 wr.drew)] (by rfl) (by rfl) (World.news_of_block (cs := #[.float .f32 (flR .quo .f32 (floatOfInt .f32 (s[k].toNat : Int)) 1132396544 wr.drew)]) (t := 22) (fr := (0, 0)) (heap_alloc_new wr _)) (by simp [Value.oneCell'])
            (by omega) (by have := hh.out.2.2.1; unfold maxLen; omega) (by have := hh.out.2.2.1; omega) (by simp; omega) (wr.heap.size + 1) (by simp) ?_; intro gg cap w3 hown3 hgrow hat3 hlt3; have hN3 := Mk.nv3 hh.out.2.2.2.2 hne hgrow; have j2 := hN3.2.2.2.1; have jf := hN3.2.2.2.2 2))
      all_goals
        have hM : Mk 22 w0 bo W H (seqL (fun i => greyOf (sb s i)) (k + 1)) (w3.setCell ⟨bo, 2, none⟩ (.slice (some ⟨gg, 0, none⟩) (zs.length + 1) cap)) := by
          rw [seqL_succ]
          exact Mk.step hh.out.2.2.2.2 hrow hh.out.1 hh.out.2.1 hne hbo hh.out.2.2.2.1 hr hown3 hgrow hat3
        have hM := Lib.hid hM
        clear hgrow hown3 hat3 hrow hrowA
        go_wp2_with fail
        go_roundw
        case rel => exact ⟨k + 1, by omega, by go_num, by first | exact hM | exact Lib.hid (hM.out.drewN _)⟩
        case measure => simp [intOf]; omega
    · obtain rfl : k = A := by omega
      obtain ⟨a, n, c, hN, hoc, hne, hbo, hbl2⟩ := hmk.out
      obtain ⟨_, f0, f1, f2, f3⟩ := hN
      obtain ⟨_, r0, r1, r2, rf⟩ := hpv.out.1.below hbl2
      have hoc := Lib.hid hoc
      go_wp2_with fail
      refine bodyPost_ret (v := ?v) ?hr rfl ?post
      case hr => (simp [results, Try.results38, go_sem, f0, f1, f2, r0, r1, r2, rf]; try rfl)
      case post =>
        have h0 := hpv.out.2
        have ho := hoc.out
        refine ⟨_, _, _, rfl, ?_, ?_⟩
        · ((repeat' (first | (refine bel_set ?_ ?_ _) | (refine bel_al ?_ ?_ _) | exact Below.refl _ _ | assumption | (refine below_drewN ?_ _) | (refine Below.drew ?_) | (refine Below.trans ?_ (Below.mono hbl2 ?_)))) <;> (first | omega | (simp; done) | (simp; omega)))
        · (refine OC.mono (base := ?bb) ?hh ?hl; (case hh => ((repeat' (first | (refine OC.set ?_ _ ?_) | (refine OC.alloc ?_ _) | exact ho | (refine OC.drewN ?_ _))) <;> (first | omega | (simp; done) | (simp; omega)))); (case hl => (first | omega | (simp; done) | (simp; omega))))

theorem grid_seq (W H : Nat) (F : Nat → Nat) (hW : 1 ≤ W) : gridL W (fun x y => F (x + W * y).toNat) (H * W) = seqL F (H * W) := by
  unfold gridL seqL
  apply List.map_congr_left
  intro i hi
  have e := Nat.mod_add_div i W
  show F (((i % W : Nat) : Int) + (W : Int) * ((i / W : Nat) : Int)).toNat = F i
  generalize i % W = r at *
  generalize i / W = q at *
  rw [show (r : Int) + (W : Int) * (q : Int) = ((r + W * q : Nat) : Int) by push_cast; rfl, Int.toNat_natCast, e]

theorem pairGreyPicture (s : ByteArray) (W H : Int) (hs : s.size ≤ 1048576) :
    ∃ (W' H' : Int) (cs' : List Nat) (ok : Bool),
      (∀ w, Calls Try.prog 38 #[.string s, .int .i64 W, .int .i64 H] w (RPic 22 W' H' cs' ok w)) ∧
      (∀ w, Calls Try.prog 39 #[.string s, .int .i64 W, .int .i64 H] w (RPic 22 W' H' cs' ok w)) ∧ cs'.length ≤ 256 := by
  cases hv : validB W H s.size with
  | true =>
    obtain ⟨wn, hn, rfl, rfl, b1, b2, b3, b4, b5, hl⟩ := validB_parts hv
    refine ⟨_, _, _, true, fun w => specGreyPicture_any wn hn s w b1 b2 b3 b4 b5 hl, fun w => ?_, by rw [seqL_len]; exact b5⟩
    have h := implGreyPicture_any wn hn s w b1 b2 b3 b4 b5 hl
    rw [grid_seq wn hn (fun i => greyOf (sb s i)) b1] at h
    exact h
  | false => exact ⟨0, 0, [], false, fun w => specGreyPicture_no W H s w hs hv, fun w => implGreyPicture_no W H s w hs hv, by simp⟩
end Go.Proofs.Ytmbohiebjgafoaa
