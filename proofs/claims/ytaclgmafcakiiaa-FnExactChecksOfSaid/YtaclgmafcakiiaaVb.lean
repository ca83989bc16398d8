import Derived.Test.YtaclgmafcakiiaaVa
import Derived.OwnWalk
import Derived.Shelf.Abstract
set_option linter.unusedVariables false
set_option linter.unusedSimpArgs false
namespace Go.FX
open Go Go.RowKit
/-- What is asked of a function value that tells costs. -/
def CostFn (P : Program) (g : Nat) (first cap : Array Value) (W H D : Nat) (G : Nat → Nat → Nat → Nat) (w : World) : Prop :=
  ∀ (w1 : World) (x y d : Nat), Below w.heap.size w w1 → x < W → y < H → d < D → Calls P g (first ++ (#[.int .i64 x, .int .i64 y, .int .i64 d] ++ cap)) w1 (RFb .f32 (G x y d) w1)
theorem CostFn.later {P : Program} {g : Nat} {first cap : Array Value} {W H D : Nat} {G : Nat → Nat → Nat → Nat} {w w' : World} (h : CostFn P g first cap W H D G w) (hb : Below w.heap.size w w') : CostFn P g first cap W H D G w' :=
  fun w1 x y d h1 hx hy hd => h w1 x y d (hb.trans (h1.mono hb.size)) hx hy hd
end Go.FX
namespace Go.Proofs.Ytaclgmafcakiiaa
open Go.FX Go.RowKit Go.WideShapes Go.ChangeShapes

set_option maxHeartbeats 4000000 in
theorem build_any (W H D : Nat) (b1 : 1 ≤ W) (b2 : W ≤ 24) (b3 : 1 ≤ H) (b4 : H ≤ 24) (b5 : H * W ≤ 256) (d1 : 1 ≤ D) (d2 : D ≤ 8) (g : Nat) (first cap : Array Value) (G : Nat → Nat → Nat → Nat) (w : World)
    (eg : ∀ args w, (callFunc g args).run Try.prog w = .ok (.enter g args) w) (hG : CostFn Try.prog g first cap W H D G w) :
    Calls Try.prog 85 #[.int .i64 W, .int .i64 H, .int .i64 D, .func (.func g) first cap] w (RVol1 37 W H D (cubeL W D G (H * W * D)) w) := by
  obtain ⟨i0, hi, hz0, hz1, hz2⟩ := info_parts info_f32
  have hWH : (W : Int) * (H : Int) = ((H * W : Nat) : Int) := by push_cast; rw [Int.mul_comm]
  have hWH0 : (0 : Int) ≤ (W : Int) * (H : Int) := by rw [hWH]; omega
  have hWH1 : (W : Int) * (H : Int) ≤ 256 := by rw [hWH]; omega
  have h2048 : H * W * D ≤ 256 * 8 := Nat.mul_le_mul b5 d2
  have hWD : (W : Int) * (H : Int) * (D : Int) = ((H * W * D : Nat) : Int) := by rw [hWH]; push_cast; rfl
  have hWD0 : (0 : Int) ≤ (W : Int) * (H : Int) * (D : Int) := by rw [hWD]; omega
  have hWD1 : (W : Int) * (H : Int) * (D : Int) ≤ 2048 := by rw [hWD]; omega
  have HW := Lib.hid hWD
  clear hWH hWD
  go_enter Try.func85, Try.ntmps85
  go_wp2_with (at_make; refine wpList_make_own _ rfl _ _ 22 rfl (w.heap.size + 1) 37 i0 (.float .f32 0) 1 Try.underlying22 hi hz0 hz1 .i64 .i64 _ (H * W * D) rfl rfl ?c0 ?b2 ?b3 ?b4 ?_)
  case c0 => exact HW.out
  case b2 => rw [hz2]; omega
  case b3 => unfold maxLen; omega
  case b4 => simp
  intro w1 hown hgrow
  have hbel : Below w.heap.size w w1 := (below1 _ _).grown hgrow (by simp) (fun _ h => nomatch h)
  have hnv : Nw w1 w.heap.size (.int .i64 0) (.int .i64 0) (.int .i64 0) (.slice none 0 0) := (Nw.new _ _ _ _ _ _).kept hgrow (by simp)
  clear hgrow hWH0 hWH1 hWD0 hWD1
  go_wp2
  go_loopw [9, 20] (fun v i wr => ∃ (y : Nat) (a : Option Addr) (n c : Nat), y ≤ H ∧ i = .int .i64 y ∧ v = .slice a n c ∧ Hid (OC wr (w.heap.size + 1) 37 (.slice a n c) (cubeL W D G ((y * W + 0) * D + 0))) ∧ Below w.heap.size w wr ∧ Nw wr w.heap.size (.int .i64 0) (.int .i64 0) (.int .i64 0) (.slice none 0 0)) (fun _ i _ => H - (intOf i).toNat)
  case atStart => exact ⟨0, _, _, _, Nat.zero_le _, rfl, rfl, ⟨[], by simp, by simp [cubeL, seqL], hown⟩, hbel, hnv⟩
  case round =>
    clear hown hbel hnv
    obtain ⟨y, a, n, c, hy, rfl, rfl, hown, hbel, hnv⟩ := hrel
    by_cases hly : y < H
    · obtain ⟨wo, rfl⟩ : ∃ wo : World, wo = wr := ⟨_, rfl⟩
      go_wp2
      go_loopw [9, 24] (fun v i wr => ∃ (x : Nat) (a : Option Addr) (n c : Nat), x ≤ W ∧ i = .int .i64 x ∧ v = .slice a n c ∧ Hid (OC wr (w.heap.size + 1) 37 (.slice a n c) (cubeL W D G ((y * W + x) * D + 0))) ∧ Below w.heap.size w wr ∧ Nw wr w.heap.size (.int .i64 0) (.int .i64 0) (.int .i64 0) (.slice none 0 0)) (fun _ i _ => W - (intOf i).toNat)
      case atStart => exact ⟨0, _, _, _, Nat.zero_le _, rfl, rfl, hown, hbel, hnv⟩
      case round =>
        clear hown hbel hnv
        obtain ⟨x, a, n, c, hx, rfl, rfl, hown, hbel, hnv⟩ := hrel
        by_cases hlx : x < W
        · obtain ⟨wp, rfl⟩ : ∃ wp : World, wp = wr := ⟨_, rfl⟩
          go_wp2
          go_loopw [9, 28] (fun v i wr => ∃ (d : Nat) (a : Option Addr) (n c : Nat), d ≤ D ∧ i = .int .i64 d ∧ v = .slice a n c ∧ Hid (OC wr (w.heap.size + 1) 37 (.slice a n c) (cubeL W D G ((y * W + x) * D + d))) ∧ Below w.heap.size w wr ∧ Nw wr w.heap.size (.int .i64 0) (.int .i64 0) (.int .i64 0) (.slice none 0 0)) (fun _ i _ => D - (intOf i).toNat)
          case atStart => exact ⟨0, _, _, _, Nat.zero_le _, rfl, rfl, hown, hbel, hnv⟩
          case round =>
            clear hown hbel hnv
            obtain ⟨d, a, n, c, hd, rfl, rfl, hown, hbel, hnv⟩ := hrel
            by_cases hld : d < D
            · obtain ⟨zs, hz, hzm, hrow⟩ := hown.out
              have hlen : zs.length = (y * W + x) * D + d := by rw [← cubeL_len W D G ((y * W + x) * D + d), ← hzm, List.length_map]
              have hle : (y * W + x) * D + d + 1 ≤ 2048 := by
                have h1 := (cost_lt hlx hly hld).1
                omega
              have hzm' := Lib.hid hzm
              have hlen' := Lib.hid (And.intro hlen hle)
              clear hzm hlen hown hle
              go_wp2_with (first
                | (go_at_fn g; refine (hG wr x y d hbel hlx hly hld).mono ?_; rintro e w2 ⟨r, rfl, hb2, hr⟩; have hrow2 := (hrow.kept (grown_of_below hb2 none) (own_none _)).alloc (.cells #[.float .f32 r] 37))
                | (at_builtin; refine wpList_append_own _ rfl _ _ 22 rfl (w.heap.size + 1) 37 i0 (.float .f32 0) 1 4 Try.underlying22 hi hz0 hz1 hz2 rfl (by decide) _ _ _ rfl hrow2 ⟨w2.heap.size, 0, none⟩ 1 1 [.float .f32 r] rfl rfl ?c1 ?c2 ?c3 ?c4 ?c5 ?_))
              case c1 =>
                intro j u hj
                match j, hj with
                | 0, hj => simp at hj; subst hj; simp [Addr.add]
              case c2 => intro u hu; simp at hu; subst hu; rfl
              case c3 => have := hlen'.out; unfold maxLen; omega
              case c4 => have := hlen'.out; omega
              case c5 => have := hb2.size; have := hnv.1; simp; omega
              intro v' w3 hown' hgrow _
              obtain ⟨a3, n3, c3, rfl, hoc, hne⟩ := OC.appended hz hzm'.out hr hrow2 hgrow hown'
              rw [← cubeL_step W D G y hlx hld] at hoc
              have hbel3 : Below w.heap.size w w3 := (((hbel.trans (hb2.mono hbel.size)).alloc (Nat.le_trans hbel.size hb2.size) _).grown hgrow (by have := hbel.size; have := hb2.size; simp; omega) (fun k hk => by have := (hrow2.lt k hk).1; omega))
              have hnv3 := ((hnv.below hb2).alloc (.cells #[.float .f32 r] 37)).kept hgrow (fun h => hne _ (Nat.lt_succ_self _) h.symm)
              have HS := Lib.hid (And.intro hoc (And.intro hbel3 hnv3))
              clear hoc hbel3 hnv3 hown' hgrow hrow2 hrow hb2 hr hne hnv hbel hz
              go_wp2
              go_roundw
              case rel => exact ⟨d + 1, _, _, _, by omega, by go_num, rfl, HS.out.1, HS.out.2.1, HS.out.2.2⟩
              case measure => simp [intOf]; omega
            · obtain rfl : d = D := by omega
              rw [cubeL_cell] at hown
              go_wp2
              go_roundw
              case rel => exact ⟨x + 1, _, _, _, by omega, by go_num, rfl, hown, hbel, hnv⟩
              case measure => simp [intOf]; omega
        · obtain rfl : x = W := by omega
          rw [cubeL_row] at hown
          go_wp2
          go_roundw
          case rel => exact ⟨y + 1, _, _, _, by omega, by go_num, rfl, hown, hbel, hnv⟩
          case measure => simp [intOf]; omega
    · obtain rfl : y = H := by omega
      obtain ⟨hl, q0, q1, q2, q3, qf⟩ := hnv
      go_wp2
      refine bodyPost_ret (v := ?v) ?hr rfl ?post
      case hr => (simp [results, Try.results85, go_sem, q0, q1, q2, q3, qf]; rfl)
      case post =>
        refine ⟨_, _, _, rfl, ?_, ?_⟩
        · ((repeat' (first | (refine bel_set ?_ ?_ _) | (refine bel_al ?_ ?_ _) | exact Below.refl _ _ | assumption | (refine below_drewN ?_ _) | (refine Below.drew ?_))) <;> (first | omega | (simp; done) | (simp; omega)))
        · have ho := hown.out
          rw [Nat.add_zero, Nat.add_zero] at ho
          (refine OC.mono (base := ?bb) ?hh ?hl; (case hh => ((repeat' (first | (refine OC.set ?_ _ ?_) | (refine OC.alloc ?_ _) | exact ho | (refine OC.drewN ?_ _))) <;> (first | omega | (simp; done) | (simp; omega)))); (case hl => (first | omega | (simp; done) | (simp; omega))))
set_option maxHeartbeats 1000000 in
theorem buildFrom_any (W H D : Nat) (a : Option Addr) (n c : Nat) (hval : volB W H D n = true) (hnc : n ≤ c) (hcm : c ≤ maxLen) (b1 : 1 ≤ W) (b2 : W ≤ 24) (b3 : 1 ≤ H) (b4 : H ≤ 24) (b5 : H * W ≤ 256) (d1 : 1 ≤ D) (d2 : D ≤ 8)
    (g : Nat) (first cap : Array Value) (G : Nat → Nat → Nat → Nat) (w : World)
    (eg : ∀ args w, (callFunc g args).run Try.prog w = .ok (.enter g args) w) (hG : CostFn Try.prog g first cap W H D G w) :
    Calls Try.prog 67 #[.agg #[.int .i64 W, .int .i64 H, .int .i64 D, .slice a n c], .func (.func g) first cap] w (RVol 37 W H D (cubeL W D G (H * W * D)) true w) := by
  have h1 := fun w1 => validVol_any W H D (.slice a n c) n w1 ⟨a, c, rfl, hnc, hcm⟩
  have h2 := fun w1 (hb : Below w.heap.size w w1) => build_any W H D b1 b2 b3 b4 b5 d1 d2 g first cap G w1 eg (hG.later hb)
  have hval := Lib.hid hval
  go_enter Try.func67, Try.ntmps67
  go_wp2_with fail
  refine (h1 _).mono ?_
  rintro e w1 ⟨rfl, hb1⟩
  rw [hval.out]
  have hP := ((Pw.new _ _ _ _ _ _).alloc _).below hb1
  obtain ⟨l0, p0, p1, p2, p3⟩ := id hP
  have hnv := (Nw.new _ _ _ _ _ _).below hb1
  have s1 := hb1.size
  simp only [World.size_alloc] at s1 hnv
  go_wp2_with fail
  refine (h2 _ (by ((repeat' (first | (refine bel_set ?_ ?_ _) | (refine bel_al ?_ ?_ _) | exact Below.refl _ _ | assumption | (refine below_drewN ?_ _) | (refine Below.drew ?_) | (refine Below.trans ?_ (Below.mono hb1 ?_)))) <;> (first | omega | (simp; done) | (simp; omega))))).mono ?_
  rintro e w2 ⟨a2, n2, c2, rfl, hb2, ho2⟩
  obtain ⟨l1, q0, q1, q2, q3, qf⟩ := hnv.below hb2
  have s2 := hb2.size
  go_wp2_with fail
  refine bodyPost_ret (v := ?v) ?hr rfl ?post
  case hr => (simp [results, Try.results67, go_sem, q0, q1, q2, q3, qf]; try rfl)
  case post =>
    refine ⟨_, _, _, rfl, ?_, ?_⟩
    · ((repeat' (first | (refine bel_set ?_ ?_ _) | (refine bel_al ?_ ?_ _) | exact Below.refl _ _ | assumption | (refine below_drewN ?_ _) | (refine Below.drew ?_) | (refine Below.trans ?_ (Below.mono hb2 ?_)) | (refine Below.trans ?_ (Below.mono hb1 ?_)))) <;> (first | omega | (simp; done) | (simp; omega)))
    · (refine OC.mono (base := ?bb) ?hh ?hl; (case hh => ((repeat' (first | (refine OC.set ?_ _ ?_) | (refine OC.alloc ?_ _) | exact ho2 | (refine OC.drewN ?_ _))) <;> (first | omega | (simp; done) | (simp; omega)))); (case hl => (first | omega | (simp; done) | (simp; omega))))
theorem buildFrom_no (W H D : Int) (a : Option Addr) (n c : Nat) (hnc : n ≤ c) (hcm : c ≤ maxLen) (hval : volB W H D n = false)
    (f : Fn) (first cap : Array Value) (w : World) :
    Calls Try.prog 67 #[.agg #[.int .i64 W, .int .i64 H, .int .i64 D, .slice a n c], .func f first cap] w (RVol 37 0 0 0 [] false w) := by
  have h1 := fun w1 => validVol_any W H D (.slice a n c) n w1 ⟨a, c, rfl, hnc, hcm⟩
  have hval := Lib.hid hval
  go_enter Try.func67, Try.ntmps67
  go_wp2_with fail
  refine (h1 _).mono ?_
  rintro e w1 ⟨rfl, hb1⟩
  rw [hval.out]
  obtain ⟨l1, q0, q1, q2, q3, qf⟩ := (Nw.new _ _ _ _ _ _).below hb1
  simp only [World.size_alloc] at l1 q0 q1 q2 q3 qf
  go_wp2_with fail
  refine bodyPost_ret (v := ?v) ?hr rfl ?post
  case hr => (simp [results, Try.results67, go_sem, q0, q1, q2, q3, qf]; try rfl)
  case post => exact ⟨_, _, _, rfl, by ((repeat' (first | (refine bel_set ?_ ?_ _) | (refine bel_al ?_ ?_ _) | exact Below.refl _ _ | assumption | (refine below_drewN ?_ _) | (refine Below.drew ?_) | (refine Below.trans ?_ (Below.mono hb1 ?_)))) <;> (first | omega | (simp; done) | (simp; omega))), OC.nil _ _ _⟩
end Go.Proofs.Ytaclgmafcakiiaa
