import Derived.Test.YtmbohiebjgafoaaPm
import Derived.OwnWalk
import Derived.Shelf.Abstract
set_option linter.unusedVariables false
set_option linter.unusedSimpArgs false
namespace Go.FX
open Go Go.RowKit
/-- What is asked of a function value that tells greys. -/
def GreyFn (P : Program) (g : Nat) (first cap : Array Value) (W H : Nat) (G : Int → Int → Nat) (w : World) : Prop :=
  ∀ (w1 : World) (x y : Nat), Below w.heap.size w w1 → x < W → y < H → Calls P g (first ++ (#[.int .i64 x, .int .i64 y] ++ cap)) w1 (RFb .f32 (G x y) w1)
theorem GreyFn.later {P : Program} {g : Nat} {first cap : Array Value} {W H : Nat} {G : Int → Int → Nat} {w w' : World} (h : GreyFn P g first cap W H G w) (hb : Below w.heap.size w w') : GreyFn P g first cap W H G w' :=
  fun w1 x y h1 hx hy => h w1 x y (hb.trans (h1.mono hb.size)) hx hy
end Go.FX
namespace Go.Proofs.Ytmbohiebjgafoaa
open Go.FX Go.RowKit Go.WideShapes Go.ChangeShapes

theorem isSize_any (W H : Int) (w : World) : Calls Try.prog 82 #[.int .i64 W, .int .i64 H] w fun e w' => e = .returned (.bool (sizeB W H)) ∧ w = w' := by
  by_cases h1 : 1 ≤ W
  · by_cases h2 : W ≤ 24
    · by_cases h3 : 1 ≤ H
      · by_cases h4 : H ≤ 24
        · have a1 := area_lo h1 h3
          have a2 := area_hi h1 h2 h3 h4
          by_cases h5 : W * H ≤ 256
          all_goals
            go_enter Try.func82, Try.ntmps82
            go_wp2
            go_ret
            exact ⟨by simp [sizeB, h1, h2, h3, h4, h5], rfl⟩
        · go_enter Try.func82, Try.ntmps82
          go_wp2
          go_ret
          exact ⟨by simp [sizeB]; intros; omega, rfl⟩
      · go_enter Try.func82, Try.ntmps82
        go_wp2
        go_ret
        exact ⟨by simp [sizeB]; intros; omega, rfl⟩
    · go_enter Try.func82, Try.ntmps82
      go_wp2
      go_ret
      exact ⟨by simp [sizeB]; intros; omega, rfl⟩
  · go_enter Try.func82, Try.ntmps82
    go_wp2
    go_ret
    exact ⟨by simp [sizeB]; intros; omega, rfl⟩

theorem validPic_any (W H : Int) (v : Value) (n : Nat) (w : World) (hs : ∃ a cap, v = .slice a n cap ∧ n ≤ cap ∧ cap ≤ maxLen) :
    Calls Try.prog 71 #[.agg #[.int .i64 W, .int .i64 H, v]] w (RBb (validB W H n) w) := by
  obtain ⟨a, cap, rfl, h1, h2⟩ := hs
  unfold maxLen at h2
  cases hb : sizeB W H with
  | true =>
    obtain ⟨g1, g2, g3, g4, g5⟩ := sizeB_iff.1 hb
    have a1 := area_lo g1 g3
    by_cases h5 : (n : Int) = W * H
    all_goals
      go_enter Try.func71, Try.ntmps71
      go_wp2_with (go_at_call 82; refine (isSize_any _ _ _).mono ?_; rintro e w' ⟨rfl, rfl⟩; rw [hb])
      go_ret
      exact ⟨by simp [validB, hb, h5], below1 _ _⟩
  | false =>
    go_enter Try.func71, Try.ntmps71
    go_wp2_with (go_at_call 82; refine (isSize_any _ _ _).mono ?_; rintro e w' ⟨rfl, rfl⟩; rw [hb])
    go_ret
    exact ⟨by simp [validB, hb], below1 _ _⟩

set_option maxHeartbeats 4000000 in
theorem draw_any (W H : Nat) (b1 : 1 ≤ W) (b2 : W ≤ 24) (b3 : 1 ≤ H) (b4 : H ≤ 24) (b5 : H * W ≤ 256) (g : Nat) (first cap : Array Value) (G : Int → Int → Nat) (w : World)
    (eg : ∀ args w, (callFunc g args).run Try.prog w = .ok (.enter g args) w) (hG : GreyFn Try.prog g first cap W H G w) :
    Calls Try.prog 83 #[.int .i64 W, .int .i64 H, .func (.func g) first cap] w (RPic1 22 W H (gridL W G (H * W)) w) := by
  obtain ⟨i0, hi, hz0, hz1, hz2⟩ := info_parts info_f32
  have hWH : (W : Int) * (H : Int) = ((H * W : Nat) : Int) := by push_cast; rw [Int.mul_comm]
  have hWH0 : (0 : Int) ≤ (W : Int) * (H : Int) := by rw [hWH]; omega
  have hWH1 : (W : Int) * (H : Int) ≤ 256 := by rw [hWH]; omega
  have HW := Lib.hid hWH
  clear hWH
  go_enter Try.func83, Try.ntmps83
  go_wp2_with (at_make; refine wpList_make_own _ rfl _ _ 39 rfl (w.heap.size + 1) 22 i0 (.float .f32 0) 1 Try.underlying39 hi hz0 hz1 .i64 .i64 _ (H * W) rfl rfl ?c0 ?b2 ?b3 ?b4 ?_)
  case c0 => exact HW.out
  case b2 => rw [hz2]; omega
  case b3 => unfold maxLen; omega
  case b4 => simp
  intro w1 hown hgrow
  have hbel : Below w.heap.size w w1 := (below1 _ _).grown hgrow (by simp) (fun _ h => nomatch h)
  have hnv : Nv w1 w.heap.size (.int .i64 0) (.int .i64 0) (.slice none 0 0) := (Nv.new _ _ _ _ _).kept hgrow (by simp)
  clear hgrow hWH0 hWH1
  go_wp2
  go_loopw [7, 15] (fun v i wr => ∃ (y : Nat) (a : Option Addr) (n c : Nat), y ≤ H ∧ i = .int .i64 y ∧ v = .slice a n c ∧ Hid (OC wr (w.heap.size + 1) 22 (.slice a n c) (gridL W G (y * W + 0))) ∧ Below w.heap.size w wr ∧ Nv wr w.heap.size (.int .i64 0) (.int .i64 0) (.slice none 0 0)) (fun _ i _ => H - (intOf i).toNat)
  case atStart => exact ⟨0, _, _, _, Nat.zero_le _, rfl, rfl, ⟨[], by simp, by simp [gridL], hown⟩, hbel, hnv⟩
  case round =>
    clear hown hbel hnv
    obtain ⟨y, a, n, c, hy, rfl, rfl, hown, hbel, hnv⟩ := hrel
    by_cases hly : y < H
    · obtain ⟨wo, rfl⟩ : ∃ wo : World, wo = wr := ⟨_, rfl⟩
      go_wp2
      go_loopw [7, 19] (fun v i wr => ∃ (x : Nat) (a : Option Addr) (n c : Nat), x ≤ W ∧ i = .int .i64 x ∧ v = .slice a n c ∧ Hid (OC wr (w.heap.size + 1) 22 (.slice a n c) (gridL W G (y * W + x))) ∧ Below w.heap.size w wr ∧ Nv wr w.heap.size (.int .i64 0) (.int .i64 0) (.slice none 0 0)) (fun _ i _ => W - (intOf i).toNat)
      case atStart => exact ⟨0, _, _, _, Nat.zero_le _, rfl, rfl, hown, hbel, hnv⟩
      case round =>
        clear hown hbel hnv
        obtain ⟨x, a, n, c, hx, rfl, rfl, hown, hbel, hnv⟩ := hrel
        by_cases hlx : x < W
        · obtain ⟨zs, hz, hzm, hrow⟩ := hown.out
          have hlen : zs.length = y * W + x := by rw [← gridL_len W G (y * W + x), ← hzm, List.length_map]
          have hle : y * W + x + 1 ≤ 256 := by
            have h1 : y * W + W ≤ H * W := by rw [← Nat.succ_mul]; exact Nat.mul_le_mul_right _ hly
            omega
          have hzm' := Lib.hid hzm
          have hlen' := Lib.hid hlen
          clear hzm hlen hown
          go_wp2_with (first
            | (go_at_fn g; refine (hG wr x y hbel hlx hly).mono ?_; rintro e w2 ⟨r, rfl, hb2, hr⟩; have hrow2 := (hrow.kept (grown_of_below hb2 none) (own_none _)).alloc (.cells #[.float .f32 r] 22))
            | (at_builtin; refine wpList_append_own _ rfl _ _ 39 rfl (w.heap.size + 1) 22 i0 (.float .f32 0) 1 4 Try.underlying39 hi hz0 hz1 hz2 rfl (by decide) _ _ _ rfl hrow2 ⟨w2.heap.size, 0, none⟩ 1 1 [.float .f32 r] rfl rfl ?c1 ?c2 ?c3 ?c4 ?c5 ?_))
          case c1 =>
            intro j u hj
            match j, hj with
            | 0, hj => simp at hj; subst hj; simp [Addr.add]
          case c2 => intro u hu; simp at hu; subst hu; rfl
          case c3 => have := hlen'.out; unfold maxLen; omega
          case c4 => have := hlen'.out; omega
          case c5 => have := hb2.size; have := hnv.1; simp; omega
          intro v' w3 hown' hgrow _
          obtain ⟨a3, n3, c3, rfl, hoc, hne⟩ := OC.appended hz hzm'.out hr hrow2 hgrow hown'
          rw [← gridL_step W G y hlx] at hoc
          have hbel3 : Below w.heap.size w w3 := (((hbel.trans (hb2.mono hbel.size)).alloc (Nat.le_trans hbel.size hb2.size) _).grown hgrow (by have := hbel.size; have := hb2.size; simp; omega) (fun k hk => by have := (hrow2.lt k hk).1; omega))
          have hnv3 := ((hnv.below hb2).alloc (.cells #[.float .f32 r] 22)).kept hgrow (fun h => hne _ (Nat.lt_succ_self _) h.symm)
          have HS := Lib.hid (And.intro hoc (And.intro hbel3 hnv3))
          clear hoc hbel3 hnv3 hown' hgrow hrow2 hrow hb2 hr hne hnv hbel hz
          go_wp2
          go_roundw
          case rel => exact ⟨x + 1, _, _, _, by omega, by go_num, rfl, HS.out.1, HS.out.2.1, HS.out.2.2⟩
          case measure => simp [intOf]; omega
        · obtain rfl : x = W := by omega
          rw [gridL_row] at hown
          go_wp2
          go_roundw
          case rel => exact ⟨y + 1, _, _, _, by omega, by go_num, rfl, hown, hbel, hnv⟩
          case measure => simp [intOf]; omega
    · obtain rfl : y = H := by omega
      obtain ⟨hl, q0, q1, q2, qf⟩ := hnv
      go_wp2
      refine bodyPost_ret (v := ?v) ?hr rfl ?post
      case hr => (simp [results, Try.results83, go_sem, q0, q1, q2, qf]; rfl)
      case post =>
        refine ⟨_, _, _, rfl, ?_, ?_⟩
        · ((repeat' (first | (refine bel_set ?_ ?_ _) | (refine bel_al ?_ ?_ _) | exact Below.refl _ _ | assumption | (refine below_drewN ?_ _) | (refine Below.drew ?_))) <;> (first | omega | (simp; done) | (simp; omega)))
        · have ho := hown.out
          rw [Nat.add_zero] at ho
          (refine OC.mono (base := ?bb) ?hh ?hl; (case hh => ((repeat' (first | (refine OC.set ?_ _ ?_) | (refine OC.alloc ?_ _) | exact ho | (refine OC.drewN ?_ _))) <;> (first | omega | (simp; done) | (simp; omega)))); (case hl => (first | omega | (simp; done) | (simp; omega))))

end Go.Proofs.Ytmbohiebjgafoaa
