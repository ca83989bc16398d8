import Derived.Test.YtbiobmdibiplfaaRor
import Derived.Test.YtbiobmdibiplfaaPs
set_option linter.unusedVariables false
set_option linter.unusedSimpArgs false
namespace Go.Proofs.Ytbiobmdibiplfaa
open Go.FX Go.RowKit Go.WideShapes Go.ChangeShapes
def rowS (W H : Nat) (cs cs' : List Nat) (k : Int) (i : Nat) : Nat := absS (diffI W H cs cs' k i)
theorem diff_fl {W H : Nat} {cs cs' : List Nat} (hc : ∀ x y, Fl .f32 (atC W H cs x y) (atC W H cs x y)) (hc' : ∀ x y, Fl .f32 (atC W H cs' x y) (atC W H cs' x y)) (k : Int) (i : Nat) : Fl .f32 (diffI W H cs cs' k i) (diffI W H cs cs' k i) := by
  have h := (hc ((i % W : Nat) : Int) ((i / W : Nat) : Int)).flR (op := .sub) (hc' ((i % W : Nat) : Int) (((i / W : Nat) : Int) + k)) default
  unfold diffI
  refine ⟨?_, ?_⟩
  · rw [← h.eq]; exact cn_lt h.lt
  · rw [← h.eq, cn_cn]
theorem atC_fl {W H : Nat} {cs : List Nat} (h : ∀ z ∈ cs, Fl .f32 z z) (x y : Int) : Fl .f32 (atC W H cs x y) (atC W H cs x y) := by
  unfold atC
  rw [List.getD_eq_getElem?_getD]
  cases e : cs[(nearI (↑W - 1) x + ↑W * nearI (↑H - 1) y).toNat]? with
  | none => exact ⟨by decide, by decide⟩
  | some z => exact h z (List.mem_of_getElem? e)
theorem fc_canons {w : World} {v : Value} {cs : List Nat} (h : FC w v cs) : ∀ z ∈ cs, Fl .f32 z z := by
  obtain ⟨zs, hf, rfl⟩ := h
  intro z hz
  obtain ⟨y, hy, rfl⟩ := List.mem_map.1 hz
  exact fl_cn (hf.1 y hy)
set_option maxRecDepth 100000 in
set_option maxHeartbeats 8000000 in
theorem specRows_any (W H : Nat) (a : Option Addr) (n c bp : Nat) (cs : List Nat) (a' : Option Addr) (n' c' bq : Nat) (cs' : List Nat) (k : Int) (w : World) (hp : Pv w bp W H (.slice a n c)) (hv : FC w (.slice a n c) cs) (hq : Pv w bq W H (.slice a' n' c')) (hv' : FC w (.slice a' n' c') cs') (k0 : -8 ≤ k) (k8 : k ≤ 8) (b1 : 1 ≤ W) (b2 : W ≤ 24) (b3 : 1 ≤ H) (b4 : H ≤ 24) (b5 : H * W ≤ 256) (hl : cs.length = H * W) (hl' : cs'.length = H * W) :
    Calls Try.prog 75 #[.pointer (some ⟨bp, 0, none⟩), .pointer (some ⟨bq, 0, none⟩), .int .i64 k] w (RF .f32 (offSum W H cs cs' k) w) := by
  have hA := fun x y m => specAt_any W H a n c bp cs x y (w.drewN m) (hp.drewN m) (hv.drewN m) b1 b2 b3 b4 hl
  have hB := fun x y m => specAt_any W H a' n' c' bq cs' x y (w.drewN m) (hq.drewN m) (hv'.drewN m) b1 b2 b3 b4 hl'
  have hdf := diff_fl (W := W) (H := H) (atC_fl (W := W) (H := H) (fc_canons hv)) (atC_fl (W := W) (H := H) (fc_canons hv')) k
  have hfin : accS (rowS W H cs cs' k) (H * W) = offSum W H cs cs' k := accS_abs (diffI W H cs cs' k) hdf (H * W)
  have hst : ∀ i x y : Nat, i = y * W + x → x < W → accS (rowS W H cs cs' k) (i + 1) = fop .add .f32 (accS (rowS W H cs cs' k) i) (absS (fop .sub .f32 (atC W H cs x y) (atC W H cs' x ((y : Int) + k)))) := fun i x y hi hx => by
    show fop .add .f32 _ (absS (diffI W H cs cs' k i)) = _
    unfold diffI
    rw [hi, place_mod y hx, place_div y hx]
  have hst' := Lib.hid hst
  have hfin' := Lib.hid hfin
  obtain ⟨F, hF⟩ : ∃ F, F = accS (rowS W H cs cs' k) := ⟨_, rfl⟩
  rw [← hF] at hst' hfin'
  have hF0 : F 0 = 0 := by rw [hF]; rfl
  clear hst hfin hdf hF
  obtain ⟨lP, p0, p1, p2⟩ := id hp
  have hpv := Lib.hid hp
  clear hp hv hq hv' hl hl'
  go_enter Try.func75, Try.ntmps75
  go_wp2_with fail
  go_loopw [7, 8] (fun s i wr => ∃ (y r n : Nat), y ≤ H ∧ i = .int .i64 y ∧ s = .float .f32 r ∧ wr = w.drewN n ∧ Fl .f32 r (F (y * W))) (fun _ i _ => H - (intOf i).toNat)
  case atStart => exact ⟨0, 0, 0, Nat.zero_le _, rfl, rfl, rfl, by rw [Nat.zero_mul, hF0]; exact ⟨by decide, by decide⟩⟩
  case round =>
    obtain ⟨y, r, n, hy, rfl, rfl, rfl, hr⟩ := hrel
    have x0 : (w.drewN n).cell? ⟨bp, 0, none⟩ = some (.int .i64 W) := p0
    have x1 : (w.drewN n).cell? ⟨bp, 1, none⟩ = some (.int .i64 H) := p1
    by_cases hlt : y < H
    · have g0 : (y : Int) < (H : Int) := by omega
      have g9 : IntKind.i64.wrap ((y : Int) + k) = (y : Int) + k := IntWalk.i64_in _ (by omega)
      have hr' := Lib.hid hr
      clear hr
      go_wp2_with fail
      go_loopw [7, 9] (fun s i wj => ∃ (x r2 m : Nat), x ≤ W ∧ i = .int .i64 x ∧ s = .float .f32 r2 ∧ wj = w.drewN m ∧ Fl .f32 r2 (F (y * W + x))) (fun _ i _ => W - (intOf i).toNat)
      case atStart => exact ⟨0, r, n, Nat.zero_le _, rfl, rfl, rfl, hr'.out⟩
      case round =>
        obtain ⟨x, r2, m, hx, rfl, rfl, rfl, hr2⟩ := hrel
        have z0 : (w.drewN m).cell? ⟨bp, 0, none⟩ = some (.int .i64 W) := p0
        by_cases hlx : x < W
        · have g1 : (x : Int) < (W : Int) := by omega
          have hS := Lib.hid (hst'.out (y * W + x) x y rfl hlx)
          have hr2' := Lib.hid hr2
          obtain ⟨c1, hc1⟩ : ∃ c, c = atC W H cs x y := ⟨_, rfl⟩
          obtain ⟨c2, hc2⟩ : ∃ c, c = atC W H cs' x ((y : Int) + k) := ⟨_, rfl⟩
          have hA1 := hA x y m
          have hB1 := fun m1 => hB x ((y : Int) + k) m1
          rw [← hc1] at hA1 hS
          rw [← hc2] at hB1 hS
          clear hr2 hc1 hc2
          go_wp2_with fail
          refine hA1.mono ?_
          rintro e w2 ⟨v1, m1, rfl, rfl, hv1⟩
          simp only [World.drewN_drewN]
          go_wp2_with fail
          refine (hB1 _).mono ?_
          rintro e w3 ⟨v2, m2, rfl, rfl, hv2⟩
          go_upto_region 9 with fail
          have hD := fun w9 => hv1.flR (op := .sub) hv2 w9
          generalize hDe : flR .sub .f32 v1 v2 _ = D
          have hDf : Fl .f32 D (fop .sub .f32 c1 c2) := by rw [← hDe]; exact hD _
          have hDf' := Lib.hid hDf
          cases t1 : (FloatKind.f32.format.order (fop .sub .f32 c1 c2) 0 == some Ordering.lt) with
          | true =>
            have t2 : (FloatKind.f32.format.order D 0 == some Ordering.lt) = true := by rw [hDf.order (⟨by decide, by decide⟩ : Fl .f32 0 0)]; exact t1
            have t1' := Lib.hid t1
            clear hDe hD hDf t1
            go_wp2_with fail
            go_roundw
            case rel => exact ⟨x + 1, _, _, by omega, by go_num, rfl, by first | rfl | (simp only [World.drewN_drewN]; rfl), by rw [show y * W + (x + 1) = y * W + x + 1 from rfl, hS.out]; unfold absS; rw [if_pos t1'.out]; exact hr2'.out.flR hDf'.out.neg _⟩
            case measure => simp [intOf]; omega
          | false =>
            have t2 : (FloatKind.f32.format.order D 0 == some Ordering.lt) = false := by rw [hDf.order (⟨by decide, by decide⟩ : Fl .f32 0 0)]; exact t1
            have t1' := Lib.hid t1
            clear hDe hD hDf t1
            go_wp2_with fail
            go_roundw
            case rel => exact ⟨x + 1, _, _, by omega, by go_num, rfl, by first | rfl | (simp only [World.drewN_drewN]; rfl), by rw [show y * W + (x + 1) = y * W + x + 1 from rfl, hS.out]; unfold absS; rw [if_neg (by rw [t1'.out]; simp)]; exact hr2'.out.flR hDf'.out _⟩
            case measure => simp [intOf]; omega
        · obtain rfl : x = W := by omega
          have hr2' := Lib.hid hr2
          clear hr2
          go_wp2_with fail
          go_roundw
          case rel => exact ⟨y + 1, r2, m, by omega, by go_num, rfl, rfl, by rw [Nat.succ_mul]; exact hr2'.out⟩
          case measure => simp [intOf]; omega
    · obtain rfl : y = H := by omega
      have hr' := Lib.hid hr
      clear hr
      go_wp2_with fail
      go_ret
      exact ⟨_, _, rfl, rfl, by rw [← hfin'.out]; exact hr'.out⟩
end Go.Proofs.Ytbiobmdibiplfaa
