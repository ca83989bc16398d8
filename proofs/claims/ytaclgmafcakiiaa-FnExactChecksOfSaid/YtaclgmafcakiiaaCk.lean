import Derived.Test.YtaclgmafcakiiaaWj
import Derived.Test.YtaclgmafcakiiaaWa
import Derived.Test.YtaclgmafcakiiaaWp
import Derived.Test.YtaclgmafcakiiaaWz
import Derived.Test.YtaclgmafcakiiaaRs
import Derived.Test.YtaclgmafcakiiaaVt
set_option linter.unusedVariables false
set_option linter.unusedSimpArgs false
namespace Go.FX
open Go Go.RowKit
/-- What is kept of a number v that tells a cell with r (t: the cell is there). -/
def chkV (v r m : Nat) (t : Bool) : Nat := if holeB v then 3212836864 else if t then (if holeB r then 3212836864 else if nearB (fop .sub .f32 v r) m then v else 3212836864) else 3212836864
def chkI (W : Nat) (L R : List Nat) (m i : Nat) : Nat := chkV (L.getD i 0) (R.getD ((i : Int) - placeI (L.getD i 0)).toNat 0) m (decide (0 ≤ placeI (L.getD i 0) ∧ placeI (L.getD i 0) ≤ ((i % W : Nat) : Int)))
theorem chk_h {v r m : Nat} {t : Bool} (h : holeB v = true) : chkV v r m t = 3212836864 := by unfold chkV; rw [h]; rfl
theorem chk_f {v r m : Nat} {t : Bool} (ht : t = false) : chkV v r m t = 3212836864 := by unfold chkV; rw [ht]; simp
theorem chk_r {v r m : Nat} {t : Bool} (h : holeB r = true) : chkV v r m t = 3212836864 := by unfold chkV; rw [h]; simp
theorem chk_n {v r m : Nat} {t : Bool} (h : nearB (fop .sub .f32 v r) m = false) : chkV v r m t = 3212836864 := by unfold chkV; rw [h]; simp
theorem chk_y {v r m : Nat} {t : Bool} (h : holeB v = false) (ht : t = true) (h2 : holeB r = false) (h3 : nearB (fop .sub .f32 v r) m = true) : chkV v r m t = v := by unfold chkV; rw [h, ht, h2, h3]; rfl
theorem placeI_top' (x : Nat) : placeI x ≤ 25 := by
  by_cases h : -1056964608 ≤ key .f32 x
  · exact placeI_hi x h
  · unfold placeI
    split
    · rw [if_pos (by omega)]; omega
    · omega
theorem RPic.backC {E : TypeId} {W H : Int} {cs : List Nat} {ok : Bool} {w0 w1 : World} {e : Ending} {w' : World} (hb : Below w0.heap.size w0 w1) (h : RPic E W H cs ok w1 e w') : RPic E W H cs ok w0 e w' := by
  obtain ⟨a, n, c, he, h1, h2⟩ := h
  exact ⟨a, n, c, he, hb.trans (h1.mono hb.size), h2.mono hb.size⟩
theorem flM1c : Fl .f32 3212836864 3212836864 := ⟨by decide, by decide⟩
end Go.FX
namespace Go.Proofs.Ytaclgmafcakiiaa
open Go.FX Go.RowKit Go.WideShapes Go.ChangeShapes
attribute [local go_sem ↓] Go.wp_at_zero Go.wp_at_succ

theorem isHoleV {z c : Nat} (b : Bool) (h : Fl .f32 z c) (hb : holeB c = b) (w : World) : Calls Try.prog 75 #[.float .f32 z] w (fun e w' => e = .returned (.bool b) ∧ Below w.heap.size w w') :=
  (isHole_any z w).mono fun e w' ⟨h1, h2⟩ => ⟨by rw [h1, holeB_fl h, hb], by rw [← h2]; exact Below.refl _ _⟩
theorem isNearV {x y n cx cy cn' : Nat} (b : Bool) (hx : Fl .f32 x cx) (hy : Fl .f32 y cy) (hn : Fl .f32 n cn') (hb : nearB (fop .sub .f32 cx cy) cn' = b) (w : World) : Calls Try.prog 76 #[.float .f32 x, .float .f32 y, .float .f32 n] w (fun e w' => e = .returned (.bool b) ∧ Below w.heap.size w w') :=
  (isNear_any x y n cx cy cn' hx hy hn w).mono fun e w' ⟨k, h1, h2⟩ => ⟨by rw [h1, hb], by rw [h2]; exact below_drewN (Below.refl _ _) _⟩
set_option maxHeartbeats 4000000 in
theorem toldBy_any (W H : Nat) (v : Value) (cs : List Nat) (x y : Nat) (w : World) (hv : FC w v cs) (b1 : 1 ≤ W) (b2 : W ≤ 24) (b4 : H ≤ 24) (hl : cs.length = H * W) (hx : x < W) (hy : y < H) (g : Nat) (hg : atC W H cs x y = g) (u : Int) (hu : (x : Int) - placeI g = u) (ok : Bool) (hok : (!holeB g && idxB u W) = ok) :
    Calls Try.prog 74 #[.agg #[.int .i64 W, .int .i64 H, v], .int .i64 x, .int .i64 y] w (fun e w' => e = .returned (.tuple #[.int .i64 u, .bool ok]) ∧ Below w.heap.size w w') := by
  have hat := fun w2 (h : Below w.heap.size w w2) => mapAt_any W H v cs x y w2 (hv.below h) b1 b2 b4 hl hx hy
  rw [hg] at hat
  have h1 := placeI_lo g
  have h2 := placeI_top' g
  have hP := Pv.new w W H v 27
  have hu' := Lib.hid hu
  clear hv hl hg hu
  cases hA : holeB g with
  | true =>
    obtain rfl : ok = false := by rw [← hok, hA]; rfl
    have hA' := Lib.hid hA
    clear hA hok
    go_enter Try.func74, Try.ntmps74
    go_wp2_with fail
    refine (hat _ (by ((repeat' (first | (refine bel_set ?_ ?_ _) | (refine bel_al ?_ ?_ _) | exact Below.refl _ _ | assumption | (refine below_drewN ?_ _) | (refine Below.drew ?_))) <;> (first | omega | (simp; done) | (simp; omega))))).mono ?_
    rintro e w2 ⟨r, rfl, hb2, hr⟩
    have hpf := Lib.hid (placeI_fl hr)
    have hh := Lib.hid ((holeB_fl hr).trans hA'.out)
    go_wp2_with fail
    refine (placeOf_any _ _).mono ?_
    rintro e w3 ⟨k3, rfl, rfl⟩
    rw [hpf.out]
    go_wp2_with fail
    refine (isHole_any _ _).mono ?_
    rintro e w4 ⟨rfl, rfl⟩
    rw [hh.out]
    go_wp2_with fail
    refine bodyPost_ret (v := ?v1) ?hr1 rfl ?post1
    case hr1 => (simp [results, Try.results74, go_sem]; try rfl)
    case post1 => exact ⟨by rw [hu'.out], by ((repeat' (first | (refine bel_set ?_ ?_ _) | (refine bel_al ?_ ?_ _) | exact Below.refl _ _ | assumption | (refine below_drewN ?_ _) | (refine Below.drew ?_) | (refine Below.trans ?_ (Below.mono hb2 ?_)))) <;> (first | omega | (simp; done) | (simp; omega)))⟩
  | false =>
    have hok2 : Hid (idxB u W = ok) := Lib.hid (by rw [← hok, hA]; rfl)
    clear hok
    have hA' := Lib.hid hA
    clear hA
    go_enter Try.func74, Try.ntmps74
    go_wp2_with fail
    refine (hat _ (by ((repeat' (first | (refine bel_set ?_ ?_ _) | (refine bel_al ?_ ?_ _) | exact Below.refl _ _ | assumption | (refine below_drewN ?_ _) | (refine Below.drew ?_))) <;> (first | omega | (simp; done) | (simp; omega))))).mono ?_
    rintro e w2 ⟨r, rfl, hb2, hr⟩
    have hpf := Lib.hid (placeI_fl hr)
    have hh := Lib.hid ((holeB_fl hr).trans hA'.out)
    obtain ⟨l0, p0, p1, p2⟩ := hP.below hb2
    go_wp2_with fail
    refine (placeOf_any _ _).mono ?_
    rintro e w3 ⟨k3, rfl, rfl⟩
    rw [hpf.out]
    go_wp2_with fail
    refine (isHole_any _ _).mono ?_
    rintro e w4 ⟨rfl, rfl⟩
    rw [hh.out]
    go_wp2_with fail
    refine (isIndex_any _ _ _).mono ?_
    rintro e w5 ⟨rfl, rfl⟩
    rw [hu'.out, hok2.out]
    go_wp2_with fail
    refine bodyPost_ret (v := ?v2) ?hr2 rfl ?post2
    case hr2 => (simp [results, Try.results74, go_sem]; try rfl)
    case post2 => exact ⟨rfl, by ((repeat' (first | (refine bel_set ?_ ?_ _) | (refine bel_al ?_ ?_ _) | exact Below.refl _ _ | assumption | (refine below_drewN ?_ _) | (refine Below.drew ?_) | (refine Below.trans ?_ (Below.mono hb2 ?_)))) <;> (first | omega | (simp; done) | (simp; omega)))⟩
set_option maxRecDepth 100000 in
set_option maxHeartbeats 8000000 in
theorem chk_fn (W H : Nat) (a : Option Addr) (n c : Nat) (cs : List Nat) (a' : Option Addr) (n' c' : Nat) (cs' : List Nat) (m cm : Nat) (hm : Fl .f32 m cm) (bp bq bm : Nat) (w : World) (hv : FC w (.slice a n c) cs) (hp : Pv w bp W H (.slice a n c)) (hv' : FC w (.slice a' n' c') cs') (hp' : Pv w bq W H (.slice a' n' c')) (hlm : bm < w.heap.size) (hcm : w.cell? ⟨bm, 0, none⟩ = some (.float .f32 m)) (b1 : 1 ≤ W) (b2 : W ≤ 24) (b3 : 1 ≤ H) (b4 : H ≤ 24) (hl : cs.length = H * W) (hl' : cs'.length = H * W)
    (hpos : ∀ i, holeB (cs.getD i 0) = false → 0 ≤ placeI (cs.getD i 0)) :
    GreyFn Try.prog 73 #[] #[.pointer (some ⟨bp, 0, none⟩), .pointer (some ⟨bq, 0, none⟩), .pointer (some ⟨bm, 0, none⟩)] W H (fun x y => chkI W cs cs' cm (y.toNat * W + x.toNat)) w := by
  intro w1 x y hb hx hy
  have hatc := atC_nat cs hx hy
  obtain ⟨g, hg⟩ : ∃ g, g = cs.getD (y * W + x) 0 := ⟨_, rfl⟩
  have hpo := hpos (y * W + x)
  rw [← hg] at hatc hpo
  have hat := fun w2 (h : Below w1.heap.size w1 w2) => mapAt_any W H (.slice a n c) cs x y w2 ((hv.below hb).below h) b1 b2 b4 hl hx hy
  rw [hatc] at hat
  show Calls Try.prog 73 #[.int .i64 x, .int .i64 y, .pointer (some ⟨bp, 0, none⟩), .pointer (some ⟨bq, 0, none⟩), .pointer (some ⟨bm, 0, none⟩)] w1 (RFb .f32 (chkI W cs cs' cm ((y : Int).toNat * W + (x : Int).toNat)) w1)
  simp only [Int.toNat_natCast]
  obtain ⟨t, ht⟩ : ∃ t, t = decide (0 ≤ placeI g ∧ placeI g ≤ ((x : Nat) : Int)) := ⟨_, rfl⟩
  obtain ⟨r2, hr2⟩ : ∃ r2, r2 = cs'.getD (((y * W + x : Nat) : Int) - placeI g).toNat 0 := ⟨_, rfl⟩
  have hE : chkI W cs cs' cm (y * W + x) = chkV g r2 cm t := by unfold chkI; rw [← hg, place_mod y hx, ht, hr2]
  rw [hE]
  obtain ⟨u, hu⟩ : ∃ u, (x : Int) - placeI g = u := ⟨_, rfl⟩
  obtain ⟨ok, hok⟩ : ∃ ok, (!holeB g && idxB u W) = ok := ⟨_, rfl⟩
  have htold := fun w2 (h : Below w1.heap.size w1 w2) => toldBy_any W H (.slice a n c) cs x y w2 ((hv.below hb).below h) b1 b2 b4 hl hx hy g hatc u hu ok hok
  have hPb := hp.below hb
  obtain ⟨l0, p0, p1, p2⟩ := id hPb
  have hQ := hp'.below hb
  have hf' := hv'.below hb
  have hM := ((bcell hb).1 bm 0 hlm).trans hcm
  have lm : bm < w1.heap.size := Nat.lt_of_lt_of_le hlm hb.size
  cases ok with
  | false =>
    have hV : Hid (chkV g r2 cm t = 3212836864) := Lib.hid (by
      cases hA : holeB g with
      | true => exact chk_h hA
      | false =>
        refine chk_f ?_
        rw [hA] at hok
        have h0 := hpo hA
        rw [ht]
        refine decide_eq_false fun h => ?_
        have : idxB u W = true := by unfold idxB; simp; omega
        rw [this] at hok; simp at hok)
    clear hok hu hE hr2 ht hpo hg hatc hpos hv hv' hp hp' hb hl hl' hcm hlm
    go_enter Try.func73, Try.ntmps73
    go_wp2_with fail
    refine (hat _ (by ((repeat' (first | (refine bel_set ?_ ?_ _) | (refine bel_al ?_ ?_ _) | exact Below.refl _ _ | assumption | (refine below_drewN ?_ _) | (refine Below.drew ?_))) <;> (first | omega | (simp; done) | (simp; omega))))).mono ?_
    rintro e w2 ⟨r1, rfl, hb2, hr1⟩
    obtain ⟨l3, p3, p4, p5⟩ := id (hPb.below hb2)
    clear p0 p1 p2
    go_wp2_with fail
    refine (htold _ (by ((repeat' (first | (refine bel_set ?_ ?_ _) | (refine bel_al ?_ ?_ _) | exact Below.refl _ _ | assumption | (refine below_drewN ?_ _) | (refine Below.drew ?_) | (refine Below.trans ?_ (Below.mono hb2 ?_)))) <;> (first | omega | (simp; done) | (simp; omega))))).mono ?_
    rintro e w3 ⟨rfl, hb3⟩
    go_upto_region 1 with fail
    refine wp_region_skip (by kernel_rfl) (by kernel_rfl) (by kernel_rfl) (by kernel_rfl) (fun w' => Below w3.heap.size w3 w') (below_drewN (Below.refl _ _) 1) [some (Eq1 ?q2395u0), some (Eq1 ?q2395u1), some (Eq1 ?q2395u2), none, none, none, none, none, some (Eq1 ?q2395u8), some (Eq1 ?q2395u9), none, none, none, none, none, none, none, none, some (Eq1 ?q2395u18)] ?q2395main
    case q2395main =>
      (refine wpS_pure ?_ (fun w hw => ?_) ?_; rfl; (obtain ⟨hwc, hwf⟩ := bcell2 hw; go_simp; (try with_reducible rfl)); (try simp only [Act.put, List.setIfInBounds_toArray, List.set_cons_zero, List.set_cons_succ]))
      (refine wpS_pure ?_ (fun w hw => ?_) ?_; rfl; (obtain ⟨hwc, hwf⟩ := bcell2 hw; go_simp; (try with_reducible rfl)); (try simp only [Act.put, List.setIfInBounds_toArray, List.set_cons_zero, List.set_cons_succ]))
      (refine wpS_pure ?_ (fun w hw => ?_) ?_; rfl; (obtain ⟨hwc, hwf⟩ := bcell2 hw; go_simp; (try with_reducible rfl)); (try simp only [Act.put, List.setIfInBounds_toArray, List.set_cons_zero, List.set_cons_succ]))
      (refine wpS_skip ?_ ?_; rfl; (try simp only [Act.put, List.setIfInBounds_toArray, List.set_cons_zero, List.set_cons_succ]))
      (refine wpS_skip ?_ ?_; rfl; (try simp only [Act.put, List.setIfInBounds_toArray, List.set_cons_zero, List.set_cons_succ]))
      (refine wpS_skip ?_ ?_; rfl; (try simp only [Act.put, List.setIfInBounds_toArray, List.set_cons_zero, List.set_cons_succ]))
      (refine wpS_skip ?_ ?_; rfl; (try simp only [Act.put, List.setIfInBounds_toArray, List.set_cons_zero, List.set_cons_succ]))
      (refine wpS_skip ?_ ?_; rfl; (try simp only [Act.put, List.setIfInBounds_toArray, List.set_cons_zero, List.set_cons_succ]))
      (refine wpS_pure ?_ (fun w hw => ?_) ?_; rfl; (obtain ⟨hwc, hwf⟩ := bcell2 hw; go_simp; (try with_reducible rfl)); (try simp only [Act.put, List.setIfInBounds_toArray, List.set_cons_zero, List.set_cons_succ]))
      (refine wpS_pure ?_ (fun w hw => ?_) ?_; rfl; (obtain ⟨hwc, hwf⟩ := bcell2 hw; go_simp; (try with_reducible rfl)); (try simp only [Act.put, List.setIfInBounds_toArray, List.set_cons_zero, List.set_cons_succ]))
      (refine wpS_skip ?_ ?_; rfl; (try simp only [Act.put, List.setIfInBounds_toArray, List.set_cons_zero, List.set_cons_succ]))
      (refine wpS_skip ?_ ?_; rfl; (try simp only [Act.put, List.setIfInBounds_toArray, List.set_cons_zero, List.set_cons_succ]))
      (refine wpS_skip ?_ ?_; rfl; (try simp only [Act.put, List.setIfInBounds_toArray, List.set_cons_zero, List.set_cons_succ]))
      (refine wpS_skip ?_ ?_; rfl; (try simp only [Act.put, List.setIfInBounds_toArray, List.set_cons_zero, List.set_cons_succ]))
      (refine wpS_skip ?_ ?_; rfl; (try simp only [Act.put, List.setIfInBounds_toArray, List.set_cons_zero, List.set_cons_succ]))
      (refine wpS_skip ?_ ?_; rfl; (try simp only [Act.put, List.setIfInBounds_toArray, List.set_cons_zero, List.set_cons_succ]))
      (refine wpS_skip ?_ ?_; rfl; (try simp only [Act.put, List.setIfInBounds_toArray, List.set_cons_zero, List.set_cons_succ]))
      (refine wpS_skip ?_ ?_; rfl; (try simp only [Act.put, List.setIfInBounds_toArray, List.set_cons_zero, List.set_cons_succ]))
      (refine wpS_pure ?_ (fun w hw => ?_) ?_; rfl; (obtain ⟨hwc, hwf⟩ := bcell2 hw; go_simp; (try with_reducible rfl)); (try simp only [Act.put, List.setIfInBounds_toArray, List.set_cons_zero, List.set_cons_succ]))
      refine wpS_nil ?_
      intro w' hw'
      go_wp2_with fail
      go_ret
      exact ⟨_, rfl, hb2.trans ((hb3.trans (hw'.mono hb3.size)).mono hb2.size), by rw [hV.out]; exact flM1c⟩
  | true =>
    obtain ⟨hA, hI⟩ := Bool.and_eq_true_iff.1 hok
    have hA : holeB g = false := by simpa using hA
    have h0 := hpo hA
    obtain ⟨u0, uW⟩ : 0 ≤ u ∧ u < W := by unfold idxB at hI; simpa using hI
    obtain ⟨un, rfl⟩ : ∃ un : Nat, u = (un : Int) := ⟨u.toNat, by omega⟩
    have hun : un < W := by omega
    have htt : t = true := by rw [ht]; exact decide_eq_true ⟨h0, by omega⟩
    have hr2' : atC W H cs' un y = r2 := by
      rw [atC_nat cs' hun hy, hr2]
      congr 1
      push_cast
      omega
    have hat' := fun w2 (h : Below w1.heap.size w1 w2) => mapAt_any W H (.slice a' n' c') cs' un y w2 (hf'.below h) b1 b2 b4 hl' hun hy
    rw [hr2'] at hat'
    clear hok hu hE hr2 hr2' ht hpo hg hatc hpos hv hv' hp hp' hb hl hl' hcm hlm u0 uW hI h0
    go_enter Try.func73, Try.ntmps73
    go_wp2_with fail
    refine (hat _ (by ((repeat' (first | (refine bel_set ?_ ?_ _) | (refine bel_al ?_ ?_ _) | exact Below.refl _ _ | assumption | (refine below_drewN ?_ _) | (refine Below.drew ?_))) <;> (first | omega | (simp; done) | (simp; omega))))).mono ?_
    rintro e w2 ⟨r1, rfl, hb2, hr1⟩
    obtain ⟨l3, p3, p4, p5⟩ := id (hPb.below hb2)
    clear p0 p1 p2
    go_wp2_with fail
    refine (htold _ (by ((repeat' (first | (refine bel_set ?_ ?_ _) | (refine bel_al ?_ ?_ _) | exact Below.refl _ _ | assumption | (refine below_drewN ?_ _) | (refine Below.drew ?_) | (refine Below.trans ?_ (Below.mono hb2 ?_)))) <;> (first | omega | (simp; done) | (simp; omega))))).mono ?_
    rintro e w3 ⟨rfl, hb3⟩
    have hb13 : Below w1.heap.size w1 w3 := hb2.trans (hb3.mono hb2.size)
    obtain ⟨lq, q0, q1, q2⟩ := id (hQ.below hb13)
    have hM3 := ((bcell hb13).1 bm 0 lm).trans hM
    have lm3 : bm < w3.heap.size := Nat.lt_of_lt_of_le lm hb13.size
    have hat3 := fun w4 (h : Below w3.heap.size w3 w4) => hat' w4 (hb13.trans (h.mono hb13.size))
    clear hM p3 p4 p5
    go_upto_region 1 with fail
    cases hR : holeB r2 with
    | true =>
      have hV : Hid (chkV g r2 cm t = 3212836864) := Lib.hid (chk_r hR)
      refine wp_region_skip (by kernel_rfl) (by kernel_rfl) (by kernel_rfl) (by kernel_rfl) (fun w' => Below w3.heap.size w3 w') (below_drewN (Below.refl _ _) 1) [some (Eq1 ?q4273u0), some (Eq1 ?q4273u1), some (Eq1 ?q4273u2), some (Eq1 ?q4273u3), some (Eq1 ?q4273u4), some (Eq1 ?q4273u5), some (FloatIs .f32 (r2)), some (Eq1 (.bool true)), some (Eq1 ?q4273u8), some (Eq1 ?q4273u9), none, none, none, none, none, none, none, none, some (Eq1 ?q4273u18)] ?q4273main
      case q4273main =>
        (refine wpS_pure ?_ (fun w hw => ?_) ?_; rfl; (obtain ⟨hwc, hwf⟩ := bcell2 hw; go_simp; (try with_reducible rfl)); (try simp only [Act.put, List.setIfInBounds_toArray, List.set_cons_zero, List.set_cons_succ]))
        (refine wpS_pure ?_ (fun w hw => ?_) ?_; rfl; (obtain ⟨hwc, hwf⟩ := bcell2 hw; go_simp; (try with_reducible rfl)); (try simp only [Act.put, List.setIfInBounds_toArray, List.set_cons_zero, List.set_cons_succ]))
        (refine wpS_pure ?_ (fun w hw => ?_) ?_; rfl; (obtain ⟨hwc, hwf⟩ := bcell2 hw; go_simp; (try with_reducible rfl)); (try simp only [Act.put, List.setIfInBounds_toArray, List.set_cons_zero, List.set_cons_succ]))
        (refine wpS_pure ?_ (fun w hw => ?_) ?_; rfl; (obtain ⟨hwc, hwf⟩ := bcell2 hw; go_simp; (try with_reducible rfl)); (try simp only [Act.put, List.setIfInBounds_toArray, List.set_cons_zero, List.set_cons_succ]))
        (refine wpS_pure ?_ (fun w hw => ?_) ?_; rfl; (obtain ⟨hwc, hwf⟩ := bcell2 hw; go_simp; (try with_reducible rfl)); (try simp only [Act.put, List.setIfInBounds_toArray, List.set_cons_zero, List.set_cons_succ]))
        (refine wpS_pure ?_ (fun w hw => ?_) ?_; rfl; (obtain ⟨hwc, hwf⟩ := bcell2 hw; go_simp; (try with_reducible rfl)); (try simp only [Act.put, List.setIfInBounds_toArray, List.set_cons_zero, List.set_cons_succ]))
        (refine wpS_cls ?_ (fun w hw => ?_) ?_; rfl; (go_simp; refine (hat3 _ hw).mono ?_; rintro _ _ ⟨_, rfl, hcb, hcr⟩; exact ⟨_, rfl, ⟨_, rfl, hcr⟩, Below.trans hw (hcb.mono hw.size)⟩); (rintro _ ⟨_, rfl, _⟩; (try simp only [Act.put, List.setIfInBounds_toArray, List.set_cons_zero, List.set_cons_succ])))
        (refine wpS_cls ?_ (fun w hw => ?_) ?_; rfl; (go_simp; refine (isHoleV true (by assumption) hR _).mono ?_; rintro _ _ ⟨rfl, hcb⟩; exact ⟨_, rfl, rfl, Below.trans hw (hcb.mono hw.size)⟩); (rintro _ rfl; (try simp only [Act.put, List.setIfInBounds_toArray, List.set_cons_zero, List.set_cons_succ])))
        (refine wpS_pure ?_ (fun w hw => ?_) ?_; rfl; (obtain ⟨hwc, hwf⟩ := bcell2 hw; go_simp; (try with_reducible rfl)); (try simp only [Act.put, List.setIfInBounds_toArray, List.set_cons_zero, List.set_cons_succ]))
        (refine wpS_pure ?_ (fun w hw => ?_) ?_; rfl; (obtain ⟨hwc, hwf⟩ := bcell2 hw; go_simp; (try with_reducible rfl)); (try simp only [Act.put, List.setIfInBounds_toArray, List.set_cons_zero, List.set_cons_succ]))
        (refine wpS_skip ?_ ?_; rfl; (try simp only [Act.put, List.setIfInBounds_toArray, List.set_cons_zero, List.set_cons_succ]))
        (refine wpS_skip ?_ ?_; rfl; (try simp only [Act.put, List.setIfInBounds_toArray, List.set_cons_zero, List.set_cons_succ]))
        (refine wpS_skip ?_ ?_; rfl; (try simp only [Act.put, List.setIfInBounds_toArray, List.set_cons_zero, List.set_cons_succ]))
        (refine wpS_skip ?_ ?_; rfl; (try simp only [Act.put, List.setIfInBounds_toArray, List.set_cons_zero, List.set_cons_succ]))
        (refine wpS_skip ?_ ?_; rfl; (try simp only [Act.put, List.setIfInBounds_toArray, List.set_cons_zero, List.set_cons_succ]))
        (refine wpS_skip ?_ ?_; rfl; (try simp only [Act.put, List.setIfInBounds_toArray, List.set_cons_zero, List.set_cons_succ]))
        (refine wpS_skip ?_ ?_; rfl; (try simp only [Act.put, List.setIfInBounds_toArray, List.set_cons_zero, List.set_cons_succ]))
        (refine wpS_skip ?_ ?_; rfl; (try simp only [Act.put, List.setIfInBounds_toArray, List.set_cons_zero, List.set_cons_succ]))
        (refine wpS_pure ?_ (fun w hw => ?_) ?_; rfl; (obtain ⟨hwc, hwf⟩ := bcell2 hw; go_simp; (try with_reducible rfl)); (try simp only [Act.put, List.setIfInBounds_toArray, List.set_cons_zero, List.set_cons_succ]))
        refine wpS_nil ?_
        intro w' hw'
        go_wp2_with fail
        go_ret
        exact ⟨_, rfl, hb2.trans ((hb3.trans (hw'.mono hb3.size)).mono hb2.size), by rw [hV.out]; exact flM1c⟩
    | false =>
      cases hB : nearB (fop .sub .f32 g r2) cm with
      | false =>
        have hV : Hid (chkV g r2 cm t = 3212836864) := Lib.hid (chk_n hB)
        refine wp_region_skip (by kernel_rfl) (by kernel_rfl) (by kernel_rfl) (by kernel_rfl) (fun w' => Below w3.heap.size w3 w') (below_drewN (Below.refl _ _) 1) [some (Eq1 ?q169u0), some (Eq1 ?q169u1), some (Eq1 ?q169u2), some (Eq1 ?q169u3), some (Eq1 ?q169u4), some (Eq1 ?q169u5), some (FloatIs .f32 (r2)), some (Eq1 (.bool false)), some (Eq1 ?q169u8), some (Eq1 ?q169u9), some (Eq1 ?q169u10), some (Eq1 ?q169u11), some (Eq1 ?q169u12), some (Eq1 ?q169u13), some (FloatIs .f32 (r2)), some (Eq1 ?q169u15), some (Eq1 (.bool false)), some (Eq1 ?q169u17), some (Eq1 ?q169u18)] ?q169main
        case q169main =>
          (refine wpS_pure ?_ (fun w hw => ?_) ?_; rfl; (obtain ⟨hwc, hwf⟩ := bcell2 hw; go_simp; (try with_reducible rfl)); (try simp only [Act.put, List.setIfInBounds_toArray, List.set_cons_zero, List.set_cons_succ]))
          (refine wpS_pure ?_ (fun w hw => ?_) ?_; rfl; (obtain ⟨hwc, hwf⟩ := bcell2 hw; go_simp; (try with_reducible rfl)); (try simp only [Act.put, List.setIfInBounds_toArray, List.set_cons_zero, List.set_cons_succ]))
          (refine wpS_pure ?_ (fun w hw => ?_) ?_; rfl; (obtain ⟨hwc, hwf⟩ := bcell2 hw; go_simp; (try with_reducible rfl)); (try simp only [Act.put, List.setIfInBounds_toArray, List.set_cons_zero, List.set_cons_succ]))
          (refine wpS_pure ?_ (fun w hw => ?_) ?_; rfl; (obtain ⟨hwc, hwf⟩ := bcell2 hw; go_simp; (try with_reducible rfl)); (try simp only [Act.put, List.setIfInBounds_toArray, List.set_cons_zero, List.set_cons_succ]))
          (refine wpS_pure ?_ (fun w hw => ?_) ?_; rfl; (obtain ⟨hwc, hwf⟩ := bcell2 hw; go_simp; (try with_reducible rfl)); (try simp only [Act.put, List.setIfInBounds_toArray, List.set_cons_zero, List.set_cons_succ]))
          (refine wpS_pure ?_ (fun w hw => ?_) ?_; rfl; (obtain ⟨hwc, hwf⟩ := bcell2 hw; go_simp; (try with_reducible rfl)); (try simp only [Act.put, List.setIfInBounds_toArray, List.set_cons_zero, List.set_cons_succ]))
          (refine wpS_cls ?_ (fun w hw => ?_) ?_; rfl; (go_simp; refine (hat3 _ hw).mono ?_; rintro _ _ ⟨_, rfl, hcb, hcr⟩; exact ⟨_, rfl, ⟨_, rfl, hcr⟩, Below.trans hw (hcb.mono hw.size)⟩); (rintro _ ⟨_, rfl, _⟩; (try simp only [Act.put, List.setIfInBounds_toArray, List.set_cons_zero, List.set_cons_succ])))
          (refine wpS_cls ?_ (fun w hw => ?_) ?_; rfl; (go_simp; refine (isHoleV false (by assumption) hR _).mono ?_; rintro _ _ ⟨rfl, hcb⟩; exact ⟨_, rfl, rfl, Below.trans hw (hcb.mono hw.size)⟩); (rintro _ rfl; (try simp only [Act.put, List.setIfInBounds_toArray, List.set_cons_zero, List.set_cons_succ])))
          (refine wpS_pure ?_ (fun w hw => ?_) ?_; rfl; (obtain ⟨hwc, hwf⟩ := bcell2 hw; go_simp; (try with_reducible rfl)); (try simp only [Act.put, List.setIfInBounds_toArray, List.set_cons_zero, List.set_cons_succ]))
          (refine wpS_pure ?_ (fun w hw => ?_) ?_; rfl; (obtain ⟨hwc, hwf⟩ := bcell2 hw; go_simp; (try with_reducible rfl)); (try simp only [Act.put, List.setIfInBounds_toArray, List.set_cons_zero, List.set_cons_succ]))
          (refine wpS_pure ?_ (fun w hw => ?_) ?_; rfl; (obtain ⟨hwc, hwf⟩ := bcell2 hw; go_simp; (try with_reducible rfl)); (try simp only [Act.put, List.setIfInBounds_toArray, List.set_cons_zero, List.set_cons_succ]))
          (refine wpS_pure ?_ (fun w hw => ?_) ?_; rfl; (obtain ⟨hwc, hwf⟩ := bcell2 hw; go_simp; (try with_reducible rfl)); (try simp only [Act.put, List.setIfInBounds_toArray, List.set_cons_zero, List.set_cons_succ]))
          (refine wpS_pure ?_ (fun w hw => ?_) ?_; rfl; (obtain ⟨hwc, hwf⟩ := bcell2 hw; go_simp; (try with_reducible rfl)); (try simp only [Act.put, List.setIfInBounds_toArray, List.set_cons_zero, List.set_cons_succ]))
          (refine wpS_pure ?_ (fun w hw => ?_) ?_; rfl; (obtain ⟨hwc, hwf⟩ := bcell2 hw; go_simp; (try with_reducible rfl)); (try simp only [Act.put, List.setIfInBounds_toArray, List.set_cons_zero, List.set_cons_succ]))
          (refine wpS_cls ?_ (fun w hw => ?_) ?_; rfl; (go_simp; refine (hat3 _ hw).mono ?_; rintro _ _ ⟨_, rfl, hcb, hcr⟩; exact ⟨_, rfl, ⟨_, rfl, hcr⟩, Below.trans hw (hcb.mono hw.size)⟩); (rintro _ ⟨_, rfl, _⟩; (try simp only [Act.put, List.setIfInBounds_toArray, List.set_cons_zero, List.set_cons_succ])))
          (refine wpS_pure ?_ (fun w hw => ?_) ?_; rfl; (obtain ⟨hwc, hwf⟩ := bcell2 hw; go_simp; (try with_reducible rfl)); (try simp only [Act.put, List.setIfInBounds_toArray, List.set_cons_zero, List.set_cons_succ]))
          (refine wpS_cls ?_ (fun w hw => ?_) ?_; rfl; (go_simp; refine (isNearV false hr1 (by assumption) hm hB _).mono ?_; rintro _ _ ⟨rfl, hcb⟩; exact ⟨_, rfl, rfl, Below.trans hw (hcb.mono hw.size)⟩); (rintro _ rfl; (try simp only [Act.put, List.setIfInBounds_toArray, List.set_cons_zero, List.set_cons_succ])))
          (refine wpS_pure ?_ (fun w hw => ?_) ?_; rfl; (obtain ⟨hwc, hwf⟩ := bcell2 hw; go_simp; (try with_reducible rfl)); (try simp only [Act.put, List.setIfInBounds_toArray, List.set_cons_zero, List.set_cons_succ]))
          (refine wpS_pure ?_ (fun w hw => ?_) ?_; rfl; (obtain ⟨hwc, hwf⟩ := bcell2 hw; go_simp; (try with_reducible rfl)); (try simp only [Act.put, List.setIfInBounds_toArray, List.set_cons_zero, List.set_cons_succ]))
          refine wpS_nil ?_
          intro w' hw'
          go_wp2_with fail
          go_ret
          exact ⟨_, rfl, hb2.trans ((hb3.trans (hw'.mono hb3.size)).mono hb2.size), by rw [hV.out]; exact flM1c⟩
      | true =>
        have hV : Hid (chkV g r2 cm t = g) := Lib.hid (chk_y hA htt hR hB)
        refine wp_region_skip (by kernel_rfl) (by kernel_rfl) (by kernel_rfl) (by kernel_rfl) (fun w' => Below w3.heap.size w3 w') (below_drewN (Below.refl _ _) 1) [some (Eq1 ?q4032u0), some (Eq1 ?q4032u1), some (Eq1 ?q4032u2), some (Eq1 ?q4032u3), some (Eq1 ?q4032u4), some (Eq1 ?q4032u5), some (FloatIs .f32 (r2)), some (Eq1 (.bool false)), some (Eq1 ?q4032u8), some (Eq1 ?q4032u9), some (Eq1 ?q4032u10), some (Eq1 ?q4032u11), some (Eq1 ?q4032u12), some (Eq1 ?q4032u13), some (FloatIs .f32 (r2)), some (Eq1 ?q4032u15), some (Eq1 (.bool true)), some (Eq1 ?q4032u17), some (Eq1 ?q4032u18)] ?q4032main
        case q4032main =>
          (refine wpS_pure ?_ (fun w hw => ?_) ?_; rfl; (obtain ⟨hwc, hwf⟩ := bcell2 hw; go_simp; (try with_reducible rfl)); (try simp only [Act.put, List.setIfInBounds_toArray, List.set_cons_zero, List.set_cons_succ]))
          (refine wpS_pure ?_ (fun w hw => ?_) ?_; rfl; (obtain ⟨hwc, hwf⟩ := bcell2 hw; go_simp; (try with_reducible rfl)); (try simp only [Act.put, List.setIfInBounds_toArray, List.set_cons_zero, List.set_cons_succ]))
          (refine wpS_pure ?_ (fun w hw => ?_) ?_; rfl; (obtain ⟨hwc, hwf⟩ := bcell2 hw; go_simp; (try with_reducible rfl)); (try simp only [Act.put, List.setIfInBounds_toArray, List.set_cons_zero, List.set_cons_succ]))
          (refine wpS_pure ?_ (fun w hw => ?_) ?_; rfl; (obtain ⟨hwc, hwf⟩ := bcell2 hw; go_simp; (try with_reducible rfl)); (try simp only [Act.put, List.setIfInBounds_toArray, List.set_cons_zero, List.set_cons_succ]))
          (refine wpS_pure ?_ (fun w hw => ?_) ?_; rfl; (obtain ⟨hwc, hwf⟩ := bcell2 hw; go_simp; (try with_reducible rfl)); (try simp only [Act.put, List.setIfInBounds_toArray, List.set_cons_zero, List.set_cons_succ]))
          (refine wpS_pure ?_ (fun w hw => ?_) ?_; rfl; (obtain ⟨hwc, hwf⟩ := bcell2 hw; go_simp; (try with_reducible rfl)); (try simp only [Act.put, List.setIfInBounds_toArray, List.set_cons_zero, List.set_cons_succ]))
          (refine wpS_cls ?_ (fun w hw => ?_) ?_; rfl; (go_simp; refine (hat3 _ hw).mono ?_; rintro _ _ ⟨_, rfl, hcb, hcr⟩; exact ⟨_, rfl, ⟨_, rfl, hcr⟩, Below.trans hw (hcb.mono hw.size)⟩); (rintro _ ⟨_, rfl, _⟩; (try simp only [Act.put, List.setIfInBounds_toArray, List.set_cons_zero, List.set_cons_succ])))
          (refine wpS_cls ?_ (fun w hw => ?_) ?_; rfl; (go_simp; refine (isHoleV false (by assumption) hR _).mono ?_; rintro _ _ ⟨rfl, hcb⟩; exact ⟨_, rfl, rfl, Below.trans hw (hcb.mono hw.size)⟩); (rintro _ rfl; (try simp only [Act.put, List.setIfInBounds_toArray, List.set_cons_zero, List.set_cons_succ])))
          (refine wpS_pure ?_ (fun w hw => ?_) ?_; rfl; (obtain ⟨hwc, hwf⟩ := bcell2 hw; go_simp; (try with_reducible rfl)); (try simp only [Act.put, List.setIfInBounds_toArray, List.set_cons_zero, List.set_cons_succ]))
          (refine wpS_pure ?_ (fun w hw => ?_) ?_; rfl; (obtain ⟨hwc, hwf⟩ := bcell2 hw; go_simp; (try with_reducible rfl)); (try simp only [Act.put, List.setIfInBounds_toArray, List.set_cons_zero, List.set_cons_succ]))
          (refine wpS_pure ?_ (fun w hw => ?_) ?_; rfl; (obtain ⟨hwc, hwf⟩ := bcell2 hw; go_simp; (try with_reducible rfl)); (try simp only [Act.put, List.setIfInBounds_toArray, List.set_cons_zero, List.set_cons_succ]))
          (refine wpS_pure ?_ (fun w hw => ?_) ?_; rfl; (obtain ⟨hwc, hwf⟩ := bcell2 hw; go_simp; (try with_reducible rfl)); (try simp only [Act.put, List.setIfInBounds_toArray, List.set_cons_zero, List.set_cons_succ]))
          (refine wpS_pure ?_ (fun w hw => ?_) ?_; rfl; (obtain ⟨hwc, hwf⟩ := bcell2 hw; go_simp; (try with_reducible rfl)); (try simp only [Act.put, List.setIfInBounds_toArray, List.set_cons_zero, List.set_cons_succ]))
          (refine wpS_pure ?_ (fun w hw => ?_) ?_; rfl; (obtain ⟨hwc, hwf⟩ := bcell2 hw; go_simp; (try with_reducible rfl)); (try simp only [Act.put, List.setIfInBounds_toArray, List.set_cons_zero, List.set_cons_succ]))
          (refine wpS_cls ?_ (fun w hw => ?_) ?_; rfl; (go_simp; refine (hat3 _ hw).mono ?_; rintro _ _ ⟨_, rfl, hcb, hcr⟩; exact ⟨_, rfl, ⟨_, rfl, hcr⟩, Below.trans hw (hcb.mono hw.size)⟩); (rintro _ ⟨_, rfl, _⟩; (try simp only [Act.put, List.setIfInBounds_toArray, List.set_cons_zero, List.set_cons_succ])))
          (refine wpS_pure ?_ (fun w hw => ?_) ?_; rfl; (obtain ⟨hwc, hwf⟩ := bcell2 hw; go_simp; (try with_reducible rfl)); (try simp only [Act.put, List.setIfInBounds_toArray, List.set_cons_zero, List.set_cons_succ]))
          (refine wpS_cls ?_ (fun w hw => ?_) ?_; rfl; (go_simp; refine (isNearV true hr1 (by assumption) hm hB _).mono ?_; rintro _ _ ⟨rfl, hcb⟩; exact ⟨_, rfl, rfl, Below.trans hw (hcb.mono hw.size)⟩); (rintro _ rfl; (try simp only [Act.put, List.setIfInBounds_toArray, List.set_cons_zero, List.set_cons_succ])))
          (refine wpS_pure ?_ (fun w hw => ?_) ?_; rfl; (obtain ⟨hwc, hwf⟩ := bcell2 hw; go_simp; (try with_reducible rfl)); (try simp only [Act.put, List.setIfInBounds_toArray, List.set_cons_zero, List.set_cons_succ]))
          (refine wpS_pure ?_ (fun w hw => ?_) ?_; rfl; (obtain ⟨hwc, hwf⟩ := bcell2 hw; go_simp; (try with_reducible rfl)); (try simp only [Act.put, List.setIfInBounds_toArray, List.set_cons_zero, List.set_cons_succ]))
          refine wpS_nil ?_
          intro w' hw'
          go_wp2_with fail
          go_ret
          exact ⟨_, rfl, hb2.trans ((hb3.trans (hw'.mono hb3.size)).mono hb2.size), by rw [hV.out]; exact hr1⟩
theorem below1c {n : Nat} (w : World) (o : Obj) (hn : n ≤ w.heap.size) : Below n w (w.alloc o) := (Below.refl _ _).alloc hn o
set_option maxHeartbeats 2000000 in
theorem implCheckMaps_of (W H : Int) (a : Option Addr) (n c : Nat) (X Y : Int) (a' : Option Addr) (n' c' : Nat) (m : Nat) (W' H' : Int) (cs' : List Nat) (ok : Bool) (w : World)
    (hd : ∀ w0, Pv w0 w.heap.size W H (.slice a n c) → Pv w0 (w.heap.size + 1) X Y (.slice a' n' c') → w.heap.size + 1 + 1 < w0.heap.size → w0.cell? ⟨w.heap.size + 1 + 1, 0, none⟩ = some (.float .f32 m) → Below w.heap.size w w0 → ∀ w1, Below w0.heap.size w0 w1 → Calls Try.prog 71 #[.agg #[.int .i64 W, .int .i64 H, .slice a n c], .agg #[.int .i64 X, .int .i64 Y, .slice a' n' c'], .func (.func 73) #[] #[.pointer (some ⟨w.heap.size, 0, none⟩), .pointer (some ⟨w.heap.size + 1, 0, none⟩), .pointer (some ⟨w.heap.size + 1 + 1, 0, none⟩)]] w1 (RPic 37 W' H' cs' ok w0)) :
    Calls Try.prog 43 #[.agg #[.int .i64 W, .int .i64 H, .slice a n c], .agg #[.int .i64 X, .int .i64 Y, .slice a' n' c'], .float .f32 m] w (RPic 37 W' H' cs' ok w) := by
  have hP := (((Pv.new w W H (.slice a n c) 27).alloc (.cells #[.int .i64 X, .int .i64 Y, .slice a' n' c'] 27)).alloc (.cells #[.float .f32 m] 37)).alloc (.cells #[.int .i64 0, .int .i64 0, .slice none 0 0] 27)
  have hQ := ((Pv.new (w.alloc (.cells #[.int .i64 W, .int .i64 H, .slice a n c] 27)) X Y (.slice a' n' c') 27).alloc (.cells #[.float .f32 m] 37)).alloc (.cells #[.int .i64 0, .int .i64 0, .slice none 0 0] 27)
  have hN := Nv.new (((w.alloc (.cells #[.int .i64 W, .int .i64 H, .slice a n c] 27)).alloc (.cells #[.int .i64 X, .int .i64 Y, .slice a' n' c'] 27)).alloc (.cells #[.float .f32 m] 37)) (.int .i64 0) (.int .i64 0) (.slice none 0 0) 27
  simp only [World.size_alloc] at hQ hN
  go_enter Try.func43, Try.ntmps43
  go_upto_region 1 with fail
  obtain ⟨w0, hw0⟩ : ∃ w0, w0 = ((((w.alloc (.cells #[.int .i64 W, .int .i64 H, .slice a n c] 27)).alloc (.cells #[.int .i64 X, .int .i64 Y, .slice a' n' c'] 27)).alloc (.cells #[.float .f32 m] 37)).alloc (.cells #[.int .i64 0, .int .i64 0, .slice none 0 0] 27)) := ⟨_, rfl⟩
  have hb0 : Below w.heap.size w w0 := by rw [hw0]; exact (below3 _ _ _ _).trans (below1c _ _ (by simp; try omega))
  have hmc : w0.cell? ⟨w.heap.size + 1 + 1, 0, none⟩ = some (.float .f32 m) := by rw [hw0]; go_simp
  rw [← hw0] at hP hQ hN ⊢
  clear hw0
  have hlm : w.heap.size + 1 + 1 < w0.heap.size := by have := hN.1; omega
  have hd := hd w0 hP hQ hlm hmc hb0
  obtain ⟨l1, p0, p1, p2⟩ := id hP
  obtain ⟨l2, q0, q1, q2⟩ := id hQ
  have l3 := hN.1
  go_cut [6, 7] (fun s4 s5 wx => ∃ a3 n3 c3, s4 = .pointer (some ⟨w.heap.size + 1 + 1 + 1, 0, none⟩) ∧ s5 = .bool ok ∧ Nv wx (w.heap.size + 1 + 1 + 1) (.int .i64 W') (.int .i64 H') (.slice a3 n3 c3) ∧ Below w.heap.size w wx ∧ OC wx w.heap.size 37 (.slice a3 n3 c3) cs')
  case first =>
    go_region_with
      (first
        | (go_at_call 72; (with_reducible refine (mapPic_any _ _ _ _ _ _).mono ?_); rintro e w1 ⟨rfl, hb1⟩; have hJ : Below w0.heap.size w0 w1 := (by ((repeat' (first | (refine bel_set ?_ ?_ _) | (refine bel_al ?_ ?_ _) | exact Below.refl _ _ | assumption | (refine below_drewN ?_ _) | (refine Below.drew ?_) | (refine Below.trans ?_ (Below.mono hb1 ?_)))) <;> (first | omega | (simp; done) | (simp; omega)))); obtain ⟨_, pa, pb, pc⟩ := hP.below hJ)
        | (go_at_call 71; (with_reducible refine (hd _ (by ((repeat' (first | (refine bel_set ?_ ?_ _) | (refine bel_al ?_ ?_ _) | exact Below.refl _ _ | assumption | (refine below_drewN ?_ _) | (refine Below.drew ?_) | (refine Below.trans ?_ (Below.mono hb1 ?_)))) <;> (first | omega | (simp; done) | (simp; omega))))).mono ?_); rintro e w2 ⟨a2, n2, c2, rfl, hb2, ho2⟩; have hN2 := hN.below hb2; obtain ⟨_, r0, r1, r2, rf⟩ := id hN2))
    all_goals go_wp2_with fail
    all_goals go_meet
    all_goals exact ⟨_, _, _, rfl, rfl, hN2.set0.set1.set2, bel_set (bel_set (bel_set (hb0.trans (hb2.mono hb0.size)) (by simp; omega) _) (by simp; omega) _) (by simp; omega) _, OC.mono (OC.set (OC.set (OC.set ho2 _ (by exact l3)) _ (by exact l3)) _ (by exact l3)) hb0.size⟩
  case rest =>
    obtain ⟨a3, n3, c3, rfl, rfl, hN3, hb3, ho3⟩ := hcut
    obtain ⟨_, r0, r1, r2, rf⟩ := hN3
    go_wp2_with fail
    refine bodyPost_ret (v := ?v) ?hr rfl ?post
    case hr => (simp [results, Try.results43, go_sem, r0, r1, r2, rf]; try rfl)
    case post => exact ⟨_, _, _, rfl, hb3, ho3⟩
theorem chk_cells (W H : Nat) (cs cs' : List Nat) (m : Nat) (b1 : 1 ≤ W) : gridL W (fun x y => chkI W cs cs' m (y.toNat * W + x.toNat)) (H * W) = seqL (chkI W cs cs' m) (H * W) := by
  rw [gridL_seq]
  exact seqL_congr fun i hi => by
    simp only [Int.toNat_natCast]
    rw [Nat.mul_comm, Nat.div_add_mod]
theorem implCheckMaps_any (W H : Nat) (a : Option Addr) (n c : Nat) (cs : List Nat) (a' : Option Addr) (n' c' : Nat) (cs' : List Nat) (w : World) (hv : FC w (.slice a n c) cs) (hv' : FC w (.slice a' n' c') cs') (b1 : 1 ≤ W) (b2 : W ≤ 24) (b3 : 1 ≤ H) (b4 : H ≤ 24) (b5 : H * W ≤ 256) (hl : cs.length = H * W) (hl' : cs'.length = H * W) (m cm : Nat) (hm : Fl .f32 m cm)
    (hpos : ∀ i, holeB (cs.getD i 0) = false → 0 ≤ placeI (cs.getD i 0)) :
    Calls Try.prog 43 #[.agg #[.int .i64 W, .int .i64 H, .slice a n c], .agg #[.int .i64 W, .int .i64 H, .slice a' n' c'], .float .f32 m] w (RPic 37 W H (seqL (chkI W cs cs' cm) (H * W)) true w) := by
  obtain ⟨rfl, hnc, hcm⟩ := hv.sized
  obtain ⟨rfl, hnc', hcm'⟩ := hv'.sized
  rw [← chk_cells W H cs cs' cm b1]
  refine implCheckMaps_of _ _ _ _ _ _ _ _ _ _ _ _ _ _ _ w fun w0 hP hQ hlm hmc hb0 w1 hb1 => ?_
  have hG := chk_fn W H a _ c cs a' _ c' cs' m cm hm _ _ _ w0 (hv.below hb0) hP (hv'.below hb0) hQ hlm hmc b1 b2 b3 b4 hl hl' hpos
  refine (redrawWith_of _ _ _ _ _ _ _ _ _ _ hnc hcm hnc' hcm' _ _ _ _ _ _ _ w1 (pairM_self (validB_mk b1 b2 b3 b4 b5 hl) (validB_mk b1 b2 b3 b4 b5 hl')) fun w2 hb2 => redraw_of _ _ _ _ _ _ _ _ _ _ _ _ w2 fun w3 hb3 => redrawAs_of _ _ _ _ _ _ _ _ _ _ _ _ _ _ w3 fun w4 hb4 => ?_).mono fun e w' h => RPic.backC hb1 h
  exact drawFrom_any W H a cs.length c (validB_mk b1 b2 b3 b4 b5 hl) hnc hcm W H b1 b2 b3 b4 b5 _ _ _ _ w4 (enters_of Try.func73 (by kernel_rfl) rfl) (hG.later (hb1.trans ((hb2.trans ((hb3.trans (hb4.mono hb3.size)).mono hb2.size)).mono hb1.size)))
end Go.Proofs.Ytaclgmafcakiiaa
