import Derived.Test.YtmbohiebjgafoaaTa
import Derived.Test.YtmbohiebjgafoaaVg
import Derived.Test.YtmbohiebjgafoaaRg
import Derived.Deep.AppendLies
import Derived.Deep.DrawnRows
set_option linter.unusedVariables false
set_option linter.unusedSimpArgs false
namespace Go.FX
open Go Go.RowKit
/-- The cells of some rows. -/
theorem grid_rows (W H : Nat) (cs : List Nat) (f k : Nat) (h : f + k ≤ H) (hW : 1 ≤ W) : gridL W (fun x y => atC W H cs (0 + x) ((f : Int) + y)) (k * W) = seqL (fun i => cs.getD (f * W + i) 0) (k * W) := by
  unfold gridL seqL
  apply List.map_congr_left
  intro i hi
  have hi' : i < k * W := List.mem_range.1 hi
  have hm := Nat.mod_lt i hW
  have hd : i / W < k := Nat.div_lt_of_lt_mul (by rw [Nat.mul_comm]; exact hi')
  have e := Nat.mod_add_div i W
  show atC W H cs (0 + ((i % W : Nat) : Int)) ((f : Int) + ((i / W : Nat) : Int)) = _
  generalize i % W = r at *
  generalize i / W = q at *
  rw [atC_in cs (by omega) (by omega) (by omega) (by omega)]
  rw [show (0 + (r : Int)) + (W : Int) * ((f : Int) + (q : Int)) = ((r + W * (f + q) : Nat) : Int) by push_cast; omega]
  rw [Int.toNat_natCast, Nat.mul_add, ← e, Nat.mul_comm f W]
  congr 1
  omega
theorem Nv.drew1 {w : World} {b : Nat} {x y z : Value} (h : Nv w b x y z) : Nv w.drew b x y z := h
theorem below_drew1 {n : Nat} {w w' : World} (h : Below n w w') : Below n w w'.drew := below_drewN h 1
/-- Rows of a slice, as they lie. -/
theorem FC.news {w : World} {b off n cap : Nat} {cs : List Nat} (h : FC w (.slice (some ⟨b, off, none⟩) n cap) cs) {p D : Nat} (hp : p + D ≤ cs.length) (hD : 0 < D) :
    ∃ zs : List Nat, (∀ z ∈ zs, z < width .f32) ∧ zs.map (cn .f32) = seqL (fun i => cs.getD (p + i) 0) D ∧ zs.length = D ∧ b < w.heap.size ∧
      ∀ j u, (zs.map (Value.float .f32))[j]? = some u → w.cell? ((⟨b, off + p, none⟩ : Addr).add j) = some u := by
  obtain ⟨zs, ⟨hz, a, cap', hv, h1, h2, h3⟩, rfl⟩ := h
  obtain ⟨ea0, rfl, rfl⟩ := Value.slice.inj hv
  have hp' : p + D ≤ zs.length := by simpa using hp
  rcases h3 with h3 | ⟨b', off', ea, hlt, hc⟩
  · rw [h3] at hp'; simp at hp'; omega
  · have e1 := Option.some.inj (ea0.trans ea)
    have e2 : b = b' := congrArg Addr.block e1
    have e3 : off = off' := congrArg Addr.off e1
    subst e2; subst e3
    refine ⟨seqL (fun d => zs.getD (p + d) 0) D, ?_, ?_, seqL_len _ _, hlt, fun j u hj => ?_⟩
    · intro z hzm
      simp only [seqL, List.mem_map, List.mem_range] at hzm
      obtain ⟨d, hd, rfl⟩ := hzm
      have hd2 : p + d < zs.length := by omega
      have e : zs.getD (p + d) 0 = zs[p + d] := by simp [List.getD, hd2]
      rw [e]
      exact hz _ (List.getElem_mem _)
    · simp only [seqL, List.map_map]
      refine List.map_congr_left fun d hd => ?_
      have hd := List.mem_range.1 hd
      show cn .f32 (zs.getD (p + d) 0) = (zs.map (cn .f32)).getD (p + d) 0
      exact (getD_map zs _ (by omega)).symm
    · rw [List.getElem?_map, Option.map_eq_some_iff] at hj
      obtain ⟨z, hz, rfl⟩ := hj
      have hjl : j < D := by have := (List.getElem?_eq_some_iff.1 hz).1; rwa [seqL_len] at this
      have e1 : zs.getD (p + j) 0 = z := by
        have e0 := seqL_get (fun d => zs.getD (p + d) 0) D j hjl
        rw [← e0, List.getD_eq_getElem?_getD, hz]; rfl
      have e2 := hc (p + j) (by omega)
      rw [e1] at e2
      have e3 : ((⟨b, off + p, none⟩ : Addr).add j) = ⟨b, off + (p + j), none⟩ := by unfold Addr.add; split <;> simp_all; omega
      rw [e3]; exact e2
end Go.FX
namespace Go.Proofs.Ytmbohiebjgafoaa
open Go.FX Go.RowKit Go.WideShapes Go.ChangeShapes
attribute [local go_sem ↓] Go.wp_at_zero Go.wp_at_succ

set_option maxRecDepth 100000 in
set_option maxHeartbeats 4000000 in
theorem specRows_any (W H : Nat) (a0 : Option Addr) (n0 c0 bp bt : Nat) (cs : List Nat) (f k : Nat) (w : World) (hp : Pv w bp W H (.slice a0 n0 c0)) (ht : Tv w bt f k) (hv : FC w (.slice a0 n0 c0) cs) (b1 : 1 ≤ W) (b2 : W ≤ 24) (b3 : 1 ≤ H) (b4 : H ≤ 24) (b5 : H * W ≤ 256) (hl : cs.length = H * W) (k1 : 1 ≤ k) (k2 : f + k ≤ H) :
    Calls Try.prog 74 #[.pointer (some ⟨bp, 0, none⟩), .pointer (some ⟨bt, 0, none⟩)] w (RPic1 22 W k (seqL (fun i => cs.getD (f * W + i) 0) (k * W)) w) := by
  obtain ⟨i0, hi, hz0, hz1, hz2⟩ := info_parts info_f32
  obtain ⟨rfl, hnc, hcm⟩ := hv.sized
  have hsum : f * W + k * W ≤ H * W := by rw [← Nat.add_mul]; exact Nat.mul_le_mul_right _ k2
  have hkW : 1 * 1 ≤ k * W := Nat.mul_le_mul k1 b1
  obtain ⟨b, off, c', z, ev, _, _, _, _, _⟩ := hv.cell (k := 0) (by omega)
  simp only [Value.slice.injEq] at ev
  obtain ⟨rfl, _, rfl⟩ := ev
  obtain ⟨zs, hz, hzm, hzl, hbs, hnews⟩ := hv.news (p := f * W) (D := k * W) (by omega) (by omega)
  have e1 : (W : Int) * (f : Int) = ((f * W : Nat) : Int) := by push_cast; rw [Int.mul_comm]
  have e2 : (W : Int) * ((f : Int) + (k : Int)) = ((f * W + k * W : Nat) : Int) := by push_cast; rw [Int.mul_add, Int.mul_comm, Int.mul_comm (W : Int) (k : Int)]
  rw [← hzm]
  obtain ⟨lo, hlo⟩ : ∃ lo, lo = f * W := ⟨_, rfl⟩
  obtain ⟨m, hm⟩ : ∃ m, m = k * W := ⟨_, rfl⟩
  obtain ⟨A, hA⟩ : ∃ A, A = H * W := ⟨_, rfl⟩
  rw [← hlo] at hsum e1 e2 hnews
  rw [← hm] at hsum hkW e2 hzl
  rw [← hA] at hsum b5 hl
  have hnc' : A ≤ c0 := by omega
  have e1' := Lib.hid e1
  have e2' := Lib.hid e2
  have hz' := Lib.hid hz
  have hnews' := Lib.hid hnews
  have hl' := Lib.hid hl
  clear hlo hm hA hz hzm hnews hl e1 e2 hnc
  subst hzl
  go_enter Try.func74, Try.ntmps74
  go_upto_region 1 with fail
  obtain ⟨w0, hw0⟩ : ∃ w0, w0 = w.alloc (.cells #[.int .i64 0, .int .i64 0, .slice none 0 0] 46) := ⟨_, rfl⟩
  rw [← hw0]
  have hp0 : Pv w0 bp W H (.slice (some ⟨b, off, none⟩) cs.length c0) := by rw [hw0]; exact hp.alloc _
  have ht0 : Tv w0 bt f k := by rw [hw0]; exact ht.alloc _
  have hn0 : Nv w0 w.heap.size (.int .i64 0) (.int .i64 0) (.slice none 0 0) := by rw [hw0]; exact Nv.new _ _ _ _ _
  have hb0 : Below w.heap.size w w0 := by rw [hw0]; exact below1 _ _
  have hlt0 : w.heap.size < w0.heap.size := hn0.1
  clear hw0 hv hp ht
  obtain ⟨hp1, p0, p1, p2⟩ := id hp0
  obtain ⟨ht1, t0, t1⟩ := id ht0
  have hpv := Lib.hid (And.intro hp0 (And.intro ht0 (And.intro hn0 hb0)))
  clear hp0 ht0 hn0 hb0
  go_cut [5] (fun s3 wx => ∃ bo, s3 = .pointer (some ⟨bo, 0, none⟩) ∧ Mk 22 w0 bo W k [] wx)
  case first =>
    go_region_held3 (fun w' => Below w0.heap.size w0 w' ∧ w0.heap.size ≤ w'.heap.size ∧ (∀ b o, b < w0.heap.size → w'.cell? ⟨b, o, none⟩ = w0.cell? ⟨b, o, none⟩)) (first | exact keepStart _ | assumption | exact ⟨by assumption, by assumption, by assumption⟩ | exact keepCall (by assumption) (by assumption) | exact keepAlloc (by assumption) | (refine keepSet ?_ (keepSet ?_ (keepSet ?_ (keepSet ?_ ?_))) <;> first | assumption | omega | (simp; done) | (simp; omega)) | (refine keepSet ?_ (keepSet ?_ (keepSet ?_ ?_)) <;> first | assumption | omega | (simp; done) | (simp; omega)) | (refine keepSet ?_ (keepSet ?_ ?_) <;> first | assumption | omega | (simp; done) | (simp; omega)) | (refine keepSet ?_ ?_ <;> first | assumption | omega | (simp; done) | (simp; omega)))
      (first | (go_at_call 81; refine (specNew_any _ _ _).mono ?_; rintro e w1 ⟨a1, n1, c1, rfl, hb1, ho1⟩; have hI := keepCall (n := w0.heap.size) (W1 := w0) (by assumption) hb1; obtain ⟨hc, hf⟩ := bcell hb1; have hz := hb1.size; (try simp at hz); (try simp only [World.size_drew, World.cell?_drew] at hc); (try simp only [World.size_drew, World.frozen?_drew] at hf); first | (have hs := Nat.lt_of_succ_le hz) | (have hs := Nat.lt_of_lt_of_le hs hz) | skip))
    all_goals go_wp2_with fail
    all_goals go_meet
    · exact ⟨_, rfl, Mk.start1 (undrew hb1) ho1⟩
    · exact ⟨_, rfl, Mk.start2 (undrew hb1) ho1⟩
  case rest =>
    obtain ⟨bo, rfl, hmk⟩ := hcut
    obtain ⟨wr, hwr⟩ : ∃ V, V = wc := ⟨_, rfl⟩
    subst hwr
    obtain ⟨a, n, c, hN, ⟨ys, hy, hym, hrow⟩, hne, hbo, hbl⟩ := hmk
    obtain rfl : ys = [] := by cases ys; rfl; simp at hym
    clear hy hym p0 p1 p2 t0 t1
    obtain ⟨_, p0, p1, p2⟩ := hpv.out.1.below hbl
    obtain ⟨_, t0, t1⟩ := hpv.out.2.1.below hbl
    have hsz : w0.heap.size ≤ wr.heap.size := hbl.size
    obtain ⟨hbo2, n0, n1, n2, nf⟩ := id hN
    have hh := Lib.hid (And.intro hbl hN)
    have hrowA : ∀ (m : Nat), (wr.drewN m).ownsRow w0.heap.size 22 1 (.slice a n c) 0 [] := fun m => hrow
    have hnewsA : ∀ (m : Nat) j u, (zs.map (Value.float .f32))[j]? = some u → (wr.drewN m).cell? ((⟨b, off + lo, none⟩ : Addr).add j) = some u := fun m j u hj => by
      have := hnews'.out j u hj
      have e3 : ((⟨b, off + lo, none⟩ : Addr).add j) = ⟨b, off + lo + j, none⟩ := by unfold Addr.add; split <;> simp_all
      rw [e3] at this ⊢
      rw [World.cell?_drewN, (bcell hbl).1 b _ (by omega), (bcell hpv.out.2.2.2).1 b _ hbs]
      exact this
    have hnewsA := Lib.hid hnewsA
    have g1 := e1'.out
    have g2 := e2'.out
    have g3 := hl'.out
    have m1 : IntKind.i64.wrap ((f : Int) + (k : Int)) = (f : Int) + (k : Int) := IntWalk.i64_in _ (by omega)
    have m2 : IntKind.i64.wrap (lo : Int) = (lo : Int) := IntWalk.i64_in _ (by omega)
    have m3 : IntKind.i64.wrap ((lo : Int) + (zs.length : Int)) = (lo : Int) + (zs.length : Int) := IntWalk.i64_in _ (by omega)
    have m4 : ¬ c0 = lo := by omega
    have m5 : (lo + zs.length) - lo = zs.length := by omega
    have m6 : ((lo : Int) + (zs.length : Int)).toNat = lo + zs.length := by omega
    have m7 : (0 : Int) ≤ (lo : Int) + (zs.length : Int) := by omega
    have m8 : (lo : Int) + (zs.length : Int) ≤ (c0 : Int) := by omega
    clear hbl hN hrow
    go_upto_region 2 with fail
    refine wp_region_any (by kernel_rfl) ?_
    (try (change wpAny _ _ _ _ _ _ _ (World.drew _)))
    refine wpAny_cls_tail 30 3 (by kernel_rfl) (by rfl) (by kernel_rfl) (by kernel_rfl) (by kernel_rfl) (fun w' => ∃ n, w' = wr.drewN n) ⟨1, rfl⟩ [Eq1 ?q6323u0, Eq1 ?q6323u1, Eq1 ?q6323u2, Eq1 ?q6323u3, Eq1 ?q6323u4, Eq1 ?q6323u5, Eq1 ?q6323u6, Eq1 ?q6323u7, Eq1 ?q6323u8, Eq1 ?q6323u9, Eq1 ?q6323u10, Eq1 ?q6323u11, Eq1 ?q6323u12, Eq1 ?q6323u13, Eq1 ?q6323u14, Eq1 ?q6323u15, Eq1 ?q6323u16, Eq1 ?q6323u17, Eq1 ?q6323u18, Eq1 ?q6323u19, Eq1 ?q6323u20, Eq1 ?q6323u21, Eq1 ?q6323u22, Eq1 ?q6323u23, Eq1 ?q6323u24, Eq1 ?q6323u25, Eq1 ?q6323u26, Eq1 ?q6323u27, Eq1 ?q6323u28, Eq1 ?q6323u29] ?q6323main
    case q6323main =>
      simp only [List.take_succ_cons, List.take_zero]
      (refine wpR_pure ?_ (fun w hw => ?_) ?_; rfl; (obtain ⟨nn, rfl⟩ := hw; go_simp; (try with_reducible rfl)); (try simp only [Act.put, List.setIfInBounds_toArray, List.set_cons_zero, List.set_cons_succ]))
      (refine wpR_pure ?_ (fun w hw => ?_) ?_; rfl; (obtain ⟨nn, rfl⟩ := hw; go_simp; (try with_reducible rfl)); (try simp only [Act.put, List.setIfInBounds_toArray, List.set_cons_zero, List.set_cons_succ]))
      (refine wpR_pure ?_ (fun w hw => ?_) ?_; rfl; (obtain ⟨nn, rfl⟩ := hw; go_simp; (try with_reducible rfl)); (try simp only [Act.put, List.setIfInBounds_toArray, List.set_cons_zero, List.set_cons_succ]))
      (refine wpR_pure ?_ (fun w hw => ?_) ?_; rfl; (obtain ⟨nn, rfl⟩ := hw; go_simp; (try with_reducible rfl)); (try simp only [Act.put, List.setIfInBounds_toArray, List.set_cons_zero, List.set_cons_succ]))
      (refine wpR_pure ?_ (fun w hw => ?_) ?_; rfl; (obtain ⟨nn, rfl⟩ := hw; go_simp; (try with_reducible rfl)); (try simp only [Act.put, List.setIfInBounds_toArray, List.set_cons_zero, List.set_cons_succ]))
      (refine wpR_pure ?_ (fun w hw => ?_) ?_; rfl; (obtain ⟨nn, rfl⟩ := hw; go_simp; (try with_reducible rfl)); (try simp only [Act.put, List.setIfInBounds_toArray, List.set_cons_zero, List.set_cons_succ]))
      (refine wpR_pure ?_ (fun w hw => ?_) ?_; rfl; (obtain ⟨nn, rfl⟩ := hw; go_simp; (try with_reducible rfl)); (try simp only [Act.put, List.setIfInBounds_toArray, List.set_cons_zero, List.set_cons_succ]))
      (refine wpR_pure ?_ (fun w hw => ?_) ?_; rfl; (obtain ⟨nn, rfl⟩ := hw; go_simp; (try with_reducible rfl)); (try simp only [Act.put, List.setIfInBounds_toArray, List.set_cons_zero, List.set_cons_succ]))
      (refine wpR_pure ?_ (fun w hw => ?_) ?_; rfl; (obtain ⟨nn, rfl⟩ := hw; go_simp; (try with_reducible rfl)); (try simp only [Act.put, List.setIfInBounds_toArray, List.set_cons_zero, List.set_cons_succ]))
      (refine wpR_pure ?_ (fun w hw => ?_) ?_; rfl; (obtain ⟨nn, rfl⟩ := hw; go_simp; (try with_reducible rfl)); (try simp only [Act.put, List.setIfInBounds_toArray, List.set_cons_zero, List.set_cons_succ]))
      (refine wpR_pure ?_ (fun w hw => ?_) ?_; rfl; (obtain ⟨nn, rfl⟩ := hw; go_simp; (try with_reducible rfl)); (try simp only [Act.put, List.setIfInBounds_toArray, List.set_cons_zero, List.set_cons_succ]))
      (refine wpR_pure ?_ (fun w hw => ?_) ?_; rfl; (obtain ⟨nn, rfl⟩ := hw; go_simp; (try with_reducible rfl)); (try simp only [Act.put, List.setIfInBounds_toArray, List.set_cons_zero, List.set_cons_succ]))
      (refine wpR_pure ?_ (fun w hw => ?_) ?_; rfl; (obtain ⟨nn, rfl⟩ := hw; go_simp; (try with_reducible rfl)); (try simp only [Act.put, List.setIfInBounds_toArray, List.set_cons_zero, List.set_cons_succ]))
      (refine wpR_pure ?_ (fun w hw => ?_) ?_; rfl; (obtain ⟨nn, rfl⟩ := hw; go_simp; (try with_reducible rfl)); (try simp only [Act.put, List.setIfInBounds_toArray, List.set_cons_zero, List.set_cons_succ]))
      (refine wpR_pure ?_ (fun w hw => ?_) ?_; rfl; (obtain ⟨nn, rfl⟩ := hw; go_simp; (try with_reducible rfl)); (try simp only [Act.put, List.setIfInBounds_toArray, List.set_cons_zero, List.set_cons_succ]))
      (refine wpR_pure ?_ (fun w hw => ?_) ?_; rfl; (obtain ⟨nn, rfl⟩ := hw; go_simp; (try with_reducible rfl)); (try simp only [Act.put, List.setIfInBounds_toArray, List.set_cons_zero, List.set_cons_succ]))
      (refine wpR_pure ?_ (fun w hw => ?_) ?_; rfl; (obtain ⟨nn, rfl⟩ := hw; go_simp; (try with_reducible rfl)); (try simp only [Act.put, List.setIfInBounds_toArray, List.set_cons_zero, List.set_cons_succ]))
      (refine wpR_pure ?_ (fun w hw => ?_) ?_; rfl; (obtain ⟨nn, rfl⟩ := hw; go_simp; (try with_reducible rfl)); (try simp only [Act.put, List.setIfInBounds_toArray, List.set_cons_zero, List.set_cons_succ]))
      (refine wpR_pure ?_ (fun w hw => ?_) ?_; rfl; (obtain ⟨nn, rfl⟩ := hw; go_simp; (try with_reducible rfl)); (try simp only [Act.put, List.setIfInBounds_toArray, List.set_cons_zero, List.set_cons_succ]))
      (refine wpR_pure ?_ (fun w hw => ?_) ?_; rfl; (obtain ⟨nn, rfl⟩ := hw; go_simp; (try with_reducible rfl)); (try simp only [Act.put, List.setIfInBounds_toArray, List.set_cons_zero, List.set_cons_succ]))
      (refine wpR_pure ?_ (fun w hw => ?_) ?_; rfl; (obtain ⟨nn, rfl⟩ := hw; go_simp; (try with_reducible rfl)); (try simp only [Act.put, List.setIfInBounds_toArray, List.set_cons_zero, List.set_cons_succ]))
      (refine wpR_pure ?_ (fun w hw => ?_) ?_; rfl; (obtain ⟨nn, rfl⟩ := hw; go_simp; (try with_reducible rfl)); (try simp only [Act.put, List.setIfInBounds_toArray, List.set_cons_zero, List.set_cons_succ]))
      (refine wpR_pure ?_ (fun w hw => ?_) ?_; rfl; (obtain ⟨nn, rfl⟩ := hw; go_simp; (try with_reducible rfl)); (try simp only [Act.put, List.setIfInBounds_toArray, List.set_cons_zero, List.set_cons_succ]))
      (refine wpR_pure ?_ (fun w hw => ?_) ?_; rfl; (obtain ⟨nn, rfl⟩ := hw; go_simp; (try with_reducible rfl)); (try simp only [Act.put, List.setIfInBounds_toArray, List.set_cons_zero, List.set_cons_succ]))
      (refine wpR_pure ?_ (fun w hw => ?_) ?_; rfl; (obtain ⟨nn, rfl⟩ := hw; go_simp; (try with_reducible rfl)); (try simp only [Act.put, List.setIfInBounds_toArray, List.set_cons_zero, List.set_cons_succ]))
      (refine wpR_pure ?_ (fun w hw => ?_) ?_; rfl; (obtain ⟨nn, rfl⟩ := hw; go_simp; (try with_reducible rfl)); (try simp only [Act.put, List.setIfInBounds_toArray, List.set_cons_zero, List.set_cons_succ]))
      (refine wpR_pure ?_ (fun w hw => ?_) ?_; rfl; (obtain ⟨nn, rfl⟩ := hw; go_simp; (try with_reducible rfl)); (try simp only [Act.put, List.setIfInBounds_toArray, List.set_cons_zero, List.set_cons_succ]))
      (refine wpR_pure ?_ (fun w hw => ?_) ?_; rfl; (obtain ⟨nn, rfl⟩ := hw; go_simp; (try with_reducible rfl)); (try simp only [Act.put, List.setIfInBounds_toArray, List.set_cons_zero, List.set_cons_succ]))
      (refine wpR_pure ?_ (fun w hw => ?_) ?_; rfl; (obtain ⟨nn, rfl⟩ := hw; go_simp; (try with_reducible rfl)); (try simp only [Act.put, List.setIfInBounds_toArray, List.set_cons_zero, List.set_cons_succ]))
      (refine wpR_pure ?_ (fun w hw => ?_) ?_; rfl; (obtain ⟨nn, rfl⟩ := hw; go_simp; (try with_reducible rfl)); (try simp only [Act.put, List.setIfInBounds_toArray, List.set_cons_zero, List.set_cons_succ]))
      refine wpR_nil ?_
      rintro w' ⟨nn, rfl⟩
      refine wpAny_oneG 30 _ (by kernel_rfl) rfl rfl fun Ka hKa => ?_
      refine wp_append_lies _ _ _ _ (by rfl) w0.heap.size 22 i0 _ 1 4 Try.underlying39 hi hz0 hz1 hz2 rfl (by omega) (.slice a n c) 0 [] (by rfl) (hrowA nn)
          ⟨b, off + lo, none⟩ zs.length (c0 - lo) (zs.map (.float .f32)) (by rfl) (by simp) (hnewsA.out nn) (by intro u hu; obtain ⟨z, _, rfl⟩ := List.mem_map.1 hu; rfl)
          (by omega) (by unfold maxLen; omega) (by omega) (by simp; omega) wr.heap.size (by simp) ?_
      intro gg cap w3 hown3 hgrow hat3 hlt3
      have hN3 := (hh.out.2.drewN nn).kept hgrow hne
      have j2 := hN3.2.2.2.1
      have jf := hN3.2.2.2.2 2
      refine hKa _ _ ?_
      refine wpAny_oneG 31 _ (by kernel_rfl) rfl rfl fun Kc hKc => ?_
      go_simp
      refine hKc _ _ ?_
      refine wpAny_last 32 _ (by kernel_rfl) rfl rfl (by kernel_rfl) fun Kb hKb => ?_
      go_simp
      refine hKb _ _ ?_
      have hM : Mk 22 w0 bo W k (zs.map (cn .f32)) (w3.setCell ⟨bo, 2, none⟩ (.slice (some ⟨gg, 0, none⟩) zs.length cap)) := by
        have hg : (Value.slice (some ⟨gg, 0, none⟩) zs.length cap).ownBlock ≠ some bo := by
          simp only [Value.ownBlock, ne_eq, Option.some.injEq]
          rcases hat3 with h | h
          · intro e; rw [h, e] at hne; exact hne rfl
          · omega
        have ho := hown3
        simp only [Nat.zero_add, List.nil_append] at ho
        obtain ⟨zs', k1, k2, k3⟩ := OC.of (e := 22) hz'.out (by first | exact ho | (rw [List.length_map] at ho; exact ho))
        refine ⟨_, _, _, hN3.set2, ⟨zs', k1, k2, ownsRow_set_other k3 (by exact hg) _⟩, hg, hbo, ?_⟩
        exact ((below_drewN hh.out.1 nn).grown hgrow (by simpa using hsz) (fun q hq => ((hrowA 0).lt q hq).1)).setCell (by exact hbo) _
      obtain ⟨X, hX⟩ : ∃ X, X = w3.setCell ⟨bo, 2, none⟩ (.slice (some ⟨gg, 0, none⟩) zs.length cap) := ⟨_, rfl⟩
      rw [← hX] at hM ⊢
      clear hX
      have hM := Lib.hid hM
      clear hgrow hown3 hat3 hrowA hN3 j2 jf
      obtain ⟨a4, n4, c4, hN4, hoc, hne4, hbo4, hbl2⟩ := hM.out
      obtain ⟨_, y0, y1, y2, y3⟩ := hN4
      obtain ⟨_, r0, r1, r2, rf⟩ := hpv.out.2.2.1.below hbl2
      have hoc := Lib.hid hoc
      go_wp2_with fail
      refine bodyPost_ret (v := ?v) ?hr rfl ?post
      case hr => (simp [results, Try.results74, go_sem, y0, y1, y2, r0, r1, r2, rf]; try rfl)
      case post =>
        have h0 := hpv.out.2.2.2
        have ho := hoc.out
        have hz1 := hbl2.size
        refine ⟨_, _, _, rfl, ?_, ?_⟩
        · ((repeat' (first | (refine bel_set ?_ ?_ _) | (refine bel_al ?_ ?_ _) | exact Below.refl _ _ | assumption | (refine below_drewN ?_ _) | (refine Below.drew ?_) | (refine Below.trans ?_ (Below.mono hbl2 ?_)))) <;> (first | omega | (simp; done) | (simp; omega)))
        · (refine OC.mono (base := ?bb) ?hh ?hl; (case hh => ((repeat' (first | (refine OC.set ?_ _ ?_) | (refine OC.alloc ?_ _) | exact ho | (refine OC.drewN ?_ _))) <;> (first | omega | (simp; done) | (simp; omega)))); (case hl => (first | omega | (simp; done) | (simp; omega))))
end Go.Proofs.Ytmbohiebjgafoaa
