import Derived.Test.YtmbohiebjgafoaaTb
import Derived.OwnWalk
import Derived.Laws.OwnMore
import Derived.Deep.AppendLies
set_option linter.unusedVariables false
set_option linter.unusedSimpArgs false
namespace Go.FX
open Go Go.RowKit
/-! Rows of tiles of the call's own. -/
def cellT (ts : List (Int × Int)) : List Value := ts.flatMap fun t => [Value.int .i64 t.1, .int .i64 t.2]
theorem cellT_snoc (ts : List (Int × Int)) (x y : Int) : cellT (ts ++ [(x, y)]) = cellT ts ++ [.int .i64 x, .int .i64 y] := by simp [cellT]
theorem cellT_len : ∀ ts : List (Int × Int), (cellT ts).length = ts.length * 2
  | [] => rfl
  | t :: ts => by
    have := cellT_len ts
    simp only [cellT, List.flatMap_cons, List.length_append, List.length_cons, List.length_nil] at this ⊢
    omega
theorem cellT_get : ∀ (ts : List (Int × Int)) (k : Nat) (h : k < ts.length), (cellT ts)[k * 2]? = some (.int .i64 ts[k].1) ∧ (cellT ts)[k * 2 + 1]? = some (.int .i64 ts[k].2)
  | [], k, h => by simp at h
  | t :: ts, 0, _ => by simp [cellT]
  | t :: ts, k + 1, h => by
    have ih := cellT_get ts k (by simpa using h)
    have e : cellT (t :: ts) = .int .i64 t.1 :: .int .i64 t.2 :: cellT ts := by simp [cellT]
    rw [e, show (k + 1) * 2 = k * 2 + 1 + 1 by omega]
    simpa using ih
def OT (w : World) (base : Nat) (e : TypeId) (v : Value) (ts : List (Int × Int)) : Prop := w.ownsRow base e 2 v ts.length (cellT ts)
theorem OT.nil (w : World) (base : Nat) (e : TypeId) : OT w base e (.slice none 0 0) [] := World.ownsRow_nil _ _ _ _
theorem OT.lt {w : World} {base : Nat} {e : TypeId} {v : Value} {l : List (Int × Int)} (h : OT w base e v l) : ∀ k, v.ownBlock = some k → base ≤ k ∧ k < w.heap.size := World.ownsRow.lt h
theorem OT.kept {w w' : World} {base : Nat} {e : TypeId} {v : Value} {l : List (Int × Int)} {row : Option Nat} (h : OT w base e v l) (hg : w.grownBy w' row) (hne : v.ownBlock = none ∨ v.ownBlock ≠ row) : OT w' base e v l := World.ownsRow.kept h hg hne
theorem OT.below {w w' : World} {base : Nat} {e : TypeId} {v : Value} {l : List (Int × Int)} (h : OT w base e v l) (hb : Below w.heap.size w w') : OT w' base e v l :=
  h.kept (grown_of_below hb none) (by cases hv : v.ownBlock <;> simp)
theorem OT.form {w : World} {base : Nat} {e : TypeId} {v : Value} {l : List (Int × Int)} (h : OT w base e v l) : ∃ a c, v = .slice a l.length c ∧ l.length ≤ c ∧ c ≤ maxLen := by
  rcases h.2 with ⟨hv, h0⟩ | ⟨g, cap, cur, hv, _, hg, hn, hm, _⟩
  · exact ⟨none, 0, by rw [hv, h0], by omega, by simp [maxLen]⟩
  · exact ⟨some ⟨g, 0, none⟩, cap, hv, hn, hm⟩
theorem OT.own {w : World} {base : Nat} {e : TypeId} {v : Value} {l : List (Int × Int)} (h : OT w base e v l) (hp : 0 < l.length) : ∃ g c, v = .slice (some ⟨g, 0, none⟩) l.length c ∧ l.length ≤ c ∧ c ≤ maxLen ∧ g < w.heap.size ∧ base ≤ g ∧
    (∀ k (hk : k < l.length), w.cell? ⟨g, k * 2, none⟩ = some (.int .i64 l[k].1) ∧ w.cell? ⟨g, k * 2 + 1, none⟩ = some (.int .i64 l[k].2)) ∧ ∀ o, w.frozen? ⟨g, o, none⟩ = false := by
  have h' := h
  rcases h.2 with ⟨hv, h0⟩ | ⟨g, cap, cur, hv, hb, hg, hn, hm, _⟩
  · omega
  · subst hv
    refine ⟨g, cap, rfl, hn, hm, (Array.getElem?_eq_some_iff.1 hg).1, hb, fun k hk => ?_, fun o => World.ownsRow.frozenAt h' o⟩
    have hl := cellT_get l k hk
    exact ⟨by rw [World.ownsRow.cellAt h' _ (by omega)]; exact hl.1, by rw [World.ownsRow.cellAt h' _ (by omega)]; exact hl.2⟩
theorem OT.push {w' : World} {base : Nat} {e : TypeId} {v' : Value} {l : List (Int × Int)} {x y : Int}
    (h : w'.ownsRow base e 2 v' (l.length + 1) (cellT l ++ [.int .i64 x, .int .i64 y])) : OT w' base e v' (l ++ [(x, y)]) := by
  unfold OT
  rw [List.length_append, cellT_snoc]
  exact h
/-- The tiles of the first k workers. -/
def tileF (q r i : Nat) : Int × Int := (((i * q + min i r : Nat) : Int), ((q + (if i < r then 1 else 0) : Nat) : Int))
def tilesK (q r k : Nat) : List (Int × Int) := (List.range k).map (tileF q r)
theorem tilesK_len (q r k : Nat) : (tilesK q r k).length = k := by simp [tilesK]
theorem tilesK_succ (q r k : Nat) : tilesK q r (k + 1) = tilesK q r k ++ [tileF q r k] := by simp [tilesK, List.range_succ]
/-- Marked tiles. -/
def markT (k : Int) (n : Nat) : List (Int × Int) := (List.range n).map fun i : Nat => (k + 2 * (i : Int), k + 2 * (i : Int) + 1)
theorem markT_len (k : Int) (n : Nat) : (markT k n).length = n := by simp [markT]
end Go.FX
namespace Go.Proofs.Ytmbohiebjgafoaa
open Go.FX Go.RowKit Go.WideShapes Go.ChangeShapes
theorem info_tile : (Try.prog.info? 48).map (fun i => (i.zero, i.size, i.bytes)) = some (some (.agg #[.int .i64 0, .int .i64 0]), 2, 16) := by kernel_rfl
theorem isSide_any (n : Int) (w : World) : Calls Try.prog 66 #[.int .i64 n] w fun e w' => e = .returned (.bool (decide (1 ≤ n ∧ n ≤ 24))) ∧ w = w' := by
  by_cases h1 : 1 ≤ n
  · by_cases h2 : n ≤ 24
    all_goals
      go_enter Try.func66, Try.ntmps66
      go_wp2
      go_ret
      exact ⟨by simp [h1, h2], rfl⟩
  · go_enter Try.func66, Try.ntmps66
    go_wp2
    go_ret
    exact ⟨by simp; intros; omega, rfl⟩

set_option maxHeartbeats 2000000 in
theorem specTiles_any (H W : Nat) (w : World) (h1 : 1 ≤ H) (h2 : H ≤ 24) (h3 : 1 ≤ W) (h4 : W ≤ 8) :
    Calls Try.prog 65 #[.int .i64 H, .int .i64 W] w fun e w' => ∃ v, e = .returned v ∧ OT w' w.heap.size 48 v (tilesK (H / W) (H % W) (min W H)) ∧ Below w.heap.size w w' := by
  obtain ⟨i0, hi, hz0, hz1, hz2⟩ := info_parts info_tile
  obtain ⟨q, hq⟩ : ∃ q, q = H / W := ⟨_, rfl⟩
  obtain ⟨r, hr⟩ : ∃ r, r = H % W := ⟨_, rfl⟩
  have hqr : q * W + r = H := by rw [hq, hr, Nat.mul_comm]; exact Nat.div_add_mod H W
  have hrW : r < W := by rw [hr]; exact Nat.mod_lt _ h3
  have e1 : (H : Int).tdiv (W : Int) = (q : Int) := by rw [hq]; exact (Int.ofNat_tdiv H W).symm
  have e2 : (H : Int).tmod (W : Int) = (r : Int) := by rw [hr]; exact (Int.ofNat_tmod H W).symm
  have e3 : (H : Int) / (W : Int) = (q : Int) := by rw [hq]; exact (Int.natCast_ediv H W).symm
  have e4 : (H : Int) % (W : Int) = (r : Int) := by rw [hr]; exact (Int.natCast_emod H W).symm
  rw [← hq, ← hr]
  have hq24 : q ≤ 24 := by have : q * 1 ≤ q * W := Nat.mul_le_mul_left _ h3; omega
  clear hq hr
  go_enter Try.func65, Try.ntmps65
  have hL0 : OT (w.alloc (.cells #[] 48)) w.heap.size 48 (.slice (some ⟨w.heap.size, 0, none⟩) 0 0) (tilesK q r (min 0 (min W H))) := by
    rw [Nat.zero_min]
    exact World.ownsRow_lit (base := w.heap.size) (e := 48) (size := 2) w #[] 0 (Nat.le_refl _) (by simp [maxLen]) (by simp)
  have hS := Lib.hid hL0
  clear hL0
  go_wp2_with fail
  go_loopw [5, 6, 7] (fun v m i wr => ∃ k : Nat, k ≤ W ∧ i = .int .i64 k ∧ m = .int .i64 ((k * q + min k r : Nat) : Int) ∧ Hid (OT wr w.heap.size 48 v (tilesK q r (min k (min W H))) ∧ Below w.heap.size w wr ∧ True)) (fun _ _ i _ => W - (intOf i).toNat)
  case atStart => exact ⟨0, Nat.zero_le _, rfl, by simp, Lib.hid ⟨hS.out, below1 _ _, trivial⟩⟩
  case round =>
    clear hS
    obtain ⟨k, hk, rfl, rfl, hR⟩ := hrel
    have hkq : k * q ≤ W * q := Nat.mul_le_mul_right _ hk
    have hWq : W * q = q * W := Nat.mul_comm _ _
    have hkq1 : (k + 1) * q = k * q + q := Nat.succ_mul _ _
    have hlen : (tilesK q r (min k (min W H))).length = min k (min W H) := tilesK_len _ _ _
    by_cases hlt : k < W
    · obtain ⟨f, hf⟩ : ∃ f : Int, f = ((k * q + min k r : Nat) : Int) := ⟨_, rfl⟩
      have hfb : 0 ≤ f ∧ f ≤ 64 := by omega
      rw [← hf]
      by_cases hkr : k < r
      · obtain ⟨nn, hnn⟩ : ∃ n : Int, n = (q : Int) + 1 := ⟨_, rfl⟩
        have hnew : Hid (tilesK q r (min (k + 1) (min W H)) = tilesK q r k ++ [(f, nn)]) := Lib.hid (by
          rw [show min (k + 1) (min W H) = k + 1 by omega, tilesK_succ]
          unfold tileF
          rw [if_pos hkr, hf, hnn]; push_cast; rfl)
        have hnf : Hid (f + nn = (((k + 1) * q + min (k + 1) r : Nat) : Int)) := Lib.hid (by rw [hkq1]; omega)
        have g1 : (q : Int) + 1 = nn := hnn.symm
        have g2 : 0 < nn := by omega
        have g3 : nn ≤ 25 := by omega
        have g4 : (k : Int) < (r : Int) := by omega
        clear hnn hkq hWq hkq1 hf
        have hmk : min k (min W H) = k := by omega
        rw [hmk] at hR hlen
        clear hmk
        obtain ⟨av, cv, ev, _, _⟩ := hR.out.1.form
        rw [hlen] at ev
        subst ev
        have hown := hR.out.1
        unfold OT at hown
        rw [hlen] at hown
        have hsz := hR.out.2.1.size
        have hll := hlen
        have hol := hown.alloc (.cells #[.int .i64 f, .int .i64 nn] 48)
        clear hown
        go_wp2_with (at_builtin; go_loud (refine wpList_append_own _ rfl _ _ 33 rfl w.heap.size 48 i0 (.agg #[.int .i64 0, .int .i64 0]) 2 16 Try.underlying33 hi hz0 hz1 hz2 rfl (by decide) _ _ _ rfl hol ⟨wr.heap.size, 0, none⟩ 1 1 [.int .i64 f, .int .i64 nn] rfl rfl ?c1 ?c2 ?c3 ?c4 ?c5 ?_))
        case c1 =>
          intro j u hj
          rw [show (⟨wr.heap.size, 0, none⟩ : Addr).add j = ⟨wr.heap.size, j, none⟩ by unfold Addr.add; split <;> simp_all, World.cell?_alloc_mark]
          simpa using hj
        case c2 => intro u hu; simp at hu; rcases hu with rfl | rfl <;> rfl
        case c3 => unfold maxLen; omega
        case c4 => omega
        case c5 => simp; omega
        intro v5 w5 hown5 hgrow5 _
        have hHS : Hid (OT w5 w.heap.size 48 v5 (tilesK q r (min (k + 1) (min W H))) ∧ Below w.heap.size w w5 ∧ True) := by
          refine Lib.hid ⟨?_, (hR.out.2.1.alloc (by omega) (.cells #[.int .i64 f, .int .i64 nn] 48)).grown hgrow5 (by simp; omega) (fun z hz => by have := (hR.out.1.lt z hz).1; omega), trivial⟩
          rw [hnew.out]
          exact OT.push (by rw [hlen]; exact hown5)
        clear hown5 hgrow5 hol hR
        go_wp2_with fail
        go_roundw
        case rel => exact ⟨k + 1, by omega, by go_num, by first | (rw [← hnf.out]; done) | (rw [← hnf.out]; go_num), hHS⟩
        case measure => simp [intOf]; omega
      · by_cases hq0 : 0 < q
        · obtain ⟨nn, hnn⟩ : ∃ n : Int, n = (q : Int) := ⟨_, rfl⟩
          have hHW : W ≤ H := by have : 1 * W ≤ q * W := Nat.mul_le_mul_right _ hq0; omega
          have hnew : Hid (tilesK q r (min (k + 1) (min W H)) = tilesK q r k ++ [(f, nn)]) := Lib.hid (by
            rw [show min (k + 1) (min W H) = k + 1 by omega, tilesK_succ]
            unfold tileF
            rw [if_neg hkr, hf, hnn]; rfl)
          have hnf : Hid (f + nn = (((k + 1) * q + min (k + 1) r : Nat) : Int)) := Lib.hid (by rw [hkq1]; omega)
          have g2 : 0 < nn := by omega
          have g3 : nn ≤ 25 := by omega
          have g4 : ¬ (k : Int) < (r : Int) := by omega
          rw [← hnn] at e1 e3
          have g5 : (q : Int) = nn := hnn.symm
          clear hnn hkq hWq hkq1 hf
          have hmk : min k (min W H) = k := by omega
          rw [hmk] at hR hlen
          clear hmk
          obtain ⟨av, cv, ev, _, _⟩ := hR.out.1.form
          rw [hlen] at ev
          subst ev
          have hown := hR.out.1
          unfold OT at hown
          rw [hlen] at hown
          have hsz := hR.out.2.1.size
          have hll := hlen
          have hol := hown.alloc (.cells #[.int .i64 f, .int .i64 nn] 48)
          clear hown
          go_wp2_with (at_builtin; go_loud (refine wpList_append_own _ rfl _ _ 33 rfl w.heap.size 48 i0 (.agg #[.int .i64 0, .int .i64 0]) 2 16 Try.underlying33 hi hz0 hz1 hz2 rfl (by decide) _ _ _ rfl hol ⟨wr.heap.size, 0, none⟩ 1 1 [.int .i64 f, .int .i64 nn] rfl rfl ?d1 ?d2 ?d3 ?d4 ?d5 ?_))
          case d2 => first | exact ⟨rfl, rfl⟩ | (intro u hu; simp at hu; rcases hu with rfl | rfl <;> rfl)
          case d3 => unfold maxLen; omega
          case d4 => omega
          case d5 => first | omega | (simp; omega)
          intro v5 w5 hown5 hgrow5 _
          have hHS : Hid (OT w5 w.heap.size 48 v5 (tilesK q r (min (k + 1) (min W H))) ∧ Below w.heap.size w w5 ∧ True) := by
            refine Lib.hid ⟨?_, (hR.out.2.1.alloc (by omega) (.cells #[.int .i64 f, .int .i64 nn] 48)).grown hgrow5 (by simp; omega) (fun z hz => by have := (hR.out.1.lt z hz).1; omega), trivial⟩
            rw [hnew.out]
            exact OT.push (by rw [hlen]; exact hown5)
          clear hown5 hgrow5 hol hR
          go_wp2_with fail
          go_roundw
          case rel => exact ⟨k + 1, by omega, by go_num, by first | (rw [← hnf.out]; done) | (rw [← hnf.out]; go_num), hHS⟩
          case measure => simp [intOf]; omega
        · obtain rfl : q = 0 := by omega
          have hnew : Hid (tilesK 0 r (min (k + 1) (min W H)) = tilesK 0 r (min k (min W H))) := Lib.hid (by rw [show min (k + 1) (min W H) = min k (min W H) by omega])
          have hnf : Hid (f = (((k + 1) * 0 + min (k + 1) r : Nat) : Int)) := Lib.hid (by rw [hf]; omega)
          have g4 : ¬ (k : Int) < (r : Int) := by omega
          have hHS : Hid (OT wr w.heap.size 48 u5 (tilesK 0 r (min (k + 1) (min W H))) ∧ Below w.heap.size w wr ∧ True) := Lib.hid (by rw [hnew.out]; exact hR.out)
          clear hkq hWq hkq1 hf hR
          go_wp2_with fail
          go_roundw
          case rel => exact ⟨k + 1, by omega, by go_num, by first | (rw [← hnf.out]; done) | (rw [← hnf.out]; go_num) | (rw [← hnf.out]; simp), hHS⟩
          case measure => simp [intOf]; omega
    · obtain rfl : k = W := by omega
      have hR' := Lib.hid (show OT wr w.heap.size 48 u5 (tilesK q r (min k H)) ∧ Below w.heap.size w wr by have h := hR.out; rw [show min k (min k H) = min k H by omega] at h; exact ⟨h.1, h.2.1⟩)
      clear hR
      go_wp2_with fail
      go_ret
      exact ⟨_, rfl, hR'.out.1, hR'.out.2⟩

set_option maxRecDepth 100000 in
set_option maxHeartbeats 4000000 in
theorem implTiles_any (H W : Nat) (w : World) (h1 : 1 ≤ H) (h2 : H ≤ 24) (h3 : 1 ≤ W) (h4 : W ≤ 8) :
    Calls Try.prog 19 #[.int .i64 H, .int .i64 W] w fun e w' => ∃ v, e = .returned (.tuple #[v, .bool true]) ∧ OT w' w.heap.size 48 v (tilesK (H / W) (H % W) (min W H)) ∧ Below w.heap.size w w' := by
  obtain ⟨i0, hi, hz0, hz1, hz2⟩ := info_parts info_tile
  obtain ⟨q, hq⟩ : ∃ q, q = H / W := ⟨_, rfl⟩
  obtain ⟨r, hr⟩ : ∃ r, r = H % W := ⟨_, rfl⟩
  have hqr : q * W + r = H := by rw [hq, hr, Nat.mul_comm]; exact Nat.div_add_mod H W
  have hrW : r < W := by rw [hr]; exact Nat.mod_lt _ h3
  have e1 : (H : Int).tdiv (W : Int) = (q : Int) := by rw [hq]; exact (Int.ofNat_tdiv H W).symm
  have e2 : (H : Int).tmod (W : Int) = (r : Int) := by rw [hr]; exact (Int.ofNat_tmod H W).symm
  have e3 : (H : Int) / (W : Int) = (q : Int) := by rw [hq]; exact (Int.natCast_ediv H W).symm
  have e4 : (H : Int) % (W : Int) = (r : Int) := by rw [hr]; exact (Int.natCast_emod H W).symm
  rw [← hq, ← hr]
  have hq24 : q ≤ 24 := by have : q * 1 ≤ q * W := Nat.mul_le_mul_left _ h3; omega
  clear hq hr
  obtain ⟨m, hm⟩ : ∃ m, m = min W H := ⟨_, rfl⟩
  have e5 : min (W : Int) (H : Int) = (m : Int) := by omega
  have hmW : m ≤ W := by omega
  rw [← hm]
  have hsd := fun w1 => (isSide_any (H : Int) w1).mono (R' := fun e w' => e = .returned (.bool true) ∧ w1 = w') fun e w' h => ⟨by rw [h.1, show decide (1 ≤ (H : Int) ∧ (H : Int) ≤ 24) = true by simp; omega], h.2⟩
  clear hm
  go_enter Try.func19, Try.ntmps19
  go_wp2_with fail
  refine (hsd _).mono ?_
  rintro e w1 ⟨rfl, rfl⟩
  go_wp2_with fail
  go_loopw [6, 7, 24] (fun v a i wr => ∃ k : Nat, k ≤ m ∧ i = .int .i64 k ∧ a = .int .i64 ((k * q + min k r : Nat) : Int) ∧ Hid (OT wr w.heap.size 48 v (tilesK q r k) ∧ Below w.heap.size w wr)) (fun _ _ i _ => m - (intOf i).toNat)
  case atStart => exact ⟨0, Nat.zero_le _, rfl, by simp, Lib.hid ⟨OT.nil _ _ _, Below.refl _ _⟩⟩
  case round =>
    obtain ⟨k, hk, rfl, rfl, hR⟩ := hrel
    have hkq : k * q ≤ W * q := Nat.mul_le_mul_right _ (by omega)
    have hWq : W * q = q * W := Nat.mul_comm _ _
    have hkq1 : (k + 1) * q = k * q + q := Nat.succ_mul _ _
    have hlen : (tilesK q r k).length = k := tilesK_len _ _ _
    by_cases hlt : k < m
    · obtain ⟨f, hf⟩ : ∃ f : Int, f = ((k * q + min k r : Nat) : Int) := ⟨_, rfl⟩
      have hfb : 0 ≤ f ∧ f ≤ 64 := by omega
      rw [← hf]
      by_cases hkr : k < r
      · obtain ⟨nn, hnn⟩ : ∃ n : Int, n = (q : Int) + 1 := ⟨_, rfl⟩
        have hnew : Hid (tilesK q r (k + 1) = tilesK q r k ++ [(f, nn)]) := Lib.hid (by
          rw [tilesK_succ]
          unfold tileF
          rw [if_pos hkr, hf, hnn]; push_cast; rfl)
        have hnf : Hid (f + nn = (((k + 1) * q + min (k + 1) r : Nat) : Int)) := Lib.hid (by rw [hkq1]; omega)
        have g1 : (q : Int) + 1 = nn := hnn.symm
        have g2 : 0 < nn := by omega
        have g3 : nn ≤ 25 := by omega
        have g4 : (k : Int) < (r : Int) := by omega
        clear hnn hkq hWq hkq1 hf
        obtain ⟨av, cv, ev, _, _⟩ := hR.out.1.form
        rw [hlen] at ev
        subst ev
        have hown := hR.out.1
        unfold OT at hown
        rw [hlen] at hown
        have hsz := hR.out.2.size
        have hol := hown.alloc (.cells #[.int .i64 f, .int .i64 nn] 48)
        clear hown
        go_wp2_with (at_builtin; go_loud (refine wpList_append_own _ rfl _ _ 33 rfl w.heap.size 48 i0 (.agg #[.int .i64 0, .int .i64 0]) 2 16 Try.underlying33 hi hz0 hz1 hz2 rfl (by decide) _ _ _ rfl hol ⟨wr.heap.size, 0, none⟩ 1 1 [.int .i64 f, .int .i64 nn] rfl rfl ?c1 ?c2 ?c3 ?c4 ?c5 ?_))
        all_goals (try first | exact ⟨rfl, rfl⟩ | (intro u hu; simp at hu; rcases hu with rfl | rfl <;> rfl))
        all_goals (try (unfold maxLen; omega))
        all_goals (try omega)
        all_goals (try (intro j u hj; rw [show (⟨wr.heap.size, 0, none⟩ : Addr).add j = ⟨wr.heap.size, j, none⟩ by unfold Addr.add; split <;> simp_all, World.cell?_alloc_mark]; simpa using hj))
        all_goals (try (simp; omega))
        intro v5 w5 hown5 hgrow5 _
        have hHS : Hid (OT w5 w.heap.size 48 v5 (tilesK q r (k + 1)) ∧ Below w.heap.size w w5) := by
          refine Lib.hid ⟨?_, (hR.out.2.alloc (by omega) (.cells #[.int .i64 f, .int .i64 nn] 48)).grown hgrow5 (by simp; omega) (fun z hz => by have := (hR.out.1.lt z hz).1; omega)⟩
          rw [hnew.out]
          exact OT.push (by rw [hlen]; exact hown5)
        clear hown5 hgrow5 hol hR
        go_wp2_with fail
        go_roundw
        case rel => exact ⟨k + 1, by omega, by go_num, by first | (rw [← hnf.out]; done) | (rw [← hnf.out]; go_num), hHS⟩
        case measure => simp [intOf]; omega
      · obtain ⟨nn, hnn⟩ : ∃ n : Int, n = (q : Int) := ⟨_, rfl⟩
        have hnew : Hid (tilesK q r (k + 1) = tilesK q r k ++ [(f, nn)]) := Lib.hid (by
          rw [tilesK_succ]
          unfold tileF
          rw [if_neg hkr, hf, hnn]; rfl)
        have hnf : Hid (f + nn = (((k + 1) * q + min (k + 1) r : Nat) : Int)) := Lib.hid (by rw [hkq1]; omega)
        have g2 : 0 ≤ nn := by omega
        have g3 : nn ≤ 25 := by omega
        have g4 : ¬ (k : Int) < (r : Int) := by omega
        rw [← hnn] at e1 e3
        have g5 : (q : Int) = nn := hnn.symm
        clear hnn hkq hWq hkq1 hf
        obtain ⟨av, cv, ev, _, _⟩ := hR.out.1.form
        rw [hlen] at ev
        subst ev
        have hown := hR.out.1
        unfold OT at hown
        rw [hlen] at hown
        have hsz := hR.out.2.size
        have hol := hown.alloc (.cells #[.int .i64 f, .int .i64 nn] 48)
        clear hown
        go_wp2_with (at_builtin; go_loud (refine wpList_append_own _ rfl _ _ 33 rfl w.heap.size 48 i0 (.agg #[.int .i64 0, .int .i64 0]) 2 16 Try.underlying33 hi hz0 hz1 hz2 rfl (by decide) _ _ _ rfl hol ⟨wr.heap.size, 0, none⟩ 1 1 [.int .i64 f, .int .i64 nn] rfl rfl ?d1 ?d2 ?d3 ?d4 ?d5 ?_))
        all_goals (try first | exact ⟨rfl, rfl⟩ | (intro u hu; simp at hu; rcases hu with rfl | rfl <;> rfl))
        all_goals (try (unfold maxLen; omega))
        all_goals (try omega)
        all_goals (try (intro j u hj; rw [show (⟨wr.heap.size, 0, none⟩ : Addr).add j = ⟨wr.heap.size, j, none⟩ by unfold Addr.add; split <;> simp_all, World.cell?_alloc_mark]; simpa using hj))
        all_goals (try (simp; omega))
        intro v5 w5 hown5 hgrow5 _
        have hHS : Hid (OT w5 w.heap.size 48 v5 (tilesK q r (k + 1)) ∧ Below w.heap.size w w5) := by
          refine Lib.hid ⟨?_, (hR.out.2.alloc (by omega) (.cells #[.int .i64 f, .int .i64 nn] 48)).grown hgrow5 (by simp; omega) (fun z hz => by have := (hR.out.1.lt z hz).1; omega)⟩
          rw [hnew.out]
          exact OT.push (by rw [hlen]; exact hown5)
        clear hown5 hgrow5 hol hR
        go_wp2_with fail
        go_roundw
        case rel => exact ⟨k + 1, by omega, by go_num, by first | (rw [← hnf.out]; done) | (rw [← hnf.out]; go_num), hHS⟩
        case measure => simp [intOf]; omega
    · obtain rfl : k = m := by omega
      go_wp2_with fail
      refine bodyPost_ret (v := ?v) ?hr rfl ?post
      case hr => (simp [results, Try.results19, go_sem]; try rfl)
      case post => exact ⟨_, rfl, hR.out.1, hR.out.2⟩
def tilB (H W : Int) : Bool := decide (1 ≤ H ∧ H ≤ 24) && decide (1 ≤ W ∧ W ≤ 8)
theorem implTiles_no (H W : Int) (w : World) (hno : tilB H W = false) :
    Calls Try.prog 19 #[.int .i64 H, .int .i64 W] w fun e w' => e = .returned (.tuple #[.slice none 0 0, .bool false]) ∧ w = w' := by
  have hs := fun w1 => isSide_any H w1
  unfold tilB at hno
  generalize decide (1 ≤ H ∧ H ≤ 24) = b at *
  cases b with
  | false =>
    go_enter Try.func19, Try.ntmps19
    go_wp2_with fail
    refine (hs _).mono ?_
    rintro e w1 ⟨rfl, rfl⟩
    go_wp2_with fail
    go_ret2
    exact ⟨rfl, rfl⟩
  | true =>
    have hno' : ¬ (1 ≤ W ∧ W ≤ 8) := by simpa using hno
    by_cases h1 : W < 1
    · clear hno hno'
      go_enter Try.func19, Try.ntmps19
      go_wp2_with fail
      refine (hs _).mono ?_
      rintro e w1 ⟨rfl, rfl⟩
      go_wp2_with fail
      go_ret2
      exact ⟨rfl, rfl⟩
    · have h2 : 8 < W := by omega
      clear hno hno'
      go_enter Try.func19, Try.ntmps19
      go_wp2_with fail
      refine (hs _).mono ?_
      rintro e w1 ⟨rfl, rfl⟩
      go_wp2_with fail
      go_ret2
      exact ⟨rfl, rfl⟩
theorem workers_any (n : Int) (w : World) : Calls Try.prog 64 #[.int .i64 n] w fun e w' => e = .returned (.bool (decide (1 ≤ n ∧ n ≤ 8))) ∧ w = w' := by
  have h := fun w1 => taIn_any n 1 8 w1
  generalize decide (1 ≤ n ∧ n ≤ 8) = b at *
  go_enter Try.func64, Try.ntmps64
  go_wp2_with fail
  refine (h _).mono ?_
  rintro e w1 ⟨rfl, rfl⟩
  go_wp2_with fail
  go_ret
  exact ⟨rfl, rfl⟩
theorem specTilesOf_no (H W : Int) (w : World) (hno : tilB H W = false) :
    Calls Try.prog 18 #[.int .i64 H, .int .i64 W] w fun e w' => e = .returned (.tuple #[.slice none 0 0, .bool false]) ∧ w = w' := by
  have h1 := fun w1 => taIn_any H 1 24 w1
  have h2 := fun w1 => workers_any W w1
  unfold tilB at hno
  generalize decide (1 ≤ H ∧ H ≤ 24) = b at *
  generalize decide (1 ≤ W ∧ W ≤ 8) = c at *
  cases b with
  | false =>
    go_enter Try.func18, Try.ntmps18
    go_wp2_with fail
    refine (h1 _).mono ?_
    rintro e w1 ⟨rfl, rfl⟩
    go_wp2_with fail
    go_ret2
    exact ⟨rfl, rfl⟩
  | true =>
    obtain rfl : c = false := by simpa using hno
    go_enter Try.func18, Try.ntmps18
    go_wp2_with fail
    refine (h1 _).mono ?_
    rintro e w1 ⟨rfl, rfl⟩
    go_wp2_with fail
    refine (h2 _).mono ?_
    rintro e w1 ⟨rfl, rfl⟩
    go_wp2_with fail
    go_ret2
    exact ⟨rfl, rfl⟩
theorem specTilesOf_any (H W : Nat) (w : World) (h1 : 1 ≤ H) (h2 : H ≤ 24) (h3 : 1 ≤ W) (h4 : W ≤ 8) :
    Calls Try.prog 18 #[.int .i64 H, .int .i64 W] w fun e w' => ∃ v, e = .returned (.tuple #[v, .bool true]) ∧ OT w' w.heap.size 48 v (tilesK (H / W) (H % W) (min W H)) ∧ Below w.heap.size w w' := by
  have g1 := fun w1 => taIn_any H 1 24 w1
  have g2 := fun w1 => workers_any W w1
  rw [show decide (1 ≤ (H : Int) ∧ (H : Int) ≤ 24) = true by simp; omega] at g1
  rw [show decide (1 ≤ (W : Int) ∧ (W : Int) ≤ 8) = true by simp; omega] at g2
  have g3 := fun w1 => specTiles_any H W w1 h1 h2 h3 h4
  generalize tilesK (H / W) (H % W) (min W H) = T at *
  go_enter Try.func18, Try.ntmps18
  go_wp2_with fail
  refine (g1 _).mono ?_
  rintro e w1 ⟨rfl, rfl⟩
  go_wp2_with fail
  refine (g2 _).mono ?_
  rintro e w1 ⟨rfl, rfl⟩
  go_wp2_with fail
  refine (g3 _).mono ?_
  rintro e w1 ⟨v, rfl, ho, hb⟩
  have hh := Lib.hid (And.intro ho hb)
  clear ho hb
  go_wp2_with fail
  refine bodyPost_ret (v := ?v) ?hr rfl ?post
  case hr => (simp [results, Try.results18, go_sem]; try rfl)
  case post => exact ⟨_, rfl, hh.out.1, hh.out.2⟩
def RTiles (E : TypeId) (ts : List (Int × Int)) (ok : Bool) (w : World) (e : Ending) (w' : World) : Prop := ∃ a n c, e = .returned (.tuple #[.slice a n c, .bool ok]) ∧ Below w.heap.size w w' ∧ OT w' w.heap.size E (.slice a n c) ts
theorem pairTilesOf (H W : Int) : ∃ (ts : List (Int × Int)) (ok : Bool), (∀ w, Calls Try.prog 18 #[.int .i64 H, .int .i64 W] w (RTiles 48 ts ok w)) ∧ (∀ w, Calls Try.prog 19 #[.int .i64 H, .int .i64 W] w (RTiles 48 ts ok w)) ∧ ts.length ≤ 8 := by
  cases hb : tilB H W with
  | true =>
    have hb' : (1 ≤ H ∧ H ≤ 24) ∧ (1 ≤ W ∧ W ≤ 8) := by simpa [tilB] using hb
    obtain ⟨hn, rfl⟩ := Int.eq_ofNat_of_zero_le (show 0 ≤ H by omega)
    obtain ⟨wn, rfl⟩ := Int.eq_ofNat_of_zero_le (show 0 ≤ W by omega)
    refine ⟨tilesK (hn / wn) (hn % wn) (min wn hn), true, fun w => ?_, fun w => ?_, by rw [tilesK_len]; omega⟩
    · refine (specTilesOf_any hn wn w (by omega) (by omega) (by omega) (by omega)).mono ?_
      rintro e w' ⟨v, rfl, ho, hb⟩
      obtain ⟨a, c, rfl, _, _⟩ := ho.form
      exact ⟨_, _, _, rfl, hb, ho⟩
    · refine (implTiles_any hn wn w (by omega) (by omega) (by omega) (by omega)).mono ?_
      rintro e w' ⟨v, rfl, ho, hb⟩
      obtain ⟨a, c, rfl, _, _⟩ := ho.form
      exact ⟨_, _, _, rfl, hb, ho⟩
  | false =>
    refine ⟨[], false, fun w => ?_, fun w => ?_, by simp⟩
    · refine (specTilesOf_no H W w hb).mono ?_
      rintro e w' ⟨rfl, rfl⟩
      exact ⟨_, _, _, rfl, Below.refl _ _, OT.nil _ _ _⟩
    · refine (implTiles_no H W w hb).mono ?_
      rintro e w' ⟨rfl, rfl⟩
      exact ⟨_, _, _, rfl, Below.refl _ _, OT.nil _ _ _⟩
end Go.Proofs.Ytmbohiebjgafoaa
