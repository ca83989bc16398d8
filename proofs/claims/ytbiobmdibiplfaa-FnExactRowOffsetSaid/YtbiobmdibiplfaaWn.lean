import Derived.Test.YtbiobmdibiplfaaVa
import Derived.Test.YtbiobmdibiplfaaRc
import Derived.IntWalk
import Derived.Deep.LoopGhost
import Derived.WalkMore
set_option linter.unusedVariables false
set_option linter.unusedSimpArgs false
namespace Go.FX
open Go Go.RowKit
/-! Winners: the first one of those that count and have the least cost, not-a-numbers left out. -/
def cLess (a b : Nat) : Bool := FloatKind.f32.format.order a b == some Ordering.lt
theorem cLess_fl {a b x y : Nat} (ha : Fl .f32 a x) (hb : Fl .f32 b y) : cLess a b = cLess x y := by unfold cLess; rw [ha.order hb]
def validC (cs : List Nat) (p : Nat → Bool) (d : Nat) : Bool := !isN .f32 (cs.getD d 0) && p d
/-- Nothing of the first k that counts is less than d. -/
def noLess (cs : List Nat) (p : Nat → Bool) (d k : Nat) : Prop := ∀ e, e < k → (cLess (cs.getD e 0) (cs.getD d 0) && p e) = false
def goodC (cs : List Nat) (p : Nat → Bool) (d : Nat) : Prop := validC cs p d = true ∧ noLess cs p d cs.length
/-- What a winner is: -1, where none counts, or the first good one. -/
def IsWin (cs : List Nat) (p : Nat → Bool) (r : Int) : Prop :=
  (r = -1 ∧ ∀ d, d < cs.length → validC cs p d = false) ∨ ∃ d : Nat, r = d ∧ d < cs.length ∧ goodC cs p d ∧ ∀ e, e < d → ¬ goodC cs p e
theorem valid_num {cs : List Nat} {p : Nat → Bool} {d : Nat} (h : validC cs p d = true) : isN .f32 (cs.getD d 0) = false ∧ p d = true := by
  unfold validC at h; simpa using h
theorem less_key {cs : List Nat} {p : Nat → Bool} {d e : Nat} (hd : validC cs p d = true) (he : validC cs p e = true) : cLess (cs.getD d 0) (cs.getD e 0) = decide (key .f32 (cs.getD d 0) < key .f32 (cs.getD e 0)) :=
  lt_key (valid_num hd).1 (valid_num he).1
theorem less_not {a b : Nat} (h : isN .f32 a = true) : cLess a b = false := by unfold cLess; rw [order_nan_left h]; rfl
/-- The fold of the model: the best so far. -/
def bestTo (cs : List Nat) (p : Nat → Bool) : Nat → Int
  | 0 => -1
  | k + 1 => if validC cs p k && (decide (bestTo cs p k < 0) || cLess (cs.getD k 0) (cs.getD (bestTo cs p k).toNat 0)) then (k : Int) else bestTo cs p k
theorem bestTo_inv (cs : List Nat) (p : Nat → Bool) : ∀ k, (bestTo cs p k = -1 ∧ ∀ d, d < k → validC cs p d = false) ∨
    ∃ b : Nat, bestTo cs p k = b ∧ b < k ∧ validC cs p b = true ∧ (∀ d, d < k → validC cs p d = true → key .f32 (cs.getD b 0) ≤ key .f32 (cs.getD d 0)) ∧ (∀ d, d < b → validC cs p d = true → key .f32 (cs.getD b 0) < key .f32 (cs.getD d 0)) := by
  intro k
  induction k with
  | zero => exact .inl ⟨rfl, fun d h => by omega⟩
  | succ k ih =>
    unfold bestTo
    cases hv : validC cs p k with
    | false =>
      simp only [Bool.false_and, Bool.false_eq_true, if_false]
      rcases ih with ⟨h1, h2⟩ | ⟨b, h1, h2, h3, h4, h5⟩
      · exact .inl ⟨h1, fun d hd => (by
        rcases Nat.lt_succ_iff_lt_or_eq.1 hd with h | rfl
        · exact h2 d h
        · exact hv)⟩
      · exact .inr ⟨b, h1, by omega, h3, fun d hd hw => (by
        rcases Nat.lt_succ_iff_lt_or_eq.1 hd with h | rfl
        · exact h4 d h hw
        · (rw [hv] at hw; cases hw)), h5⟩
    | true =>
      rcases ih with ⟨h1, h2⟩ | ⟨b, h1, h2, h3, h4, h5⟩
      · rw [h1]
        refine .inr ⟨k, by simp, by omega, hv, fun d hd hw => ?_, fun d hd hw => by rw [h2 d hd] at hw; cases hw⟩
        rcases Nat.lt_succ_iff_lt_or_eq.1 hd with h | rfl
        · rw [h2 d h] at hw; cases hw
        · exact Int.le_refl _
      · rw [h1]
        have hneg : decide ((b : Int) < 0) = false := by simp
        rw [hneg, Bool.false_or, Bool.true_and, Int.toNat_natCast, less_key hv h3]
        by_cases hk : key .f32 (cs.getD k 0) < key .f32 (cs.getD b 0)
        · rw [decide_eq_true hk, if_pos rfl]
          refine .inr ⟨k, rfl, by omega, hv, fun d hd hw => ?_, fun d hd hw => by have := h4 d hd hw; omega⟩
          rcases Nat.lt_succ_iff_lt_or_eq.1 hd with h | rfl
          · have := h4 d h hw; omega
          · exact Int.le_refl _
        · rw [decide_eq_false hk, if_neg (by simp)]
          refine .inr ⟨b, rfl, by omega, h3, fun d hd hw => ?_, h5⟩
          rcases Nat.lt_succ_iff_lt_or_eq.1 hd with h | rfl
          · exact h4 d h hw
          · omega
theorem bestTo_win (cs : List Nat) (p : Nat → Bool) : IsWin cs p (bestTo cs p cs.length) := by
  rcases bestTo_inv cs p cs.length with ⟨h1, h2⟩ | ⟨b, h1, h2, h3, h4, h5⟩
  · exact .inl ⟨h1, h2⟩
  · refine .inr ⟨b, h1, h2, ⟨h3, fun e he => ?_⟩, fun e he hg => ?_⟩
    · cases hp : p e with
      | false => simp
      | true =>
        cases hn : isN .f32 (cs.getD e 0) with
        | true => rw [less_not hn]; rfl
        | false =>
          have hve : validC cs p e = true := by unfold validC; rw [hn, hp]; rfl
          rw [less_key hve h3, decide_eq_false (by have := h4 e he hve; omega)]; rfl
    · have := hg.2 b h2
      rw [(valid_num h3).2, Bool.and_true, less_key h3 hg.1] at this
      have h6 := h5 e he hg.1
      rw [decide_eq_true h6] at this
      cases this
theorem IsWin.unique {cs : List Nat} {p : Nat → Bool} {r s : Int} (hr : IsWin cs p r) (hs : IsWin cs p s) : r = s := by
  rcases hr with ⟨h1, h2⟩ | ⟨d, h1, h2, h3, h4⟩ <;> rcases hs with ⟨k1, k2⟩ | ⟨e, k1, k2, k3, k4⟩
  · rw [h1, k1]
  · have := h2 e k2; rw [k3.1] at this; cases this
  · have := k2 d h2; rw [h3.1] at this; cases this
  · rcases Nat.lt_trichotomy d e with h | h | h
    · exact absurd h3 (k4 d h)
    · rw [h1, k1, h]
    · exact absurd k3 (h4 e h)
/-- The winner. -/
def winI (cs : List Nat) (p : Nat → Bool) : Int := bestTo cs p cs.length
theorem winI_of {cs : List Nat} {p : Nat → Bool} {r : Int} (h : IsWin cs p r) : r = winI cs p := h.unique (bestTo_win cs p)
theorem winI_lt (cs : List Nat) (p : Nat → Bool) : -1 ≤ winI cs p ∧ winI cs p < cs.length := by
  rcases bestTo_win cs p with ⟨h1, _⟩ | ⟨d, h1, h2, _⟩
  · unfold winI; omega
  · unfold winI; omega
theorem winI_none {cs : List Nat} {p : Nat → Bool} (h : ∀ d, d < cs.length → validC cs p d = true → ¬ noLess cs p d cs.length) : winI cs p = -1 := by
  rcases bestTo_win cs p with ⟨h1, _⟩ | ⟨d, h1, h2, h3, _⟩
  · exact h1
  · exact absurd h3.2 (h d h2 h3.1)
theorem winI_first {cs : List Nat} {p : Nat → Bool} {d : Nat} (hd : d < cs.length) (hv : validC cs p d = true) (hn : noLess cs p d cs.length) (h : ∀ e, e < d → ¬ goodC cs p e) : winI cs p = d :=
  (winI_of (.inr ⟨d, rfl, hd, ⟨hv, hn⟩, h⟩)).symm
/-- What is asked of a function value that tells which disparities count. -/
def PredFn (P : Program) (g : Nat) (first cap : Array Value) (n : Nat) (p : Nat → Bool) (w : World) : Prop :=
  ∀ (w1 : World) (d : Nat), Below w.heap.size w w1 → d < n → Calls P g (first ++ (#[.int .i64 d] ++ cap)) w1 (RB (p d) w1)
end Go.FX
namespace Go.Proofs.Ytbiobmdibiplfaa
open Go.FX Go.RowKit Go.WideShapes Go.ChangeShapes

set_option maxHeartbeats 4000000 in
theorem leastOf_any (v : Value) (cs : List Nat) (g : Nat) (first cap : Array Value) (p : Nat → Bool) (w : World) (hv : FC w v cs) (hmx : cs.length ≤ 1048576)
    (eg : ∀ args w, (callFunc g args).run Try.prog w = .ok (.enter g args) w) (hp : PredFn Try.prog g first cap cs.length p w) :
    Calls Try.prog 91 #[v, .func (.func g) first cap] w (RI .i64 (winI cs p) w) := by
  obtain ⟨a, c, rfl, hnc, hcm⟩ := hv.shape
  unfold maxLen at hcm
  have hv' := Lib.hid hv
  have hp' := Lib.hid hp
  clear hv hp
  go_enter Try.func91, Try.ntmps91
  go_wp2_with fail
  go_step3
  go_wp2_with fail
  go_step3
  go_wp2_with fail
  go_loopg [11] (cs.length) (fun g0 i wr => ∃ (d n : Nat), d + g0 = cs.length ∧ i = .int .i64 d ∧ wr = w.drewN n ∧ Hid (∀ e, e < d → ¬ goodC cs p e))
  case atStart => exact ⟨0, 0, by omega, rfl, rfl, Lib.hid fun e he => by omega⟩
  case round =>
    obtain ⟨d, n, hd, rfl, rfl, hno⟩ := hrel
    by_cases hlt : d < cs.length
    · obtain ⟨g1, rfl⟩ : ∃ g1, gk = g1 + 1 := ⟨gk - 1, by omega⟩
      obtain ⟨bb, off, cc, z, ev, _, _, hbb, hz, hc⟩ := hv'.out.cell hlt
      simp only [Value.slice.injEq, true_and] at ev
      obtain ⟨rfl, rfl⟩ := ev
      have hfn : ∀ (m : Nat) (e : Nat), e < cs.length → Calls Try.prog g (first.push (.int .i64 e) ++ cap) (w.drewN m) (RB (p e) (w.drewN m)) := fun m e he => by
        have := hp'.out (w.drewN m) e (below_drewN (Below.refl _ _) m) he
        rwa [show first ++ (#[Value.int .i64 (e : Int)] ++ cap) = first.push (.int .i64 e) ++ cap by simp] at this
      have hnext : Hid (¬ goodC cs p d → ∀ e, e < d + 1 → ¬ goodC cs p e) := Lib.hid fun h e he => by
        rcases Nat.lt_succ_iff_lt_or_eq.1 he with h' | rfl
        · exact hno.out e h'
        · exact h
      cases hn : isN .f32 z with
      | true =>
        have hbad : Hid (¬ goodC cs p d) := Lib.hid fun hg => by
          have := (valid_num hg.1).1
          rw [← hz.eq, isN_cn, hn] at this; cases this
        have hn' := Lib.hid hn
        clear hn hz
        go_wp2_with fail
        refine (isNaN_any _ _).mono ?_
        rintro e w' ⟨rfl, rfl⟩
        rw [hn'.out]
        go_wp2_with fail
        go_roundg g1
        case rel => exact ⟨d + 1, _, by omega, by first | rfl | go_num, rfl, Lib.hid (hnext.out hbad.out)⟩
        case measure => omega
      | false =>
        have hn' := Lib.hid hn
        cases hpd : p d with
        | false =>
          have hbad : Hid (¬ goodC cs p d) := Lib.hid fun hg => by
            have := (valid_num hg.1).2
            rw [hpd] at this; cases this
          have hpd' := Lib.hid hpd
          clear hn hz hpd
          go_wp2_with fail
          refine (isNaN_any _ _).mono ?_
          rintro e w' ⟨rfl, rfl⟩
          rw [hn'.out]
          go_wp2_with (go_at_fn g; (with_reducible refine (hfn _ d hlt).mono ?_); rintro e w' ⟨m, rfl, rfl⟩; rw [hpd'.out])
          go_roundg g1
          case rel => exact ⟨d + 1, _, by omega, by first | rfl | go_num, by first | rfl | (simp only [World.drewN_drewN]; rfl), Lib.hid (hnext.out hbad.out)⟩
          case measure => omega
        | true =>
          have hvd : Hid (validC cs p d = true) := Lib.hid (by
            unfold validC
            rw [hpd, Bool.and_true, ← hz.eq, isN_cn, hn]; rfl)
          have hpd' := Lib.hid hpd
          have hz' := Lib.hid hz
          clear hn hz hpd
          go_wp2_with fail
          refine (isNaN_any _ _).mono ?_
          rintro e w' ⟨rfl, rfl⟩
          rw [hn'.out]
          go_wp2_with (go_at_fn g; (with_reducible refine (hfn _ d hlt).mono ?_); rintro e w' ⟨m, rfl, rfl⟩; rw [hpd'.out])
          go_loopg [26] (cs.length) (fun g0 j wr => ∃ (e n : Nat), e + g0 = cs.length ∧ j = .int .i64 e ∧ wr = w.drewN n ∧ Hid (noLess cs p d e))
          case atStart => exact ⟨0, _, by omega, rfl, by first | rfl | (simp only [World.drewN_drewN]; rfl), Lib.hid fun e he => by omega⟩
          case round =>
            obtain ⟨e, n2, he, rfl, rfl, hle⟩ := hrel
            by_cases hel : e < cs.length
            · obtain ⟨g2, rfl⟩ : ∃ g2, gk = g2 + 1 := ⟨gk - 1, by omega⟩
              obtain ⟨bb', off', cc', z2, ev', _, _, hbb', hz2, hc2⟩ := hv'.out.cell hel
              simp only [Value.slice.injEq, Option.some.injEq, Addr.mk.injEq, and_true, true_and] at ev'
              obtain ⟨⟨rfl, rfl⟩, rfl⟩ := ev'
              have hls := Lib.hid (cLess_fl hz2 hz'.out)
              have hstep : Hid ((cLess (cs.getD e 0) (cs.getD d 0) && p e) = false → noLess cs p d (e + 1)) := Lib.hid fun h k hk => by
                rcases Nat.lt_succ_iff_lt_or_eq.1 hk with h' | rfl
                · exact hle.out k h'
                · exact h
              have hbad : Hid ((cLess (cs.getD e 0) (cs.getD d 0) && p e) = true → ¬ goodC cs p d) := Lib.hid fun h hg => by
                have := hg.2 e hel
                rw [h] at this; cases this
              clear hz2
              cases tl : (FloatKind.f32.format.order z2 z == some Ordering.lt) with
              | false =>
                have hx : Hid (cLess (cs.getD e 0) (cs.getD d 0) = false) := Lib.hid (hls.out.symm.trans tl)
                go_wp2_with fail
                go_roundg g2
                case rel => exact ⟨e + 1, _, by omega, by first | rfl | go_num, rfl, Lib.hid (hstep.out (by rw [hx.out]; rfl))⟩
                case measure => omega
              | true =>
                have hx : Hid (cLess (cs.getD e 0) (cs.getD d 0) = true) := Lib.hid (hls.out.symm.trans tl)
                cases hpe : p e with
                | false =>
                  have hpe' := Lib.hid hpe
                  clear hpe
                  go_wp2_with (go_at_fn g; (with_reducible refine (hfn _ e hel).mono ?_); rintro e' w' ⟨m', rfl, rfl⟩; rw [hpe'.out])
                  go_roundg g2
                  case rel => exact ⟨e + 1, _, by omega, by first | rfl | go_num, by first | rfl | (simp only [World.drewN_drewN]; rfl), Lib.hid (hstep.out (by rw [hpe'.out, Bool.and_false]))⟩
                  case measure => omega
                | true =>
                  have hpe' := Lib.hid hpe
                  clear hpe
                  go_wp2_with (go_at_fn g; (with_reducible refine (hfn _ e hel).mono ?_); rintro e' w' ⟨m', rfl, rfl⟩; rw [hpe'.out])
                  go_roundg g1
                  case rel => exact ⟨d + 1, _, by omega, by first | rfl | go_num, by first | rfl | (simp only [World.drewN_drewN]; rfl), Lib.hid (hnext.out (hbad.out (by rw [hx.out, hpe'.out]; rfl)))⟩
                  case measure => omega
            · obtain rfl : e = cs.length := by omega
              have hw : Hid (winI cs p = d) := Lib.hid (winI_first hlt hvd.out hle.out hno.out)
              go_wp2_with fail
              try rw [Exit.noGoto_ret]
              go_ret
              exact ⟨n2, by rw [hw.out]; rfl, rfl⟩
    · obtain rfl : d = cs.length := by omega
      have hw : Hid (winI cs p = -1) := Lib.hid (winI_none fun e he h1 h2 => hno.out e he ⟨h1, h2⟩)
      go_wp2_with fail
      try rw [Exit.noGoto_ret]
      go_ret
      exact ⟨n, by rw [hw.out]; rfl, rfl⟩
theorem winnerOf_any (v : Value) (cs : List Nat) (w : World) (hv : FC w v cs) (hmx : cs.length ≤ 1048576) :
    Calls Try.prog 79 #[v] w (RI .i64 (winI cs fun _ => true) w) := by
  have hl := leastOf_any v cs 131 #[] #[] (fun _ => true) w hv hmx (enters_of Try.func131 (by kernel_rfl) rfl) (fun w1 d _ _ => by
    show Calls Try.prog 131 #[.int .i64 d] w1 _
    go_enter Try.func131, Try.ntmps131
    go_wp2
    go_ret
    exact ⟨0, rfl, rfl⟩)
  go_enter Try.func79, Try.ntmps79
  go_wp2_with fail
  refine hl.mono ?_
  rintro e w' ⟨n, rfl, rfl⟩
  go_wp2_with fail
  go_ret
  exact ⟨n, rfl, rfl⟩
end Go.Proofs.Ytbiobmdibiplfaa
