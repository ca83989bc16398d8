import Derived.Test.YtbiobmdibiplfaaRc
set_option linter.unusedVariables false
set_option linter.unusedSimpArgs false
namespace Go.FX
open Go
section
variable {P : Program} {ops : Array Oper} {md : Region.Mode} {C : World → Prop}
/-! Operations that a guard leaves out: the class 'none'. -/
def wpS (P : Program) (ops : Array Oper) (C : World → Prop) (K : Act → Prop) : List Oper → List (Option (Value → Prop)) → Act → Prop
  | [], _, a => K a
  | _ :: _, [], _ => False
  | o :: rest, some V :: Vs, a =>
    ((Region.wanted o (yielded ops a.tmps) = true ∧ ∀ w, C w → clsUpon P C V ((execOp a.eval o).run P w)) ∧ ∀ v, V v → wpS P ops C K rest Vs (a.put o.dst v))
  | o :: rest, none :: Vs, a => Region.wanted o (yielded ops a.tmps) = false ∧ wpS P ops C K rest Vs (a.put o.dst undef)

theorem AnyC_lexS {K : Act → Prop} {n : Nat} {R : Array Bool → (Act → Prop) → Prop} {end_ : Array Bool} (hR : ∀ A, (∀ a, A a → K a) → R end_ A) (hs : Region.noSelect ops = true) (hT : TailWaits md ops n) (hC : ∃ w, C w) :
    ∀ (l : List Oper) (Vs : List (Option (Value → Prop))) (k : Nat) (listed : Array Bool) (A : Act → Prop), (∀ j, j < l.length → l[j]? = ops[k + j]?) → k + l.length = n → listedTo l.length k listed = end_ →
    lexPre md ops l.length k listed = true → closedL md ops listed → (∃ a, A a) → (∀ a, A a → wpS P ops C K l Vs a) → AnyC P md ops C n R l.length listed A
  | [], _, k, listed, A, _, hn, he, hB, _, _, h => by
    refine ⟨fun j hj => ?_, ?_⟩
    · simp only [List.length_nil, lexPre, List.all_eq_true, List.mem_range] at hB
      exact hB j (by simp at hn; omega)
    · simp only [List.length_nil, listedTo] at he
      rw [he]
      exact hR A h
  | o :: l, Vs, k, listed, A, hl, hn, he, hB, hcl, hA, h => by
    have h0 : ops[k]? = some o := by simpa using (hl 0 (by simp)).symm
    simp only [List.length_cons, lexPre, Bool.and_eq_true] at hB
    simp only [List.length_cons, listedTo] at he
    obtain ⟨⟨hr, hf⟩, hB'⟩ := hB
    have hr' : k ∈ Region.ready md ops listed := by simpa using hr
    obtain ⟨a0, ha0⟩ := hA
    have hl' : ∀ j, j < l.length → l[j]? = ops[k + 1 + j]? := fun j hj => by
      have := hl (j + 1) (by simp; omega)
      simpa [Nat.add_assoc, Nat.add_comm 1 j] using this
    cases Vs with
    | nil => exact absurd (h a0 ha0) (by simp [wpS])
    | cons V Vs =>
      cases V with
      | some V =>
        have hy : clsAt P ops C o A V := .inl fun a ha => (h a ha).1
        obtain ⟨v, hv⟩ := hy.some ⟨a0, ha0⟩ hC
        refine AnyC_first h0 (by simp at hn; omega) (Region.noSelect_spec hs) hT hC l.length listed A ⟨a0, ha0⟩ hcl (Region.free_spec h0 hf) hr' hy ?_
        refine AnyC_lexS hR hs hT hC l Vs (k + 1) _ _ hl' (by simp at hn; omega) he hB' (hcl.set hr') ⟨_, a0, v, ha0, hv, rfl⟩ ?_
        rintro a ⟨a1, u, ha1, hu, rfl⟩
        exact (h a1 ha1).2 u hu
      | none =>
        have hy : clsAt P ops C o A (Eq1 undef) := .inr ⟨fun a ha => (h a ha).1, rfl⟩
        refine AnyC_first h0 (by simp at hn; omega) (Region.noSelect_spec hs) hT hC l.length listed A ⟨a0, ha0⟩ hcl (Region.free_spec h0 hf) hr' hy ?_
        refine AnyC_lexS hR hs hT hC l Vs (k + 1) _ _ hl' (by simp at hn; omega) he hB' (hcl.set hr') ⟨_, a0, undef, ha0, rfl, rfl⟩ ?_
        rintro a ⟨a1, u, ha1, hu, rfl⟩
        rw [show u = undef from hu]
        exact (h a1 ha1).2

/-- **A REGION THAT DRAWS ITS ORDER, ALL BY CLASSES, SOME LEFT OUT BY THEIR GUARDS.** -/
theorem wp_region_skip {id : Nat} {Q : Exit → Act → World → Prop} {a : Act} {w : World} {l : List Oper} (hm : P.follows .mixedOrders = true) (hs : Region.noSelect l.toArray = true)
    (hB : lexPre .any l.toArray l.length 0 (Array.replicate l.length false) = true) (he : Region.ready .any l.toArray (listedTo l.length 0 (Array.replicate l.length false)) = [])
    (C : World → Prop) (hC : C w.drew) (Vs : List (Option (Value → Prop))) (h : wpS P l.toArray C (fun a' => ∀ w', C w' → Q .normal a' w') l Vs a) : (Code.region id l.toArray true).wp P Q a w := by
  refine wp_region_any hm ?_
  let R : Array Bool → (Act → Prop) → Prop := fun listed A => listed = listedTo l.length 0 (Array.replicate l.length false) ∧ ∀ a, A a → ∀ w', C w' → Q .normal a w'
  have h1 : AnyC P .any l.toArray C l.length R l.length (Array.replicate l.length false) (· = a) :=
    AnyC_lexS (P := P) (C := C) (md := .any) (ops := l.toArray) (K := fun a' => ∀ w', C w' → Q .normal a' w') (n := l.length) (R := R)
      (fun A hA => ⟨rfl, hA⟩) hs (by have := tailWaits_all (md := .any) (ops := l.toArray); simpa using this) ⟨_, hC⟩ l Vs 0 (Array.replicate l.length false) (· = a) (fun j hj => by simp) (by simp) rfl hB (closedL_start _) ⟨a, rfl⟩ (fun a' ha' => ha' ▸ h)
  have h2 := wpAny_of_AnyC (P := P) (Q := Q) (md := .any) (ops := l.toArray) (C := C) (n := l.length) (R := R) (t := 0) (fun listed A (hR : R listed A) a' w' ha' hw' => ⟨by rw [hR.1]; exact he, hR.2 a' ha' w' hw'⟩) l.length _ (· = a) a { w with drawn := w.drawn + 1 } rfl hC h1
  simpa using h2
/-- ... a tail behind them. -/
theorem wp_region_skip_tail {id : Nat} {Q : Exit → Act → World → Prop} {a : Act} {w : World} {l : List Oper} (n : Nat) (hm : P.follows .mixedOrders = true) (hs : Region.noSelect l.toArray = true) (hn : (l.take n).length = n)
    (hT : tailB .any l.toArray n = true) (hB : lexPre .any l.toArray n 0 (Array.replicate l.length false) = true)
    (C : World → Prop) (hC : C w.drew) (Vs : List (Option (Value → Prop))) (h : wpS P l.toArray C (fun a' => ∀ w', C w' → wpAny P .any l.toArray Q (l.length - n) (listedTo n 0 (Array.replicate l.length false)) a' w') (l.take n) Vs a) : (Code.region id l.toArray true).wp P Q a w := by
  refine wp_region_any hm ?_
  have hnl : n ≤ l.length := by have := List.length_take_le n l; rw [List.length_take] at hn; omega
  let E := listedTo n 0 (Array.replicate l.length false)
  let R : Array Bool → (Act → Prop) → Prop := fun listed A => listed = E ∧ ∀ a, A a → ∀ w', C w' → wpAny P .any l.toArray Q (l.length - n) E a w'
  have h1 : AnyC P .any l.toArray C n R (l.take n).length (Array.replicate l.length false) (· = a) :=
    AnyC_lexS (P := P) (C := C) (md := .any) (ops := l.toArray) (K := fun a' => ∀ w', C w' → wpAny P .any l.toArray Q (l.length - n) E a' w') (n := n) (R := R) (end_ := E)
      (fun A hA => ⟨rfl, hA⟩) hs (tailWaits_of hT) ⟨_, hC⟩ (l.take n) Vs 0 (Array.replicate l.length false) (· = a) (fun j hj => by rw [hn] at hj; simp [List.getElem?_take, hj]) (by rw [hn]; simp) (by rw [hn]) (by rw [hn]; exact hB) (closedL_start _) ⟨a, rfl⟩ (fun a' ha' => ha' ▸ h)
  have h2 := wpAny_of_AnyC (P := P) (Q := Q) (md := .any) (ops := l.toArray) (C := C) (n := n) (R := R) (t := l.length - n) (fun listed A (hR : R listed A) a' w' ha' hw' => by rw [hR.1]; exact hR.2 a' ha' w' hw') (l.take n).length _ (· = a) a { w with drawn := w.drawn + 1 } rfl hC h1
  rw [hn, Nat.sub_add_cancel hnl] at h2
  simpa using h2
theorem wpS_nil {K : Act → Prop} {Vs : List (Option (Value → Prop))} {a : Act} (h : K a) : wpS P ops C K [] Vs a := h
theorem wpS_skip {K : Act → Prop} {o : Oper} {rest : List Oper} {Vs : List (Option (Value → Prop))} {a : Act} (hw : Region.wanted o (yielded ops a.tmps) = false) (hr : wpS P ops C K rest Vs (a.put o.dst undef)) : wpS P ops C K (o :: rest) (none :: Vs) a := ⟨hw, hr⟩
theorem wpS_pure {K : Act → Prop} {o : Oper} {rest : List Oper} {Vs : List (Option (Value → Prop))} {a : Act} {u : Value} (hw : Region.wanted o (yielded ops a.tmps) = true)
    (h : ∀ w, C w → (execOp a.eval o).run P w = .ok (.value u) w) (hr : wpS P ops C K rest Vs (a.put o.dst u)) : wpS P ops C K (o :: rest) (some (Eq1 u) :: Vs) a :=
  ⟨⟨hw, fun w hc => by rw [h w hc]; exact ⟨hc, rfl⟩⟩, fun v hv => hv ▸ hr⟩
theorem wpS_cls {K : Act → Prop} {o : Oper} {rest : List Oper} {V : Value → Prop} {Vs : List (Option (Value → Prop))} {a : Act} (hw : Region.wanted o (yielded ops a.tmps) = true)
    (h : ∀ w, C w → clsUpon P C V ((execOp a.eval o).run P w)) (hr : ∀ v, V v → wpS P ops C K rest Vs (a.put o.dst v)) : wpS P ops C K (o :: rest) (some V :: Vs) a :=
  ⟨⟨hw, h⟩, hr⟩
end
/-- The one operation that is ready, in the world at hand; others follow (as wpAny_one in XRd). -/
theorem wpAny_next {P : Program} {md : Region.Mode} {ops : Array Oper} {Q : Exit → Act → World → Prop} {listed : Array Bool} {a : Act} {w : World} {f : Nat} (i : Nat) (o : Oper) (hr : Region.ready md ops listed = [i]) (ho : ops[i]? = some o) (hg : o.guard = none)
    (h : ∀ K : Act → World → Prop, (∀ a w, wpAny P md ops Q f (listed.setIfInBounds i true) a w → K a w) → Oper.wp P o a w K Q) : wpAny P md ops Q (f + 1) listed a w := by
  refine ⟨fun h0 => (by rw [hr] at h0; cases h0), fun j hj => ?_⟩
  rw [hr] at hj
  obtain rfl := List.mem_singleton.1 hj
  unfold wpOp
  simp only [ho]
  rw [if_pos (by simp [Region.wanted, hg])]
  exact .inl (h _ fun a w hq => hq)
/-- A store of what stands there changes nothing. -/
theorem setCell_self {w : World} {a : Addr} {v : Value} (h : w.cell? a = some v) : w.setCell a v = w := by
  have hh : (w.setCell a v).heap = w.heap := by
    apply Array.ext_getElem?
    intro j
    unfold World.setCell
    simp only [Array.getElem?_modify]
    split
    · rename_i e
      subst e
      unfold World.cell? at h
      split at h
      · rename_i c t fr hb
        rw [hb]
        simp only [Option.map_some]
        split at h
        · cases h
        · rename_i hs
          congr 2
          rw [if_neg hs]
          apply Array.ext_getElem?
          intro i
          rw [Array.getElem?_setIfInBounds]
          split
          · rename_i e2
            subst e2
            have hlt := (Array.getElem?_eq_some_iff.1 h).1
            rw [if_pos hlt, h]
          · rfl
      · cases h
    · rfl
  have e2 : w.setCell a v = { w with heap := (w.setCell a v).heap } := rfl
  rw [e2, hh]
end Go.FX
