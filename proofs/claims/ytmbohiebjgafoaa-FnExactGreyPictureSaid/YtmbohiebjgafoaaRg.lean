import Derived.Test.YtmbohiebjgafoaaRc
set_option linter.unusedVariables false
set_option linter.unusedSimpArgs false
namespace Go.FX
open Go

/-! A region that draws its order, from a state on in which some operations have come up already (those that look at no world are taken first): n operations by classes, a tail behind them. -/
section
variable {P : Program} {ops : Array Oper} {md : Region.Mode} {C : World → Prop}
def TailWaitsG (md : Region.Mode) (ops : Array Oper) (n : Nat) (L0 : Array Bool) : Prop := ∀ listed, closedL md ops listed → (∀ j, L0.getD j false = true → listed.getD j false = true) → ∀ j ∈ Region.ready md ops listed, n ≤ j → allN n listed
theorem AnyC_firstG {n : Nat} {L0 : Array Bool} {R : Array Bool → (Act → Prop) → Prop} {i : Nat} {oi : Oper} {V : Value → Prop} (hi : ops[i]? = some oi) (hin : i < n) (hsel : ∀ (j : Nat) (o : Oper) cs b, ops[j]? = some o → o.op ≠ .select cs b)
    (hT : TailWaitsG md ops n L0) (hC : ∃ w, C w) :
    ∀ (k : Nat) (listed : Array Bool) (A : Act → Prop), (∃ a, A a) → closedL md ops listed → (∀ j, L0.getD j false = true → listed.getD j false = true) →
      (∀ j oj, ops[j]? = some oj → j ≠ i → listed.getD j true = false → (∀ e ∈ oj.after, Region.binds md e = true → e.on ≠ i) → oi.apart ops oj = true) →
      i ∈ Region.ready md ops listed → clsAt P ops C oi A V →
      AnyC P md ops C n R k (listed.setIfInBounds i true) (ActsPut A oi.dst V) → AnyC P md ops C n R (k + 1) listed A := by
  intro k
  induction k with
  | zero =>
    intro listed A hA hcl hsup _ hr hy H
    refine ⟨fun h => (by rw [h] at hr; cases hr), fun j hj => ?_⟩
    by_cases hji : j = i
    · subst hji; exact ⟨oi, V, hi, hy, H⟩
    · exfalso
      have hun := (mem_ready.1 hj).1
      have huni := (mem_ready.1 hr).1
      by_cases hjn : j < n
      · have h1 := H.1 j hjn
        rw [getD_set_ne false (Ne.symm hji)] at h1
        rcases Nat.lt_or_ge j listed.size with h' | h'
        · simp [h'] at hun h1; rw [hun] at h1; cases h1
        · simp [Array.getElem?_eq_none h'] at h1
      · have h1 := hT listed hcl hsup j hj (by omega) i hin
        rcases Nat.lt_or_ge i listed.size with h' | h'
        · simp [h'] at huni h1; rw [huni] at h1; cases h1
        · simp [Array.getElem?_eq_none h'] at h1
  | succ k ih =>
    intro listed A hA hcl hsup hfree hr hy H
    refine ⟨fun h => (by rw [h] at hr; cases hr), fun j hj => ?_⟩
    by_cases hji : j = i
    · subst hji; exact ⟨oi, V, hi, hy, H⟩
    · have h1 := H.2 j (ready_mono hj hji)
      obtain ⟨hjun, oj, hoj, hall⟩ := mem_ready.1 hj
      have hnot : ∀ e ∈ oj.after, Region.binds md e = true → e.on ≠ i := fun e he hb heq => by
        have h1 := hall e he hb
        have h0 := (mem_ready.1 hr).1
        rw [heq] at h1
        rcases Nat.lt_or_ge i listed.size with h' | h'
        · simp [h'] at h0 h1; rw [h0] at h1; cases h1
        · simp [Array.getElem?_eq_none h'] at h1
      have h2 := qC_put (i := i) hoj (hfree j oj hoj hji hjun hnot) (fun cs b => hsel i oi cs b hi) (fun cs b => hsel j oj cs b hoj) (hy.some hA hC) hy h1
      have hfree' : ∀ k ok, ops[k]? = some ok → k ≠ i → (listed.setIfInBounds j true).getD k true = false →
          (∀ e ∈ ok.after, Region.binds md e = true → e.on ≠ i) → oi.apart ops ok = true := fun k ok hk hki hun hno => by
        refine hfree k ok hk hki ?_ hno
        by_cases hjk : j = k
        · subst hjk; exact hjun
        · rw [getD_set_ne true hjk] at hun; exact hun
      obtain ⟨o, Vj, g1, g2, g3⟩ := h2
      obtain ⟨vj, hvj⟩ := g2.some hA hC
      obtain ⟨a0, ha0⟩ := hA
      refine ⟨o, Vj, g1, g2, ih (listed.setIfInBounds j true) _ ⟨_, a0, vj, ha0, hvj, rfl⟩ (hcl.set hj) (fun k hk => getD_set_true (hsup k hk)) hfree' (ready_mono hr (Ne.symm hji)) g3.1 ?_⟩
      rw [Array.setIfInBounds_comm _ _ hji]
      exact g3.2

theorem AnyC_lexG {K : Act → Prop} {n : Nat} {R : Array Bool → (Act → Prop) → Prop} {end_ L0 : Array Bool} (hR : ∀ A, (∀ a, A a → K a) → R end_ A) (hs : Region.noSelect ops = true) (hT : TailWaitsG md ops n L0) (hC : ∃ w, C w) :
    ∀ (l : List Oper) (Vs : List (Value → Prop)) (k : Nat) (listed : Array Bool) (A : Act → Prop), (∀ j, j < l.length → l[j]? = ops[k + j]?) → k + l.length = n → listedTo l.length k listed = end_ →
    lexPre md ops l.length k listed = true → closedL md ops listed → (∀ j, L0.getD j false = true → listed.getD j false = true) → (∃ a, A a) → (∀ a, A a → wpR P ops C K l Vs a) → AnyC P md ops C n R l.length listed A
  | [], _, k, listed, A, _, hn, he, hB, _, _, _, h => by
    refine ⟨fun j hj => ?_, ?_⟩
    · simp only [List.length_nil, lexPre, List.all_eq_true, List.mem_range] at hB
      exact hB j (by simp at hn; omega)
    · simp only [List.length_nil, listedTo] at he
      rw [he]
      exact hR A h
  | o :: l, Vs, k, listed, A, hl, hn, he, hB, hcl, hsup, hA, h => by
    have h0 : ops[k]? = some o := by simpa using (hl 0 (by simp)).symm
    simp only [List.length_cons, lexPre, Bool.and_eq_true] at hB
    simp only [List.length_cons, listedTo] at he
    obtain ⟨⟨hr, hf⟩, hB'⟩ := hB
    have hr' : k ∈ Region.ready md ops listed := by simpa using hr
    obtain ⟨a0, ha0⟩ := hA
    cases Vs with
    | nil => exact absurd (h a0 ha0) (by simp [wpR])
    | cons V Vs =>
      have hy : clsAt P ops C o A V := .inl fun a ha => (h a ha).1
      obtain ⟨v, hv⟩ := hy.some ⟨a0, ha0⟩ hC
      refine AnyC_firstG h0 (by simp at hn; omega) (Region.noSelect_spec hs) hT hC l.length listed A ⟨a0, ha0⟩ hcl hsup (Region.free_spec h0 hf) hr' hy ?_
      refine AnyC_lexG hR hs hT hC l Vs (k + 1) _ _ (fun j hj => ?_) (by simp at hn; omega) he hB' (hcl.set hr') (fun k hk => getD_set_true (hsup k hk)) ⟨_, a0, v, ha0, hv, rfl⟩ ?_
      · have := hl (j + 1) (by simp; omega)
        simpa [Nat.add_assoc, Nat.add_comm 1 j] using this
      · rintro a ⟨a1, u, ha1, hu, rfl⟩
        exact (h a1 ha1).2 u hu

def waitsOn (md : Region.Mode) (o : Oper) (k : Nat) : Bool := o.after.toList.any fun e => Region.binds md e && decide (e.on = k)
def tailBG (md : Region.Mode) (ops : Array Oper) (n : Nat) (L0 : Array Bool) : Bool :=
  decide (n < ops.size) && !(L0.getD n false) &&
  ((List.range n).all fun k => (List.range (n + 1)).any fun m => decide (k < m) && (((ops[m]?).map fun o => waitsOn md o k).getD false)) &&
  ((List.range ops.size).all fun j => decide (j ≤ n) || L0.getD j false || (((ops[j]?).map fun o => ((List.range n).all fun k => waitsOn md o k) || (o.after.toList.any fun e => Region.binds md e && ((decide (n ≤ e.on) && decide (e.on < j)) && !(L0.getD e.on false)))).getD false))
theorem waitsOn_spec {o : Oper} {k : Nat} (h : waitsOn md o k = true) : ∃ e ∈ o.after, Region.binds md e = true ∧ e.on = k := by
  simp only [waitsOn, List.any_eq_true, Bool.and_eq_true, decide_eq_true_eq] at h
  obtain ⟨e, he, hb, hk⟩ := h
  exact ⟨e, by simpa using he, hb, hk⟩
theorem tailWaitsG_of {n : Nat} {L0 : Array Bool} (h : tailBG md ops n L0 = true) : TailWaitsG md ops n L0 := by
  intro listed hcl hsup j hj hjn
  unfold tailBG at h
  simp only [Bool.and_eq_true, decide_eq_true_eq, List.all_eq_true, List.mem_range, List.any_eq_true, Bool.or_eq_true] at h
  obtain ⟨⟨⟨hn, hn0⟩, h1⟩, h2⟩ := h
  have at_ : ∀ m, m < ops.size → ∃ o, ops[m]? = some o := fun m hm => ⟨ops[m], Array.getElem?_eq_getElem hm⟩
  have claim0 : ∀ on, ops[n]? = some on → (∀ e ∈ on.after, Region.binds md e = true → listed.getD e.on false = true) → allN n listed := by
    intro on hon hnall
    have claim2 : ∀ d k, k + d = n → 0 < d → listed.getD k false = true := by
      intro d
      induction d using Nat.strongRecOn with
      | ind d ih =>
        intro k hk hd
        obtain ⟨m, hm, hkm, h3⟩ := h1 k (by omega)
        obtain ⟨om, hom⟩ := at_ m (by omega)
        rw [hom] at h3
        simp only [Option.map_some, Option.getD_some] at h3
        obtain ⟨e, he, hb, rfl⟩ := waitsOn_spec h3
        rcases Nat.lt_or_ge m n with hmn | hmn
        · exact hcl m om hom (ih (n - m) (by omega) m (by omega) (by omega)) e he hb
        · obtain rfl : m = n := by omega
          rw [hon] at hom
          obtain rfl := Option.some.inj hom
          exact hnall e he hb
    exact fun k hk => claim2 (n - k) k (by omega) (by omega)
  have claim1 : ∀ d j o, j = n + d → L0.getD j false = false → ops[j]? = some o → (∀ e ∈ o.after, Region.binds md e = true → listed.getD e.on false = true) → allN n listed := by
    intro d
    induction d using Nat.strongRecOn with
    | ind d ih =>
      intro j o hjd hL ho hall
      rcases Nat.eq_zero_or_pos d with rfl | hd
      · rw [hjd, Nat.add_zero] at ho
        exact claim0 o ho hall
      · have hjs := (Array.getElem?_eq_some_iff.1 ho).1
        have h3 := h2 j hjs
        rcases h3 with (h3 | h3) | h3
        · omega
        · rw [hL] at h3; cases h3
        · rw [ho] at h3
          simp only [Option.map_some, Option.getD_some, Bool.or_eq_true, List.all_eq_true, List.mem_range, List.any_eq_true, Bool.and_eq_true, decide_eq_true_eq] at h3
          rcases h3 with h3 | ⟨e, he, hb, ⟨h4, h5⟩, h6⟩
          · intro k hk
            obtain ⟨e, he, hb, rfl⟩ := waitsOn_spec (h3 k hk)
            exact hall e he hb
          · have hl := hall e (by simpa using he) hb
            obtain ⟨o2, ho2⟩ := at_ e.on (by omega)
            exact ih (e.on - n) (by omega) e.on o2 (by omega) (by simpa using h6) ho2 (fun e' he' hb' => hcl e.on o2 ho2 hl e' he' hb')
  obtain ⟨hun, o, ho, hall⟩ := mem_ready.1 hj
  have hLj : L0.getD j false = false := by
    cases h0 : L0.getD j false with
    | false => rfl
    | true =>
      have h1 := hsup j h0
      rcases Nat.lt_or_ge j listed.size with h' | h'
      · simp [h'] at hun h1; rw [hun] at h1; cases h1
      · simp [Array.getElem?_eq_none h'] at h1
  exact claim1 (j - n) j o (by omega) hLj ho hall
def closedB (md : Region.Mode) (ops : Array Oper) (L0 : Array Bool) : Bool :=
  (List.range ops.size).all fun j => !(L0.getD j false) || (((ops[j]?).map fun o => o.after.toList.all fun e => !(Region.binds md e) || L0.getD e.on false).getD true)
theorem closedL_of {L0 : Array Bool} (h : closedB md ops L0 = true) : closedL md ops L0 := by
  intro j o hj hl e he hb
  unfold closedB at h
  simp only [List.all_eq_true, List.mem_range, Bool.or_eq_true] at h
  have hjs := (Array.getElem?_eq_some_iff.1 hj).1
  rcases h j hjs with h | h
  · rw [hl] at h; cases h
  · rw [hj] at h
    simp only [Option.map_some, Option.getD_some, List.all_eq_true, Bool.or_eq_true] at h
    rcases h e (by simpa using he) with h | h
    · rw [hb] at h; cases h
    · exact h
/-- From a state on: n operations by classes, a tail behind them. -/
theorem wpAny_cls_tail {Q : Exit → Act → World → Prop} {a : Act} {w : World} {l : List Oper} {L0 : Array Bool} (n t : Nat) (hs : Region.noSelect l.toArray = true) (hn : (l.take n).length = n)
    (hT : tailBG .any l.toArray n L0 = true) (hcl : closedB .any l.toArray L0 = true) (hB : lexPre .any l.toArray n 0 L0 = true)
    (C : World → Prop) (hC : C w) (Vs : List (Value → Prop)) (h : wpR P l.toArray C (fun a' => ∀ w', C w' → wpAny P .any l.toArray Q t (listedTo n 0 L0) a' w') (l.take n) Vs a) : wpAny P .any l.toArray Q (t + n) L0 a w := by
  let E := listedTo n 0 L0
  let R : Array Bool → (Act → Prop) → Prop := fun listed A => listed = E ∧ ∀ a, A a → ∀ w', C w' → wpAny P .any l.toArray Q t E a w'
  have h1 : AnyC P .any l.toArray C n R (l.take n).length L0 (· = a) :=
    AnyC_lexG (P := P) (C := C) (md := .any) (ops := l.toArray) (K := fun a' => ∀ w', C w' → wpAny P .any l.toArray Q t E a' w') (n := n) (R := R) (end_ := E)
      (fun A hA => ⟨rfl, hA⟩) hs (tailWaitsG_of hT) ⟨_, hC⟩ (l.take n) Vs 0 L0 (· = a) (fun j hj => by rw [hn] at hj; simp [List.getElem?_take, hj]) (by rw [hn]; simp) (by rw [hn]) (by rw [hn]; exact hB) (closedL_of hcl) (fun _ h => h) ⟨a, rfl⟩ (fun a' ha' => ha' ▸ h)
  have h2 := wpAny_of_AnyC (P := P) (Q := Q) (md := .any) (ops := l.toArray) (C := C) (n := n) (R := R) (t := t) (fun listed A (hR : R listed A) a' w' ha' hw' => by rw [hR.1]; exact hR.2 a' ha' w' hw') (l.take n).length L0 (· = a) a w rfl hC h1
  rwa [hn] at h2
/-- The one operation that is ready, in the world at hand; others follow. -/
theorem wpAny_oneG {Q : Exit → Act → World → Prop} {listed : Array Bool} {a : Act} {w : World} {f : Nat} (i : Nat) (o : Oper) (hr : Region.ready md ops listed = [i]) (ho : ops[i]? = some o) (hg : o.guard = none)
    (h : ∀ K : Act → World → Prop, (∀ a w, wpAny P md ops Q f (listed.setIfInBounds i true) a w → K a w) → Oper.wp P o a w K Q) : wpAny P md ops Q (f + 1) listed a w := by
  refine ⟨fun h0 => (by rw [hr] at h0; cases h0), fun j hj => ?_⟩
  rw [hr] at hj
  obtain rfl := List.mem_singleton.1 hj
  unfold wpOp
  simp only [ho]
  rw [if_pos (by simp [Region.wanted, hg])]
  exact .inl (h _ fun a w hq => hq)
end
end Go.FX
