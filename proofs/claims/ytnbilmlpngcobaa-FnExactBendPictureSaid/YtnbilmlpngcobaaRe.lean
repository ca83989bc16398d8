import Derived.Test.YtnbilmlpngcobaaRc
set_option linter.unusedVariables false
set_option linter.unusedSimpArgs false
namespace Go.FX
open Go

/-! A region that draws its order, by classes, where one operation that waits for nothing makes a block: whenever it comes up, the others do what they do in both worlds. -/
section
variable {P : Program} {ops : Array Oper} {md : Region.Mode} {C : Bool → World → Prop} {pv : Value}

def mkAt2 (P : Program) (ops : Array Oper) (C : Bool → World → Prop) (pv : Value) (o : Oper) (A : Act → Prop) : Prop :=
  ∀ a, A a → Region.wanted o (yielded ops a.tmps) = true ∧ ∀ w, C false w → ∃ w', (execOp a.eval o).run P w = .ok (.value pv) w' ∧ C true w'

def qD (P : Program) (ops : Array Oper) (C : Bool → World → Prop) (pv : Value) (i : Nat) (K : Bool → (Act → Prop) → Prop) (b : Bool) (A : Act → Prop) : Prop :=
  ∃ o, ops[i]? = some o ∧ ((∃ V, clsAt P ops (C b) o A V ∧ K b (ActsPut A o.dst V)) ∨ (b = false ∧ mkAt2 P ops C pv o A ∧ K true (ActsPut A o.dst (Eq1 pv))))

def AnyD (P : Program) (md : Region.Mode) (ops : Array Oper) (C : Bool → World → Prop) (pv : Value) (n : Nat) (R : Array Bool → Bool → (Act → Prop) → Prop) : Nat → Array Bool → Bool → (Act → Prop) → Prop
  | 0, listed, b, A => allN n listed ∧ R listed b A
  | k + 1, listed, b, A => Region.ready md ops listed ≠ [] ∧ ∀ i ∈ Region.ready md ops listed, qD P ops C pv i (AnyD P md ops C pv n R k (listed.setIfInBounds i true)) b A

theorem wpOp_of_mk {Q : Exit → Act → World → Prop} {i : Nat} {o : Oper} {A : Act → Prop} {a : Act} {w : World} (hi : ops[i]? = some o) (h : mkAt2 P ops C pv o A) (ha : A a) (hw : C false w) :
    wpOp P ops Q i (fun a' w' => ActsPut A o.dst (Eq1 pv) a' ∧ C true w') a w := by
  unfold wpOp
  simp only [hi]
  obtain ⟨h1, h2⟩ := h a ha
  simp only [h1, if_true]
  refine .inl ?_
  obtain ⟨w', hr, hc⟩ := h2 w hw
  unfold Oper.wp
  rw [hr]
  exact ⟨⟨a, pv, ha, rfl, rfl⟩, hc⟩

theorem wpAny_of_AnyD {Q : Exit → Act → World → Prop} {n t : Nat} {R : Array Bool → Bool → (Act → Prop) → Prop} (hR : ∀ listed b A, R listed b A → ∀ a w, A a → C b w → wpAny P md ops Q t listed a w) :
    ∀ (k : Nat) (listed : Array Bool) (b : Bool) (A : Act → Prop) (a : Act) (w : World), A a → C b w → AnyD P md ops C pv n R k listed b A → wpAny P md ops Q (t + k) listed a w
  | 0, listed, b, A, a, w, ha, hw, h => hR listed b A h.2 a w ha hw
  | k + 1, listed, b, A, a, w, ha, hw, h => by
    refine ⟨fun h0 => absurd h0 h.1, fun i hi => ?_⟩
    obtain ⟨o, h1, ⟨V, h2, h3⟩ | ⟨rfl, h2, h3⟩⟩ := h.2 i hi
    · exact wpOp_mono (fun a' w' ⟨ha', hw'⟩ => wpAny_of_AnyD hR k _ b _ a' w' ha' hw' h3) (wpOp_of_cls h1 h2 ha hw)
    · exact wpOp_mono (fun a' w' ⟨ha', hw'⟩ => wpAny_of_AnyD hR k _ true _ a' w' ha' hw' h3) (wpOp_of_mk h1 h2 ha hw)

theorem acts_swap {A : Act → Prop} {oi oj : Oper} {Vi Vj : Value → Prop} (h2 : ∀ (a : Act) (x u : Value), (a.put oi.dst x).put oj.dst u = (a.put oj.dst u).put oi.dst x) :
    ActsPut (ActsPut A oi.dst Vi) oj.dst Vj = ActsPut (ActsPut A oj.dst Vj) oi.dst Vi := by
  funext a
  apply propext
  constructor
  · rintro ⟨_, u, ⟨a0, x, ha0, hx, rfl⟩, hu, rfl⟩
    exact ⟨_, x, ⟨a0, u, ha0, hu, rfl⟩, hx, h2 a0 x u⟩
  · rintro ⟨_, u, ⟨a0, x, ha0, hx, rfl⟩, hu, rfl⟩
    exact ⟨_, x, ⟨a0, u, ha0, hu, rfl⟩, hx, (h2 a0 u x).symm⟩

theorem clsAt_put {D : World → Prop} {oi oj : Oper} {Vi Vj : Value → Prop} {A : Act → Prop} (hsi : ∀ cs b, oi.op ≠ .select cs b) (hap : oi.apart ops oj = true) (hy : clsAt P ops D oi A Vi) : clsAt P ops D oi (ActsPut A oj.dst Vj) Vi := by
  obtain ⟨h1, h2, h3⟩ := Oper.apart_spec hap
  rcases hy with hy | ⟨hy, hu⟩
  · refine .inl fun a ha => ?_
    obtain ⟨a0, u, ha0, hu, rfl⟩ := ha
    have := hy a0 ha0
    rwa [← wanted_put oi a0 oj.dst u h3, ← execOp_put oi hsi a0 oj.dst u h3] at this
  · refine .inr ⟨fun a ha => ?_, hu⟩
    obtain ⟨a0, u, ha0, hu, rfl⟩ := ha
    have := hy a0 ha0
    rwa [← wanted_put oi a0 oj.dst u h3] at this

theorem qD_put {i j : Nat} {oi oj : Oper} {Vi : Value → Prop} {b : Bool} {A : Act → Prop} (hj : ops[j]? = some oj) (hap : oi.apart ops oj = true)
    (hsi : ∀ cs b, oi.op ≠ .select cs b) (hsj : ∀ cs b, oj.op ≠ .select cs b) {K : Bool → (Act → Prop) → Prop} (hi : ∃ v, Vi v)
    (hy : ∀ b, clsAt P ops (C b) oi A Vi) (h : qD P ops C pv j K b (ActsPut A oi.dst Vi)) :
    qD P ops C pv j (fun b' A' => (∀ b, clsAt P ops (C b) oi A' Vi) ∧ K b' (ActsPut A' oi.dst Vi)) b A := by
  have hap' := hap
  obtain ⟨h1, h2, h3⟩ := Oper.apart_spec hap
  obtain ⟨o, g1, g2⟩ := h
  rw [hj] at g1
  obtain rfl := Option.some.inj g1
  obtain ⟨v, hv⟩ := hi
  refine ⟨oj, hj, ?_⟩
  rcases g2 with ⟨Vj, g2, g3⟩ | ⟨rfl, g2, g3⟩
  · refine .inl ⟨Vj, ?_, fun b => clsAt_put hsi hap' (hy b), ?_⟩
    · rcases g2 with g2 | ⟨g2, gu⟩
      · refine .inl fun a ha => ?_
        have := g2 _ ⟨a, v, ha, hv, rfl⟩
        rwa [wanted_put oj a oi.dst v h1, execOp_put oj hsj a oi.dst v h1] at this
      · refine .inr ⟨fun a ha => ?_, gu⟩
        have := g2 _ ⟨a, v, ha, hv, rfl⟩
        rwa [wanted_put oj a oi.dst v h1] at this
    · rw [acts_swap (fun a x u => Act.put_comm a x u h2)] at g3
      exact g3
  · refine .inr ⟨rfl, ?_, fun b => clsAt_put hsi hap' (hy b), ?_⟩
    · intro a ha
      have := g2 _ ⟨a, v, ha, hv, rfl⟩
      rwa [wanted_put oj a oi.dst v h1, execOp_put oj hsj a oi.dst v h1] at this
    · rw [acts_swap (fun a x u => Act.put_comm a x u h2)] at g3
      exact g3

theorem AnyD_first {n : Nat} {R : Array Bool → Bool → (Act → Prop) → Prop} {i : Nat} {oi : Oper} {V : Value → Prop} (hi : ops[i]? = some oi) (hin : i < n) (hsel : ∀ (j : Nat) (o : Oper) cs b, ops[j]? = some o → o.op ≠ .select cs b)
    (hT : TailWaits md ops n) (hC : ∀ b, ∃ w, C b w) :
    ∀ (k : Nat) (listed : Array Bool) (b : Bool) (A : Act → Prop), (∃ a, A a) → closedL md ops listed →
      (∀ j oj, ops[j]? = some oj → j ≠ i → listed.getD j true = false → (∀ e ∈ oj.after, Region.binds md e = true → e.on ≠ i) → oi.apart ops oj = true) →
      i ∈ Region.ready md ops listed → (∀ b, clsAt P ops (C b) oi A V) →
      AnyD P md ops C pv n R k (listed.setIfInBounds i true) b (ActsPut A oi.dst V) → AnyD P md ops C pv n R (k + 1) listed b A := by
  intro k
  induction k with
  | zero =>
    intro listed b A hA hcl _ hr hy H
    refine ⟨fun h => (by rw [h] at hr; cases hr), fun j hj => ?_⟩
    by_cases hji : j = i
    · subst hji; exact ⟨oi, hi, .inl ⟨V, hy b, H⟩⟩
    · exfalso
      have hun := (mem_ready.1 hj).1
      have huni := (mem_ready.1 hr).1
      by_cases hjn : j < n
      · have h1 := H.1 j hjn
        rw [getD_set_ne false (Ne.symm hji)] at h1
        rcases Nat.lt_or_ge j listed.size with h' | h'
        · simp [h'] at hun h1; rw [hun] at h1; cases h1
        · simp [Array.getElem?_eq_none h'] at h1
      · have h1 := hT listed hcl j hj (by omega) i hin
        rcases Nat.lt_or_ge i listed.size with h' | h'
        · simp [h'] at huni h1; rw [huni] at h1; cases h1
        · simp [Array.getElem?_eq_none h'] at h1
  | succ k ih =>
    intro listed b A hA hcl hfree hr hy H
    refine ⟨fun h => (by rw [h] at hr; cases hr), fun j hj => ?_⟩
    by_cases hji : j = i
    · subst hji; exact ⟨oi, hi, .inl ⟨V, hy b, H⟩⟩
    · have h1 := H.2 j (ready_mono hj hji)
      obtain ⟨hjun, oj, hoj, hall⟩ := mem_ready.1 hj
      have hnot : ∀ e ∈ oj.after, Region.binds md e = true → e.on ≠ i := fun e he hb heq => by
        have h1 := hall e he hb
        have h0 := (mem_ready.1 hr).1
        rw [heq] at h1
        rcases Nat.lt_or_ge i listed.size with h' | h'
        · simp [h'] at h0 h1; rw [h0] at h1; cases h1
        · simp [Array.getElem?_eq_none h'] at h1
      have h2 := qD_put (i := i) hoj (hfree j oj hoj hji hjun hnot) (fun cs b => hsel i oi cs b hi) (fun cs b => hsel j oj cs b hoj) ((hy false).some hA (hC false)) hy h1
      have hfree' : ∀ k ok, ops[k]? = some ok → k ≠ i → (listed.setIfInBounds j true).getD k true = false →
          (∀ e ∈ ok.after, Region.binds md e = true → e.on ≠ i) → oi.apart ops ok = true := fun k ok hk hki hun hno => by
        refine hfree k ok hk hki ?_ hno
        by_cases hjk : j = k
        · subst hjk; exact hjun
        · rw [getD_set_ne true hjk] at hun; exact hun
      obtain ⟨o, g1, g2⟩ := h2
      obtain ⟨a0, ha0⟩ := hA
      rcases g2 with ⟨Vj, g2, g3⟩ | ⟨rfl, g2, g3⟩
      · obtain ⟨vj, hvj⟩ := g2.some ⟨a0, ha0⟩ (hC b)
        refine ⟨o, g1, .inl ⟨Vj, g2, ih (listed.setIfInBounds j true) b _ ⟨_, a0, vj, ha0, hvj, rfl⟩ (hcl.set hj) hfree' (ready_mono hr (Ne.symm hji)) g3.1 ?_⟩⟩
        rw [Array.setIfInBounds_comm _ _ hji]
        exact g3.2
      · refine ⟨o, g1, .inr ⟨rfl, g2, ih (listed.setIfInBounds j true) true _ ⟨_, a0, pv, ha0, rfl, rfl⟩ (hcl.set hj) hfree' (ready_mono hr (Ne.symm hji)) g3.1 ?_⟩⟩
        rw [Array.setIfInBounds_comm _ _ hji]
        exact g3.2

theorem AnyD_lex {K : Act → Prop} {n r : Nat} {R : Array Bool → Bool → (Act → Prop) → Prop} {end_ : Array Bool} (hR : ∀ A, (∃ a, A a) → (∀ a, A a → K a) → AnyD P md ops C pv n R r end_ false A) (hs : Region.noSelect ops = true) (hT : TailWaits md ops n) (hC : ∀ b, ∃ w, C b w) :
    ∀ (l : List Oper) (Vs : List (Value → Prop)) (k : Nat) (listed : Array Bool) (A : Act → Prop), (∀ j, j < l.length → l[j]? = ops[k + j]?) → k + l.length ≤ n → listedTo l.length k listed = end_ →
    lexPre md ops l.length k listed = true → closedL md ops listed → (∃ a, A a) → (∀ b a, A a → wpR P ops (C b) K l Vs a) → AnyD P md ops C pv n R (l.length + r) listed false A
  | [], _, k, listed, A, _, hn, he, hB, _, hA, h => by
    simp only [List.length_nil, listedTo] at he
    rw [he, List.length_nil, Nat.zero_add]
    exact hR A hA (h false)
  | o :: l, Vs, k, listed, A, hl, hn, he, hB, hcl, hA, h => by
    have h0 : ops[k]? = some o := by simpa using (hl 0 (by simp)).symm
    simp only [List.length_cons, lexPre, Bool.and_eq_true] at hB
    simp only [List.length_cons, listedTo] at he
    obtain ⟨⟨hr, hf⟩, hB'⟩ := hB
    have hr' : k ∈ Region.ready md ops listed := by simpa using hr
    obtain ⟨a0, ha0⟩ := hA
    cases Vs with
    | nil => exact absurd (h false a0 ha0) (by simp [wpR])
    | cons V Vs =>
      have hy : ∀ b, clsAt P ops (C b) o A V := fun b => .inl fun a ha => (h b a ha).1
      obtain ⟨v, hv⟩ := (hy false).some ⟨a0, ha0⟩ (hC false)
      have e : (o :: l).length + r = (l.length + r) + 1 := by simp; omega
      rw [e]
      refine AnyD_first h0 (by simp at hn; omega) (Region.noSelect_spec hs) hT hC (l.length + r) listed false A ⟨a0, ha0⟩ hcl (Region.free_spec h0 hf) hr' hy ?_
      refine AnyD_lex hR hs hT hC l Vs (k + 1) _ _ (fun j hj => ?_) (by simp at hn; omega) he hB' (hcl.set hr') ⟨_, a0, v, ha0, hv, rfl⟩ ?_
      · have := hl (j + 1) (by simp; omega)
        simpa [Nat.add_assoc, Nat.add_comm 1 j] using this
      · rintro b a ⟨a1, u, ha1, hu, rfl⟩
        exact (h b a1 ha1).2 u hu

/-- **THE FIRST n OPERATIONS BY CLASSES, THEN ONE THAT MAKES A BLOCK (it waits for nothing), THEN A TAIL THAT WAITS FOR ALL OF THEM.** -/
theorem wp_region_mk {id : Nat} {Q : Exit → Act → World → Prop} {a : Act} {w : World} {l : List Oper} (n : Nat) (om : Oper) (hm : P.follows .mixedOrders = true) (hs : Region.noSelect l.toArray = true) (hn : (l.take n).length = n) (hom : l[n]? = some om)
    (hT : tailB .any l.toArray (n + 1) = true) (hB : lexPre .any l.toArray n 0 (Array.replicate l.length false) = true) (hr : Region.ready .any l.toArray (listedTo n 0 (Array.replicate l.length false)) = [n])
    (hall : ((List.range (n + 1)).all fun j => ((listedTo n 0 (Array.replicate l.length false)).setIfInBounds n true).getD j false) = true)
    (C : Bool → World → Prop) (hC : C false w.drew) (hC1 : ∃ w, C true w) (pv : Value) (hmk : ∀ (a : Act) (w : World), C false w → Region.wanted om (yielded l.toArray a.tmps) = true ∧ ∃ w', (execOp a.eval om).run P w = .ok (.value pv) w' ∧ C true w')
    (Vs : List (Value → Prop)) (h : ∀ b, wpR P l.toArray (C b) (fun a' => ∀ w', C true w' → wpAny P .any l.toArray Q (l.length - (n + 1)) ((listedTo n 0 (Array.replicate l.length false)).setIfInBounds n true) (a'.put om.dst pv) w') (l.take n) Vs a) : (Code.region id l.toArray true).wp P Q a w := by
  refine wp_region_any hm ?_
  have hnl : n + 1 ≤ l.length := (List.getElem?_eq_some_iff.1 hom).1
  let E := (listedTo n 0 (Array.replicate l.length false)).setIfInBounds n true
  let R : Array Bool → Bool → (Act → Prop) → Prop := fun listed b A => listed = E ∧ b = true ∧ ∀ a, A a → ∀ w', C true w' → wpAny P .any l.toArray Q (l.length - (n + 1)) E a w'
  have h1 : AnyD P .any l.toArray C pv (n + 1) R ((l.take n).length + 1) (Array.replicate l.length false) false (· = a) :=
    AnyD_lex (P := P) (C := C) (md := .any) (ops := l.toArray) (K := fun a' => ∀ w', C true w' → wpAny P .any l.toArray Q (l.length - (n + 1)) E (a'.put om.dst pv) w') (n := n + 1) (r := 1) (R := R) (end_ := listedTo n 0 (Array.replicate l.length false))
      (fun A hA hK => by
        refine ⟨by rw [hr]; simp, fun i hi => ?_⟩
        rw [hr] at hi
        obtain rfl := List.mem_singleton.1 hi
        refine ⟨om, by simpa using hom, .inr ⟨rfl, fun a _ => ⟨?_, fun w hw => ((hmk a w hw).2)⟩, ?_, rfl, rfl, ?_⟩⟩
        · exact (hmk a _ hC).1
        · intro k hk
          simp only [List.all_eq_true, List.mem_range] at hall
          exact hall k hk
        · rintro a' ⟨a0, v, ha0, rfl, rfl⟩ w' hw'
          exact hK a0 ha0 w' hw')
      hs (tailWaits_of hT) (fun b => by cases b; exact ⟨_, hC⟩; exact hC1) (l.take n) Vs 0 (Array.replicate l.length false) (· = a) (fun j hj => by rw [hn] at hj; simp [List.getElem?_take, hj]) (by rw [hn]; omega) (by rw [hn]) (by rw [hn]; exact hB) (closedL_start _) ⟨a, rfl⟩ (fun b a' ha' => ha' ▸ h b)
  have h2 := wpAny_of_AnyD (P := P) (Q := Q) (md := .any) (ops := l.toArray) (C := C) (pv := pv) (n := n + 1) (R := R) (t := l.length - (n + 1)) (fun listed b A (hR : R listed b A) a' w' ha' hw' => by obtain ⟨e1, e2, e3⟩ := hR; subst e1; subst e2; exact e3 a' ha' w' hw') ((l.take n).length + 1) _ false (· = a) a { w with drawn := w.drawn + 1 } rfl hC h1
  rw [hn, Nat.sub_add_cancel hnl] at h2
  simpa using h2
end
end Go.FX
