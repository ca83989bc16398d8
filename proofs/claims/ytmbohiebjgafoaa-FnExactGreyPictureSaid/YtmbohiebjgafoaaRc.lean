import Derived.Orders
import Derived.Deep.Draws
import Derived.RegionTactic
set_option linter.unusedVariables false
set_option linter.unusedSimpArgs false
namespace Go.FX
open Go

/-! A region that draws its order, whose operations yield values of classes in worlds of a class: ONE walk of the lexical order serves every order (float operations, which draw at a not-a-number, and calls among them). Behind the first n operations a tail may stand that waits for all of them. -/
section
variable {P : Program} {ops : Array Oper} {md : Region.Mode} {C : World → Prop}

def ActsPut (A : Act → Prop) (dst : Option Tmp) (V : Value → Prop) : Act → Prop := fun a' => ∃ a v, A a ∧ V v ∧ a' = a.put dst v

def clsUpon (P : Program) (C : World → Prop) (V : Value → Prop) : Result Next → Prop
  | .ok (.value u) w' => C w' ∧ V u
  | .ok .skip w' => C w' ∧ V undef
  | .ok (.enter f args) w' => Calls P f args w' (fun e w'' => ∃ v, e = .returned v ∧ V v ∧ C w'')
  | _ => False

def clsAt (P : Program) (ops : Array Oper) (C : World → Prop) (o : Oper) (A : Act → Prop) (V : Value → Prop) : Prop :=
  (∀ a, A a → Region.wanted o (yielded ops a.tmps) = true ∧ ∀ w, C w → clsUpon P C V ((execOp a.eval o).run P w)) ∨
  ((∀ a, A a → Region.wanted o (yielded ops a.tmps) = false) ∧ V undef)

theorem clsUpon.some {V : Value → Prop} {r : Result Next} (h : clsUpon P C V r) : ∃ v, V v := by
  cases r with
  | ok n w' =>
    cases n <;> simp only [clsUpon] at h
    case value u => exact ⟨u, h.2⟩
    case skip => exact ⟨undef, h.2⟩
    case enter f args =>
      obtain ⟨e, w2, fr, ⟨v, _, hv, _⟩, _⟩ := h []
      exact ⟨v, hv⟩
  | halt x w' => simp [clsUpon] at h

theorem clsAt.some {o : Oper} {A : Act → Prop} {V : Value → Prop} (h : clsAt P ops C o A V) (hA : ∃ a, A a) (hC : ∃ w, C w) : ∃ v, V v := by
  rcases h with h | h
  · obtain ⟨a, ha⟩ := hA
    obtain ⟨w, hw⟩ := hC
    exact ((h a ha).2 w hw).some
  · exact ⟨_, h.2⟩

theorem wpOp_of_cls {Q : Exit → Act → World → Prop} {i : Nat} {o : Oper} {A : Act → Prop} {V : Value → Prop} {a : Act} {w : World} (hi : ops[i]? = some o) (h : clsAt P ops C o A V) (ha : A a) (hw : C w) :
    wpOp P ops Q i (fun a' w' => ActsPut A o.dst V a' ∧ C w') a w := by
  unfold wpOp
  simp only [hi]
  rcases h with h | ⟨h, hu⟩
  · obtain ⟨h1, h2⟩ := h a ha
    simp only [h1, if_true]
    refine .inl ?_
    have h3 := h2 w hw
    unfold Oper.wp
    generalize (execOp a.eval o).run P w = r at *
    cases r with
    | ok n w' =>
      cases n <;> simp only [clsUpon] at h3 <;> simp only [Oper.upon]
      case value u => exact ⟨⟨a, u, ha, h3.2, rfl⟩, h3.1⟩
      case skip => exact ⟨⟨a, undef, ha, h3.2, rfl⟩, h3.1⟩
      case enter f args => exact h3.mono fun e w'' ⟨v, he, hv, hc⟩ => by subst he; exact ⟨⟨a, v, ha, hv, rfl⟩, hc⟩
    | halt x w' => simp [clsUpon] at h3
  · simp only [h a ha, Bool.false_eq_true, if_false]
    exact ⟨⟨a, undef, ha, hu, rfl⟩, hw⟩

def qC (P : Program) (ops : Array Oper) (C : World → Prop) (i : Nat) (K : (Act → Prop) → Prop) (A : Act → Prop) : Prop :=
  ∃ o V, ops[i]? = some o ∧ clsAt P ops C o A V ∧ K (ActsPut A o.dst V)

theorem qC_mono {i : Nat} {A : Act → Prop} {K K' : (Act → Prop) → Prop} (h : ∀ A, K A → K' A) (hh : qC P ops C i K A) : qC P ops C i K' A := by
  obtain ⟨o, V, h1, h2, h3⟩ := hh
  exact ⟨o, V, h1, h2, h _ h3⟩

/-- All of the first n have come up. -/
def allN (n : Nat) (listed : Array Bool) : Prop := ∀ k, k < n → listed.getD k false = true

/-- Whatever order is picked from here on, till the first n have come up. -/
def AnyC (P : Program) (md : Region.Mode) (ops : Array Oper) (C : World → Prop) (n : Nat) (R : Array Bool → (Act → Prop) → Prop) : Nat → Array Bool → (Act → Prop) → Prop
  | 0, listed, A => allN n listed ∧ R listed A
  | k + 1, listed, A => Region.ready md ops listed ≠ [] ∧ ∀ i ∈ Region.ready md ops listed, qC P ops C i (AnyC P md ops C n R k (listed.setIfInBounds i true)) A

theorem wpAny_of_AnyC {Q : Exit → Act → World → Prop} {n t : Nat} {R : Array Bool → (Act → Prop) → Prop} (hR : ∀ listed A, R listed A → ∀ a w, A a → C w → wpAny P md ops Q t listed a w) :
    ∀ (k : Nat) (listed : Array Bool) (A : Act → Prop) (a : Act) (w : World), A a → C w → AnyC P md ops C n R k listed A → wpAny P md ops Q (t + k) listed a w
  | 0, listed, A, a, w, ha, hw, h => hR listed A h.2 a w ha hw
  | k + 1, listed, A, a, w, ha, hw, h => by
    refine ⟨fun h0 => absurd h0 h.1, fun i hi => ?_⟩
    obtain ⟨o, V, h1, h2, h3⟩ := h.2 i hi
    exact wpOp_mono (fun a' w' ⟨ha', hw'⟩ => wpAny_of_AnyC hR k _ _ a' w' ha' hw' h3) (wpOp_of_cls h1 h2 ha hw)

theorem qC_put {i j : Nat} {oi oj : Oper} {Vi : Value → Prop} {A : Act → Prop} (hj : ops[j]? = some oj) (hap : oi.apart ops oj = true)
    (hsi : ∀ cs b, oi.op ≠ .select cs b) (hsj : ∀ cs b, oj.op ≠ .select cs b) {K : (Act → Prop) → Prop} (hi : ∃ v, Vi v)
    (hy : clsAt P ops C oi A Vi) (h : qC P ops C j K (ActsPut A oi.dst Vi)) :
    qC P ops C j (fun A' => clsAt P ops C oi A' Vi ∧ K (ActsPut A' oi.dst Vi)) A := by
  obtain ⟨h1, h2, h3⟩ := Oper.apart_spec hap
  obtain ⟨o, Vj, g1, g2, g3⟩ := h
  rw [hj] at g1
  obtain rfl := Option.some.inj g1
  obtain ⟨v, hv⟩ := hi
  refine ⟨oj, Vj, hj, ?_, ?_, ?_⟩
  · rcases g2 with g2 | ⟨g2, gu⟩
    · refine .inl fun a ha => ?_
      have := g2 _ ⟨a, v, ha, hv, rfl⟩
      rwa [wanted_put oj a oi.dst v h1, execOp_put oj hsj a oi.dst v h1] at this
    · refine .inr ⟨fun a ha => ?_, gu⟩
      have := g2 _ ⟨a, v, ha, hv, rfl⟩
      rwa [wanted_put oj a oi.dst v h1] at this
  · rcases hy with hy | ⟨hy, hu⟩
    · refine .inl fun a ha => ?_
      obtain ⟨a0, u, ha0, hu, rfl⟩ := ha
      have := hy a0 ha0
      rwa [← wanted_put oi a0 oj.dst u h3, ← execOp_put oi hsi a0 oj.dst u h3] at this
    · refine .inr ⟨fun a ha => ?_, hu⟩
      obtain ⟨a0, u, ha0, hu, rfl⟩ := ha
      have := hy a0 ha0
      rwa [← wanted_put oi a0 oj.dst u h3] at this
  · have e : ActsPut (ActsPut A oi.dst Vi) oj.dst Vj = ActsPut (ActsPut A oj.dst Vj) oi.dst Vi := by
      funext a
      apply propext
      constructor
      · rintro ⟨_, u, ⟨a0, x, ha0, hx, rfl⟩, hu, rfl⟩
        exact ⟨_, x, ⟨a0, u, ha0, hu, rfl⟩, hx, Act.put_comm a0 x u h2⟩
      · rintro ⟨_, x, ⟨a0, u, ha0, hu, rfl⟩, hx, rfl⟩
        exact ⟨_, u, ⟨a0, x, ha0, hx, rfl⟩, hu, (Act.put_comm a0 x u h2).symm⟩
    rw [e] at g3
    exact g3

/-- What has come up has what it waits for behind it. -/
def closedL (md : Region.Mode) (ops : Array Oper) (listed : Array Bool) : Prop :=
  ∀ j o, ops[j]? = some o → listed.getD j false = true → ∀ e ∈ o.after, Region.binds md e = true → listed.getD e.on false = true
theorem getD_set_back {listed : Array Bool} {i j : Nat} (h : (listed.setIfInBounds i true).getD j false = true) : j = i ∨ listed.getD j false = true := by
  by_cases hij : i = j
  · exact .inl hij.symm
  · rw [getD_set_ne false hij] at h; exact .inr h
theorem closedL.set {listed : Array Bool} {i : Nat} (h : closedL md ops listed) (hi : i ∈ Region.ready md ops listed) : closedL md ops (listed.setIfInBounds i true) := by
  intro j o hj hl e he hb
  rcases getD_set_back hl with rfl | hl
  · obtain ⟨_, o', ho', hall⟩ := mem_ready.1 hi
    rw [hj] at ho'
    obtain rfl := Option.some.inj ho'
    exact getD_set_true (hall e he hb)
  · exact getD_set_true (h j o hj hl e he hb)

/-- The tail waits for all of the first n. -/
def TailWaits (md : Region.Mode) (ops : Array Oper) (n : Nat) : Prop := ∀ listed, closedL md ops listed → ∀ j ∈ Region.ready md ops listed, n ≤ j → allN n listed
theorem tailWaits_all : TailWaits md ops ops.size := fun listed _ j hj hn => by
  obtain ⟨_, o, ho, _⟩ := mem_ready.1 hj
  have := (Array.getElem?_eq_some_iff.1 ho).1
  omega

theorem AnyC_first {n : Nat} {R : Array Bool → (Act → Prop) → Prop} {i : Nat} {oi : Oper} {V : Value → Prop} (hi : ops[i]? = some oi) (hin : i < n) (hsel : ∀ (j : Nat) (o : Oper) cs b, ops[j]? = some o → o.op ≠ .select cs b)
    (hT : TailWaits md ops n) (hC : ∃ w, C w) :
    ∀ (k : Nat) (listed : Array Bool) (A : Act → Prop), (∃ a, A a) → closedL md ops listed →
      (∀ j oj, ops[j]? = some oj → j ≠ i → listed.getD j true = false → (∀ e ∈ oj.after, Region.binds md e = true → e.on ≠ i) → oi.apart ops oj = true) →
      i ∈ Region.ready md ops listed → clsAt P ops C oi A V →
      AnyC P md ops C n R k (listed.setIfInBounds i true) (ActsPut A oi.dst V) → AnyC P md ops C n R (k + 1) listed A := by
  intro k
  induction k with
  | zero =>
    intro listed A hA hcl _ hr hy H
    refine ⟨fun h => (by rw [h] at hr; cases hr), fun j hj => ?_⟩
    by_cases hji : j = i
    · subst hji; exact ⟨oi, V, hi, hy, H⟩
    · exfalso
      have hun := (mem_ready.1 hj).1
      have huni := (mem_ready.1 hr).1
      by_cases hjn : j < n
      · have h1 := H.1 j hjn
        rw [getD_set_ne false (Ne.symm hji)] at h1
        rcases Nat.lt_or_ge j listed.size with h' | h'
        · simp [h'] at hun h1; rw [hun] at h1; cases h1
        · simp [Array.getElem?_eq_none h'] at h1
      · have h1 := hT listed hcl j hj (by omega) i hin
        rcases Nat.lt_or_ge i listed.size with h' | h'
        · simp [h'] at huni h1; rw [huni] at h1; cases h1
        · simp [Array.getElem?_eq_none h'] at h1
  | succ k ih =>
    intro listed A hA hcl hfree hr hy H
    refine ⟨fun h => (by rw [h] at hr; cases hr), fun j hj => ?_⟩
    by_cases hji : j = i
    · subst hji; exact ⟨oi, V, hi, hy, H⟩
    · have h1 := H.2 j (ready_mono hj hji)
      obtain ⟨hjun, oj, hoj, hall⟩ := mem_ready.1 hj
      have hnot : ∀ e ∈ oj.after, Region.binds md e = true → e.on ≠ i := fun e he hb heq => by
        have h1 := hall e he hb
        have h0 := (mem_ready.1 hr).1
        rw [heq] at h1
        rcases Nat.lt_or_ge i listed.size with h' | h'
        · simp [h'] at h0 h1; rw [h0] at h1; cases h1
        · simp [Array.getElem?_eq_none h'] at h1
      have h2 := qC_put (i := i) hoj (hfree j oj hoj hji hjun hnot) (fun cs b => hsel i oi cs b hi) (fun cs b => hsel j oj cs b hoj) (hy.some hA hC) hy h1
      have hfree' : ∀ k ok, ops[k]? = some ok → k ≠ i → (listed.setIfInBounds j true).getD k true = false →
          (∀ e ∈ ok.after, Region.binds md e = true → e.on ≠ i) → oi.apart ops ok = true := fun k ok hk hki hun hno => by
        refine hfree k ok hk hki ?_ hno
        by_cases hjk : j = k
        · subst hjk; exact hjun
        · rw [getD_set_ne true hjk] at hun; exact hun
      obtain ⟨o, Vj, g1, g2, g3⟩ := h2
      obtain ⟨vj, hvj⟩ := g2.some hA hC
      obtain ⟨a0, ha0⟩ := hA
      refine ⟨o, Vj, g1, g2, ih (listed.setIfInBounds j true) _ ⟨_, a0, vj, ha0, hvj, rfl⟩ (hcl.set hj) hfree' (ready_mono hr (Ne.symm hji)) g3.1 ?_⟩
      rw [Array.setIfInBounds_comm _ _ hji]
      exact g3.2

/-- The lexical walk, the classes of the values given beforehand. -/
def wpR (P : Program) (ops : Array Oper) (C : World → Prop) (K : Act → Prop) : List Oper → List (Value → Prop) → Act → Prop
  | [], _, a => K a
  | _ :: _, [], _ => False
  | o :: rest, V :: Vs, a =>
    ((Region.wanted o (yielded ops a.tmps) = true ∧ ∀ w, C w → clsUpon P C V ((execOp a.eval o).run P w)) ∧ ∀ v, V v → wpR P ops C K rest Vs (a.put o.dst v))

def lexPre (md : Region.Mode) (ops : Array Oper) : Nat → Nat → Array Bool → Bool
  | 0, k, listed => (List.range k).all fun j => listed.getD j false
  | f + 1, k, listed => (Region.ready md ops listed).contains k && Region.free md ops listed k && lexPre md ops f (k + 1) (listed.setIfInBounds k true)
def listedTo : Nat → Nat → Array Bool → Array Bool
  | 0, _, listed => listed
  | f + 1, k, listed => listedTo f (k + 1) (listed.setIfInBounds k true)

theorem AnyC_lex {K : Act → Prop} {n : Nat} {R : Array Bool → (Act → Prop) → Prop} {end_ : Array Bool} (hR : ∀ A, (∀ a, A a → K a) → R end_ A) (hs : Region.noSelect ops = true) (hT : TailWaits md ops n) (hC : ∃ w, C w) :
    ∀ (l : List Oper) (Vs : List (Value → Prop)) (k : Nat) (listed : Array Bool) (A : Act → Prop), (∀ j, j < l.length → l[j]? = ops[k + j]?) → k + l.length = n → listedTo l.length k listed = end_ →
    lexPre md ops l.length k listed = true → closedL md ops listed → (∃ a, A a) → (∀ a, A a → wpR P ops C K l Vs a) → AnyC P md ops C n R l.length listed A
  | [], _, k, listed, A, _, hn, he, hB, _, _, h => by
    refine ⟨fun j hj => ?_, ?_⟩
    · simp only [List.length_nil, lexPre, List.all_eq_true, List.mem_range] at hB
      exact hB j (by simp at hn; omega)
    · simp only [List.length_nil, listedTo] at he
      rw [he]
      exact hR A h
  | o :: l, Vs, k, listed, A, hl, hn, he, hB, hcl, hA, h => by
    have h0 : ops[k]? = some o := by simpa using (hl 0 (by simp)).symm
    simp only [List.length_cons, lexPre, Bool.and_eq_true] at hB
    simp only [List.length_cons, listedTo] at he
    obtain ⟨⟨hr, hf⟩, hB'⟩ := hB
    have hr' : k ∈ Region.ready md ops listed := by simpa using hr
    obtain ⟨a0, ha0⟩ := hA
    cases Vs with
    | nil => exact absurd (h a0 ha0) (by simp [wpR])
    | cons V Vs =>
      have hy : clsAt P ops C o A V := .inl fun a ha => (h a ha).1
      obtain ⟨v, hv⟩ := hy.some ⟨a0, ha0⟩ hC
      refine AnyC_first h0 (by simp at hn; omega) (Region.noSelect_spec hs) hT hC l.length listed A ⟨a0, ha0⟩ hcl (Region.free_spec h0 hf) hr' hy ?_
      refine AnyC_lex hR hs hT hC l Vs (k + 1) _ _ (fun j hj => ?_) (by simp at hn; omega) he hB' (hcl.set hr') ⟨_, a0, v, ha0, hv, rfl⟩ ?_
      · have := hl (j + 1) (by simp; omega)
        simpa [Nat.add_assoc, Nat.add_comm 1 j] using this
      · rintro a ⟨a1, u, ha1, hu, rfl⟩
        exact (h a1 ha1).2 u hu

theorem closedL_start (n : Nat) : closedL md ops (Array.replicate n false) := by
  intro j o _ h
  exfalso
  rcases Nat.lt_or_ge j n with h' | h'
  · simp [h'] at h
  · simp [h'] at h

/-- **A REGION THAT DRAWS ITS ORDER, ALL OF ITS OPERATIONS BY CLASSES.** -/
theorem wp_region_cls {id : Nat} {Q : Exit → Act → World → Prop} {a : Act} {w : World} {l : List Oper} (hm : P.follows .mixedOrders = true) (hs : Region.noSelect l.toArray = true)
    (hB : lexPre .any l.toArray l.length 0 (Array.replicate l.length false) = true) (he : Region.ready .any l.toArray (listedTo l.length 0 (Array.replicate l.length false)) = [])
    (C : World → Prop) (hC : C w.drew) (Vs : List (Value → Prop)) (h : wpR P l.toArray C (fun a' => ∀ w', C w' → Q .normal a' w') l Vs a) : (Code.region id l.toArray true).wp P Q a w := by
  refine wp_region_any hm ?_
  let R : Array Bool → (Act → Prop) → Prop := fun listed A => listed = listedTo l.length 0 (Array.replicate l.length false) ∧ ∀ a, A a → ∀ w', C w' → Q .normal a w'
  have h1 : AnyC P .any l.toArray C l.length R l.length (Array.replicate l.length false) (· = a) :=
    AnyC_lex (P := P) (C := C) (md := .any) (ops := l.toArray) (K := fun a' => ∀ w', C w' → Q .normal a' w') (n := l.length) (R := R)
      (fun A hA => ⟨rfl, hA⟩) hs (by have := tailWaits_all (md := .any) (ops := l.toArray); simpa using this) ⟨_, hC⟩ l Vs 0 (Array.replicate l.length false) (· = a) (fun j hj => by simp) (by simp) rfl hB (closedL_start _) ⟨a, rfl⟩ (fun a' ha' => ha' ▸ h)
  have h2 := wpAny_of_AnyC (P := P) (Q := Q) (md := .any) (ops := l.toArray) (C := C) (n := l.length) (R := R) (t := 0) (fun listed A (hR : R listed A) a' w' ha' hw' => ⟨by rw [hR.1]; exact he, hR.2 a' ha' w' hw'⟩) l.length _ (· = a) a { w with drawn := w.drawn + 1 } rfl hC h1
  simpa using h2

/-! A tail that waits for the first n. -/
def tailB (md : Region.Mode) (ops : Array Oper) (n : Nat) : Bool :=
  decide (n < ops.size) &&
  ((List.range n).all fun k => (List.range (n + 1)).any fun m => decide (k < m) && (((ops[m]?).map fun o => o.after.toList.any fun e => Region.binds md e && decide (e.on = k)).getD false)) &&
  ((List.range ops.size).all fun j => decide (j ≤ n) || (((ops[j]?).map fun o => o.after.toList.any fun e => Region.binds md e && (decide (n ≤ e.on) && decide (e.on < j))).getD false))
theorem tailWaits_of {n : Nat} (h : tailB md ops n = true) : TailWaits md ops n := by
  intro listed hcl j hj hjn
  unfold tailB at h
  simp only [Bool.and_eq_true, decide_eq_true_eq, List.all_eq_true, List.mem_range, List.any_eq_true, Bool.or_eq_true] at h
  obtain ⟨⟨hn, h1⟩, h2⟩ := h
  have at_ : ∀ m, m < ops.size → ∃ o, ops[m]? = some o := fun m hm => ⟨ops[m], Array.getElem?_eq_getElem hm⟩
  have claim1 : ∀ d j o, j = n + d → ops[j]? = some o → (∀ e ∈ o.after, Region.binds md e = true → listed.getD e.on false = true) →
      ∀ o', ops[n]? = some o' → ∀ e ∈ o'.after, Region.binds md e = true → listed.getD e.on false = true := by
    intro d
    induction d using Nat.strongRecOn with
    | ind d ih =>
      intro j o hjd ho hall o' ho'
      rcases Nat.eq_zero_or_pos d with rfl | hd
      · rw [hjd, Nat.add_zero] at ho
        rw [ho] at ho'
        obtain rfl := Option.some.inj ho'
        exact hall
      · have hjs := (Array.getElem?_eq_some_iff.1 ho).1
        have h3 := h2 j hjs
        rcases h3 with h3 | h3
        · omega
        · rw [ho] at h3
          simp only [Option.map_some, Option.getD_some, List.any_eq_true, Bool.and_eq_true, decide_eq_true_eq] at h3
          obtain ⟨e, he, hb, h4, h5⟩ := h3
          have hl := hall e (by simpa using he) hb
          obtain ⟨o2, ho2⟩ := at_ e.on (by omega)
          exact ih (e.on - n) (by omega) e.on o2 (by omega) ho2 (fun e' he' hb' => hcl e.on o2 ho2 hl e' he' hb') o' ho'
  obtain ⟨_, o, ho, hall⟩ := mem_ready.1 hj
  obtain ⟨on, hon⟩ := at_ n hn
  have hnall := claim1 (j - n) j o (by omega) ho hall on hon
  have claim2 : ∀ d k, k + d = n → 0 < d → listed.getD k false = true := by
    intro d
    induction d using Nat.strongRecOn with
    | ind d ih =>
      intro k hk hd
      obtain ⟨m, hm, hkm, h3⟩ := h1 k (by omega)
      obtain ⟨om, hom⟩ := at_ m (by omega)
      rw [hom] at h3
      simp only [Option.map_some, Option.getD_some, List.any_eq_true, Bool.and_eq_true, decide_eq_true_eq] at h3
      obtain ⟨e, he, hb, rfl⟩ := h3
      rcases Nat.lt_or_ge m n with hmn | hmn
      · exact hcl m om hom (ih (n - m) (by omega) m (by omega) (by omega)) e (by simpa using he) hb
      · obtain rfl : m = n := by omega
        rw [hon] at hom
        obtain rfl := Option.some.inj hom
        exact hnall e (by simpa using he) hb
  exact fun k hk => claim2 (n - k) k (by omega) (by omega)

/-- **A REGION THAT DRAWS ITS ORDER, ITS FIRST n OPERATIONS BY CLASSES, A TAIL BEHIND THEM.** -/
theorem wp_region_cls_tail {id : Nat} {Q : Exit → Act → World → Prop} {a : Act} {w : World} {l : List Oper} (n : Nat) (hm : P.follows .mixedOrders = true) (hs : Region.noSelect l.toArray = true) (hn : (l.take n).length = n)
    (hT : tailB .any l.toArray n = true) (hB : lexPre .any l.toArray n 0 (Array.replicate l.length false) = true)
    (C : World → Prop) (hC : C w.drew) (Vs : List (Value → Prop)) (h : wpR P l.toArray C (fun a' => ∀ w', C w' → wpAny P .any l.toArray Q (l.length - n) (listedTo n 0 (Array.replicate l.length false)) a' w') (l.take n) Vs a) : (Code.region id l.toArray true).wp P Q a w := by
  refine wp_region_any hm ?_
  have hnl : n ≤ l.length := by have := List.length_take_le n l; rw [List.length_take] at hn; omega
  let E := listedTo n 0 (Array.replicate l.length false)
  let R : Array Bool → (Act → Prop) → Prop := fun listed A => listed = E ∧ ∀ a, A a → ∀ w', C w' → wpAny P .any l.toArray Q (l.length - n) E a w'
  have h1 : AnyC P .any l.toArray C n R (l.take n).length (Array.replicate l.length false) (· = a) :=
    AnyC_lex (P := P) (C := C) (md := .any) (ops := l.toArray) (K := fun a' => ∀ w', C w' → wpAny P .any l.toArray Q (l.length - n) E a' w') (n := n) (R := R) (end_ := E)
      (fun A hA => ⟨rfl, hA⟩) hs (tailWaits_of hT) ⟨_, hC⟩ (l.take n) Vs 0 (Array.replicate l.length false) (· = a) (fun j hj => by rw [hn] at hj; simp [List.getElem?_take, hj]) (by rw [hn]; simp) (by rw [hn]) (by rw [hn]; exact hB) (closedL_start _) ⟨a, rfl⟩ (fun a' ha' => ha' ▸ h)
  have h2 := wpAny_of_AnyC (P := P) (Q := Q) (md := .any) (ops := l.toArray) (C := C) (n := n) (R := R) (t := l.length - n) (fun listed A (hR : R listed A) a' w' ha' hw' => by rw [hR.1]; exact hR.2 a' ha' w' hw') (l.take n).length _ (· = a) a { w with drawn := w.drawn + 1 } rfl hC h1
  rw [hn, Nat.sub_add_cancel hnl] at h2
  simpa using h2
/-- The last operation, in the world at hand. -/
theorem wpAny_last {Q : Exit → Act → World → Prop} {listed : Array Bool} {a : Act} {w : World} (i : Nat) (o : Oper) (hr : Region.ready md ops listed = [i]) (ho : ops[i]? = some o) (hg : o.guard = none) (he : Region.ready md ops (listed.setIfInBounds i true) = [])
    (h : ∀ K : Act → World → Prop, (∀ a w, Q .normal a w → K a w) → Oper.wp P o a w K Q) : wpAny P md ops Q 1 listed a w := by
  refine ⟨fun h0 => (by rw [hr] at h0; cases h0), fun j hj => ?_⟩
  rw [hr] at hj
  obtain rfl := List.mem_singleton.1 hj
  unfold wpOp
  simp only [ho]
  rw [if_pos (by simp [Region.wanted, hg])]
  exact .inl (h _ fun a w hq => ⟨he, hq⟩)

/-! The steps of the walk. -/
theorem wpR_nil {K : Act → Prop} {Vs : List (Value → Prop)} {a : Act} (h : K a) : wpR P ops C K [] Vs a := h
/-- This value alone. -/
def Eq1 (u v : Value) : Prop := v = u
/-- An operation that yields just one value, in the world that it got. -/
theorem wpR_pure {K : Act → Prop} {o : Oper} {rest : List Oper} {Vs : List (Value → Prop)} {a : Act} {u : Value} (hw : Region.wanted o (yielded ops a.tmps) = true)
    (h : ∀ w, C w → (execOp a.eval o).run P w = .ok (.value u) w) (hr : wpR P ops C K rest Vs (a.put o.dst u)) : wpR P ops C K (o :: rest) (Eq1 u :: Vs) a :=
  ⟨⟨hw, fun w hc => by rw [h w hc]; exact ⟨hc, rfl⟩⟩, fun v hv => hv ▸ hr⟩
/-- Any operation, by its class. -/
theorem wpR_cls {K : Act → Prop} {o : Oper} {rest : List Oper} {V : Value → Prop} {Vs : List (Value → Prop)} {a : Act} (hw : Region.wanted o (yielded ops a.tmps) = true)
    (h : ∀ w, C w → clsUpon P C V ((execOp a.eval o).run P w)) (hr : ∀ v, V v → wpR P ops C K rest Vs (a.put o.dst v)) : wpR P ops C K (o :: rest) (V :: Vs) a :=
  ⟨⟨hw, h⟩, hr⟩
@[go_sem] theorem clsUpon_value_eq {V : Value → Prop} {u : Value} {w : World} : clsUpon P C V (.ok (.value u) w) = (C w ∧ V u) := rfl
@[go_sem] theorem clsUpon_skip_eq {V : Value → Prop} {w : World} : clsUpon P C V (.ok .skip w) = (C w ∧ V undef) := rfl
@[go_sem] theorem clsUpon_enter_eq {V : Value → Prop} {f : FuncId} {args : Array Value} {w : World} : clsUpon P C V (.ok (.enter f args) w) = Calls P f args w (fun e w'' => ∃ v, e = .returned v ∧ V v ∧ C w'') := rfl
theorem clsUpon_value {V : Value → Prop} {u : Value} {w : World} (h : C w) (hv : V u) : clsUpon P C V (.ok (.value u) w) := ⟨h, hv⟩
theorem clsUpon_enter {V : Value → Prop} {f : FuncId} {args : Array Value} {w : World} (h : Calls P f args w (fun e w'' => ∃ v, e = .returned v ∧ V v ∧ C w'')) : clsUpon P C V (.ok (.enter f args) w) := h
end
end Go.FX
