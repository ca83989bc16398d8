import Derived.WalkLawsBesides
import Derived.Deep.Draws
set_option linter.unusedVariables false
set_option linter.unusedSimpArgs false
namespace Go.FX
open Go

/-! Floats up to the bits of a NaN: 'cn k x' is x itself, or the one quiet NaN where x is a NaN. -/
def isN (k : FloatKind) (x : Nat) : Bool := (k.format.read x).isNaN
def qn : FloatKind → Nat | .f32 => 0x7fc00000 | .f64 => 0x7ff8000000000000
def cn (k : FloatKind) (x : Nat) : Nat := if isN k x then qn k else x
def width : FloatKind → Nat | .f32 => 4294967296 | .f64 => 18446744073709551616

theorem width_eq (k : FloatKind) : width k = 2 ^ k.format.width := by cases k <;> rfl

theorem isN_qn (k : FloatKind) : isN k (qn k) = true := by cases k <;> decide
theorem isN_cn (k : FloatKind) (x : Nat) : isN k (cn k x) = isN k x := by
  unfold cn; split
  · rename_i h; rw [isN_qn, h]
  · rfl
theorem cn_cn (k : FloatKind) (x : Nat) : cn k (cn k x) = cn k x := by
  unfold cn
  by_cases h : isN k x = true <;> simp [h, isN_qn]
theorem cn_of_not {k : FloatKind} {x : Nat} (h : isN k x = false) : cn k x = x := by simp [cn, h]
theorem cn_of_nan {k : FloatKind} {x : Nat} (h : isN k x = true) : cn k x = qn k := by simp [cn, h]
theorem qn_lt (k : FloatKind) : qn k < width k := by cases k <;> decide
theorem cn_lt {k : FloatKind} {x : Nat} (h : x < width k) : cn k x < width k := by
  unfold cn; split
  · exact qn_lt k
  · exact h

theorem bits_nan_left {op : BinOp} {k : FloatKind} {x y : Nat} (h : isN k x = true) : floatBits op k x y = none := by
  unfold isN at h
  have : ∃ s t, k.format.read x = .nan s t := by
    cases hr : k.format.read x <;> simp [hr, Ieee.Datum.isNaN] at h ⊢
  obtain ⟨s, t, hr⟩ := this
  unfold floatBits
  cases op <;> simp [Ieee.Format.add, Ieee.Format.sub, Ieee.Format.mul, Ieee.Format.div, hr, Ieee.Datum.sum, Ieee.Datum.product, Ieee.Datum.quotient]

theorem bits_nan_right {op : BinOp} {k : FloatKind} {x y : Nat} (h : isN k y = true) : floatBits op k x y = none := by
  unfold isN at h
  have : ∃ s t, k.format.read y = .nan s t := by
    cases hr : k.format.read y <;> simp [hr, Ieee.Datum.isNaN] at h ⊢
  obtain ⟨s, t, hr⟩ := this
  unfold floatBits
  cases op <;> simp [Ieee.Format.add, Ieee.Format.sub, Ieee.Format.mul, Ieee.Format.div, hr, Ieee.Datum.opposite]
  all_goals (cases k.format.read x <;> simp [Ieee.Datum.sum, Ieee.Datum.product, Ieee.Datum.quotient])

theorem bits_cn (op : BinOp) (k : FloatKind) (x y : Nat) : floatBits op k (cn k x) (cn k y) = floatBits op k x y := by
  by_cases hx : isN k x = true
  · rw [bits_nan_left hx, bits_nan_left (by rw [isN_cn]; exact hx)]
  · by_cases hy : isN k y = true
    · rw [bits_nan_right hy, bits_nan_right (by rw [isN_cn]; exact hy)]
    · rw [cn_of_not (by simpa using hx), cn_of_not (by simpa using hy)]

/-- An operation on canonical floats. -/
def fop (op : BinOp) (k : FloatKind) (x y : Nat) : Nat := (floatBits op k x y).getD (qn k)

/-- What the model's operation leaves, the tape's answer where it is a NaN. -/
def flR (op : BinOp) (k : FloatKind) (x y : Nat) (w : World) : Nat :=
  match floatBits op k x y with
  | some r => r
  | none => (Question.nanBits k x y).cut (w.tape w.drawn (.nanBits k x y))
def flN (op : BinOp) (k : FloatKind) (x y : Nat) : Nat := match floatBits op k x y with | some _ => 0 | none => 1

def arith (op : BinOp) : Bool := match op with | .add | .sub | .mul | .quo => true | _ => false

theorem run_fl {P : Program} {op : BinOp} (ha : arith op = true) (t : TypeId) (k : FloatKind) (x y : Nat) (w : World) :
    (binOp op t (.float k x) (.float k y)).run P w = .ok (.float k (flR op k x y w)) (w.drewN (flN op k x y)) := by
  have key : ∀ o : Option Nat, (match o with
        | some r => (pure (.float k r) : Sem Value)
        | none => do pure (.float k (← choose (.nanBits k x y)))).run P w
      = .ok (.float k (match o with | some r => r | none => (Question.nanBits k x y).cut (w.tape w.drawn (.nanBits k x y)))) (w.drewN (match o with | some _ => 0 | none => 1)) := by
    intro o; cases o <;> rfl
  have h2 : (binOp op t (.float k x) (.float k y)) = (match floatBits op k x y with
        | some r => (pure (.float k r) : Sem Value)
        | none => do pure (.float k (← choose (.nanBits k x y)))) := by
    cases op <;> simp [arith] at ha
    all_goals
      cases k <;> simp [binOp, Op.floatArith, floatBits]
    all_goals (split <;> rename_i h <;> simp only [h])
  rw [h2]
  exact key _

@[go_sem] theorem run_fl_add {P : Program} (t : TypeId) (k : FloatKind) (x y : Nat) (w : World) : (binOp .add t (.float k x) (.float k y)).run P w = .ok (.float k (flR .add k x y w)) (w.drewN (flN .add k x y)) := run_fl rfl t k x y w
@[go_sem] theorem run_fl_sub {P : Program} (t : TypeId) (k : FloatKind) (x y : Nat) (w : World) : (binOp .sub t (.float k x) (.float k y)).run P w = .ok (.float k (flR .sub k x y w)) (w.drewN (flN .sub k x y)) := run_fl rfl t k x y w
@[go_sem] theorem run_fl_mul {P : Program} (t : TypeId) (k : FloatKind) (x y : Nat) (w : World) : (binOp .mul t (.float k x) (.float k y)).run P w = .ok (.float k (flR .mul k x y w)) (w.drewN (flN .mul k x y)) := run_fl rfl t k x y w
@[go_sem] theorem run_fl_quo {P : Program} (t : TypeId) (k : FloatKind) (x y : Nat) (w : World) : (binOp .quo t (.float k x) (.float k y)).run P w = .ok (.float k (flR .quo k x y w)) (w.drewN (flN .quo k x y)) := run_fl rfl t k x y w

end Go.FX
namespace Go.FX
open Go Ieee

theorem flR_lt {op : BinOp} {k : FloatKind} {x y : Nat} (w : World) : flR op k x y w < width k := by
  unfold flR
  split
  · rename_i r h
    have := floatBits_wf h
    cases k
    · simpa [Lit.wf, width] using this
    · simpa [Lit.wf, width] using this
  · cases k <;> simp only [Question.cut, width] <;> omega

theorem read_word (k : FloatKind) (s : Bool) (r : Nat) (h : r ≤ k.format.infRung) : isN k (k.format.word s r) = false := by
  have hp : 0 < k.format.signWeight := Nat.two_pow_pos _
  have hlt : r < k.format.signWeight := Nat.lt_of_le_of_lt h k.format.infRung_lt
  have hm : (k.format.word s r) % k.format.signWeight = r := by
    unfold Format.word; split
    · rw [Nat.add_mod_left, Nat.mod_eq_of_lt hlt]
    · exact Nat.mod_eq_of_lt hlt
  unfold isN Format.read
  simp only [hm]
  split
  · rfl
  · split
    · rfl
    · split
      · rfl
      · omega

theorem nearest_le (f : Format) (s : Bool) (m : Nat) (p : Int) : ∃ r, f.nearest s m p = f.word s r ∧ r ≤ f.infRung := by
  unfold Format.nearest
  dsimp only
  split
  · exact ⟨0, rfl, Nat.zero_le _⟩
  · exact ⟨_, rfl, Nat.min_le_right ..⟩

theorem write_not (k : FloatKind) (d : Datum) (h : d.isNaN = false) : isN k (k.format.write d) = false := by
  cases d with
  | number s m p => obtain ⟨r, e, hr⟩ := nearest_le k.format s m p; simp only [Format.write]; rw [e]; exact read_word k s r hr
  | infinity s => exact read_word k s _ (Nat.le_refl _)
  | nan => simp [Datum.isNaN] at h

theorem sum_not {a b d : Datum} (h : a.sum b = some d) : d.isNaN = false := by
  unfold Datum.sum at h
  split at h <;> (first | (cases h; done) | (cases h; rfl) | skip)
  split at h <;> (first | (cases h; done) | (cases h; rfl))
theorem product_not {a b d : Datum} (h : a.product b = some d) : d.isNaN = false := by
  unfold Datum.product at h
  split at h <;> (first | (cases h; done) | (cases h; rfl) | skip)
  all_goals (split at h <;> (first | (cases h; done) | (cases h; rfl)))
theorem quotient_not {n : Nat} {a b d : Datum} (h : a.quotient n b = some d) : d.isNaN = false := by
  unfold Datum.quotient at h
  split at h <;> (first | (cases h; done) | (cases h; rfl) | skip)
  split at h
  · split at h <;> (first | (cases h; done) | (cases h; rfl))
  · cases h; rfl
theorem root_not {n : Nat} {a d : Datum} (h : a.root n = some d) : d.isNaN = false := by
  unfold Datum.root at h
  split at h
  · cases h
  · split at h <;> (first | (cases h; done) | (cases h; rfl))
  · split at h
    · cases h; rfl
    · split at h
      · cases h
      · cases h; rfl

theorem map_write_not {k : FloatKind} {o : Option Datum} {r : Nat} (ho : ∀ d, o = some d → d.isNaN = false) (h : o.map k.format.write = some r) : isN k r = false := by
  cases o with
  | none => cases h
  | some d => cases h; exact write_not k d (ho d rfl)

theorem bits_not {op : BinOp} {k : FloatKind} {x y r : Nat} (h : floatBits op k x y = some r) : isN k r = false := by
  unfold floatBits at h
  split at h
  · exact map_write_not (fun d => sum_not) h
  · exact map_write_not (fun d => sum_not) h
  · exact map_write_not (fun d => product_not) h
  · exact map_write_not (fun d => quotient_not) h
  · cases h

theorem read_nan_f32 (x : Nat) (h : x % 2147483648 > 2139095040) : isN .f32 x = true := by
  have e1 : FloatKind.f32.format.signWeight = 2147483648 := by decide
  have e2 : FloatKind.f32.format.infRung = 2139095040 := by decide
  have e3 : FloatKind.f32.format.binade = 8388608 := by decide
  unfold isN Format.read
  simp only [e1, e2, e3]
  rw [if_neg (by omega), if_neg (by omega), if_neg (by omega)]
  rfl
theorem read_nan_f64 (x : Nat) (h : x % 9223372036854775808 > 9218868437227405312) : isN .f64 x = true := by
  have e1 : FloatKind.f64.format.signWeight = 9223372036854775808 := by decide
  have e2 : FloatKind.f64.format.infRung = 9218868437227405312 := by decide
  have e3 : FloatKind.f64.format.binade = 4503599627370496 := by decide
  unfold isN Format.read
  simp only [e1, e2, e3]
  rw [if_neg (by omega), if_neg (by omega), if_neg (by omega)]
  rfl
theorem isN_f32 (x : Nat) : isN .f32 x = decide (x % 2147483648 > 2139095040) := by
  by_cases h : x % 2147483648 > 2139095040
  · rw [read_nan_f32 x h]; simp [h]
  · have e1 : FloatKind.f32.format.signWeight = 2147483648 := by decide
    have e2 : FloatKind.f32.format.infRung = 2139095040 := by decide
    have e3 : FloatKind.f32.format.binade = 8388608 := by decide
    simp only [h, decide_false]
    unfold isN Format.read
    simp only [e1, e2, e3]
    split
    · rfl
    · split
      · rfl
      · rw [if_pos (by omega)]; rfl
theorem isN_f64 (x : Nat) : isN .f64 x = decide (x % 9223372036854775808 > 9218868437227405312) := by
  by_cases h : x % 9223372036854775808 > 9218868437227405312
  · rw [read_nan_f64 x h]; simp [h]
  · have e1 : FloatKind.f64.format.signWeight = 9223372036854775808 := by decide
    have e2 : FloatKind.f64.format.infRung = 9218868437227405312 := by decide
    have e3 : FloatKind.f64.format.binade = 4503599627370496 := by decide
    simp only [h, decide_false]
    unfold isN Format.read
    simp only [e1, e2, e3]
    split
    · rfl
    · split
      · rfl
      · rw [if_pos (by omega)]; rfl

theorem cut_nan (k : FloatKind) (x y t : Nat) : isN k ((Question.nanBits k x y).cut t) = true := by
  cases k
  · refine read_nan_f32 _ ?_
    simp only [Question.cut]
    rcases Nat.mod_two_eq_zero_or_one t with h | h <;> rw [h] <;> omega
  · refine read_nan_f64 _ ?_
    simp only [Question.cut]
    rcases Nat.mod_two_eq_zero_or_one t with h | h <;> rw [h] <;> omega

theorem cn_flR (op : BinOp) (k : FloatKind) (x y : Nat) (w : World) : cn k (flR op k x y w) = fop op k (cn k x) (cn k y) := by
  unfold fop
  rw [bits_cn]
  unfold flR
  cases h : floatBits op k x y with
  | some r => simp [cn_of_not (bits_not h)]
  | none => simp [cn_of_nan (cut_nan k x y _)]

theorem fop_cn (op : BinOp) (k : FloatKind) (x y : Nat) : cn k (fop op k x y) = fop op k x y := by
  unfold fop
  cases h : floatBits op k x y with
  | some r => simp [cn_of_not (bits_not h)]
  | none => simp [cn_of_nan (isN_qn k)]

theorem order_nan_left {k : FloatKind} {x y : Nat} (h : isN k x = true) : k.format.order x y = none := by
  unfold isN at h
  unfold Format.order
  cases hr : k.format.read x <;> simp [hr, Datum.isNaN] at h
  cases k.format.read y <;> rfl
theorem order_nan_right {k : FloatKind} {x y : Nat} (h : isN k y = true) : k.format.order x y = none := by
  unfold isN at h
  unfold Format.order
  cases hr : k.format.read y <;> simp [hr, Datum.isNaN] at h
  cases k.format.read x <;> rfl
theorem order_cn (k : FloatKind) (x y : Nat) : k.format.order (cn k x) (cn k y) = k.format.order x y := by
  by_cases hx : isN k x = true
  · rw [order_nan_left hx, order_nan_left (by rw [isN_cn]; exact hx)]
  · by_cases hy : isN k y = true
    · rw [order_nan_right hy, order_nan_right (by rw [isN_cn]; exact hy)]
    · rw [cn_of_not (by simpa using hx), cn_of_not (by simpa using hy)]
end Go.FX
namespace Go.FX
open Go Ieee

/-! Conversions between floats: what the model leaves, with the tape's answer. -/
def cvQ (s : FloatKind) (b : Nat) (k : FloatKind) : Option Nat := floatToFloatBits s b k
def cvR (s : FloatKind) (b : Nat) (k : FloatKind) (w : World) : Nat :=
  match floatToFloatBits s b k with
  | some r => r
  | none => match s.decode b with
    | .nan _ _ => (Question.nanConv k b).cut (w.tape w.drawn (.nanConv k b))
    | _ => (Question.floatToFloat b).cut (w.tape w.drawn (.floatToFloat b))
def cvN (s : FloatKind) (b : Nat) (k : FloatKind) : Nat := match floatToFloatBits s b k with | some _ => 0 | none => 1

@[go_sem] theorem run_cv {P : Program} (src dst : TypeId) (s k : FloatKind) (b : Nat) (w : World) (hs : (P.underlying src).isSome = true) (hd : P.underlying dst = some (.float k)) :
    (convert src dst (.float s b)).run P w = .ok (.float k (cvR s b k w)) (w.drewN (cvN s b k)) := by
  cases h : floatToFloatBits s b k with
  | some r => unfold cvR cvN; rw [h]; exact run_convert_float_float w src dst s k b r hs hd h
  | none =>
    obtain ⟨u, hs'⟩ := Option.isSome_iff_exists.1 hs
    unfold cvR cvN; rw [h]
    unfold floatToFloatBits at h
    split at h
    · cases h
    · rename_i ne
      split at h
      · rename_i sg fr he
        cases u <;> simp [convert, run_underlying hs', run_underlying hd, Conv.floatToFloat, ne, he, choose, Sem.run, Question.forced] <;> rfl
      · cases h
      · rename_i sg m e he
        split at h
        · rename_i hinf
          cases u <;> simp [convert, run_underlying hs', run_underlying hd, Conv.floatToFloat, ne, he, hinf, choose, Sem.run, Question.forced] <;> rfl
        · cases h

theorem cvR_lt {s k : FloatKind} {b : Nat} (w : World) (hb : b < width s) : cvR s b k w < width k := by
  unfold cvR
  split
  · rename_i r h
    have hwf : (Lit.float s b).wf = true := by cases s <;> simpa [Lit.wf, width] using hb
    have := floatToFloatBits_wf hwf h
    cases k <;> simpa [Lit.wf, width] using this
  · split
    · cases k <;> simp only [Question.cut, width] <;> omega
    · rename_i h _
      cases k
      · simp only [Question.cut, width]; omega
      · simp only [Question.cut, width]; omega

theorem cut_nanConv (k : FloatKind) (x t : Nat) : isN k ((Question.nanConv k x).cut t) = true := by
  cases k
  · refine read_nan_f32 _ ?_
    simp only [Question.cut]
    rcases Nat.mod_two_eq_zero_or_one t with h | h <;> rw [h] <;> omega
  · refine read_nan_f64 _ ?_
    simp only [Question.cut]
    rcases Nat.mod_two_eq_zero_or_one t with h | h <;> rw [h] <;> omega

/-- A conversion on canonical floats, where it does not grow too great. -/
def cv (s : FloatKind) (k : FloatKind) (b : Nat) : Nat := (floatToFloatBits s (cn s b) k).getD (qn k)
/-- 'The conversion is too great for the narrower kind': what the language leaves open. -/
def cvOver (s : FloatKind) (k : FloatKind) (b : Nat) : Bool := (!isN s b) && (floatToFloatBits s b k).isNone

theorem f2f_nan {s k : FloatKind} {b : Nat} (h : isN s b = true) : floatToFloatBits s b k = if s = k then some b else none := by
  unfold floatToFloatBits
  split
  · rfl
  · unfold isN at h
    cases hr : s.format.read b <;> simp [hr, Datum.isNaN] at h
    simp [FloatKind.decode, hr]

theorem f2f_not {s k : FloatKind} {b r : Nat} (hb : isN s b = false) (h : floatToFloatBits s b k = some r) : isN k r = false := by
  unfold floatToFloatBits at h
  split at h
  · rename_i e; cases h; subst e; exact hb
  · split at h
    · cases h
    · cases h; exact write_not k _ rfl
    · split at h
      · cases h
      · cases h; exact write_not k _ rfl

theorem cn_cvR (s k : FloatKind) (b : Nat) (w : World) (ho : cvOver s k b = false) : cn k (cvR s b k w) = cv s k b := by
  unfold cv cvR
  by_cases hn : isN s b = true
  · rw [f2f_nan hn, cn_of_nan hn, f2f_nan (isN_qn s)]
    by_cases hk : s = k
    · subst hk; simp [cn_of_nan hn]
    · simp only [hk, if_false]
      have : ∃ sg fr, s.decode b = .nan sg fr := by
        unfold isN at hn
        cases hr : s.format.read b <;> simp [hr, Datum.isNaN] at hn
        exact ⟨_, _, hr⟩
      obtain ⟨sg, fr, hd⟩ := this
      simp only [hd]
      rw [cn_of_nan (cut_nanConv k b _)]; rfl
  · have hn' : isN s b = false := by simpa using hn
    rw [cn_of_not hn']
    cases h : floatToFloatBits s b k with
    | none => simp [cvOver, hn', h] at ho
    | some r => simp [cn_of_not (f2f_not hn' h)]
end Go.FX
namespace Go.FX
open Go Ieee

/-! What a contract says of a float: its bits fit, and are 'c' up to those of a NaN. -/
structure Fl (k : FloatKind) (r c : Nat) : Prop where
  lt : r < width k
  eq : cn k r = c
theorem Fl.of {k : FloatKind} {r : Nat} (h : r < width k) : Fl k r (cn k r) := ⟨h, rfl⟩
theorem Fl.flR {op : BinOp} {k : FloatKind} {x y a b : Nat} (hx : Fl k x a) (hy : Fl k y b) (w : World) : Fl k (flR op k x y w) (fop op k a b) := ⟨flR_lt w, by rw [cn_flR, hx.eq, hy.eq]⟩
theorem Fl.canon {k : FloatKind} {r c : Nat} (h : Fl k r c) : cn k c = c := by rw [← h.eq, cn_cn]
theorem Fl.order {k : FloatKind} {x y a b : Nat} (hx : Fl k x a) (hy : Fl k y b) : k.format.order x y = k.format.order a b := by rw [← order_cn, hx.eq, hy.eq]

theorem fop_cn2 (op : BinOp) (k : FloatKind) (x y : Nat) : fop op k (cn k x) (cn k y) = fop op k x y := by unfold fop; rw [bits_cn]
theorem cn_flR' (op : BinOp) (k : FloatKind) (x y : Nat) (w : World) : cn k (flR op k x y w) = fop op k x y := by rw [cn_flR, fop_cn2]
@[go_sem] theorem order_flR_l (op : BinOp) (k : FloatKind) (x y z : Nat) (w : World) : k.format.order (flR op k x y w) z = k.format.order (fop op k x y) z := by
  rw [← order_cn k (flR op k x y w) z, cn_flR', ← order_cn k (fop op k x y) z, fop_cn]
@[go_sem] theorem order_flR_r (op : BinOp) (k : FloatKind) (x y z : Nat) (w : World) : k.format.order z (flR op k x y w) = k.format.order z (fop op k x y) := by
  rw [← order_cn k z (flR op k x y w), cn_flR', ← order_cn k z (fop op k x y), fop_cn]
@[go_sem] theorem fop_flR_l (op op' : BinOp) (k : FloatKind) (x y z : Nat) (w : World) : fop op' k (flR op k x y w) z = fop op' k (fop op k x y) z := by
  rw [← fop_cn2 op' k (flR op k x y w) z, cn_flR', ← fop_cn2 op' k (fop op k x y) z, fop_cn]
@[go_sem] theorem fop_flR_r (op op' : BinOp) (k : FloatKind) (x y z : Nat) (w : World) : fop op' k z (flR op k x y w) = fop op' k z (fop op k x y) := by
  rw [← fop_cn2 op' k z (flR op k x y w), cn_flR', ← fop_cn2 op' k z (fop op k x y), fop_cn]

def RB (b : Bool) (w : World) (e : Ending) (w' : World) : Prop := ∃ n, e = .returned (.bool b) ∧ w' = w.drewN n
def RI (k : IntKind) (i : Int) (w : World) (e : Ending) (w' : World) : Prop := ∃ n, e = .returned (.int k i) ∧ w' = w.drewN n
def RF (k : FloatKind) (c : Nat) (w : World) (e : Ending) (w' : World) : Prop := ∃ r n, e = .returned (.float k r) ∧ w' = w.drewN n ∧ Fl k r c
def RFB (k : FloatKind) (c : Nat) (b : Bool) (w : World) (e : Ending) (w' : World) : Prop := ∃ r n, e = .returned (.tuple #[.float k r, .bool b]) ∧ w' = w.drewN n ∧ Fl k r c

theorem cvR_lt' (b : Nat) (w : World) : cvR .f32 b .f64 w < width .f64 := by
  unfold cvR
  split
  · rename_i r h
    unfold floatToFloatBits at h
    rw [if_neg (by decide)] at h
    split at h
    · cases h
    · cases h
      have := encode_wf .f64 (.infinity ‹_›)
      simpa [Lit.wf, width] using this
    · split at h
      · cases h
      · cases h
        have := encode_wf .f64 (.number ‹_› ‹_› ‹_›)
        simpa [Lit.wf, width] using this
  · split
    · simp only [Question.cut, width]; omega
    · simp only [Question.cut, width]; omega

@[go_sem] theorem run_store_float {P : Program} (w : World) (a : Addr) (m : Mode) (k : FloatKind) (b : Nat) : (store a (.float k b) m).run P w = stored P w a (.float k b) m := run_store P w a _ m rfl
@[go_sem] theorem unary_negf (k : FloatKind) (b : Nat) : Op.unary .neg (.float k b) = pure (.float k (Op.negFloat k b)) := rfl
@[go_sem] theorem alloc_drewN (w : World) (n : Nat) (o : Obj) : (w.drewN n).alloc o = (w.alloc o).drewN n := rfl
@[go_sem] theorem setCell_drewN (w : World) (n : Nat) (a : Addr) (v : Value) : (w.drewN n).setCell a v = (w.setCell a v).drewN n := rfl
@[go_sem] theorem shape?_drewN (w : World) (n : Nat) (r : Nat) : (w.drewN n).shape? r = w.shape? r := rfl

theorem RF.of {k : FloatKind} {r c : Nat} {w : World} {n : Nat} (h : r < width k) (he : cn k r = c) : RF k c w (.returned (.float k r)) (w.drewN n) := ⟨r, n, rfl, rfl, h, he⟩
theorem RF.of0 {k : FloatKind} {r c : Nat} {w : World} (h : r < width k) (he : cn k r = c) : RF k c w (.returned (.float k r)) w := ⟨r, 0, rfl, rfl, h, he⟩
theorem RFB.of {k : FloatKind} {r c : Nat} {b b' : Bool} {w : World} {n : Nat} (h : r < width k) (he : cn k r = c) (hb : b = b') : RFB k c b' w (.returned (.tuple #[.float k r, .bool b])) (w.drewN n) := hb ▸ ⟨r, n, rfl, rfl, h, he⟩
theorem RFB.of0 {k : FloatKind} {r c : Nat} {b b' : Bool} {w : World} (h : r < width k) (he : cn k r = c) (hb : b = b') : RFB k c b' w (.returned (.tuple #[.float k r, .bool b])) w := hb ▸ ⟨r, 0, rfl, rfl, h, he⟩
theorem RB.of {b b' : Bool} {w : World} {n : Nat} (hb : b = b') : RB b' w (.returned (.bool b)) (w.drewN n) := hb ▸ ⟨n, rfl, rfl⟩
theorem RB.of0 {b b' : Bool} {w : World} (hb : b = b') : RB b' w (.returned (.bool b)) w := hb ▸ ⟨0, rfl, rfl⟩
theorem RI.of {k : IntKind} {b b' : Int} {w : World} {n : Nat} (hb : b = b') : RI k b' w (.returned (.int k b)) (w.drewN n) := hb ▸ ⟨n, rfl, rfl⟩
theorem RI.of0 {k : IntKind} {b b' : Int} {w : World} (hb : b = b') : RI k b' w (.returned (.int k b)) w := hb ▸ ⟨0, rfl, rfl⟩
theorem lt32 {x : Nat} (h : (Lit.float .f32 x).wf = true) : x < 4294967296 := by simpa [Lit.wf] using h
theorem lt64 {x : Nat} (h : (Lit.float .f64 x).wf = true) : x < 18446744073709551616 := by simpa [Lit.wf] using h
theorem ret_int {k : IntKind} {a b : Int} (h : a = b) : Ending.returned (.int k a) = .returned (.int k b) := by rw [h]
theorem ret_intb {k : IntKind} {a b : Int} {x : Bool} (h : a = b) : Ending.returned (.tuple #[.int k a, .bool x]) = .returned (.tuple #[.int k b, .bool x]) := by rw [h]
end Go.FX
