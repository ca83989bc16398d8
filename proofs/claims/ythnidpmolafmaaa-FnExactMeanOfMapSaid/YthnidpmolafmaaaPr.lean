import Derived.Test.YthnidpmolafmaaaPs
import Derived.Test.YthnidpmolafmaaaPo
import Derived.Test.YthnidpmolafmaaaPq
set_option linter.unusedVariables false
set_option linter.unusedSimpArgs false
namespace Go.FX
open Go Go.RowKit
/-! The least and the greatest one. -/
def stepR (p : Nat × Nat × Bool) (c : Nat) : Nat × Nat × Bool :=
  if isN .f32 c then p else
    (if !p.2.2 || (FloatKind.f32.format.order c p.1 == some Ordering.lt) then c else p.1,
     if !p.2.2 || (FloatKind.f32.format.order c p.2.1 == some Ordering.gt) then c else p.2.1, true)
def RG (l : List Nat) : Nat × Nat × Bool := l.foldl stepR (0, 0, false)
theorem RG_step (l : List Nat) (k : Nat) (h : k < l.length) : RG (l.take (k + 1)) = stepR (RG (l.take k)) (l.getD k 0) := by
  rw [take_step l k h]; simp [RG]
theorem RG_none (l : List Nat) : (RG l).2.2 = false → (RG l).1 = 0 ∧ (RG l).2.1 = 0 := by
  have key : ∀ (l : List Nat) (p : Nat × Nat × Bool), (p.2.2 = false → p.1 = 0 ∧ p.2.1 = 0) → ((l.foldl stepR p).2.2 = false → (l.foldl stepR p).1 = 0 ∧ (l.foldl stepR p).2.1 = 0) := by
    intro l
    induction l with
    | nil => intro p hp; exact hp
    | cons c l ih =>
      intro p hp
      refine ih (stepR p c) ?_
      unfold stepR
      split
      · exact hp
      · intro h; cases h
  exact key l _ (fun _ => ⟨rfl, rfl⟩)
/-- What holds of the three slots. -/
def RGat (cs : List Nat) (k : Nat) (rl rh : Nat) (s : Bool) : Prop := Fl .f32 rl (RG (cs.take k)).1 ∧ Fl .f32 rh (RG (cs.take k)).2.1 ∧ s = (RG (cs.take k)).2.2
theorem RGat.zero (cs : List Nat) : RGat cs 0 0 0 false := ⟨⟨by decide, by simp [RG]; decide⟩, ⟨by decide, by simp [RG]; decide⟩, by simp [RG]⟩
theorem RGat.nan {cs : List Nat} {k rl rh z : Nat} {s : Bool} (h : RGat cs k rl rh s) (hk : k < cs.length) (hz : Fl .f32 z (cs.getD k 0)) (hn : isN .f32 z = true) : RGat cs (k + 1) rl rh s := by
  have : stepR (RG (cs.take k)) (cs.getD k 0) = RG (cs.take k) := by
    unfold stepR; rw [if_pos]; rw [← hz.eq, isN_cn]; exact hn
  unfold RGat; rw [RG_step cs k hk, this]; exact h
theorem RGat.num {cs : List Nat} {k rl rh z : Nat} {s : Bool} (h : RGat cs k rl rh s) (hk : k < cs.length) (hz : Fl .f32 z (cs.getD k 0)) (hn : isN .f32 z = false) :
    RGat cs (k + 1) (if !s || (FloatKind.f32.format.order z rl == some Ordering.lt) then z else rl) (if !s || (FloatKind.f32.format.order z rh == some Ordering.gt) then z else rh) true := by
  obtain ⟨h1, h2, h3⟩ := h
  have e1 : FloatKind.f32.format.order z rl = FloatKind.f32.format.order (cs.getD k 0) (RG (cs.take k)).1 := hz.order h1
  have e2 : FloatKind.f32.format.order z rh = FloatKind.f32.format.order (cs.getD k 0) (RG (cs.take k)).2.1 := hz.order h2
  have hs : stepR (RG (cs.take k)) (cs.getD k 0) = (if !s || (FloatKind.f32.format.order z rl == some Ordering.lt) then cs.getD k 0 else (RG (cs.take k)).1, if !s || (FloatKind.f32.format.order z rh == some Ordering.gt) then cs.getD k 0 else (RG (cs.take k)).2.1, true) := by
    unfold stepR; rw [if_neg]
    · rw [e1, e2, h3]
    · rw [← hz.eq, isN_cn, hn]; simp
  unfold RGat
  rw [RG_step cs k hk, hs]
  refine ⟨?_, ?_, rfl⟩
  · split
    · exact hz
    · exact h1
  · split
    · exact hz
    · exact h2
theorem zeroF : Fl .f32 0 0 := ⟨by decide, by decide⟩
def RRat (cs : List Nat) (w : World) (e : Ending) (w' : World) : Prop := ∃ rl rh s, e = .returned (.tuple #[.float .f32 rl, .float .f32 rh, .bool s]) ∧ w = w' ∧ RGat cs cs.length rl rh s
def RFFB (c d : Nat) (ok : Bool) (w : World) (e : Ending) (w' : World) : Prop := ∃ r q, e = .returned (.tuple #[.float .f32 r, .float .f32 q, .bool ok]) ∧ Below w.heap.size w w' ∧ Fl .f32 r c ∧ Fl .f32 q d
end Go.FX
namespace Go.Proofs.Ythnidpmolafmaaa
open Go.FX Go.RowKit Go.WideShapes Go.ChangeShapes

end Go.Proofs.Ythnidpmolafmaaa
