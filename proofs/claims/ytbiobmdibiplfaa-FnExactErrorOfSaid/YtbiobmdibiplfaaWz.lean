import Derived.Test.YtbiobmdibiplfaaLz
import Derived.Test.YtbiobmdibiplfaaVa
import Derived.Test.YtbiobmdibiplfaaRc
import Derived.Deep.DrawnRows
set_option linter.unusedVariables false
set_option linter.unusedSimpArgs false
namespace Go.Proofs.Ytbiobmdibiplfaa
open Go.FX Go.RowKit Go.WideShapes Go.ChangeShapes

theorem fiFl3 (k : Int) : Fl .f32 (fi k) (fi k) := ⟨fi_lt k, cn_of_not (fi_not k)⟩
theorem flZ : Fl .f32 0 0 := ⟨by decide, by decide⟩
def shareF (cs cs' : List Nat) (mc : Nat) : Nat := fop .quo .f32 (fi (cntN (unF cs cs' mc) cs.length : Nat)) (fi (cs.length : Nat))
theorem specSz_any {x c : Nat} (w : World) (hx : Fl .f32 x c) : Calls Try.prog 118 #[.float .f32 x] w (RF .f32 (sizeF c) w) := by
  have hl : le2 x 0 = le2 c 0 := by unfold le2; rw [hx.order flZ]
  cases t1 : le2 x 0 with
  | false =>
    have e : Hid (sizeF c = c) := Lib.hid (by unfold sizeF; rw [← hl, t1]; rfl)
    unfold le2 at t1
    go_enter Try.func118, Try.ntmps118
    go_wp2_with fail
    go_ret
    exact ⟨_, 0, rfl, by first | rfl | simp, by rw [e.out]; exact hx⟩
  | true =>
    have e : Hid (sizeF c = fop .sub .f32 0 c) := Lib.hid (by unfold sizeF; rw [← hl, t1]; rfl)
    have hx' := Lib.hid hx
    unfold le2 at t1
    clear hl hx
    go_enter Try.func118, Try.ntmps118
    go_wp2_with fail
    go_ret
    exact ⟨_, _, rfl, rfl, by rw [e.out]; exact flZ.flR hx'.out _⟩
end Go.Proofs.Ytbiobmdibiplfaa
