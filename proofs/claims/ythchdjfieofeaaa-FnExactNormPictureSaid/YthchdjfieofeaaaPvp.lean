import Derived.Test.YthchdjfieofeaaaPvf
import Derived.Test.YthchdjfieofeaaaPva
set_option linter.unusedVariables false
set_option linter.unusedSimpArgs false
namespace Go.Proofs.Ythchdjfieofeaaa
open Go.FX Go.RowKit Go.WideShapes Go.ChangeShapes

theorem pairNormPicture (W H : Int) (cs : List Nat) :
    ∃ (W' H' : Int) (cs' : List Nat) (ok : Bool),
      (∀ a n c w, FC w (.slice a n c) cs → Calls Try.prog 18 #[.agg #[.int .i64 W, .int .i64 H, .slice a n c]] w (RPic 26 W' H' cs' ok w)) ∧
      (∀ a n c w, FC w (.slice a n c) cs → Calls Try.prog 19 #[.agg #[.int .i64 W, .int .i64 H, .slice a n c]] w (RPic 26 W' H' cs' ok w)) ∧ cs'.length ≤ 256 := by
  by_cases hC : validB W H cs.length = true → (RG cs).2.2 = false
  · exact ⟨0, 0, [], false, fun a n c w hv => specNormPicture_no W H a n c cs w hv hC, fun a n c w hv => implNormPicture_no W H a n c cs w hv hC, by simp⟩
  · obtain ⟨hval, hs⟩ : validB W H cs.length = true ∧ (RG cs).2.2 = true := by
      cases h1 : validB W H cs.length <;> cases h2 : (RG cs).2.2 <;> simp_all
    obtain ⟨wn, hn, rfl, rfl, b1, b2, b3, b4, b5, hl⟩ := validB_parts hval
    cases he : rgEq cs with
    | false => exact ⟨_, _, _, _, fun a n c w hv => specNormPicture_any wn hn a n c cs w hv b1 b2 b3 b4 b5 hl hs he, fun a n c w hv => implNormPicture_any wn hn a n c cs w hv b1 b2 b3 b4 b5 hl hs he, by rw [gridL_len]; exact b5⟩
    | true => exact ⟨_, _, _, _, fun a n c w hv => specNormPicture_flat wn hn a n c cs w hv b1 b2 b3 b4 b5 hl hs he, fun a n c w hv => implNormPicture_flat wn hn a n c cs w hv b1 b2 b3 b4 b5 hl hs he, by rw [gridL_len]; exact b5⟩
end Go.Proofs.Ythchdjfieofeaaa
