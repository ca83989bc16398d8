import Derived.Test.YtbiobmdibiplfaaVa
set_option linter.unusedVariables false
set_option linter.unusedSimpArgs false
namespace Go.Proofs.Ytbiobmdibiplfaa
open Go.FX Go.RowKit Go.WideShapes Go.ChangeShapes

def alikeB (W H D : Int) (n : Nat) (W' H' D' : Int) (n' : Nat) : Bool := volB W H D n && (volB W' H' D' n' && (decide (W = W') && (decide (H = H') && decide (D = D'))))
theorem alikeB_self {W H D : Nat} {n n' : Nat} (h : volB W H D n = true) (h' : volB W H D n' = true) : alikeB W H D n W H D n' = true := by simp [alikeB, h, h']
theorem hasSize_any (W H D : Int) (a : Option Addr) (n c : Nat) (W' H' D' : Int) (a' : Option Addr) (n' c' : Nat) (w : World) :
    Calls Try.prog 66 #[.agg #[.int .i64 W, .int .i64 H, .int .i64 D, .slice a n c], .agg #[.int .i64 W', .int .i64 H', .int .i64 D', .slice a' n' c']] w (RBb (decide (W = W') && (decide (H = H') && decide (D = D'))) w) := by
  by_cases e1 : W = W'
  · subst e1
    by_cases e2 : H = H'
    · subst e2
      by_cases e3 : D = D'
      · subst e3
        go_enter Try.func66, Try.ntmps66
        go_wp2_with fail
        go_ret
        exact ⟨by simp, below2 _ _ _⟩
      · have f1 : (D == D') = false := by simpa using e3
        have f2 : decide (D = D') = false := by simpa using e3
        have ee := Lib.hid e3
        clear e3
        go_enter Try.func66, Try.ntmps66
        go_wp2_with fail
        go_ret
        exact ⟨by simp [f2], below2 _ _ _⟩
    · have f1 : (H == H') = false := by simpa using e2
      have f2 : decide (H = H') = false := by simpa using e2
      have ee := Lib.hid e2
      clear e2
      go_enter Try.func66, Try.ntmps66
      go_wp2_with fail
      go_ret
      exact ⟨by simp [f2], below2 _ _ _⟩
  · have f1 : (W == W') = false := by simpa using e1
    have f2 : decide (W = W') = false := by simpa using e1
    have ee := Lib.hid e1
    clear e1
    go_enter Try.func66, Try.ntmps66
    go_wp2_with fail
    go_ret
    exact ⟨by simp [f2], below2 _ _ _⟩

end Go.Proofs.Ytbiobmdibiplfaa
