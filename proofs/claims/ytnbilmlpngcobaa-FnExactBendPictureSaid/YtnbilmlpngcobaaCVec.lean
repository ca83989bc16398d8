import Derived.Test.YtnbilmlpngcobaaBase
import Derived.Test.YtnbilmlpngcobaaHeld
set_option linter.unusedVariables false
set_option linter.unusedSimpArgs false
namespace Go.Proofs.Ytnbilmlpngcobaa
open Go.FX Go.RowKit

theorem toVector_any (x y z : Nat) (w : World) : Calls Try.prog 57 #[.agg #[.float .f32 x, .float .f32 y, .float .f32 z]] w fun e w' => e = .returned (.agg #[.float .f32 x, .float .f32 y, .float .f32 z]) ∧ Below w.heap.size w w' := by
  go_enter Try.func57, Try.ntmps57
  go_wp2
  refine bodyPost_ret (v := ?v) ?hr rfl ?post
  case hr => (simp [results, Try.results57, go_sem]; rfl)
  case post => exact ⟨rfl, below3 _ _ _ _⟩

theorem eqVector_any {ax ay az bx by_ bz c0 c1 c2 : Nat} (w : World) (h1 : Fl .f32 ax c0) (h2 : Fl .f32 ay c1) (h3 : Fl .f32 az c2) (g1 : Fl .f32 bx c0) (g2 : Fl .f32 by_ c1) (g3 : Fl .f32 bz c2) : Calls Try.prog 99 #[.agg #[.float .f32 ax, .float .f32 ay, .float .f32 az], .agg #[.float .f32 bx, .float .f32 by_, .float .f32 bz]] w (RBb true w) := by
  go_enter Try.func99, Try.ntmps99
  go_wp2_with (go_at_call 52; ((with_reducible refine (sameFloat_any (c := FX.wide c0) (h1.wide _) (g1.wide _) _).mono ?_); rintro e w' ⟨n1, rfl, rfl⟩))
  go_wp2_with (go_at_call 52; ((with_reducible refine (sameFloat_any (c := FX.wide c1) (h2.wide _) (g2.wide _) _).mono ?_); rintro e w' ⟨n2, rfl, rfl⟩))
  go_wp2_with (go_at_call 52; ((with_reducible refine (sameFloat_any (c := FX.wide c2) (h3.wide _) (g3.wide _) _).mono ?_); rintro e w' ⟨n3, rfl, rfl⟩))
  go_ret
  exact ⟨rfl, below_drewN (below2 _ _ _) _⟩













theorem implInnerOf_any {ax ay az cax cay caz : Nat} {bx by_ bz cbx cby cbz : Nat} (w : World) (h1 : Fl .f32 ax cax) (h2 : Fl .f32 ay cay) (h3 : Fl .f32 az caz) (g1 : Fl .f32 bx cbx) (g2 : Fl .f32 by_ cby) (g3 : Fl .f32 bz cbz) :
    Calls Try.prog 151 #[.agg #[.float .f32 ax, .float .f32 ay, .float .f32 az], .agg #[.float .f32 bx, .float .f32 by_, .float .f32 bz]] w (RFb .f32 (fop .add .f32 (fop .add .f32 (fop .mul .f32 cax cbx) (fop .mul .f32 cay cby)) (fop .mul .f32 caz cbz)) w) := by
  go_enter Try.func151, Try.ntmps151
  go_wp2
  go_ret
  exact ⟨_, rfl, below_drewN (below2 _ _ _) _, ((h1.flR g1 _).flR (h2.flR g2 _) _).flR (h3.flR g3 _) _⟩

end Go.Proofs.Ytnbilmlpngcobaa
