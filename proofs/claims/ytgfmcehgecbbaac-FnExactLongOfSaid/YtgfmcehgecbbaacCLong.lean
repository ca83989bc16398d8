import Derived.Test.YtgfmcehgecbbaacCVec
import Derived.Test.YtgfmcehgecbbaacCRoot
set_option linter.unusedVariables false
set_option linter.unusedSimpArgs false
namespace Go.Proofs.Ytgfmcehgecbbaac
open Go.FX Go.RowKit

def longF (cx cy cz : Nat) : Nat := rootF (fop .add .f32 (fop .add .f32 (fop .mul .f32 cx cx) (fop .mul .f32 cy cy)) (fop .mul .f32 cz cz))
theorem implLong_any {ax ay az cax cay caz : Nat} (w : World) (h1 : Fl .f32 ax cax) (h2 : Fl .f32 ay cay) (h3 : Fl .f32 az caz) :
    Calls Try.prog 27 #[.agg #[.float .f32 ax, .float .f32 ay, .float .f32 az]] w (RFb .f32 (longF cax cay caz) w) := by
  go_enter Try.func27, Try.ntmps27
  go_wp2_with (first | (go_at_call 22; refine (implInnerOf_any _ h1 h2 h3 h1 h2 h3).mono ?_; rintro e w' ⟨r, rfl, hb, hr⟩) | (go_at_call 45; refine (implRoot_any _ hr).mono ?_; rintro e w' ⟨r2, n2, rfl, rfl, hr2⟩))
  go_ret
  exact ⟨_, rfl, below_drewN ((below1 _ _).trans (hb.mono (by simp))) _, hr2⟩
theorem l01Long_any {ax ay az cax cay caz : Nat} (w : World) (h1 : Fl .f32 ax cax) (h2 : Fl .f32 ay cay) (h3 : Fl .f32 az caz) :
    Calls Try.prog 44 #[.agg #[.float .f32 ax, .float .f32 ay, .float .f32 az]] w (RFb .f32 (longF cax cay caz) w) := by
  go_enter Try.func44, Try.ntmps44
  go_wp2_with (first | (go_at_call 42; refine (l01Inner_any _ h1 h2 h3 h1 h2 h3).mono ?_; rintro e w' ⟨r, rfl, hb, hr⟩) | (go_at_call 53; refine (l01Sqrt_any _ hr).mono ?_; rintro e w' ⟨r2, n2, rfl, rfl, hr2⟩))
  go_ret
  exact ⟨_, rfl, below_drewN ((below1 _ _).trans (hb.mono (by simp))) _, hr2⟩
theorem specLong_any {ax ay az cax cay caz : Nat} (w : World) (h1 : Fl .f32 ax cax) (h2 : Fl .f32 ay cay) (h3 : Fl .f32 az caz) :
    Calls Try.prog 26 #[.agg #[.float .f32 ax, .float .f32 ay, .float .f32 az]] w (RFb .f32 (longF cax cay caz) w) := by
  go_enter Try.func26, Try.ntmps26
  go_wp2_with (go_at_call 44; refine (l01Long_any _ h1 h2 h3).mono ?_; rintro e w' ⟨r, rfl, hb, hr⟩)
  go_ret
  exact ⟨_, rfl, (below1 _ _).trans (hb.mono (by simp)), hr⟩
end Go.Proofs.Ytgfmcehgecbbaac
