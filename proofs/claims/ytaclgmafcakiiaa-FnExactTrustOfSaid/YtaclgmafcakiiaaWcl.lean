import Derived.Test.YtaclgmafcakiiaaWj
import Derived.Test.YtaclgmafcakiiaaWa
set_option linter.unusedVariables false
set_option linter.unusedSimpArgs false
namespace Go.FX
open Go Go.RowKit
def infW : Nat := 2139095040
theorem flInf : Fl .f32 2139095040 2139095040 := ⟨by decide, by decide⟩
/-- The least cost of a row, or the infinity. -/
def leastV (row : List Nat) : Nat := if winI row (fun _ => true) < 0 then 2139095040 else row.getD (winI row fun _ => true).toNat 0
theorem leastV_neg {row : List Nat} (h : winI row (fun _ => true) < 0) : leastV row = 2139095040 := if_pos h
theorem leastV_pos {row : List Nat} {d : Nat} (h : winI row (fun _ => true) = d) : leastV row = row.getD d 0 := by
  unfold leastV
  rw [h, if_neg (by omega), Int.toNat_natCast]
end Go.FX
namespace Go.Proofs.Ytaclgmafcakiiaa
open Go.FX Go.RowKit Go.WideShapes Go.ChangeShapes
attribute [local go_sem ↓] Go.wp_at_zero Go.wp_at_succ

theorem implInf_any (w : World) : Calls Try.prog 58 #[] w (RF .f32 2139095040 w) := by
  go_enter Try.func58, Try.ntmps58
  go_wp2
  go_ret
  exact ⟨_, _, rfl, by first | rfl | exact (World.drewN_zero _).symm, by first | exact flInf | exact Fl.flR flInf flInf _⟩
theorem specInf_any (w : World) : Calls Try.prog 30 #[] w (RF .f32 2139095040 w) := by
  go_enter Try.func30, Try.ntmps30
  go_wp2
  go_ret
  exact ⟨_, _, rfl, by first | rfl | exact (World.drewN_zero _).symm, by first | exact flInf | exact Fl.flR flInf flInf _⟩
set_option maxHeartbeats 2000000 in
theorem leastFn_any (D : Nat) (w : World) : TellFn Try.prog 59 #[] #[] D leastV w := by
  intro w1 v row hb hv hl
  have hlt := winI_lt row (fun _ => true)
  obtain ⟨a, c, rfl, hnc, hcm⟩ := hv.shape
  unfold maxLen at hcm
  show Calls Try.prog 59 #[.slice a row.length c, .int .i64 (winI row fun _ => true)] w1 (RFb .f32 (leastV row) w1)
  by_cases hn : winI row (fun _ => true) < 0
  · have hV := Lib.hid (leastV_neg hn)
    generalize winI row (fun _ => true) = B at hn hlt ⊢
    clear hv hl
    generalize row.length = n at *
    go_enter Try.func59, Try.ntmps59
    go_wp2_with fail
    refine (implInf_any _).mono ?_
    rintro e w2 ⟨r, m, rfl, rfl, hr⟩
    go_wp2_with fail
    go_ret
    exact ⟨_, rfl, by ((repeat' (first | (refine bel_set ?_ ?_ _) | (refine bel_al ?_ ?_ _) | exact Below.refl _ _ | assumption | (refine below_drewN ?_ _) | (refine Below.drew ?_))) <;> (first | omega | (simp; done) | (simp; omega))), by rw [hV.out]; exact hr⟩
  · obtain ⟨d, hd⟩ := Int.eq_ofNat_of_zero_le (a := winI row fun _ => true) (by omega)
    have hV := Lib.hid (leastV_pos hd)
    have hd2 : d < row.length := by have := hlt.2; omega
    rw [hd]
    obtain ⟨bb, off, cc, z, ev, _, _, _, hz, hc⟩ := hv.cell hd2
    obtain rfl : a = some ⟨bb, off, none⟩ := (Value.slice.inj ev).1
    have hz' := Lib.hid hz
    clear ev hn hd hlt hv hl hz
    generalize row.length = n at *
    go_enter Try.func59, Try.ntmps59
    go_wp2_with fail
    go_ret
    exact ⟨_, rfl, by ((repeat' (first | (refine bel_set ?_ ?_ _) | (refine bel_al ?_ ?_ _) | exact Below.refl _ _ | assumption | (refine below_drewN ?_ _) | (refine Below.drew ?_))) <;> (first | omega | (simp; done) | (simp; omega))), by rw [hV.out]; exact hz'.out⟩
end Go.Proofs.Ytaclgmafcakiiaa
