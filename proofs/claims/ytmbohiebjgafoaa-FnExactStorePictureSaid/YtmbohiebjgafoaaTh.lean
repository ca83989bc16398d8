import Derived.Test.YtmbohiebjgafoaaTg
set_option linter.unusedVariables false
set_option linter.unusedSimpArgs false
namespace Go.Proofs.Ytmbohiebjgafoaa
open Go.FX Go.RowKit Go.WideShapes Go.ChangeShapes

theorem implStore_no (W H : Int) (a : Option Addr) (n c : Nat) (w : World) (hnc : n ≤ c) (hcm : c ≤ maxLen) (hval : validB W H n = false) :
    Calls Try.prog 50 #[.agg #[.int .i64 W, .int .i64 H, .slice a n c]] w (RStr ⟨#[]⟩ false w) := by
  have h1 := fun w1 => validPic_any W H (.slice a n c) n w1 ⟨a, c, rfl, hnc, hcm⟩
  rw [hval] at h1
  go_enter Try.func50, Try.ntmps50
  go_wp2_with fail
  refine (h1 _).mono ?_
  rintro e w1 ⟨rfl, hb1⟩
  go_wp2_with fail
  refine bodyPost_ret (v := ?v) ?hr rfl ?post
  case hr => (simp [results, Try.results50, go_sem]; try rfl)
  case post => exact ⟨rfl, by ((repeat' (first | (refine bel_set ?_ ?_ _) | (refine bel_al ?_ ?_ _) | exact Below.refl _ _ | assumption | (refine below_drewN ?_ _) | (refine Below.drew ?_) | (refine Below.trans ?_ (Below.mono hb1 ?_)))) <;> (first | omega | (simp; done) | (simp; omega)))⟩
theorem specStoreP_no (W H : Int) (a : Option Addr) (n c : Nat) (w : World) (hnc : n ≤ c) (hcm : c ≤ maxLen) (hval : validB W H n = false) :
    Calls Try.prog 49 #[.agg #[.int .i64 W, .int .i64 H, .slice a n c]] w (RStr ⟨#[]⟩ false w) := by
  have h1 := fun w1 hp => specIs_any W H a n c w.heap.size w1 hp (by unfold maxLen at hcm; omega)
  rw [hval] at h1
  go_enter Try.func49, Try.ntmps49
  go_wp2_with fail
  refine (h1 _ (Pv.new _ _ _ _ _)).mono ?_
  rintro e w1 ⟨k1, rfl, rfl⟩
  go_wp2_with fail
  refine bodyPost_ret (v := ?v) ?hr rfl ?post
  case hr => (simp [results, Try.results49, go_sem]; try rfl)
  case post => exact ⟨rfl, by ((repeat' (first | (refine bel_set ?_ ?_ _) | (refine bel_al ?_ ?_ _) | exact Below.refl _ _ | assumption | (refine below_drewN ?_ _) | (refine Below.drew ?_))) <;> (first | omega | (simp; done) | (simp; omega)))⟩
theorem specStoreP_any (W H : Nat) (a : Option Addr) (n c : Nat) (cs : List Nat) (w : World) (hv : FC w (.slice a n c) cs) (b1 : 1 ≤ W) (b2 : W ≤ 24) (b3 : 1 ≤ H) (b4 : H ≤ 24) (b5 : H * W ≤ 256) (hl : cs.length = H * W) :
    Calls Try.prog 49 #[.agg #[.int .i64 W, .int .i64 H, .slice a n c]] w (RStr ⟨(storeTo W H cs cs.length).toArray⟩ true w) := by
  obtain ⟨rfl, hnc, hcm⟩ := hv.sized
  have h1 := fun w1 hp => specIs_any W H a cs.length c w.heap.size w1 hp (by unfold maxLen at hcm; omega)
  rw [validB_mk b1 b2 b3 b4 b5 hl] at h1
  have h2 := fun w1 hp hv => specStore_any W H a cs.length c w.heap.size cs w1 hp hv b1 b2 b3 b4 (by omega)
  clear hl
  go_enter Try.func49, Try.ntmps49
  go_wp2_with fail
  refine (h1 _ (Pv.new _ _ _ _ _)).mono ?_
  rintro e w1 ⟨k1, rfl, rfl⟩
  go_wp2_with fail
  refine (h2 _ ((Pv.new _ _ _ _ _).drewN _) ((hv.alloc _).drewN _)).mono ?_
  rintro e w1 ⟨rfl, hb1⟩
  go_wp2_with fail
  refine bodyPost_ret (v := ?v) ?hr rfl ?post
  case hr => (simp [results, Try.results49, go_sem]; try rfl)
  case post => exact ⟨rfl, by ((repeat' (first | (refine bel_set ?_ ?_ _) | (refine bel_al ?_ ?_ _) | exact Below.refl _ _ | assumption | (refine below_drewN ?_ _) | (refine Below.drew ?_) | (refine Below.trans ?_ (Below.mono hb1 ?_)))) <;> (first | omega | (simp; done) | (simp; omega)))⟩
theorem pairStorePicture (W H : Int) (cs : List Nat) :
    ∃ (s : ByteArray) (ok : Bool), (∀ a n c w, FC w (.slice a n c) cs → Calls Try.prog 49 #[.agg #[.int .i64 W, .int .i64 H, .slice a n c]] w (RStr s ok w)) ∧
      (∀ a n c w, FC w (.slice a n c) cs → Calls Try.prog 50 #[.agg #[.int .i64 W, .int .i64 H, .slice a n c]] w (RStr s ok w)) := by
  cases hval : validB W H cs.length with
  | true =>
    obtain ⟨wn, hn, rfl, rfl, b1, b2, b3, b4, b5, hl⟩ := validB_parts hval
    exact ⟨_, _, fun a n c w hv => specStoreP_any wn hn a n c cs w hv b1 b2 b3 b4 b5 hl, fun a n c w hv => implStore_any wn hn a n c cs w hv b1 b2 b3 b4 b5 hl⟩
  | false =>
    refine ⟨⟨#[]⟩, false, fun a n c w hv => ?_, fun a n c w hv => ?_⟩
    · obtain ⟨rfl, h1, h2⟩ := hv.sized
      exact specStoreP_no W H a _ c w h1 h2 hval
    · obtain ⟨rfl, h1, h2⟩ := hv.sized
      exact implStore_no W H a _ c w h1 h2 hval
end Go.Proofs.Ytmbohiebjgafoaa
