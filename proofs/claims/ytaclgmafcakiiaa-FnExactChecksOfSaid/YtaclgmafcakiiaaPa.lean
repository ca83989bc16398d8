import Derived.Test.YtaclgmafcakiiaaPd
set_option linter.unusedVariables false
set_option linter.unusedSimpArgs false
namespace Go.Proofs.Ytaclgmafcakiiaa
open Go.FX Go.RowKit Go.WideShapes Go.ChangeShapes

theorem sizeB_mk {W H : Nat} (b1 : 1 ≤ W) (b2 : W ≤ 24) (b3 : 1 ≤ H) (b4 : H ≤ 24) (b5 : H * W ≤ 256) : sizeB W H = true := by
  have := validB_mk (n := H * W) b1 b2 b3 b4 b5 rfl
  unfold validB at this
  simp only [Bool.and_eq_true] at this
  exact this.1

set_option maxHeartbeats 1000000 in
theorem drawFrom_any (W H : Int) (a : Option Addr) (n c : Nat) (hval : validB W H n = true) (hnc : n ≤ c) (hcm : c ≤ maxLen) (W' H' : Nat) (b1 : 1 ≤ W') (b2 : W' ≤ 24) (b3 : 1 ≤ H') (b4 : H' ≤ 24) (b5 : H' * W' ≤ 256)
    (g : Nat) (first cap : Array Value) (G : Int → Int → Nat) (w : World)
    (eg : ∀ args w, (callFunc g args).run Try.prog w = .ok (.enter g args) w) (hG : GreyFn Try.prog g first cap W' H' G w) :
    Calls Try.prog 82 #[.agg #[.int .i64 W, .int .i64 H, .slice a n c], .int .i64 W', .int .i64 H', .func (.func g) first cap] w (RPic 37 W' H' (gridL W' G (H' * W')) true w) := by
  have hs := sizeB_mk b1 b2 b3 b4 b5
  have h1 := fun w1 => validPic_any W H (.slice a n c) n w1 ⟨a, c, rfl, hnc, hcm⟩
  have h2 := fun w1 (hb : Below w.heap.size w w1) => draw_any W' H' b1 b2 b3 b4 b5 g first cap G w1 eg (hG.later hb)
  go_enter Try.func82, Try.ntmps82
  go_wp2_with (first
    | (go_at_call 92; refine (h1 _).mono ?_; rintro e w1 ⟨rfl, hb1⟩; rw [hval]; have hnv := (Nv.new _ _ _ _ _).below hb1; have l0 := hb1.size; simp only [World.size_alloc] at l0 hnv)
    | (go_at_call 77; refine (isSize_any _ _ _).mono ?_; rintro e w1 ⟨rfl, rfl⟩; rw [hs])
    | (go_at_call 49; refine (h2 _ ?hb).mono ?_; rotate_left; rintro e w2 ⟨a2, n2, c2, rfl, hb2, ho2⟩; obtain ⟨l1, q0, q1, q2, qf⟩ := hnv.below hb2))
  case hb => ((repeat' (first | (refine bel_set ?_ ?_ _) | (refine bel_al ?_ ?_ _) | exact Below.refl _ _ | assumption | (refine below_drewN ?_ _) | (refine Below.drew ?_) | (refine Below.trans ?_ (Below.mono hb1 ?_)))) <;> (first | omega | (simp; done) | (simp; omega)))
  refine bodyPost_ret (v := ?v) ?hr rfl ?post
  case hr => (simp [results, Try.results82, go_sem, q0, q1, q2, qf]; try rfl)
  case post =>
    refine ⟨_, _, _, rfl, ?_, ?_⟩
    · ((repeat' (first | (refine bel_set ?_ ?_ _) | (refine bel_al ?_ ?_ _) | exact Below.refl _ _ | assumption | (refine below_drewN ?_ _) | (refine Below.drew ?_) | (refine Below.trans ?_ (Below.mono hb2 ?_)) | (refine Below.trans ?_ (Below.mono hb1 ?_)))) <;> (first | omega | (simp; done) | (simp; omega)))
    · (refine OC.mono (base := ?bb) ?hh ?hl; (case hh => ((repeat' (first | (refine OC.set ?_ _ ?_) | (refine OC.alloc ?_ _) | exact ho2 | (refine OC.drewN ?_ _))) <;> (first | omega | (simp; done) | (simp; omega)))); (case hl => (first | omega | (simp; done) | (simp; omega))))
theorem drawFrom_no (W H : Int) (a : Option Addr) (n c : Nat) (hnc : n ≤ c) (hcm : c ≤ maxLen) (W' H' : Int) (hval : validB W H n = false ∨ sizeB W' H' = false)
    (f : Fn) (first cap : Array Value) (w : World) :
    Calls Try.prog 82 #[.agg #[.int .i64 W, .int .i64 H, .slice a n c], .int .i64 W', .int .i64 H', .func f first cap] w (RPic 37 0 0 [] false w) := by
  have h1 := fun w1 => validPic_any W H (.slice a n c) n w1 ⟨a, c, rfl, hnc, hcm⟩
  cases hv : validB W H n with
  | false =>
    go_enter Try.func82, Try.ntmps82
    go_wp2_with (first
      | (go_at_call 92; refine (h1 _).mono ?_; rintro e w1 ⟨rfl, hb1⟩; rw [hv]; obtain ⟨l1, q0, q1, q2, qf⟩ := (Nv.new _ _ _ _ _).below hb1; simp only [World.size_alloc] at l1 q0 q1 q2 qf))
    refine bodyPost_ret (v := ?v) ?hr rfl ?post
    case hr => (simp [results, Try.results82, go_sem, q0, q1, q2, qf]; try rfl)
    case post => exact ⟨_, _, _, rfl, by ((repeat' (first | (refine bel_set ?_ ?_ _) | (refine bel_al ?_ ?_ _) | exact Below.refl _ _ | assumption | (refine below_drewN ?_ _) | (refine Below.drew ?_) | (refine Below.trans ?_ (Below.mono hb1 ?_)))) <;> (first | omega | (simp; done) | (simp; omega))), OC.nil _ _ _⟩
  | true =>
    have hs : sizeB W' H' = false := by rcases hval with h | h; · rw [h] at hv; cases hv
                                        · exact h
    go_enter Try.func82, Try.ntmps82
    go_wp2_with (first
      | (go_at_call 92; refine (h1 _).mono ?_; rintro e w1 ⟨rfl, hb1⟩; rw [hv]; obtain ⟨l1, q0, q1, q2, qf⟩ := (Nv.new _ _ _ _ _).below hb1; simp only [World.size_alloc] at l1 q0 q1 q2 qf)
      | (go_at_call 77; refine (isSize_any _ _ _).mono ?_; rintro e w1 ⟨rfl, rfl⟩; rw [hs]))
    refine bodyPost_ret (v := ?v) ?hr rfl ?post
    case hr => (simp [results, Try.results82, go_sem, q0, q1, q2, qf]; try rfl)
    case post => exact ⟨_, _, _, rfl, by ((repeat' (first | (refine bel_set ?_ ?_ _) | (refine bel_al ?_ ?_ _) | exact Below.refl _ _ | assumption | (refine below_drewN ?_ _) | (refine Below.drew ?_) | (refine Below.trans ?_ (Below.mono hb1 ?_)))) <;> (first | omega | (simp; done) | (simp; omega))), OC.nil _ _ _⟩

end Go.Proofs.Ytaclgmafcakiiaa
