import Derived.Test.YtmbohiebjgafoaaPd
set_option linter.unusedVariables false
set_option linter.unusedSimpArgs false
namespace Go.Proofs.Ytmbohiebjgafoaa
open Go.FX Go.RowKit Go.WideShapes Go.ChangeShapes

theorem sizeB_mk {W H : Nat} (b1 : 1 ≤ W) (b2 : W ≤ 24) (b3 : 1 ≤ H) (b4 : H ≤ 24) (b5 : H * W ≤ 256) : sizeB W H = true := by
  have := validB_mk (n := H * W) b1 b2 b3 b4 b5 rfl
  unfold validB at this
  simp only [Bool.and_eq_true] at this
  exact this.1

set_option maxHeartbeats 1000000 in
theorem drawFrom_any (W H : Int) (a : Option Addr) (n c : Nat) (hval : validB W H n = true) (hnc : n ≤ c) (hcm : c ≤ maxLen) (W' H' : Nat) (b1 : 1 ≤ W') (b2 : W' ≤ 24) (b3 : 1 ≤ H') (b4 : H' ≤ 24) (b5 : H' * W' ≤ 256)
    (g : Nat) (first cap : Array Value) (G : Int → Int → Nat) (w : World)
    (eg : ∀ args w, (callFunc g args).run Try.prog w = .ok (.enter g args) w) (hG : GreyFn Try.prog g first cap W' H' G w) :
    Calls Try.prog 116 #[.agg #[.int .i64 W, .int .i64 H, .slice a n c], .int .i64 W', .int .i64 H', .func (.func g) first cap] w (RPic 22 W' H' (gridL W' G (H' * W')) true w) := by
  have hs := sizeB_mk b1 b2 b3 b4 b5
  have h1 := fun w1 => validPic_any W H (.slice a n c) n w1 ⟨a, c, rfl, hnc, hcm⟩
  have h2 := fun w1 (hb : Below w.heap.size w w1) => draw_any W' H' b1 b2 b3 b4 b5 g first cap G w1 eg (hG.later hb)
  go_enter Try.func116, Try.ntmps116
  go_wp2_with (first
    | (go_at_call 71; refine (h1 _).mono ?_; rintro e w1 ⟨rfl, hb1⟩; rw [hval]; have hnv := (Nv.new _ _ _ _ _).below hb1; have l0 := hb1.size; simp only [World.size_alloc] at l0 hnv)
    | (go_at_call 82; refine (isSize_any _ _ _).mono ?_; rintro e w1 ⟨rfl, rfl⟩; rw [hs])
    | (go_at_call 83; refine (h2 _ ?hb).mono ?_; rotate_left; rintro e w2 ⟨a2, n2, c2, rfl, hb2, ho2⟩; obtain ⟨l1, q0, q1, q2, qf⟩ := hnv.below hb2))
  case hb => ((repeat' (first | (refine bel_set ?_ ?_ _) | (refine bel_al ?_ ?_ _) | exact Below.refl _ _ | assumption | (refine below_drewN ?_ _) | (refine Below.drew ?_) | (refine Below.trans ?_ (Below.mono hb1 ?_)))) <;> (first | omega | (simp; done) | (simp; omega)))
  refine bodyPost_ret (v := ?v) ?hr rfl ?post
  case hr => (simp [results, Try.results116, go_sem, q0, q1, q2, qf]; try rfl)
  case post =>
    refine ⟨_, _, _, rfl, ?_, ?_⟩
    · ((repeat' (first | (refine bel_set ?_ ?_ _) | (refine bel_al ?_ ?_ _) | exact Below.refl _ _ | assumption | (refine below_drewN ?_ _) | (refine Below.drew ?_) | (refine Below.trans ?_ (Below.mono hb2 ?_)) | (refine Below.trans ?_ (Below.mono hb1 ?_)))) <;> (first | omega | (simp; done) | (simp; omega)))
    · (refine OC.mono (base := ?bb) ?hh ?hl; (case hh => ((repeat' (first | (refine OC.set ?_ _ ?_) | (refine OC.alloc ?_ _) | exact ho2 | (refine OC.drewN ?_ _))) <;> (first | omega | (simp; done) | (simp; omega)))); (case hl => (first | omega | (simp; done) | (simp; omega))))
theorem drawFrom_no (W H : Int) (a : Option Addr) (n c : Nat) (hnc : n ≤ c) (hcm : c ≤ maxLen) (W' H' : Int) (hval : validB W H n = false ∨ sizeB W' H' = false)
    (f : Fn) (first cap : Array Value) (w : World) :
    Calls Try.prog 116 #[.agg #[.int .i64 W, .int .i64 H, .slice a n c], .int .i64 W', .int .i64 H', .func f first cap] w (RPic 22 0 0 [] false w) := by
  have h1 := fun w1 => validPic_any W H (.slice a n c) n w1 ⟨a, c, rfl, hnc, hcm⟩
  cases hv : validB W H n with
  | false =>
    go_enter Try.func116, Try.ntmps116
    go_wp2_with (first
      | (go_at_call 71; refine (h1 _).mono ?_; rintro e w1 ⟨rfl, hb1⟩; rw [hv]; obtain ⟨l1, q0, q1, q2, qf⟩ := (Nv.new _ _ _ _ _).below hb1; simp only [World.size_alloc] at l1 q0 q1 q2 qf))
    refine bodyPost_ret (v := ?v) ?hr rfl ?post
    case hr => (simp [results, Try.results116, go_sem, q0, q1, q2, qf]; try rfl)
    case post => exact ⟨_, _, _, rfl, by ((repeat' (first | (refine bel_set ?_ ?_ _) | (refine bel_al ?_ ?_ _) | exact Below.refl _ _ | assumption | (refine below_drewN ?_ _) | (refine Below.drew ?_) | (refine Below.trans ?_ (Below.mono hb1 ?_)))) <;> (first | omega | (simp; done) | (simp; omega))), OC.nil _ _ _⟩
  | true =>
    have hs : sizeB W' H' = false := by rcases hval with h | h; · rw [h] at hv; cases hv
                                        · exact h
    go_enter Try.func116, Try.ntmps116
    go_wp2_with (first
      | (go_at_call 71; refine (h1 _).mono ?_; rintro e w1 ⟨rfl, hb1⟩; rw [hv]; obtain ⟨l1, q0, q1, q2, qf⟩ := (Nv.new _ _ _ _ _).below hb1; simp only [World.size_alloc] at l1 q0 q1 q2 qf)
      | (go_at_call 82; refine (isSize_any _ _ _).mono ?_; rintro e w1 ⟨rfl, rfl⟩; rw [hs]))
    refine bodyPost_ret (v := ?v) ?hr rfl ?post
    case hr => (simp [results, Try.results116, go_sem, q0, q1, q2, qf]; try rfl)
    case post => exact ⟨_, _, _, rfl, by ((repeat' (first | (refine bel_set ?_ ?_ _) | (refine bel_al ?_ ?_ _) | exact Below.refl _ _ | assumption | (refine below_drewN ?_ _) | (refine Below.drew ?_) | (refine Below.trans ?_ (Below.mono hb1 ?_)))) <;> (first | omega | (simp; done) | (simp; omega))), OC.nil _ _ _⟩

/-- A row of a picture. -/
theorem row_any (W H : Nat) (b off c : Nat) (y : Nat) (yi : Int) (hyi : yi = y) (w : World) (b1 : 1 ≤ W) (b2 : W ≤ 24) (b3 : H ≤ 24) (hy : y < H) (hc : H * W ≤ c) (hcm : c ≤ maxLen) :
    Calls Try.prog 92 #[.agg #[.int .i64 W, .int .i64 H, .slice (some ⟨b, off, none⟩) (H * W) c], .int .i64 yi] w
      fun e w' => e = .returned (.slice (some ⟨b, off + y * W, none⟩) W W) ∧ Below w.heap.size w w' := by
  subst hyi
  unfold maxLen at hcm
  have h1 : y * W + W ≤ H * W := by rw [← Nat.succ_mul]; exact Nat.mul_le_mul_right _ hy
  have h2 : (y : Int) * (W : Int) = ((y * W : Nat) : Int) := by rw [Int.natCast_mul]
  have h3 : y * W ≤ 24 * 24 := Nat.mul_le_mul (by omega) b2
  generalize y * W = yw at h1 h2 h3 ⊢
  generalize H * W = hw at h1 hc ⊢
  go_enter Try.func92, Try.ntmps92
  go_wp2
  go_ret
  exact ⟨by rw [Nat.add_sub_cancel_left]; rfl, below1 _ _⟩

set_option maxHeartbeats 1000000 in
/-- The grey about a place. -/
theorem about_any (W H : Nat) (v : Value) (cs : List Nat) (x y : Int) (w : World) (hv : FC w v cs) (b1 : 1 ≤ W) (b2 : W ≤ 24) (b3 : 1 ≤ H) (b4 : H ≤ 24) (hl : cs.length = H * W)
    (x1 : -1000 ≤ x) (x2 : x ≤ 1000) (y1 : -1000 ≤ y) (y2 : y ≤ 1000) :
    Calls Try.prog 118 #[.agg #[.int .i64 W, .int .i64 H, v], .int .i64 x, .int .i64 y] w (RFb .f32 (atC W H cs x y) w) := by
  obtain ⟨u, hu⟩ : ∃ u : Nat, nearI (W - 1) x = u := Int.eq_ofNat_of_zero_le (nearI_ge _ _ (by omega))
  obtain ⟨t, ht⟩ : ∃ t : Nat, nearI (H - 1) y = t := Int.eq_ofNat_of_zero_le (nearI_ge _ _ (by omega))
  have hul := nearI_le ((W : Int) - 1) x (by omega)
  have htl := nearI_le ((H : Int) - 1) y (by omega)
  rw [hu] at hul
  rw [ht] at htl
  have hat : atC W H cs x y = cs.getD (t * W + u) 0 := by
    unfold atC
    rw [hu, ht]
    congr 1
    rw [show (u : Int) + (W : Int) * (t : Int) = ((t * W + u : Nat) : Int) by push_cast; rw [Int.mul_comm, Int.add_comm]]; rfl
  have hlt : t * W + u < cs.length := by
    have h1 : t * W + W ≤ H * W := by rw [← Nat.succ_mul]; exact Nat.mul_le_mul_right _ (by omega)
    rw [hl]; omega
  obtain ⟨b, off, c, z, rfl, hnc, hcm, hb, hz, hcell⟩ := hv.cell hlt
  rw [← hat] at hz
  rw [hl] at hnc ⊢
  have hrow := fun w1 yi hyi => row_any W H b off c t yi hyi w1 b1 b2 b4 (by omega) hnc hcm
  have hcell' := fun w1 (hb1 : Below w.heap.size w w1) => ((bcell hb1).1 b (off + (t * W + u)) hb).trans hcell
  rw [← Nat.add_assoc] at hcell'
  have Hz := Lib.hid hz
  have hl0 := hb
  clear hz hat hcell hv hlt hl hnc hcm
  unfold nearI at hu ht
  have body : ∀ (idx : Nat), u = idx → (∀ w1, Below w.heap.size w w1 → w1.cell? ⟨b, off + t * W + idx, none⟩ = some (.float .f32 z)) := fun idx hi => hi ▸ hcell'
  clear hcell'
  generalize hal : t * W = al at hrow body
  clear hal
  by_cases cy1 : y < 0
  · rw [if_pos cy1] at ht
    obtain rfl : t = 0 := by omega
    clear ht
    by_cases cx1 : x < 0
    · rw [if_pos cx1] at hu
      have hc0 := body 0 (by omega)
      simp only [Nat.add_zero] at hc0
      have hc := Lib.hid hc0
      have hpos : 0 < W := b1
      clear body hu hc0
      go_enter Try.func118, Try.ntmps118
      go_wp2_with (go_at_call 92; refine (hrow _ _ (by first | rfl | omega)).mono ?_; rintro e w1 ⟨rfl, hb1⟩; obtain ⟨l1, q0, q1, q2, qf⟩ := (Nv.new _ _ _ _ _).below hb1; have hcl := hc.out w1 (by ((repeat' (first | (refine bel_set ?_ ?_ _) | (refine bel_al ?_ ?_ _) | exact Below.refl _ _ | assumption | (refine below_drewN ?_ _) | (refine Below.drew ?_) | (refine Below.trans ?_ (Below.mono hb1 ?_)))) <;> (first | omega | (simp; done) | (simp; omega)))))
      go_ret
      exact ⟨_, rfl, by ((repeat' (first | (refine bel_set ?_ ?_ _) | (refine bel_al ?_ ?_ _) | exact Below.refl _ _ | assumption | (refine below_drewN ?_ _) | (refine Below.drew ?_) | (refine Below.trans ?_ (Below.mono hb1 ?_)))) <;> (first | omega | (simp; done) | (simp; omega))), Hz.out⟩
    · rw [if_neg cx1] at hu
      by_cases cx2 : (W : Int) - 1 < x
      · rw [if_pos cx2] at hu
        have hc := Lib.hid (body (W - 1) (by omega))
        clear body hu
        go_enter Try.func118, Try.ntmps118
        go_wp2_with (go_at_call 92; refine (hrow _ _ (by first | rfl | omega)).mono ?_; rintro e w1 ⟨rfl, hb1⟩; obtain ⟨l1, q0, q1, q2, qf⟩ := (Nv.new _ _ _ _ _).below hb1; have hcl := hc.out w1 (by ((repeat' (first | (refine bel_set ?_ ?_ _) | (refine bel_al ?_ ?_ _) | exact Below.refl _ _ | assumption | (refine below_drewN ?_ _) | (refine Below.drew ?_) | (refine Below.trans ?_ (Below.mono hb1 ?_)))) <;> (first | omega | (simp; done) | (simp; omega)))))
        go_ret
        exact ⟨_, rfl, by ((repeat' (first | (refine bel_set ?_ ?_ _) | (refine bel_al ?_ ?_ _) | exact Below.refl _ _ | assumption | (refine below_drewN ?_ _) | (refine Below.drew ?_) | (refine Below.trans ?_ (Below.mono hb1 ?_)))) <;> (first | omega | (simp; done) | (simp; omega))), Hz.out⟩
      · rw [if_neg cx2] at hu
        obtain rfl : x = u := by omega
        have hc := Lib.hid (body u rfl)
        clear body hu
        go_enter Try.func118, Try.ntmps118
        go_wp2_with (go_at_call 92; refine (hrow _ _ (by first | rfl | omega)).mono ?_; rintro e w1 ⟨rfl, hb1⟩; obtain ⟨l1, q0, q1, q2, qf⟩ := (Nv.new _ _ _ _ _).below hb1; have hcl := hc.out w1 (by ((repeat' (first | (refine bel_set ?_ ?_ _) | (refine bel_al ?_ ?_ _) | exact Below.refl _ _ | assumption | (refine below_drewN ?_ _) | (refine Below.drew ?_) | (refine Below.trans ?_ (Below.mono hb1 ?_)))) <;> (first | omega | (simp; done) | (simp; omega)))))
        go_ret
        exact ⟨_, rfl, by ((repeat' (first | (refine bel_set ?_ ?_ _) | (refine bel_al ?_ ?_ _) | exact Below.refl _ _ | assumption | (refine below_drewN ?_ _) | (refine Below.drew ?_) | (refine Below.trans ?_ (Below.mono hb1 ?_)))) <;> (first | omega | (simp; done) | (simp; omega))), Hz.out⟩
  · rw [if_neg cy1] at ht
    by_cases cy2 : (H : Int) - 1 < y
    · rw [if_pos cy2] at ht
      have ht' := Lib.hid ht
      clear ht
      by_cases cx1 : x < 0
      · rw [if_pos cx1] at hu
        have hc0 := body 0 (by omega)
        simp only [Nat.add_zero] at hc0
        have hc := Lib.hid hc0
        have hpos : 0 < W := b1
        clear body hu hc0
        go_enter Try.func118, Try.ntmps118
        go_wp2_with (go_at_call 92; refine (hrow _ _ (by have := ht'.out; omega)).mono ?_; rintro e w1 ⟨rfl, hb1⟩; obtain ⟨l1, q0, q1, q2, qf⟩ := (Nv.new _ _ _ _ _).below hb1; have hcl := hc.out w1 (by ((repeat' (first | (refine bel_set ?_ ?_ _) | (refine bel_al ?_ ?_ _) | exact Below.refl _ _ | assumption | (refine below_drewN ?_ _) | (refine Below.drew ?_) | (refine Below.trans ?_ (Below.mono hb1 ?_)))) <;> (first | omega | (simp; done) | (simp; omega)))))
        go_ret
        exact ⟨_, rfl, by ((repeat' (first | (refine bel_set ?_ ?_ _) | (refine bel_al ?_ ?_ _) | exact Below.refl _ _ | assumption | (refine below_drewN ?_ _) | (refine Below.drew ?_) | (refine Below.trans ?_ (Below.mono hb1 ?_)))) <;> (first | omega | (simp; done) | (simp; omega))), Hz.out⟩
      · rw [if_neg cx1] at hu
        by_cases cx2 : (W : Int) - 1 < x
        · rw [if_pos cx2] at hu
          have hc := Lib.hid (body (W - 1) (by omega))
          clear body hu
          go_enter Try.func118, Try.ntmps118
          go_wp2_with (go_at_call 92; refine (hrow _ _ (by have := ht'.out; omega)).mono ?_; rintro e w1 ⟨rfl, hb1⟩; obtain ⟨l1, q0, q1, q2, qf⟩ := (Nv.new _ _ _ _ _).below hb1; have hcl := hc.out w1 (by ((repeat' (first | (refine bel_set ?_ ?_ _) | (refine bel_al ?_ ?_ _) | exact Below.refl _ _ | assumption | (refine below_drewN ?_ _) | (refine Below.drew ?_) | (refine Below.trans ?_ (Below.mono hb1 ?_)))) <;> (first | omega | (simp; done) | (simp; omega)))))
          go_ret
          exact ⟨_, rfl, by ((repeat' (first | (refine bel_set ?_ ?_ _) | (refine bel_al ?_ ?_ _) | exact Below.refl _ _ | assumption | (refine below_drewN ?_ _) | (refine Below.drew ?_) | (refine Below.trans ?_ (Below.mono hb1 ?_)))) <;> (first | omega | (simp; done) | (simp; omega))), Hz.out⟩
        · rw [if_neg cx2] at hu
          obtain rfl : x = u := by omega
          have hc := Lib.hid (body u rfl)
          clear body hu
          go_enter Try.func118, Try.ntmps118
          go_wp2_with (go_at_call 92; refine (hrow _ _ (by have := ht'.out; omega)).mono ?_; rintro e w1 ⟨rfl, hb1⟩; obtain ⟨l1, q0, q1, q2, qf⟩ := (Nv.new _ _ _ _ _).below hb1; have hcl := hc.out w1 (by ((repeat' (first | (refine bel_set ?_ ?_ _) | (refine bel_al ?_ ?_ _) | exact Below.refl _ _ | assumption | (refine below_drewN ?_ _) | (refine Below.drew ?_) | (refine Below.trans ?_ (Below.mono hb1 ?_)))) <;> (first | omega | (simp; done) | (simp; omega)))))
          go_ret
          exact ⟨_, rfl, by ((repeat' (first | (refine bel_set ?_ ?_ _) | (refine bel_al ?_ ?_ _) | exact Below.refl _ _ | assumption | (refine below_drewN ?_ _) | (refine Below.drew ?_) | (refine Below.trans ?_ (Below.mono hb1 ?_)))) <;> (first | omega | (simp; done) | (simp; omega))), Hz.out⟩
    · rw [if_neg cy2] at ht
      have ht' := Lib.hid ht
      clear ht
      by_cases cx1 : x < 0
      · rw [if_pos cx1] at hu
        have hc0 := body 0 (by omega)
        simp only [Nat.add_zero] at hc0
        have hc := Lib.hid hc0
        have hpos : 0 < W := b1
        clear body hu hc0
        go_enter Try.func118, Try.ntmps118
        go_wp2_with (go_at_call 92; refine (hrow _ _ (by have := ht'.out; omega)).mono ?_; rintro e w1 ⟨rfl, hb1⟩; obtain ⟨l1, q0, q1, q2, qf⟩ := (Nv.new _ _ _ _ _).below hb1; have hcl := hc.out w1 (by ((repeat' (first | (refine bel_set ?_ ?_ _) | (refine bel_al ?_ ?_ _) | exact Below.refl _ _ | assumption | (refine below_drewN ?_ _) | (refine Below.drew ?_) | (refine Below.trans ?_ (Below.mono hb1 ?_)))) <;> (first | omega | (simp; done) | (simp; omega)))))
        go_ret
        exact ⟨_, rfl, by ((repeat' (first | (refine bel_set ?_ ?_ _) | (refine bel_al ?_ ?_ _) | exact Below.refl _ _ | assumption | (refine below_drewN ?_ _) | (refine Below.drew ?_) | (refine Below.trans ?_ (Below.mono hb1 ?_)))) <;> (first | omega | (simp; done) | (simp; omega))), Hz.out⟩
      · rw [if_neg cx1] at hu
        by_cases cx2 : (W : Int) - 1 < x
        · rw [if_pos cx2] at hu
          have hc := Lib.hid (body (W - 1) (by omega))
          clear body hu
          go_enter Try.func118, Try.ntmps118
          go_wp2_with (go_at_call 92; refine (hrow _ _ (by have := ht'.out; omega)).mono ?_; rintro e w1 ⟨rfl, hb1⟩; obtain ⟨l1, q0, q1, q2, qf⟩ := (Nv.new _ _ _ _ _).below hb1; have hcl := hc.out w1 (by ((repeat' (first | (refine bel_set ?_ ?_ _) | (refine bel_al ?_ ?_ _) | exact Below.refl _ _ | assumption | (refine below_drewN ?_ _) | (refine Below.drew ?_) | (refine Below.trans ?_ (Below.mono hb1 ?_)))) <;> (first | omega | (simp; done) | (simp; omega)))))
          go_ret
          exact ⟨_, rfl, by ((repeat' (first | (refine bel_set ?_ ?_ _) | (refine bel_al ?_ ?_ _) | exact Below.refl _ _ | assumption | (refine below_drewN ?_ _) | (refine Below.drew ?_) | (refine Below.trans ?_ (Below.mono hb1 ?_)))) <;> (first | omega | (simp; done) | (simp; omega))), Hz.out⟩
        · rw [if_neg cx2] at hu
          obtain rfl : x = u := by omega
          have hc := Lib.hid (body u rfl)
          clear body hu
          go_enter Try.func118, Try.ntmps118
          go_wp2_with (go_at_call 92; refine (hrow _ _ (by have := ht'.out; omega)).mono ?_; rintro e w1 ⟨rfl, hb1⟩; obtain ⟨l1, q0, q1, q2, qf⟩ := (Nv.new _ _ _ _ _).below hb1; have hcl := hc.out w1 (by ((repeat' (first | (refine bel_set ?_ ?_ _) | (refine bel_al ?_ ?_ _) | exact Below.refl _ _ | assumption | (refine below_drewN ?_ _) | (refine Below.drew ?_) | (refine Below.trans ?_ (Below.mono hb1 ?_)))) <;> (first | omega | (simp; done) | (simp; omega)))))
          go_ret
          exact ⟨_, rfl, by ((repeat' (first | (refine bel_set ?_ ?_ _) | (refine bel_al ?_ ?_ _) | exact Below.refl _ _ | assumption | (refine below_drewN ?_ _) | (refine Below.drew ?_) | (refine Below.trans ?_ (Below.mono hb1 ?_)))) <;> (first | omega | (simp; done) | (simp; omega))), Hz.out⟩

end Go.Proofs.Ytmbohiebjgafoaa
