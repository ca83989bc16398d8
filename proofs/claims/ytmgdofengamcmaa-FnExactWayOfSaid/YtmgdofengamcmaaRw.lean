import Derived.Test.YtmgdofengamcmaaRq
set_option linter.unusedVariables false
set_option linter.unusedSimpArgs false
namespace Go.Proofs.Ytmgdofengamcmaa
open Go.FX Go.RowKit Go.WideShapes Go.ChangeShapes

set_option maxRecDepth 100000 in
theorem onSteps_any (x y : Int) (w : World) : Calls Try.prog 130 #[.agg #[.int .i64 x, .int .i64 y]] w fun e w' => e = .returned (.tuple #[.int .i64 x, .int .i64 y]) ∧ Below w.heap.size w w' := by
  go_enter Try.func130, Try.ntmps130
  go_wp2_with fail
  go_quiet (fail)
  go_wp2_with fail
  go_ret2
  exact ⟨rfl, by ((repeat' (first | (refine bel_set ?_ ?_ _) | (refine bel_al ?_ ?_ _) | exact Below.refl _ _ | assumption | (refine below_drewN ?_ _) | (refine Below.drew ?_))) <;> (first | omega | (simp; done) | (simp; omega)))⟩
set_option maxRecDepth 100000 in
set_option maxHeartbeats 1000000 in
theorem along0 (w : World) : Calls Try.prog 63 #[.int .i64 0] w fun e w' => e = .returned (.tuple #[.iface 113 (.agg #[.int .i64 1, .int .i64 0]), .bool true]) ∧ Below w.heap.size w w' := by
  have hix : ∀ w, (Instr.index 114 (.agg #[.int .i64 1, .int .i64 0, .int .i64 0, .int .i64 1, .int .i64 1, .int .i64 1, .int .i64 (-1), .int .i64 1]) (.int .i64 0)).run Try.prog w = .ok (.agg #[.int .i64 1, .int .i64 0]) w := fun _ => by kernel_rfl
  go_enter Try.func63, Try.ntmps63
  go_wp2_with fail
  refine (isIndex_any _ _ _).mono ?_
  rintro e w' ⟨rfl, rfl⟩
  rw [show idxB 0 8 = true from rfl]
  go_wp2_with fail
  go_ret2
  exact ⟨rfl, by ((repeat' (first | (refine bel_set ?_ ?_ _) | (refine bel_al ?_ ?_ _) | exact Below.refl _ _ | assumption | (refine below_drewN ?_ _) | (refine Below.drew ?_))) <;> (first | omega | (simp; done) | (simp; omega)))⟩
set_option maxRecDepth 100000 in
set_option maxHeartbeats 1000000 in
theorem implWayOf0 (w : World) : Calls Try.prog 22 #[.int .i64 0] w fun e w' => e = .returned (.tuple #[.int .i64 1, .int .i64 0, .bool true]) ∧ Below w.heap.size w w' := by
  have hm : ∀ w, (method 247 113 (.agg #[.int .i64 1, .int .i64 0]) "loop.example/g01223/impl.steps").run Try.prog w = .ok (130, .agg #[.int .i64 1, .int .i64 0]) w := fun _ => by kernel_rfl
  go_enter Try.func22, Try.ntmps22
  go_wp2_with fail
  refine (along0 _).mono ?_
  rintro e w1 ⟨rfl, hb1⟩
  have s1 := hb1.size
  go_wp2_with fail
  refine (onSteps_any _ _ _).mono ?_
  rintro e w2 ⟨rfl, hb2⟩
  go_wp2_with fail
  refine bodyPost_ret (v := ?v) ?hr rfl ?post
  case hr => (simp [results, Try.results22, go_sem]; try rfl)
  case post => exact ⟨rfl, by ((repeat' (first | (refine bel_set ?_ ?_ _) | (refine bel_al ?_ ?_ _) | exact Below.refl _ _ | assumption | (refine below_drewN ?_ _) | (refine Below.drew ?_) | (refine Below.trans ?_ (Below.mono hb2 ?_)) | (refine Below.trans ?_ (Below.mono hb1 ?_)))) <;> (first | omega | (simp; done) | (simp; omega)))⟩
theorem specWayOf0 (w : World) : Calls Try.prog 21 #[.int .i64 0] w fun e w' => e = .returned (.tuple #[.int .i64 1, .int .i64 0, .bool true]) ∧ Below w.heap.size w w' := by
  go_enter Try.func21, Try.ntmps21
  go_wp2
  refine bodyPost_ret (v := ?v) ?hr rfl ?post
  case hr => (simp [results, Try.results21, go_sem]; try rfl)
  case post => exact ⟨rfl, by ((repeat' (first | (refine bel_set ?_ ?_ _) | (refine bel_al ?_ ?_ _) | exact Below.refl _ _ | assumption | (refine below_drewN ?_ _) | (refine Below.drew ?_))) <;> (first | omega | (simp; done) | (simp; omega)))⟩
set_option maxRecDepth 100000 in
set_option maxHeartbeats 1000000 in
theorem along1 (w : World) : Calls Try.prog 63 #[.int .i64 1] w fun e w' => e = .returned (.tuple #[.iface 116 (.agg #[.iface 113 (.agg #[.int .i64 1, .int .i64 0])]), .bool true]) ∧ Below w.heap.size w w' := by
  have hix : ∀ w, (Instr.index 114 (.agg #[.int .i64 1, .int .i64 0, .int .i64 0, .int .i64 1, .int .i64 1, .int .i64 1, .int .i64 (-1), .int .i64 1]) (.int .i64 0)).run Try.prog w = .ok (.agg #[.int .i64 1, .int .i64 0]) w := fun _ => by kernel_rfl
  go_enter Try.func63, Try.ntmps63
  go_wp2_with fail
  refine (isIndex_any _ _ _).mono ?_
  rintro e w' ⟨rfl, rfl⟩
  rw [show idxB 1 8 = true from rfl]
  go_wp2_with fail
  go_ret2
  exact ⟨rfl, by ((repeat' (first | (refine bel_set ?_ ?_ _) | (refine bel_al ?_ ?_ _) | exact Below.refl _ _ | assumption | (refine below_drewN ?_ _) | (refine Below.drew ?_))) <;> (first | omega | (simp; done) | (simp; omega)))⟩
set_option maxRecDepth 100000 in
set_option maxHeartbeats 1000000 in
theorem backSteps1 (w : World) : Calls Try.prog 132 #[.agg #[.iface 113 (.agg #[.int .i64 1, .int .i64 0])]] w fun e w' => e = .returned (.tuple #[.int .i64 (-1), .int .i64 0]) ∧ Below w.heap.size w w' := by
  have hm : ∀ w, (method 247 113 (.agg #[.int .i64 1, .int .i64 0]) "loop.example/g01223/impl.steps").run Try.prog w = .ok (130, .agg #[.int .i64 1, .int .i64 0]) w := fun _ => by kernel_rfl
  go_enter Try.func132, Try.ntmps132
  go_wp2_with (go_at_call 130; refine (onSteps_any _ _ _).mono ?_; rintro e w1 ⟨rfl, hb1⟩)
  go_ret2
  exact ⟨rfl, by ((repeat' (first | (refine bel_set ?_ ?_ _) | (refine bel_al ?_ ?_ _) | exact Below.refl _ _ | assumption | (refine below_drewN ?_ _) | (refine Below.drew ?_) | (refine Below.trans ?_ (Below.mono hb1 ?_)))) <;> (first | omega | (simp; done) | (simp; omega)))⟩
set_option maxRecDepth 100000 in
set_option maxHeartbeats 1000000 in
theorem implWayOf1 (w : World) : Calls Try.prog 22 #[.int .i64 1] w fun e w' => e = .returned (.tuple #[.int .i64 (-1), .int .i64 0, .bool true]) ∧ Below w.heap.size w w' := by
  have hm : ∀ w, (method 247 116 (.agg #[.iface 113 (.agg #[.int .i64 1, .int .i64 0])]) "loop.example/g01223/impl.steps").run Try.prog w = .ok (132, .agg #[.iface 113 (.agg #[.int .i64 1, .int .i64 0])]) w := fun _ => by kernel_rfl
  go_enter Try.func22, Try.ntmps22
  go_wp2_with fail
  refine (along1 _).mono ?_
  rintro e w1 ⟨rfl, hb1⟩
  have s1 := hb1.size
  go_wp2_with fail
  refine (backSteps1 _).mono ?_
  rintro e w2 ⟨rfl, hb2⟩
  go_wp2_with fail
  refine bodyPost_ret (v := ?v) ?hr rfl ?post
  case hr => (simp [results, Try.results22, go_sem]; try rfl)
  case post => exact ⟨rfl, by ((repeat' (first | (refine bel_set ?_ ?_ _) | (refine bel_al ?_ ?_ _) | exact Below.refl _ _ | assumption | (refine below_drewN ?_ _) | (refine Below.drew ?_) | (refine Below.trans ?_ (Below.mono hb2 ?_)) | (refine Below.trans ?_ (Below.mono hb1 ?_)))) <;> (first | omega | (simp; done) | (simp; omega)))⟩
theorem specWayOf1 (w : World) : Calls Try.prog 21 #[.int .i64 1] w fun e w' => e = .returned (.tuple #[.int .i64 (-1), .int .i64 0, .bool true]) ∧ Below w.heap.size w w' := by
  go_enter Try.func21, Try.ntmps21
  go_wp2
  refine bodyPost_ret (v := ?v) ?hr rfl ?post
  case hr => (simp [results, Try.results21, go_sem]; try rfl)
  case post => exact ⟨rfl, by ((repeat' (first | (refine bel_set ?_ ?_ _) | (refine bel_al ?_ ?_ _) | exact Below.refl _ _ | assumption | (refine below_drewN ?_ _) | (refine Below.drew ?_))) <;> (first | omega | (simp; done) | (simp; omega)))⟩
set_option maxRecDepth 100000 in
set_option maxHeartbeats 1000000 in
theorem along2 (w : World) : Calls Try.prog 63 #[.int .i64 2] w fun e w' => e = .returned (.tuple #[.iface 113 (.agg #[.int .i64 0, .int .i64 1]), .bool true]) ∧ Below w.heap.size w w' := by
  have hix : ∀ w, (Instr.index 114 (.agg #[.int .i64 1, .int .i64 0, .int .i64 0, .int .i64 1, .int .i64 1, .int .i64 1, .int .i64 (-1), .int .i64 1]) (.int .i64 1)).run Try.prog w = .ok (.agg #[.int .i64 0, .int .i64 1]) w := fun _ => by kernel_rfl
  go_enter Try.func63, Try.ntmps63
  go_wp2_with fail
  refine (isIndex_any _ _ _).mono ?_
  rintro e w' ⟨rfl, rfl⟩
  rw [show idxB 2 8 = true from rfl]
  go_wp2_with fail
  go_ret2
  exact ⟨rfl, by ((repeat' (first | (refine bel_set ?_ ?_ _) | (refine bel_al ?_ ?_ _) | exact Below.refl _ _ | assumption | (refine below_drewN ?_ _) | (refine Below.drew ?_))) <;> (first | omega | (simp; done) | (simp; omega)))⟩
set_option maxRecDepth 100000 in
set_option maxHeartbeats 1000000 in
theorem implWayOf2 (w : World) : Calls Try.prog 22 #[.int .i64 2] w fun e w' => e = .returned (.tuple #[.int .i64 0, .int .i64 1, .bool true]) ∧ Below w.heap.size w w' := by
  have hm : ∀ w, (method 247 113 (.agg #[.int .i64 0, .int .i64 1]) "loop.example/g01223/impl.steps").run Try.prog w = .ok (130, .agg #[.int .i64 0, .int .i64 1]) w := fun _ => by kernel_rfl
  go_enter Try.func22, Try.ntmps22
  go_wp2_with fail
  refine (along2 _).mono ?_
  rintro e w1 ⟨rfl, hb1⟩
  have s1 := hb1.size
  go_wp2_with fail
  refine (onSteps_any _ _ _).mono ?_
  rintro e w2 ⟨rfl, hb2⟩
  go_wp2_with fail
  refine bodyPost_ret (v := ?v) ?hr rfl ?post
  case hr => (simp [results, Try.results22, go_sem]; try rfl)
  case post => exact ⟨rfl, by ((repeat' (first | (refine bel_set ?_ ?_ _) | (refine bel_al ?_ ?_ _) | exact Below.refl _ _ | assumption | (refine below_drewN ?_ _) | (refine Below.drew ?_) | (refine Below.trans ?_ (Below.mono hb2 ?_)) | (refine Below.trans ?_ (Below.mono hb1 ?_)))) <;> (first | omega | (simp; done) | (simp; omega)))⟩
theorem specWayOf2 (w : World) : Calls Try.prog 21 #[.int .i64 2] w fun e w' => e = .returned (.tuple #[.int .i64 0, .int .i64 1, .bool true]) ∧ Below w.heap.size w w' := by
  go_enter Try.func21, Try.ntmps21
  go_wp2
  refine bodyPost_ret (v := ?v) ?hr rfl ?post
  case hr => (simp [results, Try.results21, go_sem]; try rfl)
  case post => exact ⟨rfl, by ((repeat' (first | (refine bel_set ?_ ?_ _) | (refine bel_al ?_ ?_ _) | exact Below.refl _ _ | assumption | (refine below_drewN ?_ _) | (refine Below.drew ?_))) <;> (first | omega | (simp; done) | (simp; omega)))⟩
set_option maxRecDepth 100000 in
set_option maxHeartbeats 1000000 in
theorem along3 (w : World) : Calls Try.prog 63 #[.int .i64 3] w fun e w' => e = .returned (.tuple #[.iface 116 (.agg #[.iface 113 (.agg #[.int .i64 0, .int .i64 1])]), .bool true]) ∧ Below w.heap.size w w' := by
  have hix : ∀ w, (Instr.index 114 (.agg #[.int .i64 1, .int .i64 0, .int .i64 0, .int .i64 1, .int .i64 1, .int .i64 1, .int .i64 (-1), .int .i64 1]) (.int .i64 1)).run Try.prog w = .ok (.agg #[.int .i64 0, .int .i64 1]) w := fun _ => by kernel_rfl
  go_enter Try.func63, Try.ntmps63
  go_wp2_with fail
  refine (isIndex_any _ _ _).mono ?_
  rintro e w' ⟨rfl, rfl⟩
  rw [show idxB 3 8 = true from rfl]
  go_wp2_with fail
  go_ret2
  exact ⟨rfl, by ((repeat' (first | (refine bel_set ?_ ?_ _) | (refine bel_al ?_ ?_ _) | exact Below.refl _ _ | assumption | (refine below_drewN ?_ _) | (refine Below.drew ?_))) <;> (first | omega | (simp; done) | (simp; omega)))⟩
set_option maxRecDepth 100000 in
set_option maxHeartbeats 1000000 in
theorem backSteps3 (w : World) : Calls Try.prog 132 #[.agg #[.iface 113 (.agg #[.int .i64 0, .int .i64 1])]] w fun e w' => e = .returned (.tuple #[.int .i64 0, .int .i64 (-1)]) ∧ Below w.heap.size w w' := by
  have hm : ∀ w, (method 247 113 (.agg #[.int .i64 0, .int .i64 1]) "loop.example/g01223/impl.steps").run Try.prog w = .ok (130, .agg #[.int .i64 0, .int .i64 1]) w := fun _ => by kernel_rfl
  go_enter Try.func132, Try.ntmps132
  go_wp2_with (go_at_call 130; refine (onSteps_any _ _ _).mono ?_; rintro e w1 ⟨rfl, hb1⟩)
  go_ret2
  exact ⟨rfl, by ((repeat' (first | (refine bel_set ?_ ?_ _) | (refine bel_al ?_ ?_ _) | exact Below.refl _ _ | assumption | (refine below_drewN ?_ _) | (refine Below.drew ?_) | (refine Below.trans ?_ (Below.mono hb1 ?_)))) <;> (first | omega | (simp; done) | (simp; omega)))⟩
set_option maxRecDepth 100000 in
set_option maxHeartbeats 1000000 in
theorem implWayOf3 (w : World) : Calls Try.prog 22 #[.int .i64 3] w fun e w' => e = .returned (.tuple #[.int .i64 0, .int .i64 (-1), .bool true]) ∧ Below w.heap.size w w' := by
  have hm : ∀ w, (method 247 116 (.agg #[.iface 113 (.agg #[.int .i64 0, .int .i64 1])]) "loop.example/g01223/impl.steps").run Try.prog w = .ok (132, .agg #[.iface 113 (.agg #[.int .i64 0, .int .i64 1])]) w := fun _ => by kernel_rfl
  go_enter Try.func22, Try.ntmps22
  go_wp2_with fail
  refine (along3 _).mono ?_
  rintro e w1 ⟨rfl, hb1⟩
  have s1 := hb1.size
  go_wp2_with fail
  refine (backSteps3 _).mono ?_
  rintro e w2 ⟨rfl, hb2⟩
  go_wp2_with fail
  refine bodyPost_ret (v := ?v) ?hr rfl ?post
  case hr => (simp [results, Try.results22, go_sem]; try rfl)
  case post => exact ⟨rfl, by ((repeat' (first | (refine bel_set ?_ ?_ _) | (refine bel_al ?_ ?_ _) | exact Below.refl _ _ | assumption | (refine below_drewN ?_ _) | (refine Below.drew ?_) | (refine Below.trans ?_ (Below.mono hb2 ?_)) | (refine Below.trans ?_ (Below.mono hb1 ?_)))) <;> (first | omega | (simp; done) | (simp; omega)))⟩
theorem specWayOf3 (w : World) : Calls Try.prog 21 #[.int .i64 3] w fun e w' => e = .returned (.tuple #[.int .i64 0, .int .i64 (-1), .bool true]) ∧ Below w.heap.size w w' := by
  go_enter Try.func21, Try.ntmps21
  go_wp2
  refine bodyPost_ret (v := ?v) ?hr rfl ?post
  case hr => (simp [results, Try.results21, go_sem]; try rfl)
  case post => exact ⟨rfl, by ((repeat' (first | (refine bel_set ?_ ?_ _) | (refine bel_al ?_ ?_ _) | exact Below.refl _ _ | assumption | (refine below_drewN ?_ _) | (refine Below.drew ?_))) <;> (first | omega | (simp; done) | (simp; omega)))⟩
set_option maxRecDepth 100000 in
set_option maxHeartbeats 1000000 in
theorem along4 (w : World) : Calls Try.prog 63 #[.int .i64 4] w fun e w' => e = .returned (.tuple #[.iface 113 (.agg #[.int .i64 1, .int .i64 1]), .bool true]) ∧ Below w.heap.size w w' := by
  have hix : ∀ w, (Instr.index 114 (.agg #[.int .i64 1, .int .i64 0, .int .i64 0, .int .i64 1, .int .i64 1, .int .i64 1, .int .i64 (-1), .int .i64 1]) (.int .i64 2)).run Try.prog w = .ok (.agg #[.int .i64 1, .int .i64 1]) w := fun _ => by kernel_rfl
  go_enter Try.func63, Try.ntmps63
  go_wp2_with fail
  refine (isIndex_any _ _ _).mono ?_
  rintro e w' ⟨rfl, rfl⟩
  rw [show idxB 4 8 = true from rfl]
  go_wp2_with fail
  go_ret2
  exact ⟨rfl, by ((repeat' (first | (refine bel_set ?_ ?_ _) | (refine bel_al ?_ ?_ _) | exact Below.refl _ _ | assumption | (refine below_drewN ?_ _) | (refine Below.drew ?_))) <;> (first | omega | (simp; done) | (simp; omega)))⟩
set_option maxRecDepth 100000 in
set_option maxHeartbeats 1000000 in
theorem implWayOf4 (w : World) : Calls Try.prog 22 #[.int .i64 4] w fun e w' => e = .returned (.tuple #[.int .i64 1, .int .i64 1, .bool true]) ∧ Below w.heap.size w w' := by
  have hm : ∀ w, (method 247 113 (.agg #[.int .i64 1, .int .i64 1]) "loop.example/g01223/impl.steps").run Try.prog w = .ok (130, .agg #[.int .i64 1, .int .i64 1]) w := fun _ => by kernel_rfl
  go_enter Try.func22, Try.ntmps22
  go_wp2_with fail
  refine (along4 _).mono ?_
  rintro e w1 ⟨rfl, hb1⟩
  have s1 := hb1.size
  go_wp2_with fail
  refine (onSteps_any _ _ _).mono ?_
  rintro e w2 ⟨rfl, hb2⟩
  go_wp2_with fail
  refine bodyPost_ret (v := ?v) ?hr rfl ?post
  case hr => (simp [results, Try.results22, go_sem]; try rfl)
  case post => exact ⟨rfl, by ((repeat' (first | (refine bel_set ?_ ?_ _) | (refine bel_al ?_ ?_ _) | exact Below.refl _ _ | assumption | (refine below_drewN ?_ _) | (refine Below.drew ?_) | (refine Below.trans ?_ (Below.mono hb2 ?_)) | (refine Below.trans ?_ (Below.mono hb1 ?_)))) <;> (first | omega | (simp; done) | (simp; omega)))⟩
theorem specWayOf4 (w : World) : Calls Try.prog 21 #[.int .i64 4] w fun e w' => e = .returned (.tuple #[.int .i64 1, .int .i64 1, .bool true]) ∧ Below w.heap.size w w' := by
  go_enter Try.func21, Try.ntmps21
  go_wp2
  refine bodyPost_ret (v := ?v) ?hr rfl ?post
  case hr => (simp [results, Try.results21, go_sem]; try rfl)
  case post => exact ⟨rfl, by ((repeat' (first | (refine bel_set ?_ ?_ _) | (refine bel_al ?_ ?_ _) | exact Below.refl _ _ | assumption | (refine below_drewN ?_ _) | (refine Below.drew ?_))) <;> (first | omega | (simp; done) | (simp; omega)))⟩
set_option maxRecDepth 100000 in
set_option maxHeartbeats 1000000 in
theorem along5 (w : World) : Calls Try.prog 63 #[.int .i64 5] w fun e w' => e = .returned (.tuple #[.iface 116 (.agg #[.iface 113 (.agg #[.int .i64 1, .int .i64 1])]), .bool true]) ∧ Below w.heap.size w w' := by
  have hix : ∀ w, (Instr.index 114 (.agg #[.int .i64 1, .int .i64 0, .int .i64 0, .int .i64 1, .int .i64 1, .int .i64 1, .int .i64 (-1), .int .i64 1]) (.int .i64 2)).run Try.prog w = .ok (.agg #[.int .i64 1, .int .i64 1]) w := fun _ => by kernel_rfl
  go_enter Try.func63, Try.ntmps63
  go_wp2_with fail
  refine (isIndex_any _ _ _).mono ?_
  rintro e w' ⟨rfl, rfl⟩
  rw [show idxB 5 8 = true from rfl]
  go_wp2_with fail
  go_ret2
  exact ⟨rfl, by ((repeat' (first | (refine bel_set ?_ ?_ _) | (refine bel_al ?_ ?_ _) | exact Below.refl _ _ | assumption | (refine below_drewN ?_ _) | (refine Below.drew ?_))) <;> (first | omega | (simp; done) | (simp; omega)))⟩
set_option maxRecDepth 100000 in
set_option maxHeartbeats 1000000 in
theorem backSteps5 (w : World) : Calls Try.prog 132 #[.agg #[.iface 113 (.agg #[.int .i64 1, .int .i64 1])]] w fun e w' => e = .returned (.tuple #[.int .i64 (-1), .int .i64 (-1)]) ∧ Below w.heap.size w w' := by
  have hm : ∀ w, (method 247 113 (.agg #[.int .i64 1, .int .i64 1]) "loop.example/g01223/impl.steps").run Try.prog w = .ok (130, .agg #[.int .i64 1, .int .i64 1]) w := fun _ => by kernel_rfl
  go_enter Try.func132, Try.ntmps132
  go_wp2_with (go_at_call 130; refine (onSteps_any _ _ _).mono ?_; rintro e w1 ⟨rfl, hb1⟩)
  go_ret2
  exact ⟨rfl, by ((repeat' (first | (refine bel_set ?_ ?_ _) | (refine bel_al ?_ ?_ _) | exact Below.refl _ _ | assumption | (refine below_drewN ?_ _) | (refine Below.drew ?_) | (refine Below.trans ?_ (Below.mono hb1 ?_)))) <;> (first | omega | (simp; done) | (simp; omega)))⟩
set_option maxRecDepth 100000 in
set_option maxHeartbeats 1000000 in
theorem implWayOf5 (w : World) : Calls Try.prog 22 #[.int .i64 5] w fun e w' => e = .returned (.tuple #[.int .i64 (-1), .int .i64 (-1), .bool true]) ∧ Below w.heap.size w w' := by
  have hm : ∀ w, (method 247 116 (.agg #[.iface 113 (.agg #[.int .i64 1, .int .i64 1])]) "loop.example/g01223/impl.steps").run Try.prog w = .ok (132, .agg #[.iface 113 (.agg #[.int .i64 1, .int .i64 1])]) w := fun _ => by kernel_rfl
  go_enter Try.func22, Try.ntmps22
  go_wp2_with fail
  refine (along5 _).mono ?_
  rintro e w1 ⟨rfl, hb1⟩
  have s1 := hb1.size
  go_wp2_with fail
  refine (backSteps5 _).mono ?_
  rintro e w2 ⟨rfl, hb2⟩
  go_wp2_with fail
  refine bodyPost_ret (v := ?v) ?hr rfl ?post
  case hr => (simp [results, Try.results22, go_sem]; try rfl)
  case post => exact ⟨rfl, by ((repeat' (first | (refine bel_set ?_ ?_ _) | (refine bel_al ?_ ?_ _) | exact Below.refl _ _ | assumption | (refine below_drewN ?_ _) | (refine Below.drew ?_) | (refine Below.trans ?_ (Below.mono hb2 ?_)) | (refine Below.trans ?_ (Below.mono hb1 ?_)))) <;> (first | omega | (simp; done) | (simp; omega)))⟩
theorem specWayOf5 (w : World) : Calls Try.prog 21 #[.int .i64 5] w fun e w' => e = .returned (.tuple #[.int .i64 (-1), .int .i64 (-1), .bool true]) ∧ Below w.heap.size w w' := by
  go_enter Try.func21, Try.ntmps21
  go_wp2
  refine bodyPost_ret (v := ?v) ?hr rfl ?post
  case hr => (simp [results, Try.results21, go_sem]; try rfl)
  case post => exact ⟨rfl, by ((repeat' (first | (refine bel_set ?_ ?_ _) | (refine bel_al ?_ ?_ _) | exact Below.refl _ _ | assumption | (refine below_drewN ?_ _) | (refine Below.drew ?_))) <;> (first | omega | (simp; done) | (simp; omega)))⟩
set_option maxRecDepth 100000 in
set_option maxHeartbeats 1000000 in
theorem along6 (w : World) : Calls Try.prog 63 #[.int .i64 6] w fun e w' => e = .returned (.tuple #[.iface 113 (.agg #[.int .i64 (-1), .int .i64 1]), .bool true]) ∧ Below w.heap.size w w' := by
  have hix : ∀ w, (Instr.index 114 (.agg #[.int .i64 1, .int .i64 0, .int .i64 0, .int .i64 1, .int .i64 1, .int .i64 1, .int .i64 (-1), .int .i64 1]) (.int .i64 3)).run Try.prog w = .ok (.agg #[.int .i64 (-1), .int .i64 1]) w := fun _ => by kernel_rfl
  go_enter Try.func63, Try.ntmps63
  go_wp2_with fail
  refine (isIndex_any _ _ _).mono ?_
  rintro e w' ⟨rfl, rfl⟩
  rw [show idxB 6 8 = true from rfl]
  go_wp2_with fail
  go_ret2
  exact ⟨rfl, by ((repeat' (first | (refine bel_set ?_ ?_ _) | (refine bel_al ?_ ?_ _) | exact Below.refl _ _ | assumption | (refine below_drewN ?_ _) | (refine Below.drew ?_))) <;> (first | omega | (simp; done) | (simp; omega)))⟩
set_option maxRecDepth 100000 in
set_option maxHeartbeats 1000000 in
theorem implWayOf6 (w : World) : Calls Try.prog 22 #[.int .i64 6] w fun e w' => e = .returned (.tuple #[.int .i64 (-1), .int .i64 1, .bool true]) ∧ Below w.heap.size w w' := by
  have hm : ∀ w, (method 247 113 (.agg #[.int .i64 (-1), .int .i64 1]) "loop.example/g01223/impl.steps").run Try.prog w = .ok (130, .agg #[.int .i64 (-1), .int .i64 1]) w := fun _ => by kernel_rfl
  go_enter Try.func22, Try.ntmps22
  go_wp2_with fail
  refine (along6 _).mono ?_
  rintro e w1 ⟨rfl, hb1⟩
  have s1 := hb1.size
  go_wp2_with fail
  refine (onSteps_any _ _ _).mono ?_
  rintro e w2 ⟨rfl, hb2⟩
  go_wp2_with fail
  refine bodyPost_ret (v := ?v) ?hr rfl ?post
  case hr => (simp [results, Try.results22, go_sem]; try rfl)
  case post => exact ⟨rfl, by ((repeat' (first | (refine bel_set ?_ ?_ _) | (refine bel_al ?_ ?_ _) | exact Below.refl _ _ | assumption | (refine below_drewN ?_ _) | (refine Below.drew ?_) | (refine Below.trans ?_ (Below.mono hb2 ?_)) | (refine Below.trans ?_ (Below.mono hb1 ?_)))) <;> (first | omega | (simp; done) | (simp; omega)))⟩
theorem specWayOf6 (w : World) : Calls Try.prog 21 #[.int .i64 6] w fun e w' => e = .returned (.tuple #[.int .i64 (-1), .int .i64 1, .bool true]) ∧ Below w.heap.size w w' := by
  go_enter Try.func21, Try.ntmps21
  go_wp2
  refine bodyPost_ret (v := ?v) ?hr rfl ?post
  case hr => (simp [results, Try.results21, go_sem]; try rfl)
  case post => exact ⟨rfl, by ((repeat' (first | (refine bel_set ?_ ?_ _) | (refine bel_al ?_ ?_ _) | exact Below.refl _ _ | assumption | (refine below_drewN ?_ _) | (refine Below.drew ?_))) <;> (first | omega | (simp; done) | (simp; omega)))⟩
set_option maxRecDepth 100000 in
set_option maxHeartbeats 1000000 in
theorem along7 (w : World) : Calls Try.prog 63 #[.int .i64 7] w fun e w' => e = .returned (.tuple #[.iface 116 (.agg #[.iface 113 (.agg #[.int .i64 (-1), .int .i64 1])]), .bool true]) ∧ Below w.heap.size w w' := by
  have hix : ∀ w, (Instr.index 114 (.agg #[.int .i64 1, .int .i64 0, .int .i64 0, .int .i64 1, .int .i64 1, .int .i64 1, .int .i64 (-1), .int .i64 1]) (.int .i64 3)).run Try.prog w = .ok (.agg #[.int .i64 (-1), .int .i64 1]) w := fun _ => by kernel_rfl
  go_enter Try.func63, Try.ntmps63
  go_wp2_with fail
  refine (isIndex_any _ _ _).mono ?_
  rintro e w' ⟨rfl, rfl⟩
  rw [show idxB 7 8 = true from rfl]
  go_wp2_with fail
  go_ret2
  exact ⟨rfl, by ((repeat' (first | (refine bel_set ?_ ?_ _) | (refine bel_al ?_ ?_ _) | exact Below.refl _ _ | assumption | (refine below_drewN ?_ _) | (refine Below.drew ?_))) <;> (first | omega | (simp; done) | (simp; omega)))⟩
set_option maxRecDepth 100000 in
set_option maxHeartbeats 1000000 in
theorem backSteps7 (w : World) : Calls Try.prog 132 #[.agg #[.iface 113 (.agg #[.int .i64 (-1), .int .i64 1])]] w fun e w' => e = .returned (.tuple #[.int .i64 1, .int .i64 (-1)]) ∧ Below w.heap.size w w' := by
  have hm : ∀ w, (method 247 113 (.agg #[.int .i64 (-1), .int .i64 1]) "loop.example/g01223/impl.steps").run Try.prog w = .ok (130, .agg #[.int .i64 (-1), .int .i64 1]) w := fun _ => by kernel_rfl
  go_enter Try.func132, Try.ntmps132
  go_wp2_with (go_at_call 130; refine (onSteps_any _ _ _).mono ?_; rintro e w1 ⟨rfl, hb1⟩)
  go_ret2
  exact ⟨rfl, by ((repeat' (first | (refine bel_set ?_ ?_ _) | (refine bel_al ?_ ?_ _) | exact Below.refl _ _ | assumption | (refine below_drewN ?_ _) | (refine Below.drew ?_) | (refine Below.trans ?_ (Below.mono hb1 ?_)))) <;> (first | omega | (simp; done) | (simp; omega)))⟩
set_option maxRecDepth 100000 in
set_option maxHeartbeats 1000000 in
theorem implWayOf7 (w : World) : Calls Try.prog 22 #[.int .i64 7] w fun e w' => e = .returned (.tuple #[.int .i64 1, .int .i64 (-1), .bool true]) ∧ Below w.heap.size w w' := by
  have hm : ∀ w, (method 247 116 (.agg #[.iface 113 (.agg #[.int .i64 (-1), .int .i64 1])]) "loop.example/g01223/impl.steps").run Try.prog w = .ok (132, .agg #[.iface 113 (.agg #[.int .i64 (-1), .int .i64 1])]) w := fun _ => by kernel_rfl
  go_enter Try.func22, Try.ntmps22
  go_wp2_with fail
  refine (along7 _).mono ?_
  rintro e w1 ⟨rfl, hb1⟩
  have s1 := hb1.size
  go_wp2_with fail
  refine (backSteps7 _).mono ?_
  rintro e w2 ⟨rfl, hb2⟩
  go_wp2_with fail
  refine bodyPost_ret (v := ?v) ?hr rfl ?post
  case hr => (simp [results, Try.results22, go_sem]; try rfl)
  case post => exact ⟨rfl, by ((repeat' (first | (refine bel_set ?_ ?_ _) | (refine bel_al ?_ ?_ _) | exact Below.refl _ _ | assumption | (refine below_drewN ?_ _) | (refine Below.drew ?_) | (refine Below.trans ?_ (Below.mono hb2 ?_)) | (refine Below.trans ?_ (Below.mono hb1 ?_)))) <;> (first | omega | (simp; done) | (simp; omega)))⟩
theorem specWayOf7 (w : World) : Calls Try.prog 21 #[.int .i64 7] w fun e w' => e = .returned (.tuple #[.int .i64 1, .int .i64 (-1), .bool true]) ∧ Below w.heap.size w w' := by
  go_enter Try.func21, Try.ntmps21
  go_wp2
  refine bodyPost_ret (v := ?v) ?hr rfl ?post
  case hr => (simp [results, Try.results21, go_sem]; try rfl)
  case post => exact ⟨rfl, by ((repeat' (first | (refine bel_set ?_ ?_ _) | (refine bel_al ?_ ?_ _) | exact Below.refl _ _ | assumption | (refine below_drewN ?_ _) | (refine Below.drew ?_))) <;> (first | omega | (simp; done) | (simp; omega)))⟩
theorem implWayOf_no (d : Int) (h : idxB d 8 = false) (w : World) : Calls Try.prog 22 #[.int .i64 d] w fun e w' => e = .returned (.tuple #[.int .i64 0, .int .i64 0, .bool false]) ∧ Below w.heap.size w w' := by
  have ha : ∀ w, Calls Try.prog 63 #[.int .i64 d] w fun e w' => e = .returned (.tuple #[.nilIface, .bool false]) ∧ Below w.heap.size w w' := fun w => by
    have h' := Lib.hid h
    clear h
    go_enter Try.func63, Try.ntmps63
    go_wp2_with fail
    refine (isIndex_any _ _ _).mono ?_
    rintro e w' ⟨rfl, rfl⟩
    rw [h'.out]
    go_wp2_with fail
    go_ret2
    exact ⟨rfl, by ((repeat' (first | (refine bel_set ?_ ?_ _) | (refine bel_al ?_ ?_ _) | exact Below.refl _ _ | assumption | (refine below_drewN ?_ _) | (refine Below.drew ?_))) <;> (first | omega | (simp; done) | (simp; omega)))⟩
  go_enter Try.func22, Try.ntmps22
  go_wp2_with fail
  refine (ha _).mono ?_
  rintro e w1 ⟨rfl, hb1⟩
  go_wp2_with fail
  refine bodyPost_ret (v := ?v) ?hr rfl ?post
  case hr => (simp [results, Try.results22, go_sem]; try rfl)
  case post => exact ⟨rfl, by ((repeat' (first | (refine bel_set ?_ ?_ _) | (refine bel_al ?_ ?_ _) | exact Below.refl _ _ | assumption | (refine below_drewN ?_ _) | (refine Below.drew ?_) | (refine Below.trans ?_ (Below.mono hb1 ?_)))) <;> (first | omega | (simp; done) | (simp; omega)))⟩
theorem specWayOf_no (d : Int) (h : idxB d 8 = false) (w : World) : Calls Try.prog 21 #[.int .i64 d] w fun e w' => e = .returned (.tuple #[.int .i64 0, .int .i64 0, .bool false]) ∧ Below w.heap.size w w' := by
  have ha : ∀ w, Calls Try.prog 61 #[.int .i64 d] w fun e w' => e = .returned (.bool false) ∧ w' = w := fun w => by
    have h' := Lib.hid h
    clear h
    go_enter Try.func61, Try.ntmps61
    go_wp2_with fail
    refine (specIn_any _ _ _ _).mono ?_
    rintro e w1 ⟨rfl, rfl⟩
    go_wp2_with fail
    go_ret
    exact ⟨by rw [← h'.out, ← inB_idx]; rfl, rfl⟩
  go_enter Try.func21, Try.ntmps21
  go_wp2_with fail
  refine (ha _).mono ?_
  rintro e w1 ⟨rfl, rfl⟩
  go_wp2_with fail
  refine bodyPost_ret (v := ?v) ?hr rfl ?post
  case hr => (simp [results, Try.results21, go_sem]; try rfl)
  case post => exact ⟨rfl, by ((repeat' (first | (refine bel_set ?_ ?_ _) | (refine bel_al ?_ ?_ _) | exact Below.refl _ _ | assumption | (refine below_drewN ?_ _) | (refine Below.drew ?_))) <;> (first | omega | (simp; done) | (simp; omega)))⟩
theorem pairWayOf (d : Int) : ∃ (x y : Int) (ok : Bool),
    (∀ w, Calls Try.prog 21 #[.int .i64 d] w fun e w' => e = .returned (.tuple #[.int .i64 x, .int .i64 y, .bool ok]) ∧ Below w.heap.size w w') ∧
    (∀ w, Calls Try.prog 22 #[.int .i64 d] w fun e w' => e = .returned (.tuple #[.int .i64 x, .int .i64 y, .bool ok]) ∧ Below w.heap.size w w') := by
  cases h : idxB d 8 with
  | false => exact ⟨0, 0, false, specWayOf_no d h, implWayOf_no d h⟩
  | true =>
    have h01 : 0 ≤ d ∧ d < 8 := by unfold idxB at h; simpa using h
    clear h
    rcases (show d = 0 ∨ d = 1 ∨ d = 2 ∨ d = 3 ∨ d = 4 ∨ d = 5 ∨ d = 6 ∨ d = 7 by omega) with h | h | h | h | h | h | h | h <;> subst h
    · exact ⟨_, _, _, specWayOf0, implWayOf0⟩
    · exact ⟨_, _, _, specWayOf1, implWayOf1⟩
    · exact ⟨_, _, _, specWayOf2, implWayOf2⟩
    · exact ⟨_, _, _, specWayOf3, implWayOf3⟩
    · exact ⟨_, _, _, specWayOf4, implWayOf4⟩
    · exact ⟨_, _, _, specWayOf5, implWayOf5⟩
    · exact ⟨_, _, _, specWayOf6, implWayOf6⟩
    · exact ⟨_, _, _, specWayOf7, implWayOf7⟩
end Go.Proofs.Ytmgdofengamcmaa
