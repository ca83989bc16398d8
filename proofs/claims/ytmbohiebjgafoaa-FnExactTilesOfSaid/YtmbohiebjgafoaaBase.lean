import Derived.Test.YtmbohiebjgafoaaRows
import Derived.Test.YtmbohiebjgafoaaFo
import Derived.WalkKit
import Derived.WalkLawsBesides
import Derived.WalkSpells
import Derived.ProofKit
import Derived.OpenShut
import Derived.ShutString
import Derived.ChangeOld
import Derived.Below
import Derived.Lib.Hide
import Derived.Lib.SmallJoins
set_option linter.unusedVariables false
set_option linter.unusedSimpArgs false
namespace Go.Proofs.Ytmbohiebjgafoaa
open Go.FX Go.RowKit Go.WideShapes

theorem own : ownKnob Try.prog.godebug = none := by kernel_rfl
theorem laidOut : laidOutB Try.prog = true := by kernel_rfl
@[go_sem] theorem run_f32bits (b : Nat) (w : World) : (callFunc 126 #[.float .f32 b]).run Try.prog w = .ok (.value (.int .u32 b)) w := by kernel_rfl
@[go_sem] theorem run_f32from (n : Int) (w : World) : (callFunc 129 #[.int .u32 n]).run Try.prog w = .ok (.value (.float .f32 n.toNat)) w := by kernel_rfl
@[go_sem] theorem run_f64bits (b : Nat) (w : World) : (callFunc 140 #[.float .f64 b]).run Try.prog w = .ok (.value (.int .u64 b)) w := by kernel_rfl
@[go_sem] theorem run_f64from (n : Int) (w : World) : (callFunc 139 #[.int .u64 n]).run Try.prog w = .ok (.value (.float .f64 n.toNat)) w := by kernel_rfl

/-- A float's reading. -/
theorem trod_float {H : Type} {enc : TypeId × Value → H} {P : Program} {w : World} {base : Nat} {spare : Nat → Bool} {held : Bool} {fuel : Nat} {t : TypeId} {k : FloatKind} {cs : List Value} {x : DataW H × List MemPlace}
    (ht : P.underlying t = some (.float k)) (h : DataW.trod enc P w base spare held fuel t cs = some x) : ∃ n, cs = [.float k n] ∧ x = (.lit (.float k n), []) ∧ (Lit.float k n).wf = true := by
  cases fuel with
  | zero => simp [DataW.trod] at h
  | succ n =>
    unfold DataW.trod at h
    rw [ht] at h
    split at h <;> simp_all
/-- A struct of three 32-bit numbers by value, opened. -/
theorem vec_of {H : Type} {enc : TypeId × Value → H} {P : Program} {w : World} {base : Nat} {spare : Nat → Bool} {held : Bool} {r : Reach} {b0 : Nat} {t : TypeId} {f0 f1 f2 : Field} {v : Value} {d : DataW H} {p : List MemPlace}
    (hs : P.underlying t = some (.struct #[f0, f1, f2])) (hone : Deep.oneCellFields P #[f0, f1, f2] = true) (hC : P.cellsOf t = 3) (e0 : P.underlying f0.type = some (.float .f32)) (e1 : P.underlying f1.type = some (.float .f32)) (e2 : P.underlying f2.type = some (.float .f32))
    (hv : Value.okWide P w r b0 t v) (h : DataW.Trod enc P w base spare held t v d p) :
    ∃ x y z : Nat, v = .agg #[.float .f32 x, .float .f32 y, .float .f32 z] ∧ x < width .f32 ∧ y < width .f32 ∧ z < width .f32 := by
  obtain ⟨v0, v1, v2, y0, y1, y2, m, rfl, _, _, t0, t1, t2⟩ := Joins.open_agg3 hs hone hC hv h
  obtain ⟨x, ex, _, wx⟩ := trod_float e0 t0
  obtain ⟨y, ey, _, wy⟩ := trod_float e1 t1
  obtain ⟨z, ez, _, wz⟩ := trod_float e2 t2
  simp only [List.cons.injEq, and_true] at ex ey ez
  subst ex; subst ey; subst ez
  exact ⟨x, y, z, rfl, lt32 wx, lt32 wy, lt32 wz⟩

/-- Two floats of one canonical value are the same. -/
theorem sameFloat_any {a b c : Nat} (ha : Fl .f64 a c) (hb : Fl .f64 b c) (w : World) : Calls Try.prog 112 #[.float .f64 a, .float .f64 b] w (RB true w) := by
  by_cases hn : isN .f64 c = true
  · have h1 : isN .f64 a = true := by rw [← isN_cn, ha.eq]; exact hn
    have h2 : isN .f64 b = true := by rw [← isN_cn, hb.eq]; exact hn
    go_enter Try.func112, Try.ntmps112
    go_wp2
    go_ret
    exact ⟨0, rfl, rfl⟩
  · have h1 : isN .f64 a = false := by rw [← isN_cn, ha.eq]; simpa using hn
    have h2 : isN .f64 b = false := by rw [← isN_cn, hb.eq]; simpa using hn
    obtain rfl : a = b := by
      have e1 := ha.eq
      have e2 := hb.eq
      rw [cn_of_not h1] at e1
      rw [cn_of_not h2] at e2
      rw [e1, e2]
    go_enter Try.func112, Try.ntmps112
    go_wp2
    all_goals (go_ret; first | exact ⟨_, rfl, rfl⟩ | exact ⟨0, rfl, rfl⟩ | exact ⟨_, by simp, rfl⟩)

theorem isNaN_any (x : Nat) (w : World) : Calls Try.prog 121 #[.float .f32 x] w (fun e w' => e = .returned (.bool (isN .f32 x)) ∧ w = w') := by
  go_enter Try.func121, Try.ntmps121
  go_wp2
  go_ret
  exact ⟨rfl, rfl⟩
end Go.Proofs.Ytmbohiebjgafoaa
