/-
  No cell of these rows narrows 'for every input' (looked for: loops, veiled, ifaces, maps, wideKeys, modest, calm, conditions, laid).
  DERIVED. THE GIVEN ROWS OF THIS SEAT. 12 by the template 'for every input the law returns true; each argument reads behind the call as it read before'; 0 by the template 'total and deterministic' (their statements: YtmfdiobpdaonaaaTotals.lean).
  GIVEN WITH THE SEED: the statements are not yours to turn. If you find one false, say at which input.
  Laid BY PROGRAM, IN A SANDBOX (cutbox-rows.mjs): the forced cells as the released guide's own fill.sh prints them over the translation 3488ea58ec5b4881… (all of the seat's roots in one cut). By AI agents, Wed Nov 11 2026. No macro, syntax, notation, axiom, sorry.
-/
import Derived.Test.YtmfdiobpdaonaaaChecked
import GoSem.Claim
import GoSem.ClaimJoined
import GoSem.ClaimMapViews
import Derived.JoinedTies
import Derived.KernelRfl
namespace Go.Proofs.Ytmfdiobpdaonaaa
/- THE CELL 'sum', in the pinned program and in every row, IS THE sha256 OF THE DUMP (.gsa) THAT YtmfdiobpdaonaaaProg.lean LOADS. Nothing in Lean hashes anything: it is a label: what it is worth is what the hold of that sum in a sandbox is worth. -/
noncomputable def Try.pinned : Pinned := { name := "ytmfdiobpdaonaaa", sum := "3488ea58ec5b48813a75ea23d2ce8b9e6d07c1557087ded19111eacee4137337", checked := Try.checked }
namespace Rows
def none {H : Type} : Left H := { results := [], args := [] }

/-- 'laws.FnExactValidVolume': WHATEVER THE INPUT: true; the input reads as it did. -/
def fnExactValidVolumeSpec : ChangeSpec := { name := "fnExactValidVolume", fn := fun _ => fun
  | [d] => { results := [.lit (.bool true)], args := [d] }
  | _ => none }
def fnExactValidVolumeRow : OpenClaim := { program := "ytmfdiobpdaonaaa", sum := "3488ea58ec5b48813a75ea23d2ce8b9e6d07c1557087ded19111eacee4137337", func := "loop.example/g01223/laws.FnExactValidVolume", spec := "fnExactValidVolume", apart := false }
def FnExactValidVolumeSaid : Prop := fnExactValidVolumeRow.holds Try.pinned (OpenSpec.ofChange fnExactValidVolumeSpec)

/-- ITS FALSE NEIGHBOUR: 'it returns false'. Refute it at one input. -/
def fnExactValidVolumeWrong : ChangeSpec := { name := "fnExactValidVolume", fn := fun _ => fun
  | [d] => { results := [.lit (.bool false)], args := [d] }
  | _ => none }
def FnExactValidVolumeWrongFalsely : Prop := fnExactValidVolumeRow.holds Try.pinned (OpenSpec.ofChange fnExactValidVolumeWrong)

/-- 'laws.FnExactValidMap': WHATEVER THE INPUT: true; the input reads as it did. -/
def fnExactValidMapSpec : ChangeSpec := { name := "fnExactValidMap", fn := fun _ => fun
  | [d] => { results := [.lit (.bool true)], args := [d] }
  | _ => none }
def fnExactValidMapRow : OpenClaim := { program := "ytmfdiobpdaonaaa", sum := "3488ea58ec5b48813a75ea23d2ce8b9e6d07c1557087ded19111eacee4137337", func := "loop.example/g01223/laws.FnExactValidMap", spec := "fnExactValidMap", apart := false }
def FnExactValidMapSaid : Prop := fnExactValidMapRow.holds Try.pinned (OpenSpec.ofChange fnExactValidMapSpec)

/-- ITS FALSE NEIGHBOUR: 'it returns false'. Refute it at one input. -/
def fnExactValidMapWrong : ChangeSpec := { name := "fnExactValidMap", fn := fun _ => fun
  | [d] => { results := [.lit (.bool false)], args := [d] }
  | _ => none }
def FnExactValidMapWrongFalsely : Prop := fnExactValidMapRow.holds Try.pinned (OpenSpec.ofChange fnExactValidMapWrong)

/-- 'laws.FnExactFlatMap': WHATEVER THE INPUT: true; the input reads as it did. -/
def fnExactFlatMapSpec : ChangeSpec := { name := "fnExactFlatMap", fn := fun _ => fun
  | [d1, d2, d3] => { results := [.lit (.bool true)], args := [d1, d2, d3] }
  | _ => none }
def fnExactFlatMapRow : OpenClaim := { program := "ytmfdiobpdaonaaa", sum := "3488ea58ec5b48813a75ea23d2ce8b9e6d07c1557087ded19111eacee4137337", func := "loop.example/g01223/laws.FnExactFlatMap", spec := "fnExactFlatMap", unfollowed := true, recurses := true, apart := false }
def FnExactFlatMapSaid : Prop := fnExactFlatMapRow.holds Try.pinned (OpenSpec.ofChange fnExactFlatMapSpec)

/-- ITS FALSE NEIGHBOUR: 'it returns false'. Refute it at one input. -/
def fnExactFlatMapWrong : ChangeSpec := { name := "fnExactFlatMap", fn := fun _ => fun
  | [d1, d2, d3] => { results := [.lit (.bool false)], args := [d1, d2, d3] }
  | _ => none }
def FnExactFlatMapWrongFalsely : Prop := fnExactFlatMapRow.holds Try.pinned (OpenSpec.ofChange fnExactFlatMapWrong)

/-- 'laws.FnExactValueAt': WHATEVER THE INPUT: true; the input reads as it did. -/
def fnExactValueAtSpec : ChangeSpec := { name := "fnExactValueAt", fn := fun _ => fun
  | [d1, d2, d3] => { results := [.lit (.bool true)], args := [d1, d2, d3] }
  | _ => none }
def fnExactValueAtRow : OpenClaim := { program := "ytmfdiobpdaonaaa", sum := "3488ea58ec5b48813a75ea23d2ce8b9e6d07c1557087ded19111eacee4137337", func := "loop.example/g01223/laws.FnExactValueAt", spec := "fnExactValueAt", apart := false }
def FnExactValueAtSaid : Prop := fnExactValueAtRow.holds Try.pinned (OpenSpec.ofChange fnExactValueAtSpec)

/-- ITS FALSE NEIGHBOUR: 'it returns false'. Refute it at one input. -/
def fnExactValueAtWrong : ChangeSpec := { name := "fnExactValueAt", fn := fun _ => fun
  | [d1, d2, d3] => { results := [.lit (.bool false)], args := [d1, d2, d3] }
  | _ => none }
def FnExactValueAtWrongFalsely : Prop := fnExactValueAtRow.holds Try.pinned (OpenSpec.ofChange fnExactValueAtWrong)

/-- 'laws.FnExactCostAt': WHATEVER THE INPUT: true; the input reads as it did. -/
def fnExactCostAtSpec : ChangeSpec := { name := "fnExactCostAt", fn := fun _ => fun
  | [d1, d2, d3, d4] => { results := [.lit (.bool true)], args := [d1, d2, d3, d4] }
  | _ => none }
def fnExactCostAtRow : OpenClaim := { program := "ytmfdiobpdaonaaa", sum := "3488ea58ec5b48813a75ea23d2ce8b9e6d07c1557087ded19111eacee4137337", func := "loop.example/g01223/laws.FnExactCostAt", spec := "fnExactCostAt", apart := false }
def FnExactCostAtSaid : Prop := fnExactCostAtRow.holds Try.pinned (OpenSpec.ofChange fnExactCostAtSpec)

/-- ITS FALSE NEIGHBOUR: 'it returns false'. Refute it at one input. -/
def fnExactCostAtWrong : ChangeSpec := { name := "fnExactCostAt", fn := fun _ => fun
  | [d1, d2, d3, d4] => { results := [.lit (.bool false)], args := [d1, d2, d3, d4] }
  | _ => none }
def FnExactCostAtWrongFalsely : Prop := fnExactCostAtRow.holds Try.pinned (OpenSpec.ofChange fnExactCostAtWrong)

/-- 'laws.FnExactSliceOf': WHATEVER THE INPUT: true; the input reads as it did. -/
def fnExactSliceOfSpec : ChangeSpec := { name := "fnExactSliceOf", fn := fun _ => fun
  | [d1, d2] => { results := [.lit (.bool true)], args := [d1, d2] }
  | _ => none }
def fnExactSliceOfRow : OpenClaim := { program := "ytmfdiobpdaonaaa", sum := "3488ea58ec5b48813a75ea23d2ce8b9e6d07c1557087ded19111eacee4137337", func := "loop.example/g01223/laws.FnExactSliceOf", spec := "fnExactSliceOf", unfollowed := true, recurses := true, apart := false }
def FnExactSliceOfSaid : Prop := fnExactSliceOfRow.holds Try.pinned (OpenSpec.ofChange fnExactSliceOfSpec)

/-- ITS FALSE NEIGHBOUR: 'it returns false'. Refute it at one input. -/
def fnExactSliceOfWrong : ChangeSpec := { name := "fnExactSliceOf", fn := fun _ => fun
  | [d1, d2] => { results := [.lit (.bool false)], args := [d1, d2] }
  | _ => none }
def FnExactSliceOfWrongFalsely : Prop := fnExactSliceOfRow.holds Try.pinned (OpenSpec.ofChange fnExactSliceOfWrong)

/-- 'laws.FnExactCapVolume': WHATEVER THE INPUT: true; the input reads as it did. -/
def fnExactCapVolumeSpec : ChangeSpec := { name := "fnExactCapVolume", fn := fun _ => fun
  | [d1, d2] => { results := [.lit (.bool true)], args := [d1, d2] }
  | _ => none }
def fnExactCapVolumeRow : OpenClaim := { program := "ytmfdiobpdaonaaa", sum := "3488ea58ec5b48813a75ea23d2ce8b9e6d07c1557087ded19111eacee4137337", func := "loop.example/g01223/laws.FnExactCapVolume", spec := "fnExactCapVolume", unfollowed := true, recurses := true, apart := false }
def FnExactCapVolumeSaid : Prop := fnExactCapVolumeRow.holds Try.pinned (OpenSpec.ofChange fnExactCapVolumeSpec)

/-- ITS FALSE NEIGHBOUR: 'it returns false'. Refute it at one input. -/
def fnExactCapVolumeWrong : ChangeSpec := { name := "fnExactCapVolume", fn := fun _ => fun
  | [d1, d2] => { results := [.lit (.bool false)], args := [d1, d2] }
  | _ => none }
def FnExactCapVolumeWrongFalsely : Prop := fnExactCapVolumeRow.holds Try.pinned (OpenSpec.ofChange fnExactCapVolumeWrong)

/-- 'laws.FnExactOtherVolume': WHATEVER THE INPUT: true; the input reads as it did. -/
def fnExactOtherVolumeSpec : ChangeSpec := { name := "fnExactOtherVolume", fn := fun _ => fun
  | [d] => { results := [.lit (.bool true)], args := [d] }
  | _ => none }
def fnExactOtherVolumeRow : OpenClaim := { program := "ytmfdiobpdaonaaa", sum := "3488ea58ec5b48813a75ea23d2ce8b9e6d07c1557087ded19111eacee4137337", func := "loop.example/g01223/laws.FnExactOtherVolume", spec := "fnExactOtherVolume", unfollowed := true, recurses := true, apart := false }
def FnExactOtherVolumeSaid : Prop := fnExactOtherVolumeRow.holds Try.pinned (OpenSpec.ofChange fnExactOtherVolumeSpec)

/-- ITS FALSE NEIGHBOUR: 'it returns false'. Refute it at one input. -/
def fnExactOtherVolumeWrong : ChangeSpec := { name := "fnExactOtherVolume", fn := fun _ => fun
  | [d] => { results := [.lit (.bool false)], args := [d] }
  | _ => none }
def FnExactOtherVolumeWrongFalsely : Prop := fnExactOtherVolumeRow.holds Try.pinned (OpenSpec.ofChange fnExactOtherVolumeWrong)

/-- 'laws.FnExactShallowVolume': WHATEVER THE INPUT: true; the input reads as it did. -/
def fnExactShallowVolumeSpec : ChangeSpec := { name := "fnExactShallowVolume", fn := fun _ => fun
  | [d1, d2] => { results := [.lit (.bool true)], args := [d1, d2] }
  | _ => none }
def fnExactShallowVolumeRow : OpenClaim := { program := "ytmfdiobpdaonaaa", sum := "3488ea58ec5b48813a75ea23d2ce8b9e6d07c1557087ded19111eacee4137337", func := "loop.example/g01223/laws.FnExactShallowVolume", spec := "fnExactShallowVolume", unfollowed := true, recurses := true, apart := false }
def FnExactShallowVolumeSaid : Prop := fnExactShallowVolumeRow.holds Try.pinned (OpenSpec.ofChange fnExactShallowVolumeSpec)

/-- ITS FALSE NEIGHBOUR: 'it returns false'. Refute it at one input. -/
def fnExactShallowVolumeWrong : ChangeSpec := { name := "fnExactShallowVolume", fn := fun _ => fun
  | [d1, d2] => { results := [.lit (.bool false)], args := [d1, d2] }
  | _ => none }
def FnExactShallowVolumeWrongFalsely : Prop := fnExactShallowVolumeRow.holds Try.pinned (OpenSpec.ofChange fnExactShallowVolumeWrong)

/-- 'laws.FnExactMixVolumes': WHATEVER THE INPUT: true; the input reads as it did. -/
def fnExactMixVolumesSpec : ChangeSpec := { name := "fnExactMixVolumes", fn := fun _ => fun
  | [d1, d2, d3] => { results := [.lit (.bool true)], args := [d1, d2, d3] }
  | _ => none }
def fnExactMixVolumesRow : OpenClaim := { program := "ytmfdiobpdaonaaa", sum := "3488ea58ec5b48813a75ea23d2ce8b9e6d07c1557087ded19111eacee4137337", func := "loop.example/g01223/laws.FnExactMixVolumes", spec := "fnExactMixVolumes", unfollowed := true, recurses := true, apart := false }
def FnExactMixVolumesSaid : Prop := fnExactMixVolumesRow.holds Try.pinned (OpenSpec.ofChange fnExactMixVolumesSpec)

/-- ITS FALSE NEIGHBOUR: 'it returns false'. Refute it at one input. -/
def fnExactMixVolumesWrong : ChangeSpec := { name := "fnExactMixVolumes", fn := fun _ => fun
  | [d1, d2, d3] => { results := [.lit (.bool false)], args := [d1, d2, d3] }
  | _ => none }
def FnExactMixVolumesWrongFalsely : Prop := fnExactMixVolumesRow.holds Try.pinned (OpenSpec.ofChange fnExactMixVolumesWrong)

/-- 'laws.FnExactSquareVolume': WHATEVER THE INPUT: true; the input reads as it did. -/
def fnExactSquareVolumeSpec : ChangeSpec := { name := "fnExactSquareVolume", fn := fun _ => fun
  | [d1, d2, d3] => { results := [.lit (.bool true)], args := [d1, d2, d3] }
  | _ => none }
def fnExactSquareVolumeRow : OpenClaim := { program := "ytmfdiobpdaonaaa", sum := "3488ea58ec5b48813a75ea23d2ce8b9e6d07c1557087ded19111eacee4137337", func := "loop.example/g01223/laws.FnExactSquareVolume", spec := "fnExactSquareVolume", unfollowed := true, recurses := true, apart := false }
def FnExactSquareVolumeSaid : Prop := fnExactSquareVolumeRow.holds Try.pinned (OpenSpec.ofChange fnExactSquareVolumeSpec)

/-- ITS FALSE NEIGHBOUR: 'it returns false'. Refute it at one input. -/
def fnExactSquareVolumeWrong : ChangeSpec := { name := "fnExactSquareVolume", fn := fun _ => fun
  | [d1, d2, d3] => { results := [.lit (.bool false)], args := [d1, d2, d3] }
  | _ => none }
def FnExactSquareVolumeWrongFalsely : Prop := fnExactSquareVolumeRow.holds Try.pinned (OpenSpec.ofChange fnExactSquareVolumeWrong)

/-- 'laws.FnExactSizeVolume': WHATEVER THE INPUT: true; the input reads as it did. -/
def fnExactSizeVolumeSpec : ChangeSpec := { name := "fnExactSizeVolume", fn := fun _ => fun
  | [d1, d2, d3] => { results := [.lit (.bool true)], args := [d1, d2, d3] }
  | _ => none }
def fnExactSizeVolumeRow : OpenClaim := { program := "ytmfdiobpdaonaaa", sum := "3488ea58ec5b48813a75ea23d2ce8b9e6d07c1557087ded19111eacee4137337", func := "loop.example/g01223/laws.FnExactSizeVolume", spec := "fnExactSizeVolume", inPlace := ["math.Float64bits", "math.Float64frombits"], unfollowed := true, recurses := true, apart := false }
def FnExactSizeVolumeSaid : Prop := fnExactSizeVolumeRow.holds Try.pinned (OpenSpec.ofChange fnExactSizeVolumeSpec)

/-- ITS FALSE NEIGHBOUR: 'it returns false'. Refute it at one input. -/
def fnExactSizeVolumeWrong : ChangeSpec := { name := "fnExactSizeVolume", fn := fun _ => fun
  | [d1, d2, d3] => { results := [.lit (.bool false)], args := [d1, d2, d3] }
  | _ => none }
def FnExactSizeVolumeWrongFalsely : Prop := fnExactSizeVolumeRow.holds Try.pinned (OpenSpec.ofChange fnExactSizeVolumeWrong)

/- THE SECOND FORM. 'bulk': how many values and letters a reading holds, each counted each time it is reached (what is shared counts as often as it is met; a slice's spare places count too). A statement '..UptoSaid' is the law's where the arguments, and the package variables that the reading takes, are together of bulk at most 1048576: NARROWER than '..Said'. Prove '..Said' where nothing that the law and all that it calls make is longer than what came in: it says more and counts as full. Else prove '..UptoSaid'. A law counts once. -/
mutual
def uptoBulk {H : Type} : DataW H → Nat
  | .lit (.string bytes) => bytes.length + 1
  | .lit _ => 1
  | .nil => 1
  | .ptr d => uptoBulk d + 1
  | .slice elems spare => uptoBulkAll elems + uptoBulkAll spare + 1
  | .agg parts => uptoBulkAll parts + 1
  | .iface _ d => uptoBulk d + 1
  | .map entries => uptoBulkEntries entries + 1
  | .held _ => 1
def uptoBulkAll {H : Type} : List (DataW H) → Nat
  | [] => 0
  | d :: r => uptoBulk d + uptoBulkAll r
def uptoBulkEntries {H : Type} : List (Lit × DataW H) → Nat
  | [] => 0
  | x :: r => uptoBulkEntry x + uptoBulkEntries r
def uptoBulkEntry {H : Type} : Lit × DataW H → Nat
  | (.string bytes, d) => bytes.length + uptoBulk d + 1
  | (_, d) => uptoBulk d + 1
 end
def uptoSmall : (H : Type) → List (DataW H) → Bool := fun _ ds => decide (uptoBulkAll ds ≤ 1048576)
def OpenSpec.upto (s : _root_.Go.ChangeSpec) : _root_.Go.OpenSpec := { _root_.Go.OpenSpec.ofChange s with cond := some uptoSmall }

/-- 'laws.FnExactValidVolume', WHERE WHAT IT READS IS OF BULK AT MOST 1048576: true; the input reads as it did. -/
def fnExactValidVolumeUptoRow : OpenClaim := { program := "ytmfdiobpdaonaaa", sum := "3488ea58ec5b48813a75ea23d2ce8b9e6d07c1557087ded19111eacee4137337", func := "loop.example/g01223/laws.FnExactValidVolume", spec := "fnExactValidVolume", apart := false, narrowed := true }
def FnExactValidVolumeUptoSaid : Prop := fnExactValidVolumeUptoRow.holds Try.pinned (OpenSpec.upto fnExactValidVolumeSpec)

/-- 'laws.FnExactValidMap', WHERE WHAT IT READS IS OF BULK AT MOST 1048576: true; the input reads as it did. -/
def fnExactValidMapUptoRow : OpenClaim := { program := "ytmfdiobpdaonaaa", sum := "3488ea58ec5b48813a75ea23d2ce8b9e6d07c1557087ded19111eacee4137337", func := "loop.example/g01223/laws.FnExactValidMap", spec := "fnExactValidMap", apart := false, narrowed := true }
def FnExactValidMapUptoSaid : Prop := fnExactValidMapUptoRow.holds Try.pinned (OpenSpec.upto fnExactValidMapSpec)

/-- 'laws.FnExactFlatMap', WHERE WHAT IT READS IS OF BULK AT MOST 1048576: true; the input reads as it did. -/
def fnExactFlatMapUptoRow : OpenClaim := { program := "ytmfdiobpdaonaaa", sum := "3488ea58ec5b48813a75ea23d2ce8b9e6d07c1557087ded19111eacee4137337", func := "loop.example/g01223/laws.FnExactFlatMap", spec := "fnExactFlatMap", unfollowed := true, recurses := true, apart := false, narrowed := true }
def FnExactFlatMapUptoSaid : Prop := fnExactFlatMapUptoRow.holds Try.pinned (OpenSpec.upto fnExactFlatMapSpec)

/-- 'laws.FnExactValueAt', WHERE WHAT IT READS IS OF BULK AT MOST 1048576: true; the input reads as it did. -/
def fnExactValueAtUptoRow : OpenClaim := { program := "ytmfdiobpdaonaaa", sum := "3488ea58ec5b48813a75ea23d2ce8b9e6d07c1557087ded19111eacee4137337", func := "loop.example/g01223/laws.FnExactValueAt", spec := "fnExactValueAt", apart := false, narrowed := true }
def FnExactValueAtUptoSaid : Prop := fnExactValueAtUptoRow.holds Try.pinned (OpenSpec.upto fnExactValueAtSpec)

/-- 'laws.FnExactCostAt', WHERE WHAT IT READS IS OF BULK AT MOST 1048576: true; the input reads as it did. -/
def fnExactCostAtUptoRow : OpenClaim := { program := "ytmfdiobpdaonaaa", sum := "3488ea58ec5b48813a75ea23d2ce8b9e6d07c1557087ded19111eacee4137337", func := "loop.example/g01223/laws.FnExactCostAt", spec := "fnExactCostAt", apart := false, narrowed := true }
def FnExactCostAtUptoSaid : Prop := fnExactCostAtUptoRow.holds Try.pinned (OpenSpec.upto fnExactCostAtSpec)

/-- 'laws.FnExactSliceOf', WHERE WHAT IT READS IS OF BULK AT MOST 1048576: true; the input reads as it did. -/
def fnExactSliceOfUptoRow : OpenClaim := { program := "ytmfdiobpdaonaaa", sum := "3488ea58ec5b48813a75ea23d2ce8b9e6d07c1557087ded19111eacee4137337", func := "loop.example/g01223/laws.FnExactSliceOf", spec := "fnExactSliceOf", unfollowed := true, recurses := true, apart := false, narrowed := true }
def FnExactSliceOfUptoSaid : Prop := fnExactSliceOfUptoRow.holds Try.pinned (OpenSpec.upto fnExactSliceOfSpec)

/-- 'laws.FnExactCapVolume', WHERE WHAT IT READS IS OF BULK AT MOST 1048576: true; the input reads as it did. -/
def fnExactCapVolumeUptoRow : OpenClaim := { program := "ytmfdiobpdaonaaa", sum := "3488ea58ec5b48813a75ea23d2ce8b9e6d07c1557087ded19111eacee4137337", func := "loop.example/g01223/laws.FnExactCapVolume", spec := "fnExactCapVolume", unfollowed := true, recurses := true, apart := false, narrowed := true }
def FnExactCapVolumeUptoSaid : Prop := fnExactCapVolumeUptoRow.holds Try.pinned (OpenSpec.upto fnExactCapVolumeSpec)

/-- 'laws.FnExactOtherVolume', WHERE WHAT IT READS IS OF BULK AT MOST 1048576: true; the input reads as it did. -/
def fnExactOtherVolumeUptoRow : OpenClaim := { program := "ytmfdiobpdaonaaa", sum := "3488ea58ec5b48813a75ea23d2ce8b9e6d07c1557087ded19111eacee4137337", func := "loop.example/g01223/laws.FnExactOtherVolume", spec := "fnExactOtherVolume", unfollowed := true, recurses := true, apart := false, narrowed := true }
def FnExactOtherVolumeUptoSaid : Prop := fnExactOtherVolumeUptoRow.holds Try.pinned (OpenSpec.upto fnExactOtherVolumeSpec)

/-- 'laws.FnExactShallowVolume', WHERE WHAT IT READS IS OF BULK AT MOST 1048576: true; the input reads as it did. -/
def fnExactShallowVolumeUptoRow : OpenClaim := { program := "ytmfdiobpdaonaaa", sum := "3488ea58ec5b48813a75ea23d2ce8b9e6d07c1557087ded19111eacee4137337", func := "loop.example/g01223/laws.FnExactShallowVolume", spec := "fnExactShallowVolume", unfollowed := true, recurses := true, apart := false, narrowed := true }
def FnExactShallowVolumeUptoSaid : Prop := fnExactShallowVolumeUptoRow.holds Try.pinned (OpenSpec.upto fnExactShallowVolumeSpec)

/-- 'laws.FnExactMixVolumes', WHERE WHAT IT READS IS OF BULK AT MOST 1048576: true; the input reads as it did. -/
def fnExactMixVolumesUptoRow : OpenClaim := { program := "ytmfdiobpdaonaaa", sum := "3488ea58ec5b48813a75ea23d2ce8b9e6d07c1557087ded19111eacee4137337", func := "loop.example/g01223/laws.FnExactMixVolumes", spec := "fnExactMixVolumes", unfollowed := true, recurses := true, apart := false, narrowed := true }
def FnExactMixVolumesUptoSaid : Prop := fnExactMixVolumesUptoRow.holds Try.pinned (OpenSpec.upto fnExactMixVolumesSpec)

/-- 'laws.FnExactSquareVolume', WHERE WHAT IT READS IS OF BULK AT MOST 1048576: true; the input reads as it did. -/
def fnExactSquareVolumeUptoRow : OpenClaim := { program := "ytmfdiobpdaonaaa", sum := "3488ea58ec5b48813a75ea23d2ce8b9e6d07c1557087ded19111eacee4137337", func := "loop.example/g01223/laws.FnExactSquareVolume", spec := "fnExactSquareVolume", unfollowed := true, recurses := true, apart := false, narrowed := true }
def FnExactSquareVolumeUptoSaid : Prop := fnExactSquareVolumeUptoRow.holds Try.pinned (OpenSpec.upto fnExactSquareVolumeSpec)

/-- 'laws.FnExactSizeVolume', WHERE WHAT IT READS IS OF BULK AT MOST 1048576: true; the input reads as it did. -/
def fnExactSizeVolumeUptoRow : OpenClaim := { program := "ytmfdiobpdaonaaa", sum := "3488ea58ec5b48813a75ea23d2ce8b9e6d07c1557087ded19111eacee4137337", func := "loop.example/g01223/laws.FnExactSizeVolume", spec := "fnExactSizeVolume", inPlace := ["math.Float64bits", "math.Float64frombits"], unfollowed := true, recurses := true, apart := false, narrowed := true }
def FnExactSizeVolumeUptoSaid : Prop := fnExactSizeVolumeUptoRow.holds Try.pinned (OpenSpec.upto fnExactSizeVolumeSpec)

end Rows
end Go.Proofs.Ytmfdiobpdaonaaa
