/-
  No cell of these rows narrows 'for every input' (looked for: loops, veiled, ifaces, maps, wideKeys, modest, calm, conditions, laid).
  DERIVED. THE GIVEN ROWS OF THIS SEAT. 12 by the template 'for every input the law returns true; each argument reads behind the call as it read before'; 0 by the template 'total and deterministic' (their statements: YtmgdofengamcmaaTotals.lean).
  GIVEN WITH THE SEED: the statements are not yours to turn. If you find one false, say at which input.
  Laid BY PROGRAM, IN A SANDBOX (cutbox-rows.mjs): the forced cells as the released guide's own fill.sh prints them over the translation 35d4e9230843395c… (all of the seat's roots in one cut). By AI agents, Wed Nov 11 2026. No macro, syntax, notation, axiom, sorry.
-/
import Derived.Test.YtmgdofengamcmaaChecked
import GoSem.Claim
import GoSem.ClaimJoined
import GoSem.ClaimMapViews
import Derived.JoinedTies
import Derived.KernelRfl
namespace Go.Proofs.Ytmgdofengamcmaa
/- THE CELL 'sum', in the pinned program and in every row, IS THE sha256 OF THE DUMP (.gsa) THAT YtmgdofengamcmaaProg.lean LOADS. Nothing in Lean hashes anything: it is a label: what it is worth is what the hold of that sum in a sandbox is worth. -/
noncomputable def Try.pinned : Pinned := { name := "ytmgdofengamcmaa", sum := "35d4e9230843395ca1c1df5f715ad037eea795ba4973f10eb7ffdc3ff75854d6", checked := Try.checked }
namespace Rows
def none {H : Type} : Left H := { results := [], args := [] }

/-- 'laws.FnExactValidPrices': WHATEVER THE INPUT: true; the input reads as it did. -/
def fnExactValidPricesSpec : ChangeSpec := { name := "fnExactValidPrices", fn := fun _ => fun
  | [d] => { results := [.lit (.bool true)], args := [d] }
  | _ => none }
def fnExactValidPricesRow : OpenClaim := { program := "ytmgdofengamcmaa", sum := "35d4e9230843395ca1c1df5f715ad037eea795ba4973f10eb7ffdc3ff75854d6", func := "loop.example/g01223/laws.FnExactValidPrices", spec := "fnExactValidPrices", inPlace := ["math.Float64bits", "math.Float64frombits"], apart := false }
def FnExactValidPricesSaid : Prop := fnExactValidPricesRow.holds Try.pinned (OpenSpec.ofChange fnExactValidPricesSpec)

/-- ITS FALSE NEIGHBOUR: 'it returns false'. Refute it at one input. -/
def fnExactValidPricesWrong : ChangeSpec := { name := "fnExactValidPrices", fn := fun _ => fun
  | [d] => { results := [.lit (.bool false)], args := [d] }
  | _ => none }
def FnExactValidPricesWrongFalsely : Prop := fnExactValidPricesRow.holds Try.pinned (OpenSpec.ofChange fnExactValidPricesWrong)

/-- 'laws.FnExactPriceOf': WHATEVER THE INPUT: true; the input reads as it did. -/
def fnExactPriceOfSpec : ChangeSpec := { name := "fnExactPriceOf", fn := fun _ => fun
  | [d1, d2, d3] => { results := [.lit (.bool true)], args := [d1, d2, d3] }
  | _ => none }
def fnExactPriceOfRow : OpenClaim := { program := "ytmgdofengamcmaa", sum := "35d4e9230843395ca1c1df5f715ad037eea795ba4973f10eb7ffdc3ff75854d6", func := "loop.example/g01223/laws.FnExactPriceOf", spec := "fnExactPriceOf", inPlace := ["math.Float64bits", "math.Float64frombits"], apart := false }
def FnExactPriceOfSaid : Prop := fnExactPriceOfRow.holds Try.pinned (OpenSpec.ofChange fnExactPriceOfSpec)

/-- ITS FALSE NEIGHBOUR: 'it returns false'. Refute it at one input. -/
def fnExactPriceOfWrong : ChangeSpec := { name := "fnExactPriceOf", fn := fun _ => fun
  | [d1, d2, d3] => { results := [.lit (.bool false)], args := [d1, d2, d3] }
  | _ => none }
def FnExactPriceOfWrongFalsely : Prop := fnExactPriceOfRow.holds Try.pinned (OpenSpec.ofChange fnExactPriceOfWrong)

/-- 'laws.FnExactWayOf': WHATEVER THE INPUT: true; the input reads as it did. -/
def fnExactWayOfSpec : ChangeSpec := { name := "fnExactWayOf", fn := fun _ => fun
  | [d] => { results := [.lit (.bool true)], args := [d] }
  | _ => none }
def fnExactWayOfRow : OpenClaim := { program := "ytmgdofengamcmaa", sum := "35d4e9230843395ca1c1df5f715ad037eea795ba4973f10eb7ffdc3ff75854d6", func := "loop.example/g01223/laws.FnExactWayOf", spec := "fnExactWayOf", unfollowed := true, recurses := true, apart := false }
def FnExactWayOfSaid : Prop := fnExactWayOfRow.holds Try.pinned (OpenSpec.ofChange fnExactWayOfSpec)

/-- ITS FALSE NEIGHBOUR: 'it returns false'. Refute it at one input. -/
def fnExactWayOfWrong : ChangeSpec := { name := "fnExactWayOf", fn := fun _ => fun
  | [d] => { results := [.lit (.bool false)], args := [d] }
  | _ => none }
def FnExactWayOfWrongFalsely : Prop := fnExactWayOfRow.holds Try.pinned (OpenSpec.ofChange fnExactWayOfWrong)

/-- 'laws.FnExactAddVolumes': WHATEVER THE INPUT: true; the input reads as it did. -/
def fnExactAddVolumesSpec : ChangeSpec := { name := "fnExactAddVolumes", fn := fun _ => fun
  | [d1, d2] => { results := [.lit (.bool true)], args := [d1, d2] }
  | _ => none }
def fnExactAddVolumesRow : OpenClaim := { program := "ytmgdofengamcmaa", sum := "35d4e9230843395ca1c1df5f715ad037eea795ba4973f10eb7ffdc3ff75854d6", func := "loop.example/g01223/laws.FnExactAddVolumes", spec := "fnExactAddVolumes", unfollowed := true, recurses := true, apart := false }
def FnExactAddVolumesSaid : Prop := fnExactAddVolumesRow.holds Try.pinned (OpenSpec.ofChange fnExactAddVolumesSpec)

/-- ITS FALSE NEIGHBOUR: 'it returns false'. Refute it at one input. -/
def fnExactAddVolumesWrong : ChangeSpec := { name := "fnExactAddVolumes", fn := fun _ => fun
  | [d1, d2] => { results := [.lit (.bool false)], args := [d1, d2] }
  | _ => none }
def FnExactAddVolumesWrongFalsely : Prop := fnExactAddVolumesRow.holds Try.pinned (OpenSpec.ofChange fnExactAddVolumesWrong)

/-- 'laws.FnExactScaleVolume': WHATEVER THE INPUT: true; the input reads as it did. -/
def fnExactScaleVolumeSpec : ChangeSpec := { name := "fnExactScaleVolume", fn := fun _ => fun
  | [d1, d2] => { results := [.lit (.bool true)], args := [d1, d2] }
  | _ => none }
def fnExactScaleVolumeRow : OpenClaim := { program := "ytmgdofengamcmaa", sum := "35d4e9230843395ca1c1df5f715ad037eea795ba4973f10eb7ffdc3ff75854d6", func := "loop.example/g01223/laws.FnExactScaleVolume", spec := "fnExactScaleVolume", unfollowed := true, recurses := true, apart := false }
def FnExactScaleVolumeSaid : Prop := fnExactScaleVolumeRow.holds Try.pinned (OpenSpec.ofChange fnExactScaleVolumeSpec)

/-- ITS FALSE NEIGHBOUR: 'it returns false'. Refute it at one input. -/
def fnExactScaleVolumeWrong : ChangeSpec := { name := "fnExactScaleVolume", fn := fun _ => fun
  | [d1, d2] => { results := [.lit (.bool false)], args := [d1, d2] }
  | _ => none }
def FnExactScaleVolumeWrongFalsely : Prop := fnExactScaleVolumeRow.holds Try.pinned (OpenSpec.ofChange fnExactScaleVolumeWrong)

/-- 'laws.FnExactMirrorVolume': WHATEVER THE INPUT: true; the input reads as it did. -/
def fnExactMirrorVolumeSpec : ChangeSpec := { name := "fnExactMirrorVolume", fn := fun _ => fun
  | [d] => { results := [.lit (.bool true)], args := [d] }
  | _ => none }
def fnExactMirrorVolumeRow : OpenClaim := { program := "ytmgdofengamcmaa", sum := "35d4e9230843395ca1c1df5f715ad037eea795ba4973f10eb7ffdc3ff75854d6", func := "loop.example/g01223/laws.FnExactMirrorVolume", spec := "fnExactMirrorVolume", unfollowed := true, recurses := true, apart := false }
def FnExactMirrorVolumeSaid : Prop := fnExactMirrorVolumeRow.holds Try.pinned (OpenSpec.ofChange fnExactMirrorVolumeSpec)

/-- ITS FALSE NEIGHBOUR: 'it returns false'. Refute it at one input. -/
def fnExactMirrorVolumeWrong : ChangeSpec := { name := "fnExactMirrorVolume", fn := fun _ => fun
  | [d] => { results := [.lit (.bool false)], args := [d] }
  | _ => none }
def FnExactMirrorVolumeWrongFalsely : Prop := fnExactMirrorVolumeRow.holds Try.pinned (OpenSpec.ofChange fnExactMirrorVolumeWrong)

/-- 'laws.FnExactFlipVolume': WHATEVER THE INPUT: true; the input reads as it did. -/
def fnExactFlipVolumeSpec : ChangeSpec := { name := "fnExactFlipVolume", fn := fun _ => fun
  | [d] => { results := [.lit (.bool true)], args := [d] }
  | _ => none }
def fnExactFlipVolumeRow : OpenClaim := { program := "ytmgdofengamcmaa", sum := "35d4e9230843395ca1c1df5f715ad037eea795ba4973f10eb7ffdc3ff75854d6", func := "loop.example/g01223/laws.FnExactFlipVolume", spec := "fnExactFlipVolume", unfollowed := true, recurses := true, apart := false }
def FnExactFlipVolumeSaid : Prop := fnExactFlipVolumeRow.holds Try.pinned (OpenSpec.ofChange fnExactFlipVolumeSpec)

/-- ITS FALSE NEIGHBOUR: 'it returns false'. Refute it at one input. -/
def fnExactFlipVolumeWrong : ChangeSpec := { name := "fnExactFlipVolume", fn := fun _ => fun
  | [d] => { results := [.lit (.bool false)], args := [d] }
  | _ => none }
def FnExactFlipVolumeWrongFalsely : Prop := fnExactFlipVolumeRow.holds Try.pinned (OpenSpec.ofChange fnExactFlipVolumeWrong)

/-- 'laws.FnExactSwapVolume': WHATEVER THE INPUT: true; the input reads as it did. -/
def fnExactSwapVolumeSpec : ChangeSpec := { name := "fnExactSwapVolume", fn := fun _ => fun
  | [d] => { results := [.lit (.bool true)], args := [d] }
  | _ => none }
def fnExactSwapVolumeRow : OpenClaim := { program := "ytmgdofengamcmaa", sum := "35d4e9230843395ca1c1df5f715ad037eea795ba4973f10eb7ffdc3ff75854d6", func := "loop.example/g01223/laws.FnExactSwapVolume", spec := "fnExactSwapVolume", unfollowed := true, recurses := true, apart := false }
def FnExactSwapVolumeSaid : Prop := fnExactSwapVolumeRow.holds Try.pinned (OpenSpec.ofChange fnExactSwapVolumeSpec)

/-- ITS FALSE NEIGHBOUR: 'it returns false'. Refute it at one input. -/
def fnExactSwapVolumeWrong : ChangeSpec := { name := "fnExactSwapVolume", fn := fun _ => fun
  | [d] => { results := [.lit (.bool false)], args := [d] }
  | _ => none }
def FnExactSwapVolumeWrongFalsely : Prop := fnExactSwapVolumeRow.holds Try.pinned (OpenSpec.ofChange fnExactSwapVolumeWrong)

/-- 'laws.FnExactJumpCosts': WHATEVER THE INPUT: true; the input reads as it did. -/
def fnExactJumpCostsSpec : ChangeSpec := { name := "fnExactJumpCosts", fn := fun _ => fun
  | [d1, d2] => { results := [.lit (.bool true)], args := [d1, d2] }
  | _ => none }
def fnExactJumpCostsRow : OpenClaim := { program := "ytmgdofengamcmaa", sum := "35d4e9230843395ca1c1df5f715ad037eea795ba4973f10eb7ffdc3ff75854d6", func := "loop.example/g01223/laws.FnExactJumpCosts", spec := "fnExactJumpCosts", inPlace := ["math.Float64bits", "math.Float64frombits"], apart := false }
def FnExactJumpCostsSaid : Prop := fnExactJumpCostsRow.holds Try.pinned (OpenSpec.ofChange fnExactJumpCostsSpec)

/-- ITS FALSE NEIGHBOUR: 'it returns false'. Refute it at one input. -/
def fnExactJumpCostsWrong : ChangeSpec := { name := "fnExactJumpCosts", fn := fun _ => fun
  | [d1, d2] => { results := [.lit (.bool false)], args := [d1, d2] }
  | _ => none }
def FnExactJumpCostsWrongFalsely : Prop := fnExactJumpCostsRow.holds Try.pinned (OpenSpec.ofChange fnExactJumpCostsWrong)

/-- 'laws.FnExactIsWhole': WHATEVER THE INPUT: true; the input reads as it did. -/
def fnExactIsWholeSpec : ChangeSpec := { name := "fnExactIsWhole", fn := fun _ => fun
  | [d1, d2] => { results := [.lit (.bool true)], args := [d1, d2] }
  | _ => none }
def fnExactIsWholeRow : OpenClaim := { program := "ytmgdofengamcmaa", sum := "35d4e9230843395ca1c1df5f715ad037eea795ba4973f10eb7ffdc3ff75854d6", func := "loop.example/g01223/laws.FnExactIsWhole", spec := "fnExactIsWhole", inPlace := ["math.Float64bits", "math.Float64frombits", "math.RoundToEven"], apart := false }
def FnExactIsWholeSaid : Prop := fnExactIsWholeRow.holds Try.pinned (OpenSpec.ofChange fnExactIsWholeSpec)

/-- ITS FALSE NEIGHBOUR: 'it returns false'. Refute it at one input. -/
def fnExactIsWholeWrong : ChangeSpec := { name := "fnExactIsWhole", fn := fun _ => fun
  | [d1, d2] => { results := [.lit (.bool false)], args := [d1, d2] }
  | _ => none }
def FnExactIsWholeWrongFalsely : Prop := fnExactIsWholeRow.holds Try.pinned (OpenSpec.ofChange fnExactIsWholeWrong)

/-- 'laws.FnExactRowCost': WHATEVER THE INPUT: true; the input reads as it did. -/
def fnExactRowCostSpec : ChangeSpec := { name := "fnExactRowCost", fn := fun _ => fun
  | [d1, d2, d3, d4] => { results := [.lit (.bool true)], args := [d1, d2, d3, d4] }
  | _ => none }
def fnExactRowCostRow : OpenClaim := { program := "ytmgdofengamcmaa", sum := "35d4e9230843395ca1c1df5f715ad037eea795ba4973f10eb7ffdc3ff75854d6", func := "loop.example/g01223/laws.FnExactRowCost", spec := "fnExactRowCost", inPlace := ["math.Float64bits", "math.Float64frombits"], unfollowed := true, recurses := true, apart := false }
def FnExactRowCostSaid : Prop := fnExactRowCostRow.holds Try.pinned (OpenSpec.ofChange fnExactRowCostSpec)

/-- ITS FALSE NEIGHBOUR: 'it returns false'. Refute it at one input. -/
def fnExactRowCostWrong : ChangeSpec := { name := "fnExactRowCost", fn := fun _ => fun
  | [d1, d2, d3, d4] => { results := [.lit (.bool false)], args := [d1, d2, d3, d4] }
  | _ => none }
def FnExactRowCostWrongFalsely : Prop := fnExactRowCostRow.holds Try.pinned (OpenSpec.ofChange fnExactRowCostWrong)

/-- 'laws.FnExactMapCost': WHATEVER THE INPUT: true; the input reads as it did. -/
def fnExactMapCostSpec : ChangeSpec := { name := "fnExactMapCost", fn := fun _ => fun
  | [d1, d2, d3] => { results := [.lit (.bool true)], args := [d1, d2, d3] }
  | _ => none }
def fnExactMapCostRow : OpenClaim := { program := "ytmgdofengamcmaa", sum := "35d4e9230843395ca1c1df5f715ad037eea795ba4973f10eb7ffdc3ff75854d6", func := "loop.example/g01223/laws.FnExactMapCost", spec := "fnExactMapCost", inPlace := ["math.Float64bits", "math.Float64frombits", "math.RoundToEven"], apart := false }
def FnExactMapCostSaid : Prop := fnExactMapCostRow.holds Try.pinned (OpenSpec.ofChange fnExactMapCostSpec)

/-- ITS FALSE NEIGHBOUR: 'it returns false'. Refute it at one input. -/
def fnExactMapCostWrong : ChangeSpec := { name := "fnExactMapCost", fn := fun _ => fun
  | [d1, d2, d3] => { results := [.lit (.bool false)], args := [d1, d2, d3] }
  | _ => none }
def FnExactMapCostWrongFalsely : Prop := fnExactMapCostRow.holds Try.pinned (OpenSpec.ofChange fnExactMapCostWrong)

/- THE SECOND FORM. 'bulk': how many values and letters a reading holds, each counted each time it is reached (what is shared counts as often as it is met; a slice's spare places count too). A statement '..UptoSaid' is the law's where the arguments, and the package variables that the reading takes, are together of bulk at most 1048576: NARROWER than '..Said'. Prove '..Said' where nothing that the law and all that it calls make is longer than what came in: it says more and counts as full. Else prove '..UptoSaid'. A law counts once. -/
mutual
def uptoBulk {H : Type} : DataW H → Nat
  | .lit (.string bytes) => bytes.length + 1
  | .lit _ => 1
  | .nil => 1
  | .ptr d => uptoBulk d + 1
  | .slice elems spare => uptoBulkAll elems + uptoBulkAll spare + 1
  | .agg parts => uptoBulkAll parts + 1
  | .iface _ d => uptoBulk d + 1
  | .map entries => uptoBulkEntries entries + 1
  | .held _ => 1
def uptoBulkAll {H : Type} : List (DataW H) → Nat
  | [] => 0
  | d :: r => uptoBulk d + uptoBulkAll r
def uptoBulkEntries {H : Type} : List (Lit × DataW H) → Nat
  | [] => 0
  | x :: r => uptoBulkEntry x + uptoBulkEntries r
def uptoBulkEntry {H : Type} : Lit × DataW H → Nat
  | (.string bytes, d) => bytes.length + uptoBulk d + 1
  | (_, d) => uptoBulk d + 1
 end
def uptoSmall : (H : Type) → List (DataW H) → Bool := fun _ ds => decide (uptoBulkAll ds ≤ 1048576)
def OpenSpec.upto (s : _root_.Go.ChangeSpec) : _root_.Go.OpenSpec := { _root_.Go.OpenSpec.ofChange s with cond := some uptoSmall }

/-- 'laws.FnExactValidPrices', WHERE WHAT IT READS IS OF BULK AT MOST 1048576: true; the input reads as it did. -/
def fnExactValidPricesUptoRow : OpenClaim := { program := "ytmgdofengamcmaa", sum := "35d4e9230843395ca1c1df5f715ad037eea795ba4973f10eb7ffdc3ff75854d6", func := "loop.example/g01223/laws.FnExactValidPrices", spec := "fnExactValidPrices", inPlace := ["math.Float64bits", "math.Float64frombits"], apart := false, narrowed := true }
def FnExactValidPricesUptoSaid : Prop := fnExactValidPricesUptoRow.holds Try.pinned (OpenSpec.upto fnExactValidPricesSpec)

/-- 'laws.FnExactPriceOf', WHERE WHAT IT READS IS OF BULK AT MOST 1048576: true; the input reads as it did. -/
def fnExactPriceOfUptoRow : OpenClaim := { program := "ytmgdofengamcmaa", sum := "35d4e9230843395ca1c1df5f715ad037eea795ba4973f10eb7ffdc3ff75854d6", func := "loop.example/g01223/laws.FnExactPriceOf", spec := "fnExactPriceOf", inPlace := ["math.Float64bits", "math.Float64frombits"], apart := false, narrowed := true }
def FnExactPriceOfUptoSaid : Prop := fnExactPriceOfUptoRow.holds Try.pinned (OpenSpec.upto fnExactPriceOfSpec)

/-- 'laws.FnExactWayOf', WHERE WHAT IT READS IS OF BULK AT MOST 1048576: true; the input reads as it did. -/
def fnExactWayOfUptoRow : OpenClaim := { program := "ytmgdofengamcmaa", sum := "35d4e9230843395ca1c1df5f715ad037eea795ba4973f10eb7ffdc3ff75854d6", func := "loop.example/g01223/laws.FnExactWayOf", spec := "fnExactWayOf", unfollowed := true, recurses := true, apart := false, narrowed := true }
def FnExactWayOfUptoSaid : Prop := fnExactWayOfUptoRow.holds Try.pinned (OpenSpec.upto fnExactWayOfSpec)

/-- 'laws.FnExactAddVolumes', WHERE WHAT IT READS IS OF BULK AT MOST 1048576: true; the input reads as it did. -/
def fnExactAddVolumesUptoRow : OpenClaim := { program := "ytmgdofengamcmaa", sum := "35d4e9230843395ca1c1df5f715ad037eea795ba4973f10eb7ffdc3ff75854d6", func := "loop.example/g01223/laws.FnExactAddVolumes", spec := "fnExactAddVolumes", unfollowed := true, recurses := true, apart := false, narrowed := true }
def FnExactAddVolumesUptoSaid : Prop := fnExactAddVolumesUptoRow.holds Try.pinned (OpenSpec.upto fnExactAddVolumesSpec)

/-- 'laws.FnExactScaleVolume', WHERE WHAT IT READS IS OF BULK AT MOST 1048576: true; the input reads as it did. -/
def fnExactScaleVolumeUptoRow : OpenClaim := { program := "ytmgdofengamcmaa", sum := "35d4e9230843395ca1c1df5f715ad037eea795ba4973f10eb7ffdc3ff75854d6", func := "loop.example/g01223/laws.FnExactScaleVolume", spec := "fnExactScaleVolume", unfollowed := true, recurses := true, apart := false, narrowed := true }
def FnExactScaleVolumeUptoSaid : Prop := fnExactScaleVolumeUptoRow.holds Try.pinned (OpenSpec.upto fnExactScaleVolumeSpec)

/-- 'laws.FnExactMirrorVolume', WHERE WHAT IT READS IS OF BULK AT MOST 1048576: true; the input reads as it did. -/
def fnExactMirrorVolumeUptoRow : OpenClaim := { program := "ytmgdofengamcmaa", sum := "35d4e9230843395ca1c1df5f715ad037eea795ba4973f10eb7ffdc3ff75854d6", func := "loop.example/g01223/laws.FnExactMirrorVolume", spec := "fnExactMirrorVolume", unfollowed := true, recurses := true, apart := false, narrowed := true }
def FnExactMirrorVolumeUptoSaid : Prop := fnExactMirrorVolumeUptoRow.holds Try.pinned (OpenSpec.upto fnExactMirrorVolumeSpec)

/-- 'laws.FnExactFlipVolume', WHERE WHAT IT READS IS OF BULK AT MOST 1048576: true; the input reads as it did. -/
def fnExactFlipVolumeUptoRow : OpenClaim := { program := "ytmgdofengamcmaa", sum := "35d4e9230843395ca1c1df5f715ad037eea795ba4973f10eb7ffdc3ff75854d6", func := "loop.example/g01223/laws.FnExactFlipVolume", spec := "fnExactFlipVolume", unfollowed := true, recurses := true, apart := false, narrowed := true }
def FnExactFlipVolumeUptoSaid : Prop := fnExactFlipVolumeUptoRow.holds Try.pinned (OpenSpec.upto fnExactFlipVolumeSpec)

/-- 'laws.FnExactSwapVolume', WHERE WHAT IT READS IS OF BULK AT MOST 1048576: true; the input reads as it did. -/
def fnExactSwapVolumeUptoRow : OpenClaim := { program := "ytmgdofengamcmaa", sum := "35d4e9230843395ca1c1df5f715ad037eea795ba4973f10eb7ffdc3ff75854d6", func := "loop.example/g01223/laws.FnExactSwapVolume", spec := "fnExactSwapVolume", unfollowed := true, recurses := true, apart := false, narrowed := true }
def FnExactSwapVolumeUptoSaid : Prop := fnExactSwapVolumeUptoRow.holds Try.pinned (OpenSpec.upto fnExactSwapVolumeSpec)

/-- 'laws.FnExactJumpCosts', WHERE WHAT IT READS IS OF BULK AT MOST 1048576: true; the input reads as it did. -/
def fnExactJumpCostsUptoRow : OpenClaim := { program := "ytmgdofengamcmaa", sum := "35d4e9230843395ca1c1df5f715ad037eea795ba4973f10eb7ffdc3ff75854d6", func := "loop.example/g01223/laws.FnExactJumpCosts", spec := "fnExactJumpCosts", inPlace := ["math.Float64bits", "math.Float64frombits"], apart := false, narrowed := true }
def FnExactJumpCostsUptoSaid : Prop := fnExactJumpCostsUptoRow.holds Try.pinned (OpenSpec.upto fnExactJumpCostsSpec)

/-- 'laws.FnExactIsWhole', WHERE WHAT IT READS IS OF BULK AT MOST 1048576: true; the input reads as it did. -/
def fnExactIsWholeUptoRow : OpenClaim := { program := "ytmgdofengamcmaa", sum := "35d4e9230843395ca1c1df5f715ad037eea795ba4973f10eb7ffdc3ff75854d6", func := "loop.example/g01223/laws.FnExactIsWhole", spec := "fnExactIsWhole", inPlace := ["math.Float64bits", "math.Float64frombits", "math.RoundToEven"], apart := false, narrowed := true }
def FnExactIsWholeUptoSaid : Prop := fnExactIsWholeUptoRow.holds Try.pinned (OpenSpec.upto fnExactIsWholeSpec)

/-- 'laws.FnExactRowCost', WHERE WHAT IT READS IS OF BULK AT MOST 1048576: true; the input reads as it did. -/
def fnExactRowCostUptoRow : OpenClaim := { program := "ytmgdofengamcmaa", sum := "35d4e9230843395ca1c1df5f715ad037eea795ba4973f10eb7ffdc3ff75854d6", func := "loop.example/g01223/laws.FnExactRowCost", spec := "fnExactRowCost", inPlace := ["math.Float64bits", "math.Float64frombits"], unfollowed := true, recurses := true, apart := false, narrowed := true }
def FnExactRowCostUptoSaid : Prop := fnExactRowCostUptoRow.holds Try.pinned (OpenSpec.upto fnExactRowCostSpec)

/-- 'laws.FnExactMapCost', WHERE WHAT IT READS IS OF BULK AT MOST 1048576: true; the input reads as it did. -/
def fnExactMapCostUptoRow : OpenClaim := { program := "ytmgdofengamcmaa", sum := "35d4e9230843395ca1c1df5f715ad037eea795ba4973f10eb7ffdc3ff75854d6", func := "loop.example/g01223/laws.FnExactMapCost", spec := "fnExactMapCost", inPlace := ["math.Float64bits", "math.Float64frombits", "math.RoundToEven"], apart := false, narrowed := true }
def FnExactMapCostUptoSaid : Prop := fnExactMapCostUptoRow.holds Try.pinned (OpenSpec.upto fnExactMapCostSpec)

end Rows
end Go.Proofs.Ytmgdofengamcmaa
