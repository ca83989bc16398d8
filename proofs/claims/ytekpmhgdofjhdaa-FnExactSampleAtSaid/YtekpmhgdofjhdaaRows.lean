/-
  No cell of these rows narrows 'for every input' (looked for: loops, veiled, ifaces, maps, wideKeys, modest, calm, conditions, laid).
  DERIVED. THE GIVEN ROWS OF THIS SEAT. 12 by the template 'for every input the law returns true; each argument reads behind the call as it read before'; 0 by the template 'total and deterministic' (their statements: YtekpmhgdofjhdaaTotals.lean).
  GIVEN WITH THE SEED: the statements are not yours to turn. If you find one false, say at which input.
  Laid BY PROGRAM, IN A SANDBOX (cutbox-rows.mjs): the forced cells as the released guide's own fill.sh prints them over the translation 0473adfde56ddc33… (all of the seat's roots in one cut). By AI agents, Wed Nov 11 2026. No macro, syntax, notation, axiom, sorry.
-/
import Derived.Test.YtekpmhgdofjhdaaChecked
import GoSem.Claim
import GoSem.ClaimJoined
import GoSem.ClaimMapViews
import Derived.JoinedTies
import Derived.KernelRfl
namespace Go.Proofs.Ytekpmhgdofjhdaa
/- THE CELL 'sum', in the pinned program and in every row, IS THE sha256 OF THE DUMP (.gsa) THAT YtekpmhgdofjhdaaProg.lean LOADS. Nothing in Lean hashes anything: it is a label: what it is worth is what the hold of that sum in a sandbox is worth. -/
noncomputable def Try.pinned : Pinned := { name := "ytekpmhgdofjhdaa", sum := "0473adfde56ddc339f328b302a68d630d8d06b7006bc431695dcc6dcde165a30", checked := Try.checked }
namespace Rows
def none {H : Type} : Left H := { results := [], args := [] }

/-- 'laws.FnExactValidCamera': WHATEVER THE INPUT: true; the input reads as it did. -/
def fnExactValidCameraSpec : ChangeSpec := { name := "fnExactValidCamera", fn := fun _ => fun
  | [d] => { results := [.lit (.bool true)], args := [d] }
  | _ => none }
def fnExactValidCameraRow : OpenClaim := { program := "ytekpmhgdofjhdaa", sum := "0473adfde56ddc339f328b302a68d630d8d06b7006bc431695dcc6dcde165a30", func := "loop.example/g01223/laws.FnExactValidCamera", spec := "fnExactValidCamera", inPlace := ["math.Float64bits", "math.Float64frombits"], apart := false }
def FnExactValidCameraSaid : Prop := fnExactValidCameraRow.holds Try.pinned (OpenSpec.ofChange fnExactValidCameraSpec)

/-- ITS FALSE NEIGHBOUR: 'it returns false'. Refute it at one input. -/
def fnExactValidCameraWrong : ChangeSpec := { name := "fnExactValidCamera", fn := fun _ => fun
  | [d] => { results := [.lit (.bool false)], args := [d] }
  | _ => none }
def FnExactValidCameraWrongFalsely : Prop := fnExactValidCameraRow.holds Try.pinned (OpenSpec.ofChange fnExactValidCameraWrong)

/-- 'laws.FnExactDepthOf': WHATEVER THE INPUT: true; the input reads as it did. -/
def fnExactDepthOfSpec : ChangeSpec := { name := "fnExactDepthOf", fn := fun _ => fun
  | [d1, d2] => { results := [.lit (.bool true)], args := [d1, d2] }
  | _ => none }
def fnExactDepthOfRow : OpenClaim := { program := "ytekpmhgdofjhdaa", sum := "0473adfde56ddc339f328b302a68d630d8d06b7006bc431695dcc6dcde165a30", func := "loop.example/g01223/laws.FnExactDepthOf", spec := "fnExactDepthOf", inPlace := ["math.Float64bits", "math.Float64frombits"], apart := false }
def FnExactDepthOfSaid : Prop := fnExactDepthOfRow.holds Try.pinned (OpenSpec.ofChange fnExactDepthOfSpec)

/-- ITS FALSE NEIGHBOUR: 'it returns false'. Refute it at one input. -/
def fnExactDepthOfWrong : ChangeSpec := { name := "fnExactDepthOf", fn := fun _ => fun
  | [d1, d2] => { results := [.lit (.bool false)], args := [d1, d2] }
  | _ => none }
def FnExactDepthOfWrongFalsely : Prop := fnExactDepthOfRow.holds Try.pinned (OpenSpec.ofChange fnExactDepthOfWrong)

/-- 'laws.FnExactDisparityOf': WHATEVER THE INPUT: true; the input reads as it did. -/
def fnExactDisparityOfSpec : ChangeSpec := { name := "fnExactDisparityOf", fn := fun _ => fun
  | [d1, d2] => { results := [.lit (.bool true)], args := [d1, d2] }
  | _ => none }
def fnExactDisparityOfRow : OpenClaim := { program := "ytekpmhgdofjhdaa", sum := "0473adfde56ddc339f328b302a68d630d8d06b7006bc431695dcc6dcde165a30", func := "loop.example/g01223/laws.FnExactDisparityOf", spec := "fnExactDisparityOf", inPlace := ["math.Float64bits", "math.Float64frombits"], apart := false }
def FnExactDisparityOfSaid : Prop := fnExactDisparityOfRow.holds Try.pinned (OpenSpec.ofChange fnExactDisparityOfSpec)

/-- ITS FALSE NEIGHBOUR: 'it returns false'. Refute it at one input. -/
def fnExactDisparityOfWrong : ChangeSpec := { name := "fnExactDisparityOf", fn := fun _ => fun
  | [d1, d2] => { results := [.lit (.bool false)], args := [d1, d2] }
  | _ => none }
def FnExactDisparityOfWrongFalsely : Prop := fnExactDisparityOfRow.holds Try.pinned (OpenSpec.ofChange fnExactDisparityOfWrong)

/-- 'laws.FnExactPointAt': WHATEVER THE INPUT: true; the input reads as it did. -/
def fnExactPointAtSpec : ChangeSpec := { name := "fnExactPointAt", fn := fun _ => fun
  | [d1, d2, d3, d4] => { results := [.lit (.bool true)], args := [d1, d2, d3, d4] }
  | _ => none }
def fnExactPointAtRow : OpenClaim := { program := "ytekpmhgdofjhdaa", sum := "0473adfde56ddc339f328b302a68d630d8d06b7006bc431695dcc6dcde165a30", func := "loop.example/g01223/laws.FnExactPointAt", spec := "fnExactPointAt", inPlace := ["math.Float64bits", "math.Float64frombits"], apart := false }
def FnExactPointAtSaid : Prop := fnExactPointAtRow.holds Try.pinned (OpenSpec.ofChange fnExactPointAtSpec)

/-- ITS FALSE NEIGHBOUR: 'it returns false'. Refute it at one input. -/
def fnExactPointAtWrong : ChangeSpec := { name := "fnExactPointAt", fn := fun _ => fun
  | [d1, d2, d3, d4] => { results := [.lit (.bool false)], args := [d1, d2, d3, d4] }
  | _ => none }
def FnExactPointAtWrongFalsely : Prop := fnExactPointAtRow.holds Try.pinned (OpenSpec.ofChange fnExactPointAtWrong)

/-- 'laws.FnExactCellOf': WHATEVER THE INPUT: true; the input reads as it did. -/
def fnExactCellOfSpec : ChangeSpec := { name := "fnExactCellOf", fn := fun _ => fun
  | [d1, d2] => { results := [.lit (.bool true)], args := [d1, d2] }
  | _ => none }
def fnExactCellOfRow : OpenClaim := { program := "ytekpmhgdofjhdaa", sum := "0473adfde56ddc339f328b302a68d630d8d06b7006bc431695dcc6dcde165a30", func := "loop.example/g01223/laws.FnExactCellOf", spec := "fnExactCellOf", inPlace := ["math.Float64bits", "math.Float64frombits"], apart := false }
def FnExactCellOfSaid : Prop := fnExactCellOfRow.holds Try.pinned (OpenSpec.ofChange fnExactCellOfSpec)

/-- ITS FALSE NEIGHBOUR: 'it returns false'. Refute it at one input. -/
def fnExactCellOfWrong : ChangeSpec := { name := "fnExactCellOf", fn := fun _ => fun
  | [d1, d2] => { results := [.lit (.bool false)], args := [d1, d2] }
  | _ => none }
def FnExactCellOfWrongFalsely : Prop := fnExactCellOfRow.holds Try.pinned (OpenSpec.ofChange fnExactCellOfWrong)

/-- 'laws.FnExactHeightAt': WHATEVER THE INPUT: true; the input reads as it did. -/
def fnExactHeightAtSpec : ChangeSpec := { name := "fnExactHeightAt", fn := fun _ => fun
  | [d1, d2, d3] => { results := [.lit (.bool true)], args := [d1, d2, d3] }
  | _ => none }
def fnExactHeightAtRow : OpenClaim := { program := "ytekpmhgdofjhdaa", sum := "0473adfde56ddc339f328b302a68d630d8d06b7006bc431695dcc6dcde165a30", func := "loop.example/g01223/laws.FnExactHeightAt", spec := "fnExactHeightAt", apart := false }
def FnExactHeightAtSaid : Prop := fnExactHeightAtRow.holds Try.pinned (OpenSpec.ofChange fnExactHeightAtSpec)

/-- ITS FALSE NEIGHBOUR: 'it returns false'. Refute it at one input. -/
def fnExactHeightAtWrong : ChangeSpec := { name := "fnExactHeightAt", fn := fun _ => fun
  | [d1, d2, d3] => { results := [.lit (.bool false)], args := [d1, d2, d3] }
  | _ => none }
def FnExactHeightAtWrongFalsely : Prop := fnExactHeightAtRow.holds Try.pinned (OpenSpec.ofChange fnExactHeightAtWrong)

/-- 'laws.FnExactIsWarp': WHATEVER THE INPUT: true; the input reads as it did. -/
def fnExactIsWarpSpec : ChangeSpec := { name := "fnExactIsWarp", fn := fun _ => fun
  | [d] => { results := [.lit (.bool true)], args := [d] }
  | _ => none }
def fnExactIsWarpRow : OpenClaim := { program := "ytekpmhgdofjhdaa", sum := "0473adfde56ddc339f328b302a68d630d8d06b7006bc431695dcc6dcde165a30", func := "loop.example/g01223/laws.FnExactIsWarp", spec := "fnExactIsWarp", inPlace := ["math.Float64bits", "math.Float64frombits"], unfollowed := true, recurses := true, apart := false }
def FnExactIsWarpSaid : Prop := fnExactIsWarpRow.holds Try.pinned (OpenSpec.ofChange fnExactIsWarpSpec)

/-- ITS FALSE NEIGHBOUR: 'it returns false'. Refute it at one input. -/
def fnExactIsWarpWrong : ChangeSpec := { name := "fnExactIsWarp", fn := fun _ => fun
  | [d] => { results := [.lit (.bool false)], args := [d] }
  | _ => none }
def FnExactIsWarpWrongFalsely : Prop := fnExactIsWarpRow.holds Try.pinned (OpenSpec.ofChange fnExactIsWarpWrong)

/-- 'laws.FnExactWarpPoint': WHATEVER THE INPUT: true; the input reads as it did. -/
def fnExactWarpPointSpec : ChangeSpec := { name := "fnExactWarpPoint", fn := fun _ => fun
  | [d1, d2, d3] => { results := [.lit (.bool true)], args := [d1, d2, d3] }
  | _ => none }
def fnExactWarpPointRow : OpenClaim := { program := "ytekpmhgdofjhdaa", sum := "0473adfde56ddc339f328b302a68d630d8d06b7006bc431695dcc6dcde165a30", func := "loop.example/g01223/laws.FnExactWarpPoint", spec := "fnExactWarpPoint", inPlace := ["math.Float64bits", "math.Float64frombits"], unfollowed := true, recurses := true, apart := false }
def FnExactWarpPointSaid : Prop := fnExactWarpPointRow.holds Try.pinned (OpenSpec.ofChange fnExactWarpPointSpec)

/-- ITS FALSE NEIGHBOUR: 'it returns false'. Refute it at one input. -/
def fnExactWarpPointWrong : ChangeSpec := { name := "fnExactWarpPoint", fn := fun _ => fun
  | [d1, d2, d3] => { results := [.lit (.bool false)], args := [d1, d2, d3] }
  | _ => none }
def FnExactWarpPointWrongFalsely : Prop := fnExactWarpPointRow.holds Try.pinned (OpenSpec.ofChange fnExactWarpPointWrong)

/-- 'laws.FnExactTimesWarp': WHATEVER THE INPUT: true; the input reads as it did. -/
def fnExactTimesWarpSpec : ChangeSpec := { name := "fnExactTimesWarp", fn := fun _ => fun
  | [d1, d2] => { results := [.lit (.bool true)], args := [d1, d2] }
  | _ => none }
def fnExactTimesWarpRow : OpenClaim := { program := "ytekpmhgdofjhdaa", sum := "0473adfde56ddc339f328b302a68d630d8d06b7006bc431695dcc6dcde165a30", func := "loop.example/g01223/laws.FnExactTimesWarp", spec := "fnExactTimesWarp", inPlace := ["math.Float64bits", "math.Float64frombits"], unfollowed := true, recurses := true, apart := false }
def FnExactTimesWarpSaid : Prop := fnExactTimesWarpRow.holds Try.pinned (OpenSpec.ofChange fnExactTimesWarpSpec)

/-- ITS FALSE NEIGHBOUR: 'it returns false'. Refute it at one input. -/
def fnExactTimesWarpWrong : ChangeSpec := { name := "fnExactTimesWarp", fn := fun _ => fun
  | [d1, d2] => { results := [.lit (.bool false)], args := [d1, d2] }
  | _ => none }
def FnExactTimesWarpWrongFalsely : Prop := fnExactTimesWarpRow.holds Try.pinned (OpenSpec.ofChange fnExactTimesWarpWrong)

/-- 'laws.FnExactOffPlane': WHATEVER THE INPUT: true; the input reads as it did. -/
def fnExactOffPlaneSpec : ChangeSpec := { name := "fnExactOffPlane", fn := fun _ => fun
  | [d1, d2] => { results := [.lit (.bool true)], args := [d1, d2] }
  | _ => none }
def fnExactOffPlaneRow : OpenClaim := { program := "ytekpmhgdofjhdaa", sum := "0473adfde56ddc339f328b302a68d630d8d06b7006bc431695dcc6dcde165a30", func := "loop.example/g01223/laws.FnExactOffPlane", spec := "fnExactOffPlane", inPlace := ["math.Float64bits", "math.Float64frombits"], apart := false }
def FnExactOffPlaneSaid : Prop := fnExactOffPlaneRow.holds Try.pinned (OpenSpec.ofChange fnExactOffPlaneSpec)

/-- ITS FALSE NEIGHBOUR: 'it returns false'. Refute it at one input. -/
def fnExactOffPlaneWrong : ChangeSpec := { name := "fnExactOffPlane", fn := fun _ => fun
  | [d1, d2] => { results := [.lit (.bool false)], args := [d1, d2] }
  | _ => none }
def FnExactOffPlaneWrongFalsely : Prop := fnExactOffPlaneRow.holds Try.pinned (OpenSpec.ofChange fnExactOffPlaneWrong)

/-- 'laws.FnExactNearPlane': WHATEVER THE INPUT: true; the input reads as it did. -/
def fnExactNearPlaneSpec : ChangeSpec := { name := "fnExactNearPlane", fn := fun _ => fun
  | [d1, d2, d3] => { results := [.lit (.bool true)], args := [d1, d2, d3] }
  | _ => none }
def fnExactNearPlaneRow : OpenClaim := { program := "ytekpmhgdofjhdaa", sum := "0473adfde56ddc339f328b302a68d630d8d06b7006bc431695dcc6dcde165a30", func := "loop.example/g01223/laws.FnExactNearPlane", spec := "fnExactNearPlane", inPlace := ["math.Float64bits", "math.Float64frombits"], apart := false }
def FnExactNearPlaneSaid : Prop := fnExactNearPlaneRow.holds Try.pinned (OpenSpec.ofChange fnExactNearPlaneSpec)

/-- ITS FALSE NEIGHBOUR: 'it returns false'. Refute it at one input. -/
def fnExactNearPlaneWrong : ChangeSpec := { name := "fnExactNearPlane", fn := fun _ => fun
  | [d1, d2, d3] => { results := [.lit (.bool false)], args := [d1, d2, d3] }
  | _ => none }
def FnExactNearPlaneWrongFalsely : Prop := fnExactNearPlaneRow.holds Try.pinned (OpenSpec.ofChange fnExactNearPlaneWrong)

/-- 'laws.FnExactSampleAt': WHATEVER THE INPUT: true; the input reads as it did. -/
def fnExactSampleAtSpec : ChangeSpec := { name := "fnExactSampleAt", fn := fun _ => fun
  | [d1, d2, d3] => { results := [.lit (.bool true)], args := [d1, d2, d3] }
  | _ => none }
def fnExactSampleAtRow : OpenClaim := { program := "ytekpmhgdofjhdaa", sum := "0473adfde56ddc339f328b302a68d630d8d06b7006bc431695dcc6dcde165a30", func := "loop.example/g01223/laws.FnExactSampleAt", spec := "fnExactSampleAt", inPlace := ["math.archFloor", "math.Float64bits", "math.Float64frombits", "math.archTrunc"], apart := false }
def FnExactSampleAtSaid : Prop := fnExactSampleAtRow.holds Try.pinned (OpenSpec.ofChange fnExactSampleAtSpec)

/-- ITS FALSE NEIGHBOUR: 'it returns false'. Refute it at one input. -/
def fnExactSampleAtWrong : ChangeSpec := { name := "fnExactSampleAt", fn := fun _ => fun
  | [d1, d2, d3] => { results := [.lit (.bool false)], args := [d1, d2, d3] }
  | _ => none }
def FnExactSampleAtWrongFalsely : Prop := fnExactSampleAtRow.holds Try.pinned (OpenSpec.ofChange fnExactSampleAtWrong)

/- THE SECOND FORM. 'bulk': how many values and letters a reading holds, each counted each time it is reached (what is shared counts as often as it is met; a slice's spare places count too). A statement '..UptoSaid' is the law's where the arguments, and the package variables that the reading takes, are together of bulk at most 1048576: NARROWER than '..Said'. Prove '..Said' where nothing that the law and all that it calls make is longer than what came in: it says more and counts as full. Else prove '..UptoSaid'. A law counts once. -/
mutual
def uptoBulk {H : Type} : DataW H → Nat
  | .lit (.string bytes) => bytes.length + 1
  | .lit _ => 1
  | .nil => 1
  | .ptr d => uptoBulk d + 1
  | .slice elems spare => uptoBulkAll elems + uptoBulkAll spare + 1
  | .agg parts => uptoBulkAll parts + 1
  | .iface _ d => uptoBulk d + 1
  | .map entries => uptoBulkEntries entries + 1
  | .held _ => 1
def uptoBulkAll {H : Type} : List (DataW H) → Nat
  | [] => 0
  | d :: r => uptoBulk d + uptoBulkAll r
def uptoBulkEntries {H : Type} : List (Lit × DataW H) → Nat
  | [] => 0
  | x :: r => uptoBulkEntry x + uptoBulkEntries r
def uptoBulkEntry {H : Type} : Lit × DataW H → Nat
  | (.string bytes, d) => bytes.length + uptoBulk d + 1
  | (_, d) => uptoBulk d + 1
 end
def uptoSmall : (H : Type) → List (DataW H) → Bool := fun _ ds => decide (uptoBulkAll ds ≤ 1048576)
def OpenSpec.upto (s : _root_.Go.ChangeSpec) : _root_.Go.OpenSpec := { _root_.Go.OpenSpec.ofChange s with cond := some uptoSmall }

/-- 'laws.FnExactValidCamera', WHERE WHAT IT READS IS OF BULK AT MOST 1048576: true; the input reads as it did. -/
def fnExactValidCameraUptoRow : OpenClaim := { program := "ytekpmhgdofjhdaa", sum := "0473adfde56ddc339f328b302a68d630d8d06b7006bc431695dcc6dcde165a30", func := "loop.example/g01223/laws.FnExactValidCamera", spec := "fnExactValidCamera", inPlace := ["math.Float64bits", "math.Float64frombits"], apart := false, narrowed := true }
def FnExactValidCameraUptoSaid : Prop := fnExactValidCameraUptoRow.holds Try.pinned (OpenSpec.upto fnExactValidCameraSpec)

/-- 'laws.FnExactDepthOf', WHERE WHAT IT READS IS OF BULK AT MOST 1048576: true; the input reads as it did. -/
def fnExactDepthOfUptoRow : OpenClaim := { program := "ytekpmhgdofjhdaa", sum := "0473adfde56ddc339f328b302a68d630d8d06b7006bc431695dcc6dcde165a30", func := "loop.example/g01223/laws.FnExactDepthOf", spec := "fnExactDepthOf", inPlace := ["math.Float64bits", "math.Float64frombits"], apart := false, narrowed := true }
def FnExactDepthOfUptoSaid : Prop := fnExactDepthOfUptoRow.holds Try.pinned (OpenSpec.upto fnExactDepthOfSpec)

/-- 'laws.FnExactDisparityOf', WHERE WHAT IT READS IS OF BULK AT MOST 1048576: true; the input reads as it did. -/
def fnExactDisparityOfUptoRow : OpenClaim := { program := "ytekpmhgdofjhdaa", sum := "0473adfde56ddc339f328b302a68d630d8d06b7006bc431695dcc6dcde165a30", func := "loop.example/g01223/laws.FnExactDisparityOf", spec := "fnExactDisparityOf", inPlace := ["math.Float64bits", "math.Float64frombits"], apart := false, narrowed := true }
def FnExactDisparityOfUptoSaid : Prop := fnExactDisparityOfUptoRow.holds Try.pinned (OpenSpec.upto fnExactDisparityOfSpec)

/-- 'laws.FnExactPointAt', WHERE WHAT IT READS IS OF BULK AT MOST 1048576: true; the input reads as it did. -/
def fnExactPointAtUptoRow : OpenClaim := { program := "ytekpmhgdofjhdaa", sum := "0473adfde56ddc339f328b302a68d630d8d06b7006bc431695dcc6dcde165a30", func := "loop.example/g01223/laws.FnExactPointAt", spec := "fnExactPointAt", inPlace := ["math.Float64bits", "math.Float64frombits"], apart := false, narrowed := true }
def FnExactPointAtUptoSaid : Prop := fnExactPointAtUptoRow.holds Try.pinned (OpenSpec.upto fnExactPointAtSpec)

/-- 'laws.FnExactCellOf', WHERE WHAT IT READS IS OF BULK AT MOST 1048576: true; the input reads as it did. -/
def fnExactCellOfUptoRow : OpenClaim := { program := "ytekpmhgdofjhdaa", sum := "0473adfde56ddc339f328b302a68d630d8d06b7006bc431695dcc6dcde165a30", func := "loop.example/g01223/laws.FnExactCellOf", spec := "fnExactCellOf", inPlace := ["math.Float64bits", "math.Float64frombits"], apart := false, narrowed := true }
def FnExactCellOfUptoSaid : Prop := fnExactCellOfUptoRow.holds Try.pinned (OpenSpec.upto fnExactCellOfSpec)

/-- 'laws.FnExactHeightAt', WHERE WHAT IT READS IS OF BULK AT MOST 1048576: true; the input reads as it did. -/
def fnExactHeightAtUptoRow : OpenClaim := { program := "ytekpmhgdofjhdaa", sum := "0473adfde56ddc339f328b302a68d630d8d06b7006bc431695dcc6dcde165a30", func := "loop.example/g01223/laws.FnExactHeightAt", spec := "fnExactHeightAt", apart := false, narrowed := true }
def FnExactHeightAtUptoSaid : Prop := fnExactHeightAtUptoRow.holds Try.pinned (OpenSpec.upto fnExactHeightAtSpec)

/-- 'laws.FnExactIsWarp', WHERE WHAT IT READS IS OF BULK AT MOST 1048576: true; the input reads as it did. -/
def fnExactIsWarpUptoRow : OpenClaim := { program := "ytekpmhgdofjhdaa", sum := "0473adfde56ddc339f328b302a68d630d8d06b7006bc431695dcc6dcde165a30", func := "loop.example/g01223/laws.FnExactIsWarp", spec := "fnExactIsWarp", inPlace := ["math.Float64bits", "math.Float64frombits"], unfollowed := true, recurses := true, apart := false, narrowed := true }
def FnExactIsWarpUptoSaid : Prop := fnExactIsWarpUptoRow.holds Try.pinned (OpenSpec.upto fnExactIsWarpSpec)

/-- 'laws.FnExactWarpPoint', WHERE WHAT IT READS IS OF BULK AT MOST 1048576: true; the input reads as it did. -/
def fnExactWarpPointUptoRow : OpenClaim := { program := "ytekpmhgdofjhdaa", sum := "0473adfde56ddc339f328b302a68d630d8d06b7006bc431695dcc6dcde165a30", func := "loop.example/g01223/laws.FnExactWarpPoint", spec := "fnExactWarpPoint", inPlace := ["math.Float64bits", "math.Float64frombits"], unfollowed := true, recurses := true, apart := false, narrowed := true }
def FnExactWarpPointUptoSaid : Prop := fnExactWarpPointUptoRow.holds Try.pinned (OpenSpec.upto fnExactWarpPointSpec)

/-- 'laws.FnExactTimesWarp', WHERE WHAT IT READS IS OF BULK AT MOST 1048576: true; the input reads as it did. -/
def fnExactTimesWarpUptoRow : OpenClaim := { program := "ytekpmhgdofjhdaa", sum := "0473adfde56ddc339f328b302a68d630d8d06b7006bc431695dcc6dcde165a30", func := "loop.example/g01223/laws.FnExactTimesWarp", spec := "fnExactTimesWarp", inPlace := ["math.Float64bits", "math.Float64frombits"], unfollowed := true, recurses := true, apart := false, narrowed := true }
def FnExactTimesWarpUptoSaid : Prop := fnExactTimesWarpUptoRow.holds Try.pinned (OpenSpec.upto fnExactTimesWarpSpec)

/-- 'laws.FnExactOffPlane', WHERE WHAT IT READS IS OF BULK AT MOST 1048576: true; the input reads as it did. -/
def fnExactOffPlaneUptoRow : OpenClaim := { program := "ytekpmhgdofjhdaa", sum := "0473adfde56ddc339f328b302a68d630d8d06b7006bc431695dcc6dcde165a30", func := "loop.example/g01223/laws.FnExactOffPlane", spec := "fnExactOffPlane", inPlace := ["math.Float64bits", "math.Float64frombits"], apart := false, narrowed := true }
def FnExactOffPlaneUptoSaid : Prop := fnExactOffPlaneUptoRow.holds Try.pinned (OpenSpec.upto fnExactOffPlaneSpec)

/-- 'laws.FnExactNearPlane', WHERE WHAT IT READS IS OF BULK AT MOST 1048576: true; the input reads as it did. -/
def fnExactNearPlaneUptoRow : OpenClaim := { program := "ytekpmhgdofjhdaa", sum := "0473adfde56ddc339f328b302a68d630d8d06b7006bc431695dcc6dcde165a30", func := "loop.example/g01223/laws.FnExactNearPlane", spec := "fnExactNearPlane", inPlace := ["math.Float64bits", "math.Float64frombits"], apart := false, narrowed := true }
def FnExactNearPlaneUptoSaid : Prop := fnExactNearPlaneUptoRow.holds Try.pinned (OpenSpec.upto fnExactNearPlaneSpec)

/-- 'laws.FnExactSampleAt', WHERE WHAT IT READS IS OF BULK AT MOST 1048576: true; the input reads as it did. -/
def fnExactSampleAtUptoRow : OpenClaim := { program := "ytekpmhgdofjhdaa", sum := "0473adfde56ddc339f328b302a68d630d8d06b7006bc431695dcc6dcde165a30", func := "loop.example/g01223/laws.FnExactSampleAt", spec := "fnExactSampleAt", inPlace := ["math.archFloor", "math.Float64bits", "math.Float64frombits", "math.archTrunc"], apart := false, narrowed := true }
def FnExactSampleAtUptoSaid : Prop := fnExactSampleAtUptoRow.holds Try.pinned (OpenSpec.upto fnExactSampleAtSpec)

end Rows
end Go.Proofs.Ytekpmhgdofjhdaa
