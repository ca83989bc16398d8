/-
  No cell of these rows narrows 'for every input' (looked for: loops, veiled, ifaces, maps, wideKeys, modest, calm, conditions, laid).
  DERIVED. THE GIVEN ROWS OF THIS SEAT. 11 by the template 'for every input the law returns true; each argument reads behind the call as it read before'; 0 by the template 'total and deterministic' (their statements: YtnbilmlpngcobaaTotals.lean).
  GIVEN WITH THE SEED: the statements are not yours to turn. If you find one false, say at which input.
  Laid BY PROGRAM, IN A SANDBOX (cutbox-rows.mjs): the forced cells as the released guide's own fill.sh prints them over the translation 4d93e791f76cf5ed… (all of the seat's roots in one cut). By AI agents, Wed Nov 11 2026. No macro, syntax, notation, axiom, sorry.
-/
import Derived.Test.YtnbilmlpngcobaaChecked
import GoSem.Claim
import GoSem.ClaimJoined
import GoSem.ClaimMapViews
import Derived.JoinedTies
import Derived.KernelRfl
namespace Go.Proofs.Ytnbilmlpngcobaa
/- THE CELL 'sum', in the pinned program and in every row, IS THE sha256 OF THE DUMP (.gsa) THAT YtnbilmlpngcobaaProg.lean LOADS. Nothing in Lean hashes anything: it is a label: what it is worth is what the hold of that sum in a sandbox is worth. -/
noncomputable def Try.pinned : Pinned := { name := "ytnbilmlpngcobaa", sum := "4d93e791f76cf5ede6fa94757a9e9544b1fe9f9caaa61f2517d75cbc4ced5112", checked := Try.checked }
namespace Rows
def none {H : Type} : Left H := { results := [], args := [] }

/-- 'laws.FnExactDepthMap': WHATEVER THE INPUT: true; the input reads as it did. -/
def fnExactDepthMapSpec : ChangeSpec := { name := "fnExactDepthMap", fn := fun _ => fun
  | [d1, d2] => { results := [.lit (.bool true)], args := [d1, d2] }
  | _ => none }
def fnExactDepthMapRow : OpenClaim := { program := "ytnbilmlpngcobaa", sum := "4d93e791f76cf5ede6fa94757a9e9544b1fe9f9caaa61f2517d75cbc4ced5112", func := "loop.example/g01223/laws.FnExactDepthMap", spec := "fnExactDepthMap", inPlace := ["math.Float64bits", "math.Float64frombits"], unfollowed := true, recurses := true, apart := false }
def FnExactDepthMapSaid : Prop := fnExactDepthMapRow.holds Try.pinned (OpenSpec.ofChange fnExactDepthMapSpec)

/-- ITS FALSE NEIGHBOUR: 'it returns false'. Refute it at one input. -/
def fnExactDepthMapWrong : ChangeSpec := { name := "fnExactDepthMap", fn := fun _ => fun
  | [d1, d2] => { results := [.lit (.bool false)], args := [d1, d2] }
  | _ => none }
def FnExactDepthMapWrongFalsely : Prop := fnExactDepthMapRow.holds Try.pinned (OpenSpec.ofChange fnExactDepthMapWrong)

/-- 'laws.FnExactPlaneMap': WHATEVER THE INPUT: true; the input reads as it did. -/
def fnExactPlaneMapSpec : ChangeSpec := { name := "fnExactPlaneMap", fn := fun _ => fun
  | [d1, d2, d3, d4] => { results := [.lit (.bool true)], args := [d1, d2, d3, d4] }
  | _ => none }
def fnExactPlaneMapRow : OpenClaim := { program := "ytnbilmlpngcobaa", sum := "4d93e791f76cf5ede6fa94757a9e9544b1fe9f9caaa61f2517d75cbc4ced5112", func := "loop.example/g01223/laws.FnExactPlaneMap", spec := "fnExactPlaneMap", inPlace := ["math.Float64bits", "math.Float64frombits"], unfollowed := true, recurses := true, apart := false }
def FnExactPlaneMapSaid : Prop := fnExactPlaneMapRow.holds Try.pinned (OpenSpec.ofChange fnExactPlaneMapSpec)

/-- ITS FALSE NEIGHBOUR: 'it returns false'. Refute it at one input. -/
def fnExactPlaneMapWrong : ChangeSpec := { name := "fnExactPlaneMap", fn := fun _ => fun
  | [d1, d2, d3, d4] => { results := [.lit (.bool false)], args := [d1, d2, d3, d4] }
  | _ => none }
def FnExactPlaneMapWrongFalsely : Prop := fnExactPlaneMapRow.holds Try.pinned (OpenSpec.ofChange fnExactPlaneMapWrong)

/-- 'laws.FnExactBendPicture': WHATEVER THE INPUT: true; the input reads as it did. -/
def fnExactBendPictureSpec : ChangeSpec := { name := "fnExactBendPicture", fn := fun _ => fun
  | [d1, d2] => { results := [.lit (.bool true)], args := [d1, d2] }
  | _ => none }
def fnExactBendPictureRow : OpenClaim := { program := "ytnbilmlpngcobaa", sum := "4d93e791f76cf5ede6fa94757a9e9544b1fe9f9caaa61f2517d75cbc4ced5112", func := "loop.example/g01223/laws.FnExactBendPicture", spec := "fnExactBendPicture", inPlace := ["math.archFloor", "math.Float64bits", "math.Float64frombits", "math.archTrunc"], unfollowed := true, recurses := true, apart := false }
def FnExactBendPictureSaid : Prop := fnExactBendPictureRow.holds Try.pinned (OpenSpec.ofChange fnExactBendPictureSpec)

/-- ITS FALSE NEIGHBOUR: 'it returns false'. Refute it at one input. -/
def fnExactBendPictureWrong : ChangeSpec := { name := "fnExactBendPicture", fn := fun _ => fun
  | [d1, d2] => { results := [.lit (.bool false)], args := [d1, d2] }
  | _ => none }
def FnExactBendPictureWrongFalsely : Prop := fnExactBendPictureRow.holds Try.pinned (OpenSpec.ofChange fnExactBendPictureWrong)

/-- 'laws.FnExactBackPicture': WHATEVER THE INPUT: true; the input reads as it did. -/
def fnExactBackPictureSpec : ChangeSpec := { name := "fnExactBackPicture", fn := fun _ => fun
  | [d1, d2] => { results := [.lit (.bool true)], args := [d1, d2] }
  | _ => none }
def fnExactBackPictureRow : OpenClaim := { program := "ytnbilmlpngcobaa", sum := "4d93e791f76cf5ede6fa94757a9e9544b1fe9f9caaa61f2517d75cbc4ced5112", func := "loop.example/g01223/laws.FnExactBackPicture", spec := "fnExactBackPicture", inPlace := ["math.archFloor", "math.Float64bits", "math.Float64frombits", "math.archTrunc"], unfollowed := true, recurses := true, apart := false }
def FnExactBackPictureSaid : Prop := fnExactBackPictureRow.holds Try.pinned (OpenSpec.ofChange fnExactBackPictureSpec)

/-- ITS FALSE NEIGHBOUR: 'it returns false'. Refute it at one input. -/
def fnExactBackPictureWrong : ChangeSpec := { name := "fnExactBackPicture", fn := fun _ => fun
  | [d1, d2] => { results := [.lit (.bool false)], args := [d1, d2] }
  | _ => none }
def FnExactBackPictureWrongFalsely : Prop := fnExactBackPictureRow.holds Try.pinned (OpenSpec.ofChange fnExactBackPictureWrong)

/-- 'laws.FnExactPointsOf': WHATEVER THE INPUT: true; the input reads as it did. -/
def fnExactPointsOfSpec : ChangeSpec := { name := "fnExactPointsOf", fn := fun _ => fun
  | [d1, d2] => { results := [.lit (.bool true)], args := [d1, d2] }
  | _ => none }
def fnExactPointsOfRow : OpenClaim := { program := "ytnbilmlpngcobaa", sum := "4d93e791f76cf5ede6fa94757a9e9544b1fe9f9caaa61f2517d75cbc4ced5112", func := "loop.example/g01223/laws.FnExactPointsOf", spec := "fnExactPointsOf", inPlace := ["math.Float64bits", "math.Float64frombits"], apart := false }
def FnExactPointsOfSaid : Prop := fnExactPointsOfRow.holds Try.pinned (OpenSpec.ofChange fnExactPointsOfSpec)

/-- ITS FALSE NEIGHBOUR: 'it returns false'. Refute it at one input. -/
def fnExactPointsOfWrong : ChangeSpec := { name := "fnExactPointsOf", fn := fun _ => fun
  | [d1, d2] => { results := [.lit (.bool false)], args := [d1, d2] }
  | _ => none }
def FnExactPointsOfWrongFalsely : Prop := fnExactPointsOfRow.holds Try.pinned (OpenSpec.ofChange fnExactPointsOfWrong)

/-- 'laws.FnExactMeshOf': WHATEVER THE INPUT: true; the input reads as it did. -/
def fnExactMeshOfSpec : ChangeSpec := { name := "fnExactMeshOf", fn := fun _ => fun
  | [d1, d2, d3] => { results := [.lit (.bool true)], args := [d1, d2, d3] }
  | _ => none }
def fnExactMeshOfRow : OpenClaim := { program := "ytnbilmlpngcobaa", sum := "4d93e791f76cf5ede6fa94757a9e9544b1fe9f9caaa61f2517d75cbc4ced5112", func := "loop.example/g01223/laws.FnExactMeshOf", spec := "fnExactMeshOf", inPlace := ["math.Float64bits", "math.Float64frombits"], apart := false }
def FnExactMeshOfSaid : Prop := fnExactMeshOfRow.holds Try.pinned (OpenSpec.ofChange fnExactMeshOfSpec)

/-- ITS FALSE NEIGHBOUR: 'it returns false'. Refute it at one input. -/
def fnExactMeshOfWrong : ChangeSpec := { name := "fnExactMeshOf", fn := fun _ => fun
  | [d1, d2, d3] => { results := [.lit (.bool false)], args := [d1, d2, d3] }
  | _ => none }
def FnExactMeshOfWrongFalsely : Prop := fnExactMeshOfRow.holds Try.pinned (OpenSpec.ofChange fnExactMeshOfWrong)

/-- 'laws.FnExactErrorOf': WHATEVER THE INPUT: true; the input reads as it did. -/
def fnExactErrorOfSpec : ChangeSpec := { name := "fnExactErrorOf", fn := fun _ => fun
  | [d1, d2, d3] => { results := [.lit (.bool true)], args := [d1, d2, d3] }
  | _ => none }
def fnExactErrorOfRow : OpenClaim := { program := "ytnbilmlpngcobaa", sum := "4d93e791f76cf5ede6fa94757a9e9544b1fe9f9caaa61f2517d75cbc4ced5112", func := "loop.example/g01223/laws.FnExactErrorOf", spec := "fnExactErrorOf", inPlace := ["math.RoundToEven", "math.Float64bits", "math.Float64frombits"], unfollowed := true, recurses := true, apart := false }
def FnExactErrorOfSaid : Prop := fnExactErrorOfRow.holds Try.pinned (OpenSpec.ofChange fnExactErrorOfSpec)

/-- ITS FALSE NEIGHBOUR: 'it returns false'. Refute it at one input. -/
def fnExactErrorOfWrong : ChangeSpec := { name := "fnExactErrorOf", fn := fun _ => fun
  | [d1, d2, d3] => { results := [.lit (.bool false)], args := [d1, d2, d3] }
  | _ => none }
def FnExactErrorOfWrongFalsely : Prop := fnExactErrorOfRow.holds Try.pinned (OpenSpec.ofChange fnExactErrorOfWrong)

/-- 'laws.FnExactOppositeWarp': WHATEVER THE INPUT: true; the input reads as it did. -/
def fnExactOppositeWarpSpec : ChangeSpec := { name := "fnExactOppositeWarp", fn := fun _ => fun
  | [d] => { results := [.lit (.bool true)], args := [d] }
  | _ => none }
def fnExactOppositeWarpRow : OpenClaim := { program := "ytnbilmlpngcobaa", sum := "4d93e791f76cf5ede6fa94757a9e9544b1fe9f9caaa61f2517d75cbc4ced5112", func := "loop.example/g01223/laws.FnExactOppositeWarp", spec := "fnExactOppositeWarp", inPlace := ["math.Float64bits", "math.Float64frombits"], unfollowed := true, recurses := true, apart := false }
def FnExactOppositeWarpSaid : Prop := fnExactOppositeWarpRow.holds Try.pinned (OpenSpec.ofChange fnExactOppositeWarpSpec)

/-- ITS FALSE NEIGHBOUR: 'it returns false'. Refute it at one input. -/
def fnExactOppositeWarpWrong : ChangeSpec := { name := "fnExactOppositeWarp", fn := fun _ => fun
  | [d] => { results := [.lit (.bool false)], args := [d] }
  | _ => none }
def FnExactOppositeWarpWrongFalsely : Prop := fnExactOppositeWarpRow.holds Try.pinned (OpenSpec.ofChange fnExactOppositeWarpWrong)

/-- 'laws.FnExactPlaneThrough': WHATEVER THE INPUT: true; the input reads as it did. -/
def fnExactPlaneThroughSpec : ChangeSpec := { name := "fnExactPlaneThrough", fn := fun _ => fun
  | [d1, d2, d3] => { results := [.lit (.bool true)], args := [d1, d2, d3] }
  | _ => none }
def fnExactPlaneThroughRow : OpenClaim := { program := "ytnbilmlpngcobaa", sum := "4d93e791f76cf5ede6fa94757a9e9544b1fe9f9caaa61f2517d75cbc4ced5112", func := "loop.example/g01223/laws.FnExactPlaneThrough", spec := "fnExactPlaneThrough", inPlace := ["math.Float64bits", "math.Float64frombits"], apart := false }
def FnExactPlaneThroughSaid : Prop := fnExactPlaneThroughRow.holds Try.pinned (OpenSpec.ofChange fnExactPlaneThroughSpec)

/-- ITS FALSE NEIGHBOUR: 'it returns false'. Refute it at one input. -/
def fnExactPlaneThroughWrong : ChangeSpec := { name := "fnExactPlaneThrough", fn := fun _ => fun
  | [d1, d2, d3] => { results := [.lit (.bool false)], args := [d1, d2, d3] }
  | _ => none }
def FnExactPlaneThroughWrongFalsely : Prop := fnExactPlaneThroughRow.holds Try.pinned (OpenSpec.ofChange fnExactPlaneThroughWrong)

/-- 'laws.FnExactFitPlane': WHATEVER THE INPUT: true; the input reads as it did. -/
def fnExactFitPlaneSpec : ChangeSpec := { name := "fnExactFitPlane", fn := fun _ => fun
  | [d] => { results := [.lit (.bool true)], args := [d] }
  | _ => none }
def fnExactFitPlaneRow : OpenClaim := { program := "ytnbilmlpngcobaa", sum := "4d93e791f76cf5ede6fa94757a9e9544b1fe9f9caaa61f2517d75cbc4ced5112", func := "loop.example/g01223/laws.FnExactFitPlane", spec := "fnExactFitPlane", inPlace := ["math.Float64bits", "math.Float64frombits"], unfollowed := true, recurses := true, apart := false }
def FnExactFitPlaneSaid : Prop := fnExactFitPlaneRow.holds Try.pinned (OpenSpec.ofChange fnExactFitPlaneSpec)

/-- ITS FALSE NEIGHBOUR: 'it returns false'. Refute it at one input. -/
def fnExactFitPlaneWrong : ChangeSpec := { name := "fnExactFitPlane", fn := fun _ => fun
  | [d] => { results := [.lit (.bool false)], args := [d] }
  | _ => none }
def FnExactFitPlaneWrongFalsely : Prop := fnExactFitPlaneRow.holds Try.pinned (OpenSpec.ofChange fnExactFitPlaneWrong)

/-- 'laws.FnExactBestPlane': WHATEVER THE INPUT: true; the input reads as it did. -/
def fnExactBestPlaneSpec : ChangeSpec := { name := "fnExactBestPlane", fn := fun _ => fun
  | [d1, d2, d3, d4] => { results := [.lit (.bool true)], args := [d1, d2, d3, d4] }
  | _ => none }
def fnExactBestPlaneRow : OpenClaim := { program := "ytnbilmlpngcobaa", sum := "4d93e791f76cf5ede6fa94757a9e9544b1fe9f9caaa61f2517d75cbc4ced5112", func := "loop.example/g01223/laws.FnExactBestPlane", spec := "fnExactBestPlane", inPlace := ["math.Float64bits", "math.Float64frombits"], apart := false }
def FnExactBestPlaneSaid : Prop := fnExactBestPlaneRow.holds Try.pinned (OpenSpec.ofChange fnExactBestPlaneSpec)

/-- ITS FALSE NEIGHBOUR: 'it returns false'. Refute it at one input. -/
def fnExactBestPlaneWrong : ChangeSpec := { name := "fnExactBestPlane", fn := fun _ => fun
  | [d1, d2, d3, d4] => { results := [.lit (.bool false)], args := [d1, d2, d3, d4] }
  | _ => none }
def FnExactBestPlaneWrongFalsely : Prop := fnExactBestPlaneRow.holds Try.pinned (OpenSpec.ofChange fnExactBestPlaneWrong)

/- THE SECOND FORM. 'bulk': how many values and letters a reading holds, each counted each time it is reached (what is shared counts as often as it is met; a slice's spare places count too). A statement '..UptoSaid' is the law's where the arguments, and the package variables that the reading takes, are together of bulk at most 1048576: NARROWER than '..Said'. Prove '..Said' where nothing that the law and all that it calls make is longer than what came in: it says more and counts as full. Else prove '..UptoSaid'. A law counts once. -/
mutual
def uptoBulk {H : Type} : DataW H → Nat
  | .lit (.string bytes) => bytes.length + 1
  | .lit _ => 1
  | .nil => 1
  | .ptr d => uptoBulk d + 1
  | .slice elems spare => uptoBulkAll elems + uptoBulkAll spare + 1
  | .agg parts => uptoBulkAll parts + 1
  | .iface _ d => uptoBulk d + 1
  | .map entries => uptoBulkEntries entries + 1
  | .held _ => 1
def uptoBulkAll {H : Type} : List (DataW H) → Nat
  | [] => 0
  | d :: r => uptoBulk d + uptoBulkAll r
def uptoBulkEntries {H : Type} : List (Lit × DataW H) → Nat
  | [] => 0
  | x :: r => uptoBulkEntry x + uptoBulkEntries r
def uptoBulkEntry {H : Type} : Lit × DataW H → Nat
  | (.string bytes, d) => bytes.length + uptoBulk d + 1
  | (_, d) => uptoBulk d + 1
 end
def uptoSmall : (H : Type) → List (DataW H) → Bool := fun _ ds => decide (uptoBulkAll ds ≤ 1048576)
def OpenSpec.upto (s : _root_.Go.ChangeSpec) : _root_.Go.OpenSpec := { _root_.Go.OpenSpec.ofChange s with cond := some uptoSmall }

/-- 'laws.FnExactDepthMap', WHERE WHAT IT READS IS OF BULK AT MOST 1048576: true; the input reads as it did. -/
def fnExactDepthMapUptoRow : OpenClaim := { program := "ytnbilmlpngcobaa", sum := "4d93e791f76cf5ede6fa94757a9e9544b1fe9f9caaa61f2517d75cbc4ced5112", func := "loop.example/g01223/laws.FnExactDepthMap", spec := "fnExactDepthMap", inPlace := ["math.Float64bits", "math.Float64frombits"], unfollowed := true, recurses := true, apart := false, narrowed := true }
def FnExactDepthMapUptoSaid : Prop := fnExactDepthMapUptoRow.holds Try.pinned (OpenSpec.upto fnExactDepthMapSpec)

/-- 'laws.FnExactPlaneMap', WHERE WHAT IT READS IS OF BULK AT MOST 1048576: true; the input reads as it did. -/
def fnExactPlaneMapUptoRow : OpenClaim := { program := "ytnbilmlpngcobaa", sum := "4d93e791f76cf5ede6fa94757a9e9544b1fe9f9caaa61f2517d75cbc4ced5112", func := "loop.example/g01223/laws.FnExactPlaneMap", spec := "fnExactPlaneMap", inPlace := ["math.Float64bits", "math.Float64frombits"], unfollowed := true, recurses := true, apart := false, narrowed := true }
def FnExactPlaneMapUptoSaid : Prop := fnExactPlaneMapUptoRow.holds Try.pinned (OpenSpec.upto fnExactPlaneMapSpec)

/-- 'laws.FnExactBendPicture', WHERE WHAT IT READS IS OF BULK AT MOST 1048576: true; the input reads as it did. -/
def fnExactBendPictureUptoRow : OpenClaim := { program := "ytnbilmlpngcobaa", sum := "4d93e791f76cf5ede6fa94757a9e9544b1fe9f9caaa61f2517d75cbc4ced5112", func := "loop.example/g01223/laws.FnExactBendPicture", spec := "fnExactBendPicture", inPlace := ["math.archFloor", "math.Float64bits", "math.Float64frombits", "math.archTrunc"], unfollowed := true, recurses := true, apart := false, narrowed := true }
def FnExactBendPictureUptoSaid : Prop := fnExactBendPictureUptoRow.holds Try.pinned (OpenSpec.upto fnExactBendPictureSpec)

/-- 'laws.FnExactBackPicture', WHERE WHAT IT READS IS OF BULK AT MOST 1048576: true; the input reads as it did. -/
def fnExactBackPictureUptoRow : OpenClaim := { program := "ytnbilmlpngcobaa", sum := "4d93e791f76cf5ede6fa94757a9e9544b1fe9f9caaa61f2517d75cbc4ced5112", func := "loop.example/g01223/laws.FnExactBackPicture", spec := "fnExactBackPicture", inPlace := ["math.archFloor", "math.Float64bits", "math.Float64frombits", "math.archTrunc"], unfollowed := true, recurses := true, apart := false, narrowed := true }
def FnExactBackPictureUptoSaid : Prop := fnExactBackPictureUptoRow.holds Try.pinned (OpenSpec.upto fnExactBackPictureSpec)

/-- 'laws.FnExactPointsOf', WHERE WHAT IT READS IS OF BULK AT MOST 1048576: true; the input reads as it did. -/
def fnExactPointsOfUptoRow : OpenClaim := { program := "ytnbilmlpngcobaa", sum := "4d93e791f76cf5ede6fa94757a9e9544b1fe9f9caaa61f2517d75cbc4ced5112", func := "loop.example/g01223/laws.FnExactPointsOf", spec := "fnExactPointsOf", inPlace := ["math.Float64bits", "math.Float64frombits"], apart := false, narrowed := true }
def FnExactPointsOfUptoSaid : Prop := fnExactPointsOfUptoRow.holds Try.pinned (OpenSpec.upto fnExactPointsOfSpec)

/-- 'laws.FnExactMeshOf', WHERE WHAT IT READS IS OF BULK AT MOST 1048576: true; the input reads as it did. -/
def fnExactMeshOfUptoRow : OpenClaim := { program := "ytnbilmlpngcobaa", sum := "4d93e791f76cf5ede6fa94757a9e9544b1fe9f9caaa61f2517d75cbc4ced5112", func := "loop.example/g01223/laws.FnExactMeshOf", spec := "fnExactMeshOf", inPlace := ["math.Float64bits", "math.Float64frombits"], apart := false, narrowed := true }
def FnExactMeshOfUptoSaid : Prop := fnExactMeshOfUptoRow.holds Try.pinned (OpenSpec.upto fnExactMeshOfSpec)

/-- 'laws.FnExactErrorOf', WHERE WHAT IT READS IS OF BULK AT MOST 1048576: true; the input reads as it did. -/
def fnExactErrorOfUptoRow : OpenClaim := { program := "ytnbilmlpngcobaa", sum := "4d93e791f76cf5ede6fa94757a9e9544b1fe9f9caaa61f2517d75cbc4ced5112", func := "loop.example/g01223/laws.FnExactErrorOf", spec := "fnExactErrorOf", inPlace := ["math.RoundToEven", "math.Float64bits", "math.Float64frombits"], unfollowed := true, recurses := true, apart := false, narrowed := true }
def FnExactErrorOfUptoSaid : Prop := fnExactErrorOfUptoRow.holds Try.pinned (OpenSpec.upto fnExactErrorOfSpec)

/-- 'laws.FnExactOppositeWarp', WHERE WHAT IT READS IS OF BULK AT MOST 1048576: true; the input reads as it did. -/
def fnExactOppositeWarpUptoRow : OpenClaim := { program := "ytnbilmlpngcobaa", sum := "4d93e791f76cf5ede6fa94757a9e9544b1fe9f9caaa61f2517d75cbc4ced5112", func := "loop.example/g01223/laws.FnExactOppositeWarp", spec := "fnExactOppositeWarp", inPlace := ["math.Float64bits", "math.Float64frombits"], unfollowed := true, recurses := true, apart := false, narrowed := true }
def FnExactOppositeWarpUptoSaid : Prop := fnExactOppositeWarpUptoRow.holds Try.pinned (OpenSpec.upto fnExactOppositeWarpSpec)

/-- 'laws.FnExactPlaneThrough', WHERE WHAT IT READS IS OF BULK AT MOST 1048576: true; the input reads as it did. -/
def fnExactPlaneThroughUptoRow : OpenClaim := { program := "ytnbilmlpngcobaa", sum := "4d93e791f76cf5ede6fa94757a9e9544b1fe9f9caaa61f2517d75cbc4ced5112", func := "loop.example/g01223/laws.FnExactPlaneThrough", spec := "fnExactPlaneThrough", inPlace := ["math.Float64bits", "math.Float64frombits"], apart := false, narrowed := true }
def FnExactPlaneThroughUptoSaid : Prop := fnExactPlaneThroughUptoRow.holds Try.pinned (OpenSpec.upto fnExactPlaneThroughSpec)

/-- 'laws.FnExactFitPlane', WHERE WHAT IT READS IS OF BULK AT MOST 1048576: true; the input reads as it did. -/
def fnExactFitPlaneUptoRow : OpenClaim := { program := "ytnbilmlpngcobaa", sum := "4d93e791f76cf5ede6fa94757a9e9544b1fe9f9caaa61f2517d75cbc4ced5112", func := "loop.example/g01223/laws.FnExactFitPlane", spec := "fnExactFitPlane", inPlace := ["math.Float64bits", "math.Float64frombits"], unfollowed := true, recurses := true, apart := false, narrowed := true }
def FnExactFitPlaneUptoSaid : Prop := fnExactFitPlaneUptoRow.holds Try.pinned (OpenSpec.upto fnExactFitPlaneSpec)

/-- 'laws.FnExactBestPlane', WHERE WHAT IT READS IS OF BULK AT MOST 1048576: true; the input reads as it did. -/
def fnExactBestPlaneUptoRow : OpenClaim := { program := "ytnbilmlpngcobaa", sum := "4d93e791f76cf5ede6fa94757a9e9544b1fe9f9caaa61f2517d75cbc4ced5112", func := "loop.example/g01223/laws.FnExactBestPlane", spec := "fnExactBestPlane", inPlace := ["math.Float64bits", "math.Float64frombits"], apart := false, narrowed := true }
def FnExactBestPlaneUptoSaid : Prop := fnExactBestPlaneUptoRow.holds Try.pinned (OpenSpec.upto fnExactBestPlaneSpec)

end Rows
end Go.Proofs.Ytnbilmlpngcobaa
