/-
  No cell of these rows narrows 'for every input' (looked for: loops, veiled, ifaces, maps, wideKeys, modest, calm, conditions, laid).
  DERIVED. THE GIVEN ROWS OF THIS SEAT. 12 by the template 'for every input the law returns true; each argument reads behind the call as it read before'; 0 by the template 'total and deterministic' (their statements: YtbiobmdibiplfaaTotals.lean).
  GIVEN WITH THE SEED: the statements are not yours to turn. If you find one false, say at which input.
  Laid BY PROGRAM, IN A SANDBOX (cutbox-rows.mjs): the forced cells as the released guide's own fill.sh prints them over the translation 4779e5ee99e4232e… (all of the seat's roots in one cut). By AI agents, Wed Nov 11 2026. No macro, syntax, notation, axiom, sorry.
-/
import Derived.Test.YtbiobmdibiplfaaChecked
import GoSem.Claim
import GoSem.ClaimJoined
import GoSem.ClaimMapViews
import Derived.JoinedTies
import Derived.KernelRfl
namespace Go.Proofs.Ytbiobmdibiplfaa
/- THE CELL 'sum', in the pinned program and in every row, IS THE sha256 OF THE DUMP (.gsa) THAT YtbiobmdibiplfaaProg.lean LOADS. Nothing in Lean hashes anything: it is a label: what it is worth is what the hold of that sum in a sandbox is worth. -/
noncomputable def Try.pinned : Pinned := { name := "ytbiobmdibiplfaa", sum := "4779e5ee99e4232e3a9ff11ba7aa171963553d298402b6e3ffaf9120fc3983e1", checked := Try.checked }
namespace Rows
def none {H : Type} : Left H := { results := [], args := [] }

/-- 'laws.FnExactSamePicture': WHATEVER THE INPUT: true; the input reads as it did. -/
def fnExactSamePictureSpec : ChangeSpec := { name := "fnExactSamePicture", fn := fun _ => fun
  | [d1, d2] => { results := [.lit (.bool true)], args := [d1, d2] }
  | _ => none }
def fnExactSamePictureRow : OpenClaim := { program := "ytbiobmdibiplfaa", sum := "4779e5ee99e4232e3a9ff11ba7aa171963553d298402b6e3ffaf9120fc3983e1", func := "loop.example/g01223/laws.FnExactSamePicture", spec := "fnExactSamePicture", inPlace := ["math.Float32bits"], apart := false }
def FnExactSamePictureSaid : Prop := fnExactSamePictureRow.holds Try.pinned (OpenSpec.ofChange fnExactSamePictureSpec)

/-- ITS FALSE NEIGHBOUR: 'it returns false'. Refute it at one input. -/
def fnExactSamePictureWrong : ChangeSpec := { name := "fnExactSamePicture", fn := fun _ => fun
  | [d1, d2] => { results := [.lit (.bool false)], args := [d1, d2] }
  | _ => none }
def FnExactSamePictureWrongFalsely : Prop := fnExactSamePictureRow.holds Try.pinned (OpenSpec.ofChange fnExactSamePictureWrong)

/-- 'laws.FnExactSameMap': WHATEVER THE INPUT: true; the input reads as it did. -/
def fnExactSameMapSpec : ChangeSpec := { name := "fnExactSameMap", fn := fun _ => fun
  | [d1, d2] => { results := [.lit (.bool true)], args := [d1, d2] }
  | _ => none }
def fnExactSameMapRow : OpenClaim := { program := "ytbiobmdibiplfaa", sum := "4779e5ee99e4232e3a9ff11ba7aa171963553d298402b6e3ffaf9120fc3983e1", func := "loop.example/g01223/laws.FnExactSameMap", spec := "fnExactSameMap", inPlace := ["math.Float32bits"], apart := false }
def FnExactSameMapSaid : Prop := fnExactSameMapRow.holds Try.pinned (OpenSpec.ofChange fnExactSameMapSpec)

/-- ITS FALSE NEIGHBOUR: 'it returns false'. Refute it at one input. -/
def fnExactSameMapWrong : ChangeSpec := { name := "fnExactSameMap", fn := fun _ => fun
  | [d1, d2] => { results := [.lit (.bool false)], args := [d1, d2] }
  | _ => none }
def FnExactSameMapWrongFalsely : Prop := fnExactSameMapRow.holds Try.pinned (OpenSpec.ofChange fnExactSameMapWrong)

/-- 'laws.FnExactSameVolume': WHATEVER THE INPUT: true; the input reads as it did. -/
def fnExactSameVolumeSpec : ChangeSpec := { name := "fnExactSameVolume", fn := fun _ => fun
  | [d1, d2] => { results := [.lit (.bool true)], args := [d1, d2] }
  | _ => none }
def fnExactSameVolumeRow : OpenClaim := { program := "ytbiobmdibiplfaa", sum := "4779e5ee99e4232e3a9ff11ba7aa171963553d298402b6e3ffaf9120fc3983e1", func := "loop.example/g01223/laws.FnExactSameVolume", spec := "fnExactSameVolume", inPlace := ["math.Float32bits"], apart := false }
def FnExactSameVolumeSaid : Prop := fnExactSameVolumeRow.holds Try.pinned (OpenSpec.ofChange fnExactSameVolumeSpec)

/-- ITS FALSE NEIGHBOUR: 'it returns false'. Refute it at one input. -/
def fnExactSameVolumeWrong : ChangeSpec := { name := "fnExactSameVolume", fn := fun _ => fun
  | [d1, d2] => { results := [.lit (.bool false)], args := [d1, d2] }
  | _ => none }
def FnExactSameVolumeWrongFalsely : Prop := fnExactSameVolumeRow.holds Try.pinned (OpenSpec.ofChange fnExactSameVolumeWrong)

/-- 'laws.FnExactTimesWarp': WHATEVER THE INPUT: true; the input reads as it did. -/
def fnExactTimesWarpSpec : ChangeSpec := { name := "fnExactTimesWarp", fn := fun _ => fun
  | [d1, d2] => { results := [.lit (.bool true)], args := [d1, d2] }
  | _ => none }
def fnExactTimesWarpRow : OpenClaim := { program := "ytbiobmdibiplfaa", sum := "4779e5ee99e4232e3a9ff11ba7aa171963553d298402b6e3ffaf9120fc3983e1", func := "loop.example/g01223/laws.FnExactTimesWarp", spec := "fnExactTimesWarp", inPlace := ["math.Float64bits", "math.Float64frombits"], unfollowed := true, recurses := true, apart := false }
def FnExactTimesWarpSaid : Prop := fnExactTimesWarpRow.holds Try.pinned (OpenSpec.ofChange fnExactTimesWarpSpec)

/-- ITS FALSE NEIGHBOUR: 'it returns false'. Refute it at one input. -/
def fnExactTimesWarpWrong : ChangeSpec := { name := "fnExactTimesWarp", fn := fun _ => fun
  | [d1, d2] => { results := [.lit (.bool false)], args := [d1, d2] }
  | _ => none }
def FnExactTimesWarpWrongFalsely : Prop := fnExactTimesWarpRow.holds Try.pinned (OpenSpec.ofChange fnExactTimesWarpWrong)

/-- 'laws.FnExactRowOffset': WHATEVER THE INPUT: true; the input reads as it did. -/
def fnExactRowOffsetSpec : ChangeSpec := { name := "fnExactRowOffset", fn := fun _ => fun
  | [d1, d2, d3] => { results := [.lit (.bool true)], args := [d1, d2, d3] }
  | _ => none }
def fnExactRowOffsetRow : OpenClaim := { program := "ytbiobmdibiplfaa", sum := "4779e5ee99e4232e3a9ff11ba7aa171963553d298402b6e3ffaf9120fc3983e1", func := "loop.example/g01223/laws.FnExactRowOffset", spec := "fnExactRowOffset", inPlace := ["math.Float64bits", "math.Float64frombits"], unfollowed := true, recurses := true, apart := false }
def FnExactRowOffsetSaid : Prop := fnExactRowOffsetRow.holds Try.pinned (OpenSpec.ofChange fnExactRowOffsetSpec)

/-- ITS FALSE NEIGHBOUR: 'it returns false'. Refute it at one input. -/
def fnExactRowOffsetWrong : ChangeSpec := { name := "fnExactRowOffset", fn := fun _ => fun
  | [d1, d2, d3] => { results := [.lit (.bool false)], args := [d1, d2, d3] }
  | _ => none }
def FnExactRowOffsetWrongFalsely : Prop := fnExactRowOffsetRow.holds Try.pinned (OpenSpec.ofChange fnExactRowOffsetWrong)

/-- 'laws.FnExactWinnersOf': WHATEVER THE INPUT: true; the input reads as it did. -/
def fnExactWinnersOfSpec : ChangeSpec := { name := "fnExactWinnersOf", fn := fun _ => fun
  | [d] => { results := [.lit (.bool true)], args := [d] }
  | _ => none }
def fnExactWinnersOfRow : OpenClaim := { program := "ytbiobmdibiplfaa", sum := "4779e5ee99e4232e3a9ff11ba7aa171963553d298402b6e3ffaf9120fc3983e1", func := "loop.example/g01223/laws.FnExactWinnersOf", spec := "fnExactWinnersOf", unfollowed := true, recurses := true, apart := false }
def FnExactWinnersOfSaid : Prop := fnExactWinnersOfRow.holds Try.pinned (OpenSpec.ofChange fnExactWinnersOfSpec)

/-- ITS FALSE NEIGHBOUR: 'it returns false'. Refute it at one input. -/
def fnExactWinnersOfWrong : ChangeSpec := { name := "fnExactWinnersOf", fn := fun _ => fun
  | [d] => { results := [.lit (.bool false)], args := [d] }
  | _ => none }
def FnExactWinnersOfWrongFalsely : Prop := fnExactWinnersOfRow.holds Try.pinned (OpenSpec.ofChange fnExactWinnersOfWrong)

/-- 'laws.FnExactLeastCosts': WHATEVER THE INPUT: true; the input reads as it did. -/
def fnExactLeastCostsSpec : ChangeSpec := { name := "fnExactLeastCosts", fn := fun _ => fun
  | [d] => { results := [.lit (.bool true)], args := [d] }
  | _ => none }
def fnExactLeastCostsRow : OpenClaim := { program := "ytbiobmdibiplfaa", sum := "4779e5ee99e4232e3a9ff11ba7aa171963553d298402b6e3ffaf9120fc3983e1", func := "loop.example/g01223/laws.FnExactLeastCosts", spec := "fnExactLeastCosts", inPlace := ["math.Float64frombits"], unfollowed := true, recurses := true, apart := false }
def FnExactLeastCostsSaid : Prop := fnExactLeastCostsRow.holds Try.pinned (OpenSpec.ofChange fnExactLeastCostsSpec)

/-- ITS FALSE NEIGHBOUR: 'it returns false'. Refute it at one input. -/
def fnExactLeastCostsWrong : ChangeSpec := { name := "fnExactLeastCosts", fn := fun _ => fun
  | [d] => { results := [.lit (.bool false)], args := [d] }
  | _ => none }
def FnExactLeastCostsWrongFalsely : Prop := fnExactLeastCostsRow.holds Try.pinned (OpenSpec.ofChange fnExactLeastCostsWrong)

/-- 'laws.FnExactMarginsOf': WHATEVER THE INPUT: true; the input reads as it did. -/
def fnExactMarginsOfSpec : ChangeSpec := { name := "fnExactMarginsOf", fn := fun _ => fun
  | [d] => { results := [.lit (.bool true)], args := [d] }
  | _ => none }
def fnExactMarginsOfRow : OpenClaim := { program := "ytbiobmdibiplfaa", sum := "4779e5ee99e4232e3a9ff11ba7aa171963553d298402b6e3ffaf9120fc3983e1", func := "loop.example/g01223/laws.FnExactMarginsOf", spec := "fnExactMarginsOf", inPlace := ["math.Float64frombits"], unfollowed := true, recurses := true, apart := false }
def FnExactMarginsOfSaid : Prop := fnExactMarginsOfRow.holds Try.pinned (OpenSpec.ofChange fnExactMarginsOfSpec)

/-- ITS FALSE NEIGHBOUR: 'it returns false'. Refute it at one input. -/
def fnExactMarginsOfWrong : ChangeSpec := { name := "fnExactMarginsOf", fn := fun _ => fun
  | [d] => { results := [.lit (.bool false)], args := [d] }
  | _ => none }
def FnExactMarginsOfWrongFalsely : Prop := fnExactMarginsOfRow.holds Try.pinned (OpenSpec.ofChange fnExactMarginsOfWrong)

/-- 'laws.FnExactWinnersNear': WHATEVER THE INPUT: true; the input reads as it did. -/
def fnExactWinnersNearSpec : ChangeSpec := { name := "fnExactWinnersNear", fn := fun _ => fun
  | [d1, d2, d3] => { results := [.lit (.bool true)], args := [d1, d2, d3] }
  | _ => none }
def fnExactWinnersNearRow : OpenClaim := { program := "ytbiobmdibiplfaa", sum := "4779e5ee99e4232e3a9ff11ba7aa171963553d298402b6e3ffaf9120fc3983e1", func := "loop.example/g01223/laws.FnExactWinnersNear", spec := "fnExactWinnersNear", inPlace := ["math.RoundToEven", "math.Float64bits", "math.Float64frombits"], unfollowed := true, recurses := true, apart := false }
def FnExactWinnersNearSaid : Prop := fnExactWinnersNearRow.holds Try.pinned (OpenSpec.ofChange fnExactWinnersNearSpec)

/-- ITS FALSE NEIGHBOUR: 'it returns false'. Refute it at one input. -/
def fnExactWinnersNearWrong : ChangeSpec := { name := "fnExactWinnersNear", fn := fun _ => fun
  | [d1, d2, d3] => { results := [.lit (.bool false)], args := [d1, d2, d3] }
  | _ => none }
def FnExactWinnersNearWrongFalsely : Prop := fnExactWinnersNearRow.holds Try.pinned (OpenSpec.ofChange fnExactWinnersNearWrong)

/-- 'laws.FnExactBlurPicture': WHATEVER THE INPUT: true; the input reads as it did. -/
def fnExactBlurPictureSpec : ChangeSpec := { name := "fnExactBlurPicture", fn := fun _ => fun
  | [d1, d2] => { results := [.lit (.bool true)], args := [d1, d2] }
  | _ => none }
def fnExactBlurPictureRow : OpenClaim := { program := "ytbiobmdibiplfaa", sum := "4779e5ee99e4232e3a9ff11ba7aa171963553d298402b6e3ffaf9120fc3983e1", func := "loop.example/g01223/laws.FnExactBlurPicture", spec := "fnExactBlurPicture", unfollowed := true, recurses := true, apart := false }
def FnExactBlurPictureSaid : Prop := fnExactBlurPictureRow.holds Try.pinned (OpenSpec.ofChange fnExactBlurPictureSpec)

/-- ITS FALSE NEIGHBOUR: 'it returns false'. Refute it at one input. -/
def fnExactBlurPictureWrong : ChangeSpec := { name := "fnExactBlurPicture", fn := fun _ => fun
  | [d1, d2] => { results := [.lit (.bool false)], args := [d1, d2] }
  | _ => none }
def FnExactBlurPictureWrongFalsely : Prop := fnExactBlurPictureRow.holds Try.pinned (OpenSpec.ofChange fnExactBlurPictureWrong)

/-- 'laws.FnExactOffPlane': WHATEVER THE INPUT: true; the input reads as it did. -/
def fnExactOffPlaneSpec : ChangeSpec := { name := "fnExactOffPlane", fn := fun _ => fun
  | [d1, d2] => { results := [.lit (.bool true)], args := [d1, d2] }
  | _ => none }
def fnExactOffPlaneRow : OpenClaim := { program := "ytbiobmdibiplfaa", sum := "4779e5ee99e4232e3a9ff11ba7aa171963553d298402b6e3ffaf9120fc3983e1", func := "loop.example/g01223/laws.FnExactOffPlane", spec := "fnExactOffPlane", inPlace := ["math.Float64bits", "math.Float64frombits"], apart := false }
def FnExactOffPlaneSaid : Prop := fnExactOffPlaneRow.holds Try.pinned (OpenSpec.ofChange fnExactOffPlaneSpec)

/-- ITS FALSE NEIGHBOUR: 'it returns false'. Refute it at one input. -/
def fnExactOffPlaneWrong : ChangeSpec := { name := "fnExactOffPlane", fn := fun _ => fun
  | [d1, d2] => { results := [.lit (.bool false)], args := [d1, d2] }
  | _ => none }
def FnExactOffPlaneWrongFalsely : Prop := fnExactOffPlaneRow.holds Try.pinned (OpenSpec.ofChange fnExactOffPlaneWrong)

/-- 'laws.FnExactErrorOf': WHATEVER THE INPUT: true; the input reads as it did. -/
def fnExactErrorOfSpec : ChangeSpec := { name := "fnExactErrorOf", fn := fun _ => fun
  | [d1, d2, d3] => { results := [.lit (.bool true)], args := [d1, d2, d3] }
  | _ => none }
def fnExactErrorOfRow : OpenClaim := { program := "ytbiobmdibiplfaa", sum := "4779e5ee99e4232e3a9ff11ba7aa171963553d298402b6e3ffaf9120fc3983e1", func := "loop.example/g01223/laws.FnExactErrorOf", spec := "fnExactErrorOf", inPlace := ["math.RoundToEven", "math.Float64bits", "math.Float64frombits"], unfollowed := true, recurses := true, apart := false }
def FnExactErrorOfSaid : Prop := fnExactErrorOfRow.holds Try.pinned (OpenSpec.ofChange fnExactErrorOfSpec)

/-- ITS FALSE NEIGHBOUR: 'it returns false'. Refute it at one input. -/
def fnExactErrorOfWrong : ChangeSpec := { name := "fnExactErrorOf", fn := fun _ => fun
  | [d1, d2, d3] => { results := [.lit (.bool false)], args := [d1, d2, d3] }
  | _ => none }
def FnExactErrorOfWrongFalsely : Prop := fnExactErrorOfRow.holds Try.pinned (OpenSpec.ofChange fnExactErrorOfWrong)

/- THE SECOND FORM. 'bulk': how many values and letters a reading holds, each counted each time it is reached (what is shared counts as often as it is met; a slice's spare places count too). A statement '..UptoSaid' is the law's where the arguments, and the package variables that the reading takes, are together of bulk at most 1048576: NARROWER than '..Said'. Prove '..Said' where nothing that the law and all that it calls make is longer than what came in: it says more and counts as full. Else prove '..UptoSaid'. A law counts once. -/
mutual
def uptoBulk {H : Type} : DataW H → Nat
  | .lit (.string bytes) => bytes.length + 1
  | .lit _ => 1
  | .nil => 1
  | .ptr d => uptoBulk d + 1
  | .slice elems spare => uptoBulkAll elems + uptoBulkAll spare + 1
  | .agg parts => uptoBulkAll parts + 1
  | .iface _ d => uptoBulk d + 1
  | .map entries => uptoBulkEntries entries + 1
  | .held _ => 1
def uptoBulkAll {H : Type} : List (DataW H) → Nat
  | [] => 0
  | d :: r => uptoBulk d + uptoBulkAll r
def uptoBulkEntries {H : Type} : List (Lit × DataW H) → Nat
  | [] => 0
  | x :: r => uptoBulkEntry x + uptoBulkEntries r
def uptoBulkEntry {H : Type} : Lit × DataW H → Nat
  | (.string bytes, d) => bytes.length + uptoBulk d + 1
  | (_, d) => uptoBulk d + 1
 end
def uptoSmall : (H : Type) → List (DataW H) → Bool := fun _ ds => decide (uptoBulkAll ds ≤ 1048576)
def OpenSpec.upto (s : _root_.Go.ChangeSpec) : _root_.Go.OpenSpec := { _root_.Go.OpenSpec.ofChange s with cond := some uptoSmall }

/-- 'laws.FnExactSamePicture', WHERE WHAT IT READS IS OF BULK AT MOST 1048576: true; the input reads as it did. -/
def fnExactSamePictureUptoRow : OpenClaim := { program := "ytbiobmdibiplfaa", sum := "4779e5ee99e4232e3a9ff11ba7aa171963553d298402b6e3ffaf9120fc3983e1", func := "loop.example/g01223/laws.FnExactSamePicture", spec := "fnExactSamePicture", inPlace := ["math.Float32bits"], apart := false, narrowed := true }
def FnExactSamePictureUptoSaid : Prop := fnExactSamePictureUptoRow.holds Try.pinned (OpenSpec.upto fnExactSamePictureSpec)

/-- 'laws.FnExactSameMap', WHERE WHAT IT READS IS OF BULK AT MOST 1048576: true; the input reads as it did. -/
def fnExactSameMapUptoRow : OpenClaim := { program := "ytbiobmdibiplfaa", sum := "4779e5ee99e4232e3a9ff11ba7aa171963553d298402b6e3ffaf9120fc3983e1", func := "loop.example/g01223/laws.FnExactSameMap", spec := "fnExactSameMap", inPlace := ["math.Float32bits"], apart := false, narrowed := true }
def FnExactSameMapUptoSaid : Prop := fnExactSameMapUptoRow.holds Try.pinned (OpenSpec.upto fnExactSameMapSpec)

/-- 'laws.FnExactSameVolume', WHERE WHAT IT READS IS OF BULK AT MOST 1048576: true; the input reads as it did. -/
def fnExactSameVolumeUptoRow : OpenClaim := { program := "ytbiobmdibiplfaa", sum := "4779e5ee99e4232e3a9ff11ba7aa171963553d298402b6e3ffaf9120fc3983e1", func := "loop.example/g01223/laws.FnExactSameVolume", spec := "fnExactSameVolume", inPlace := ["math.Float32bits"], apart := false, narrowed := true }
def FnExactSameVolumeUptoSaid : Prop := fnExactSameVolumeUptoRow.holds Try.pinned (OpenSpec.upto fnExactSameVolumeSpec)

/-- 'laws.FnExactTimesWarp', WHERE WHAT IT READS IS OF BULK AT MOST 1048576: true; the input reads as it did. -/
def fnExactTimesWarpUptoRow : OpenClaim := { program := "ytbiobmdibiplfaa", sum := "4779e5ee99e4232e3a9ff11ba7aa171963553d298402b6e3ffaf9120fc3983e1", func := "loop.example/g01223/laws.FnExactTimesWarp", spec := "fnExactTimesWarp", inPlace := ["math.Float64bits", "math.Float64frombits"], unfollowed := true, recurses := true, apart := false, narrowed := true }
def FnExactTimesWarpUptoSaid : Prop := fnExactTimesWarpUptoRow.holds Try.pinned (OpenSpec.upto fnExactTimesWarpSpec)

/-- 'laws.FnExactRowOffset', WHERE WHAT IT READS IS OF BULK AT MOST 1048576: true; the input reads as it did. -/
def fnExactRowOffsetUptoRow : OpenClaim := { program := "ytbiobmdibiplfaa", sum := "4779e5ee99e4232e3a9ff11ba7aa171963553d298402b6e3ffaf9120fc3983e1", func := "loop.example/g01223/laws.FnExactRowOffset", spec := "fnExactRowOffset", inPlace := ["math.Float64bits", "math.Float64frombits"], unfollowed := true, recurses := true, apart := false, narrowed := true }
def FnExactRowOffsetUptoSaid : Prop := fnExactRowOffsetUptoRow.holds Try.pinned (OpenSpec.upto fnExactRowOffsetSpec)

/-- 'laws.FnExactWinnersOf', WHERE WHAT IT READS IS OF BULK AT MOST 1048576: true; the input reads as it did. -/
def fnExactWinnersOfUptoRow : OpenClaim := { program := "ytbiobmdibiplfaa", sum := "4779e5ee99e4232e3a9ff11ba7aa171963553d298402b6e3ffaf9120fc3983e1", func := "loop.example/g01223/laws.FnExactWinnersOf", spec := "fnExactWinnersOf", unfollowed := true, recurses := true, apart := false, narrowed := true }
def FnExactWinnersOfUptoSaid : Prop := fnExactWinnersOfUptoRow.holds Try.pinned (OpenSpec.upto fnExactWinnersOfSpec)

/-- 'laws.FnExactLeastCosts', WHERE WHAT IT READS IS OF BULK AT MOST 1048576: true; the input reads as it did. -/
def fnExactLeastCostsUptoRow : OpenClaim := { program := "ytbiobmdibiplfaa", sum := "4779e5ee99e4232e3a9ff11ba7aa171963553d298402b6e3ffaf9120fc3983e1", func := "loop.example/g01223/laws.FnExactLeastCosts", spec := "fnExactLeastCosts", inPlace := ["math.Float64frombits"], unfollowed := true, recurses := true, apart := false, narrowed := true }
def FnExactLeastCostsUptoSaid : Prop := fnExactLeastCostsUptoRow.holds Try.pinned (OpenSpec.upto fnExactLeastCostsSpec)

/-- 'laws.FnExactMarginsOf', WHERE WHAT IT READS IS OF BULK AT MOST 1048576: true; the input reads as it did. -/
def fnExactMarginsOfUptoRow : OpenClaim := { program := "ytbiobmdibiplfaa", sum := "4779e5ee99e4232e3a9ff11ba7aa171963553d298402b6e3ffaf9120fc3983e1", func := "loop.example/g01223/laws.FnExactMarginsOf", spec := "fnExactMarginsOf", inPlace := ["math.Float64frombits"], unfollowed := true, recurses := true, apart := false, narrowed := true }
def FnExactMarginsOfUptoSaid : Prop := fnExactMarginsOfUptoRow.holds Try.pinned (OpenSpec.upto fnExactMarginsOfSpec)

/-- 'laws.FnExactWinnersNear', WHERE WHAT IT READS IS OF BULK AT MOST 1048576: true; the input reads as it did. -/
def fnExactWinnersNearUptoRow : OpenClaim := { program := "ytbiobmdibiplfaa", sum := "4779e5ee99e4232e3a9ff11ba7aa171963553d298402b6e3ffaf9120fc3983e1", func := "loop.example/g01223/laws.FnExactWinnersNear", spec := "fnExactWinnersNear", inPlace := ["math.RoundToEven", "math.Float64bits", "math.Float64frombits"], unfollowed := true, recurses := true, apart := false, narrowed := true }
def FnExactWinnersNearUptoSaid : Prop := fnExactWinnersNearUptoRow.holds Try.pinned (OpenSpec.upto fnExactWinnersNearSpec)

/-- 'laws.FnExactBlurPicture', WHERE WHAT IT READS IS OF BULK AT MOST 1048576: true; the input reads as it did. -/
def fnExactBlurPictureUptoRow : OpenClaim := { program := "ytbiobmdibiplfaa", sum := "4779e5ee99e4232e3a9ff11ba7aa171963553d298402b6e3ffaf9120fc3983e1", func := "loop.example/g01223/laws.FnExactBlurPicture", spec := "fnExactBlurPicture", unfollowed := true, recurses := true, apart := false, narrowed := true }
def FnExactBlurPictureUptoSaid : Prop := fnExactBlurPictureUptoRow.holds Try.pinned (OpenSpec.upto fnExactBlurPictureSpec)

/-- 'laws.FnExactOffPlane', WHERE WHAT IT READS IS OF BULK AT MOST 1048576: true; the input reads as it did. -/
def fnExactOffPlaneUptoRow : OpenClaim := { program := "ytbiobmdibiplfaa", sum := "4779e5ee99e4232e3a9ff11ba7aa171963553d298402b6e3ffaf9120fc3983e1", func := "loop.example/g01223/laws.FnExactOffPlane", spec := "fnExactOffPlane", inPlace := ["math.Float64bits", "math.Float64frombits"], apart := false, narrowed := true }
def FnExactOffPlaneUptoSaid : Prop := fnExactOffPlaneUptoRow.holds Try.pinned (OpenSpec.upto fnExactOffPlaneSpec)

/-- 'laws.FnExactErrorOf', WHERE WHAT IT READS IS OF BULK AT MOST 1048576: true; the input reads as it did. -/
def fnExactErrorOfUptoRow : OpenClaim := { program := "ytbiobmdibiplfaa", sum := "4779e5ee99e4232e3a9ff11ba7aa171963553d298402b6e3ffaf9120fc3983e1", func := "loop.example/g01223/laws.FnExactErrorOf", spec := "fnExactErrorOf", inPlace := ["math.RoundToEven", "math.Float64bits", "math.Float64frombits"], unfollowed := true, recurses := true, apart := false, narrowed := true }
def FnExactErrorOfUptoSaid : Prop := fnExactErrorOfUptoRow.holds Try.pinned (OpenSpec.upto fnExactErrorOfSpec)

end Rows
end Go.Proofs.Ytbiobmdibiplfaa
