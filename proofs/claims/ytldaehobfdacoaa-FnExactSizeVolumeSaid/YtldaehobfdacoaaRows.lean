/-
  No cell of these rows narrows 'for every input' (looked for: loops, veiled, ifaces, maps, wideKeys, modest, calm, conditions, laid).
  DERIVED. THE GIVEN ROWS OF THIS SEAT. 12 by the template 'for every input the law returns true; each argument reads behind the call as it read before'; 0 by the template 'total and deterministic' (their statements: YtldaehobfdacoaaTotals.lean).
  GIVEN WITH THE SEED: the statements are not yours to turn. If you find one false, say at which input.
  Laid BY PROGRAM, IN A SANDBOX (cutbox-rows.mjs): the forced cells as the released guide's own fill.sh prints them over the translation 553ea85b60962bb5… (all of the seat's roots in one cut). By AI agents, Wed Nov 11 2026. No macro, syntax, notation, axiom, sorry.
-/
import Derived.Test.YtldaehobfdacoaaChecked
import GoSem.Claim
import GoSem.ClaimJoined
import GoSem.ClaimMapViews
import Derived.JoinedTies
import Derived.KernelRfl
namespace Go.Proofs.Ytldaehobfdacoaa
/- THE CELL 'sum', in the pinned program and in every row, IS THE sha256 OF THE DUMP (.gsa) THAT YtldaehobfdacoaaProg.lean LOADS. Nothing in Lean hashes anything: it is a label: what it is worth is what the hold of that sum in a sandbox is worth. -/
noncomputable def Try.pinned : Pinned := { name := "ytldaehobfdacoaa", sum := "553ea85b60962bb5bff77aa057a83177fb1ec39da80dd636f10862018ab7f160", checked := Try.checked }
namespace Rows
def none {H : Type} : Left H := { results := [], args := [] }

/-- 'laws.FnExactSamePicture': WHATEVER THE INPUT: true; the input reads as it did. -/
def fnExactSamePictureSpec : ChangeSpec := { name := "fnExactSamePicture", fn := fun _ => fun
  | [d1, d2] => { results := [.lit (.bool true)], args := [d1, d2] }
  | _ => none }
def fnExactSamePictureRow : OpenClaim := { program := "ytldaehobfdacoaa", sum := "553ea85b60962bb5bff77aa057a83177fb1ec39da80dd636f10862018ab7f160", func := "loop.example/g01223/laws.FnExactSamePicture", spec := "fnExactSamePicture", inPlace := ["math.Float32bits"], apart := false }
def FnExactSamePictureSaid : Prop := fnExactSamePictureRow.holds Try.pinned (OpenSpec.ofChange fnExactSamePictureSpec)

/-- ITS FALSE NEIGHBOUR: 'it returns false'. Refute it at one input. -/
def fnExactSamePictureWrong : ChangeSpec := { name := "fnExactSamePicture", fn := fun _ => fun
  | [d1, d2] => { results := [.lit (.bool false)], args := [d1, d2] }
  | _ => none }
def FnExactSamePictureWrongFalsely : Prop := fnExactSamePictureRow.holds Try.pinned (OpenSpec.ofChange fnExactSamePictureWrong)

/-- 'laws.FnExactSameVolume': WHATEVER THE INPUT: true; the input reads as it did. -/
def fnExactSameVolumeSpec : ChangeSpec := { name := "fnExactSameVolume", fn := fun _ => fun
  | [d1, d2] => { results := [.lit (.bool true)], args := [d1, d2] }
  | _ => none }
def fnExactSameVolumeRow : OpenClaim := { program := "ytldaehobfdacoaa", sum := "553ea85b60962bb5bff77aa057a83177fb1ec39da80dd636f10862018ab7f160", func := "loop.example/g01223/laws.FnExactSameVolume", spec := "fnExactSameVolume", inPlace := ["math.Float32bits"], apart := false }
def FnExactSameVolumeSaid : Prop := fnExactSameVolumeRow.holds Try.pinned (OpenSpec.ofChange fnExactSameVolumeSpec)

/-- ITS FALSE NEIGHBOUR: 'it returns false'. Refute it at one input. -/
def fnExactSameVolumeWrong : ChangeSpec := { name := "fnExactSameVolume", fn := fun _ => fun
  | [d1, d2] => { results := [.lit (.bool false)], args := [d1, d2] }
  | _ => none }
def FnExactSameVolumeWrongFalsely : Prop := fnExactSameVolumeRow.holds Try.pinned (OpenSpec.ofChange fnExactSameVolumeWrong)

/-- 'laws.FnExactSameMap': WHATEVER THE INPUT: true; the input reads as it did. -/
def fnExactSameMapSpec : ChangeSpec := { name := "fnExactSameMap", fn := fun _ => fun
  | [d1, d2] => { results := [.lit (.bool true)], args := [d1, d2] }
  | _ => none }
def fnExactSameMapRow : OpenClaim := { program := "ytldaehobfdacoaa", sum := "553ea85b60962bb5bff77aa057a83177fb1ec39da80dd636f10862018ab7f160", func := "loop.example/g01223/laws.FnExactSameMap", spec := "fnExactSameMap", inPlace := ["math.Float32bits"], apart := false }
def FnExactSameMapSaid : Prop := fnExactSameMapRow.holds Try.pinned (OpenSpec.ofChange fnExactSameMapSpec)

/-- ITS FALSE NEIGHBOUR: 'it returns false'. Refute it at one input. -/
def fnExactSameMapWrong : ChangeSpec := { name := "fnExactSameMap", fn := fun _ => fun
  | [d1, d2] => { results := [.lit (.bool false)], args := [d1, d2] }
  | _ => none }
def FnExactSameMapWrongFalsely : Prop := fnExactSameMapRow.holds Try.pinned (OpenSpec.ofChange fnExactSameMapWrong)

/-- 'laws.FnExactWinnersOf': WHATEVER THE INPUT: true; the input reads as it did. -/
def fnExactWinnersOfSpec : ChangeSpec := { name := "fnExactWinnersOf", fn := fun _ => fun
  | [d] => { results := [.lit (.bool true)], args := [d] }
  | _ => none }
def fnExactWinnersOfRow : OpenClaim := { program := "ytldaehobfdacoaa", sum := "553ea85b60962bb5bff77aa057a83177fb1ec39da80dd636f10862018ab7f160", func := "loop.example/g01223/laws.FnExactWinnersOf", spec := "fnExactWinnersOf", unfollowed := true, recurses := true, apart := false }
def FnExactWinnersOfSaid : Prop := fnExactWinnersOfRow.holds Try.pinned (OpenSpec.ofChange fnExactWinnersOfSpec)

/-- ITS FALSE NEIGHBOUR: 'it returns false'. Refute it at one input. -/
def fnExactWinnersOfWrong : ChangeSpec := { name := "fnExactWinnersOf", fn := fun _ => fun
  | [d] => { results := [.lit (.bool false)], args := [d] }
  | _ => none }
def FnExactWinnersOfWrongFalsely : Prop := fnExactWinnersOfRow.holds Try.pinned (OpenSpec.ofChange fnExactWinnersOfWrong)

/-- 'laws.FnExactLeastCosts': WHATEVER THE INPUT: true; the input reads as it did. -/
def fnExactLeastCostsSpec : ChangeSpec := { name := "fnExactLeastCosts", fn := fun _ => fun
  | [d] => { results := [.lit (.bool true)], args := [d] }
  | _ => none }
def fnExactLeastCostsRow : OpenClaim := { program := "ytldaehobfdacoaa", sum := "553ea85b60962bb5bff77aa057a83177fb1ec39da80dd636f10862018ab7f160", func := "loop.example/g01223/laws.FnExactLeastCosts", spec := "fnExactLeastCosts", inPlace := ["math.Float64frombits"], unfollowed := true, recurses := true, apart := false }
def FnExactLeastCostsSaid : Prop := fnExactLeastCostsRow.holds Try.pinned (OpenSpec.ofChange fnExactLeastCostsSpec)

/-- ITS FALSE NEIGHBOUR: 'it returns false'. Refute it at one input. -/
def fnExactLeastCostsWrong : ChangeSpec := { name := "fnExactLeastCosts", fn := fun _ => fun
  | [d] => { results := [.lit (.bool false)], args := [d] }
  | _ => none }
def FnExactLeastCostsWrongFalsely : Prop := fnExactLeastCostsRow.holds Try.pinned (OpenSpec.ofChange fnExactLeastCostsWrong)

/-- 'laws.FnExactMarginsOf': WHATEVER THE INPUT: true; the input reads as it did. -/
def fnExactMarginsOfSpec : ChangeSpec := { name := "fnExactMarginsOf", fn := fun _ => fun
  | [d] => { results := [.lit (.bool true)], args := [d] }
  | _ => none }
def fnExactMarginsOfRow : OpenClaim := { program := "ytldaehobfdacoaa", sum := "553ea85b60962bb5bff77aa057a83177fb1ec39da80dd636f10862018ab7f160", func := "loop.example/g01223/laws.FnExactMarginsOf", spec := "fnExactMarginsOf", inPlace := ["math.Float64frombits"], unfollowed := true, recurses := true, apart := false }
def FnExactMarginsOfSaid : Prop := fnExactMarginsOfRow.holds Try.pinned (OpenSpec.ofChange fnExactMarginsOfSpec)

/-- ITS FALSE NEIGHBOUR: 'it returns false'. Refute it at one input. -/
def fnExactMarginsOfWrong : ChangeSpec := { name := "fnExactMarginsOf", fn := fun _ => fun
  | [d] => { results := [.lit (.bool false)], args := [d] }
  | _ => none }
def FnExactMarginsOfWrongFalsely : Prop := fnExactMarginsOfRow.holds Try.pinned (OpenSpec.ofChange fnExactMarginsOfWrong)

/-- 'laws.FnExactSquareVolume': WHATEVER THE INPUT: true; the input reads as it did. -/
def fnExactSquareVolumeSpec : ChangeSpec := { name := "fnExactSquareVolume", fn := fun _ => fun
  | [d1, d2, d3] => { results := [.lit (.bool true)], args := [d1, d2, d3] }
  | _ => none }
def fnExactSquareVolumeRow : OpenClaim := { program := "ytldaehobfdacoaa", sum := "553ea85b60962bb5bff77aa057a83177fb1ec39da80dd636f10862018ab7f160", func := "loop.example/g01223/laws.FnExactSquareVolume", spec := "fnExactSquareVolume", unfollowed := true, recurses := true, apart := false }
def FnExactSquareVolumeSaid : Prop := fnExactSquareVolumeRow.holds Try.pinned (OpenSpec.ofChange fnExactSquareVolumeSpec)

/-- ITS FALSE NEIGHBOUR: 'it returns false'. Refute it at one input. -/
def fnExactSquareVolumeWrong : ChangeSpec := { name := "fnExactSquareVolume", fn := fun _ => fun
  | [d1, d2, d3] => { results := [.lit (.bool false)], args := [d1, d2, d3] }
  | _ => none }
def FnExactSquareVolumeWrongFalsely : Prop := fnExactSquareVolumeRow.holds Try.pinned (OpenSpec.ofChange fnExactSquareVolumeWrong)

/-- 'laws.FnExactSizeVolume': WHATEVER THE INPUT: true; the input reads as it did. -/
def fnExactSizeVolumeSpec : ChangeSpec := { name := "fnExactSizeVolume", fn := fun _ => fun
  | [d1, d2, d3] => { results := [.lit (.bool true)], args := [d1, d2, d3] }
  | _ => none }
def fnExactSizeVolumeRow : OpenClaim := { program := "ytldaehobfdacoaa", sum := "553ea85b60962bb5bff77aa057a83177fb1ec39da80dd636f10862018ab7f160", func := "loop.example/g01223/laws.FnExactSizeVolume", spec := "fnExactSizeVolume", inPlace := ["math.Float64bits", "math.Float64frombits"], unfollowed := true, recurses := true, apart := false }
def FnExactSizeVolumeSaid : Prop := fnExactSizeVolumeRow.holds Try.pinned (OpenSpec.ofChange fnExactSizeVolumeSpec)

/-- ITS FALSE NEIGHBOUR: 'it returns false'. Refute it at one input. -/
def fnExactSizeVolumeWrong : ChangeSpec := { name := "fnExactSizeVolume", fn := fun _ => fun
  | [d1, d2, d3] => { results := [.lit (.bool false)], args := [d1, d2, d3] }
  | _ => none }
def FnExactSizeVolumeWrongFalsely : Prop := fnExactSizeVolumeRow.holds Try.pinned (OpenSpec.ofChange fnExactSizeVolumeWrong)

/-- 'laws.FnExactShallowVolume': WHATEVER THE INPUT: true; the input reads as it did. -/
def fnExactShallowVolumeSpec : ChangeSpec := { name := "fnExactShallowVolume", fn := fun _ => fun
  | [d1, d2] => { results := [.lit (.bool true)], args := [d1, d2] }
  | _ => none }
def fnExactShallowVolumeRow : OpenClaim := { program := "ytldaehobfdacoaa", sum := "553ea85b60962bb5bff77aa057a83177fb1ec39da80dd636f10862018ab7f160", func := "loop.example/g01223/laws.FnExactShallowVolume", spec := "fnExactShallowVolume", unfollowed := true, recurses := true, apart := false }
def FnExactShallowVolumeSaid : Prop := fnExactShallowVolumeRow.holds Try.pinned (OpenSpec.ofChange fnExactShallowVolumeSpec)

/-- ITS FALSE NEIGHBOUR: 'it returns false'. Refute it at one input. -/
def fnExactShallowVolumeWrong : ChangeSpec := { name := "fnExactShallowVolume", fn := fun _ => fun
  | [d1, d2] => { results := [.lit (.bool false)], args := [d1, d2] }
  | _ => none }
def FnExactShallowVolumeWrongFalsely : Prop := fnExactShallowVolumeRow.holds Try.pinned (OpenSpec.ofChange fnExactShallowVolumeWrong)

/-- 'laws.FnExactSharpAt': WHATEVER THE INPUT: true; the input reads as it did. -/
def fnExactSharpAtSpec : ChangeSpec := { name := "fnExactSharpAt", fn := fun _ => fun
  | [d1, d2, d3] => { results := [.lit (.bool true)], args := [d1, d2, d3] }
  | _ => none }
def fnExactSharpAtRow : OpenClaim := { program := "ytldaehobfdacoaa", sum := "553ea85b60962bb5bff77aa057a83177fb1ec39da80dd636f10862018ab7f160", func := "loop.example/g01223/laws.FnExactSharpAt", spec := "fnExactSharpAt", unfollowed := true, recurses := true, apart := false }
def FnExactSharpAtSaid : Prop := fnExactSharpAtRow.holds Try.pinned (OpenSpec.ofChange fnExactSharpAtSpec)

/-- ITS FALSE NEIGHBOUR: 'it returns false'. Refute it at one input. -/
def fnExactSharpAtWrong : ChangeSpec := { name := "fnExactSharpAt", fn := fun _ => fun
  | [d1, d2, d3] => { results := [.lit (.bool false)], args := [d1, d2, d3] }
  | _ => none }
def FnExactSharpAtWrongFalsely : Prop := fnExactSharpAtRow.holds Try.pinned (OpenSpec.ofChange fnExactSharpAtWrong)

/-- 'laws.FnExactSharpMap': WHATEVER THE INPUT: true; the input reads as it did. -/
def fnExactSharpMapSpec : ChangeSpec := { name := "fnExactSharpMap", fn := fun _ => fun
  | [d] => { results := [.lit (.bool true)], args := [d] }
  | _ => none }
def fnExactSharpMapRow : OpenClaim := { program := "ytldaehobfdacoaa", sum := "553ea85b60962bb5bff77aa057a83177fb1ec39da80dd636f10862018ab7f160", func := "loop.example/g01223/laws.FnExactSharpMap", spec := "fnExactSharpMap", unfollowed := true, recurses := true, apart := false }
def FnExactSharpMapSaid : Prop := fnExactSharpMapRow.holds Try.pinned (OpenSpec.ofChange fnExactSharpMapSpec)

/-- ITS FALSE NEIGHBOUR: 'it returns false'. Refute it at one input. -/
def fnExactSharpMapWrong : ChangeSpec := { name := "fnExactSharpMap", fn := fun _ => fun
  | [d] => { results := [.lit (.bool false)], args := [d] }
  | _ => none }
def FnExactSharpMapWrongFalsely : Prop := fnExactSharpMapRow.holds Try.pinned (OpenSpec.ofChange fnExactSharpMapWrong)

/-- 'laws.FnExactWinnersNear': WHATEVER THE INPUT: true; the input reads as it did. -/
def fnExactWinnersNearSpec : ChangeSpec := { name := "fnExactWinnersNear", fn := fun _ => fun
  | [d1, d2, d3] => { results := [.lit (.bool true)], args := [d1, d2, d3] }
  | _ => none }
def fnExactWinnersNearRow : OpenClaim := { program := "ytldaehobfdacoaa", sum := "553ea85b60962bb5bff77aa057a83177fb1ec39da80dd636f10862018ab7f160", func := "loop.example/g01223/laws.FnExactWinnersNear", spec := "fnExactWinnersNear", inPlace := ["math.RoundToEven", "math.Float64bits", "math.Float64frombits"], unfollowed := true, recurses := true, apart := false }
def FnExactWinnersNearSaid : Prop := fnExactWinnersNearRow.holds Try.pinned (OpenSpec.ofChange fnExactWinnersNearSpec)

/-- ITS FALSE NEIGHBOUR: 'it returns false'. Refute it at one input. -/
def fnExactWinnersNearWrong : ChangeSpec := { name := "fnExactWinnersNear", fn := fun _ => fun
  | [d1, d2, d3] => { results := [.lit (.bool false)], args := [d1, d2, d3] }
  | _ => none }
def FnExactWinnersNearWrongFalsely : Prop := fnExactWinnersNearRow.holds Try.pinned (OpenSpec.ofChange fnExactWinnersNearWrong)

/- THE SECOND FORM. 'bulk': how many values and letters a reading holds, each counted each time it is reached (what is shared counts as often as it is met; a slice's spare places count too). A statement '..UptoSaid' is the law's where the arguments, and the package variables that the reading takes, are together of bulk at most 1048576: NARROWER than '..Said'. Prove '..Said' where nothing that the law and all that it calls make is longer than what came in: it says more and counts as full. Else prove '..UptoSaid'. A law counts once. -/
mutual
def uptoBulk {H : Type} : DataW H → Nat
  | .lit (.string bytes) => bytes.length + 1
  | .lit _ => 1
  | .nil => 1
  | .ptr d => uptoBulk d + 1
  | .slice elems spare => uptoBulkAll elems + uptoBulkAll spare + 1
  | .agg parts => uptoBulkAll parts + 1
  | .iface _ d => uptoBulk d + 1
  | .map entries => uptoBulkEntries entries + 1
  | .held _ => 1
def uptoBulkAll {H : Type} : List (DataW H) → Nat
  | [] => 0
  | d :: r => uptoBulk d + uptoBulkAll r
def uptoBulkEntries {H : Type} : List (Lit × DataW H) → Nat
  | [] => 0
  | x :: r => uptoBulkEntry x + uptoBulkEntries r
def uptoBulkEntry {H : Type} : Lit × DataW H → Nat
  | (.string bytes, d) => bytes.length + uptoBulk d + 1
  | (_, d) => uptoBulk d + 1
 end
def uptoSmall : (H : Type) → List (DataW H) → Bool := fun _ ds => decide (uptoBulkAll ds ≤ 1048576)
def OpenSpec.upto (s : _root_.Go.ChangeSpec) : _root_.Go.OpenSpec := { _root_.Go.OpenSpec.ofChange s with cond := some uptoSmall }

/-- 'laws.FnExactSamePicture', WHERE WHAT IT READS IS OF BULK AT MOST 1048576: true; the input reads as it did. -/
def fnExactSamePictureUptoRow : OpenClaim := { program := "ytldaehobfdacoaa", sum := "553ea85b60962bb5bff77aa057a83177fb1ec39da80dd636f10862018ab7f160", func := "loop.example/g01223/laws.FnExactSamePicture", spec := "fnExactSamePicture", inPlace := ["math.Float32bits"], apart := false, narrowed := true }
def FnExactSamePictureUptoSaid : Prop := fnExactSamePictureUptoRow.holds Try.pinned (OpenSpec.upto fnExactSamePictureSpec)

/-- 'laws.FnExactSameVolume', WHERE WHAT IT READS IS OF BULK AT MOST 1048576: true; the input reads as it did. -/
def fnExactSameVolumeUptoRow : OpenClaim := { program := "ytldaehobfdacoaa", sum := "553ea85b60962bb5bff77aa057a83177fb1ec39da80dd636f10862018ab7f160", func := "loop.example/g01223/laws.FnExactSameVolume", spec := "fnExactSameVolume", inPlace := ["math.Float32bits"], apart := false, narrowed := true }
def FnExactSameVolumeUptoSaid : Prop := fnExactSameVolumeUptoRow.holds Try.pinned (OpenSpec.upto fnExactSameVolumeSpec)

/-- 'laws.FnExactSameMap', WHERE WHAT IT READS IS OF BULK AT MOST 1048576: true; the input reads as it did. -/
def fnExactSameMapUptoRow : OpenClaim := { program := "ytldaehobfdacoaa", sum := "553ea85b60962bb5bff77aa057a83177fb1ec39da80dd636f10862018ab7f160", func := "loop.example/g01223/laws.FnExactSameMap", spec := "fnExactSameMap", inPlace := ["math.Float32bits"], apart := false, narrowed := true }
def FnExactSameMapUptoSaid : Prop := fnExactSameMapUptoRow.holds Try.pinned (OpenSpec.upto fnExactSameMapSpec)

/-- 'laws.FnExactWinnersOf', WHERE WHAT IT READS IS OF BULK AT MOST 1048576: true; the input reads as it did. -/
def fnExactWinnersOfUptoRow : OpenClaim := { program := "ytldaehobfdacoaa", sum := "553ea85b60962bb5bff77aa057a83177fb1ec39da80dd636f10862018ab7f160", func := "loop.example/g01223/laws.FnExactWinnersOf", spec := "fnExactWinnersOf", unfollowed := true, recurses := true, apart := false, narrowed := true }
def FnExactWinnersOfUptoSaid : Prop := fnExactWinnersOfUptoRow.holds Try.pinned (OpenSpec.upto fnExactWinnersOfSpec)

/-- 'laws.FnExactLeastCosts', WHERE WHAT IT READS IS OF BULK AT MOST 1048576: true; the input reads as it did. -/
def fnExactLeastCostsUptoRow : OpenClaim := { program := "ytldaehobfdacoaa", sum := "553ea85b60962bb5bff77aa057a83177fb1ec39da80dd636f10862018ab7f160", func := "loop.example/g01223/laws.FnExactLeastCosts", spec := "fnExactLeastCosts", inPlace := ["math.Float64frombits"], unfollowed := true, recurses := true, apart := false, narrowed := true }
def FnExactLeastCostsUptoSaid : Prop := fnExactLeastCostsUptoRow.holds Try.pinned (OpenSpec.upto fnExactLeastCostsSpec)

/-- 'laws.FnExactMarginsOf', WHERE WHAT IT READS IS OF BULK AT MOST 1048576: true; the input reads as it did. -/
def fnExactMarginsOfUptoRow : OpenClaim := { program := "ytldaehobfdacoaa", sum := "553ea85b60962bb5bff77aa057a83177fb1ec39da80dd636f10862018ab7f160", func := "loop.example/g01223/laws.FnExactMarginsOf", spec := "fnExactMarginsOf", inPlace := ["math.Float64frombits"], unfollowed := true, recurses := true, apart := false, narrowed := true }
def FnExactMarginsOfUptoSaid : Prop := fnExactMarginsOfUptoRow.holds Try.pinned (OpenSpec.upto fnExactMarginsOfSpec)

/-- 'laws.FnExactSquareVolume', WHERE WHAT IT READS IS OF BULK AT MOST 1048576: true; the input reads as it did. -/
def fnExactSquareVolumeUptoRow : OpenClaim := { program := "ytldaehobfdacoaa", sum := "553ea85b60962bb5bff77aa057a83177fb1ec39da80dd636f10862018ab7f160", func := "loop.example/g01223/laws.FnExactSquareVolume", spec := "fnExactSquareVolume", unfollowed := true, recurses := true, apart := false, narrowed := true }
def FnExactSquareVolumeUptoSaid : Prop := fnExactSquareVolumeUptoRow.holds Try.pinned (OpenSpec.upto fnExactSquareVolumeSpec)

/-- 'laws.FnExactSizeVolume', WHERE WHAT IT READS IS OF BULK AT MOST 1048576: true; the input reads as it did. -/
def fnExactSizeVolumeUptoRow : OpenClaim := { program := "ytldaehobfdacoaa", sum := "553ea85b60962bb5bff77aa057a83177fb1ec39da80dd636f10862018ab7f160", func := "loop.example/g01223/laws.FnExactSizeVolume", spec := "fnExactSizeVolume", inPlace := ["math.Float64bits", "math.Float64frombits"], unfollowed := true, recurses := true, apart := false, narrowed := true }
def FnExactSizeVolumeUptoSaid : Prop := fnExactSizeVolumeUptoRow.holds Try.pinned (OpenSpec.upto fnExactSizeVolumeSpec)

/-- 'laws.FnExactShallowVolume', WHERE WHAT IT READS IS OF BULK AT MOST 1048576: true; the input reads as it did. -/
def fnExactShallowVolumeUptoRow : OpenClaim := { program := "ytldaehobfdacoaa", sum := "553ea85b60962bb5bff77aa057a83177fb1ec39da80dd636f10862018ab7f160", func := "loop.example/g01223/laws.FnExactShallowVolume", spec := "fnExactShallowVolume", unfollowed := true, recurses := true, apart := false, narrowed := true }
def FnExactShallowVolumeUptoSaid : Prop := fnExactShallowVolumeUptoRow.holds Try.pinned (OpenSpec.upto fnExactShallowVolumeSpec)

/-- 'laws.FnExactSharpAt', WHERE WHAT IT READS IS OF BULK AT MOST 1048576: true; the input reads as it did. -/
def fnExactSharpAtUptoRow : OpenClaim := { program := "ytldaehobfdacoaa", sum := "553ea85b60962bb5bff77aa057a83177fb1ec39da80dd636f10862018ab7f160", func := "loop.example/g01223/laws.FnExactSharpAt", spec := "fnExactSharpAt", unfollowed := true, recurses := true, apart := false, narrowed := true }
def FnExactSharpAtUptoSaid : Prop := fnExactSharpAtUptoRow.holds Try.pinned (OpenSpec.upto fnExactSharpAtSpec)

/-- 'laws.FnExactSharpMap', WHERE WHAT IT READS IS OF BULK AT MOST 1048576: true; the input reads as it did. -/
def fnExactSharpMapUptoRow : OpenClaim := { program := "ytldaehobfdacoaa", sum := "553ea85b60962bb5bff77aa057a83177fb1ec39da80dd636f10862018ab7f160", func := "loop.example/g01223/laws.FnExactSharpMap", spec := "fnExactSharpMap", unfollowed := true, recurses := true, apart := false, narrowed := true }
def FnExactSharpMapUptoSaid : Prop := fnExactSharpMapUptoRow.holds Try.pinned (OpenSpec.upto fnExactSharpMapSpec)

/-- 'laws.FnExactWinnersNear', WHERE WHAT IT READS IS OF BULK AT MOST 1048576: true; the input reads as it did. -/
def fnExactWinnersNearUptoRow : OpenClaim := { program := "ytldaehobfdacoaa", sum := "553ea85b60962bb5bff77aa057a83177fb1ec39da80dd636f10862018ab7f160", func := "loop.example/g01223/laws.FnExactWinnersNear", spec := "fnExactWinnersNear", inPlace := ["math.RoundToEven", "math.Float64bits", "math.Float64frombits"], unfollowed := true, recurses := true, apart := false, narrowed := true }
def FnExactWinnersNearUptoSaid : Prop := fnExactWinnersNearUptoRow.holds Try.pinned (OpenSpec.upto fnExactWinnersNearSpec)

end Rows
end Go.Proofs.Ytldaehobfdacoaa
