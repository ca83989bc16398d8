/-
  No cell of these rows narrows 'for every input' (looked for: loops, veiled, ifaces, maps, wideKeys, modest, calm, conditions, laid).
  DERIVED. THE GIVEN ROWS OF THIS SEAT. 12 by the template 'for every input the law returns true; each argument reads behind the call as it read before'; 0 by the template 'total and deterministic' (their statements: YtljfpepfidgjaaaTotals.lean).
  GIVEN WITH THE SEED: the statements are not yours to turn. If you find one false, say at which input.
  Laid BY PROGRAM, IN A SANDBOX (cutbox-rows.mjs): the forced cells as the released guide's own fill.sh prints them over the translation f669784fb9469e1c… (all of the seat's roots in one cut). By AI agents, Wed Nov 11 2026. No macro, syntax, notation, axiom, sorry.
-/
import Derived.Test.YtljfpepfidgjaaaChecked
import GoSem.Claim
import GoSem.ClaimJoined
import GoSem.ClaimMapViews
import Derived.JoinedTies
import Derived.KernelRfl
namespace Go.Proofs.Ytljfpepfidgjaaa
/- THE CELL 'sum', in the pinned program and in every row, IS THE sha256 OF THE DUMP (.gsa) THAT YtljfpepfidgjaaaProg.lean LOADS. Nothing in Lean hashes anything: it is a label: what it is worth is what the hold of that sum in a sandbox is worth. -/
noncomputable def Try.pinned : Pinned := { name := "ytljfpepfidgjaaa", sum := "f669784fb9469e1ce53a5e7c6c386e3c0cb908e93591cc391a26df9364123da9", checked := Try.checked }
namespace Rows
def none {H : Type} : Left H := { results := [], args := [] }

/-- 'laws.FnExactCostAt': WHATEVER THE INPUT: true; the input reads as it did. -/
def fnExactCostAtSpec : ChangeSpec := { name := "fnExactCostAt", fn := fun _ => fun
  | [d1, d2, d3, d4] => { results := [.lit (.bool true)], args := [d1, d2, d3, d4] }
  | _ => none }
def fnExactCostAtRow : OpenClaim := { program := "ytljfpepfidgjaaa", sum := "f669784fb9469e1ce53a5e7c6c386e3c0cb908e93591cc391a26df9364123da9", func := "loop.example/g01223/laws.FnExactCostAt", spec := "fnExactCostAt", apart := false }
def FnExactCostAtSaid : Prop := fnExactCostAtRow.holds Try.pinned (OpenSpec.ofChange fnExactCostAtSpec)

/-- ITS FALSE NEIGHBOUR: 'it returns false'. Refute it at one input. -/
def fnExactCostAtWrong : ChangeSpec := { name := "fnExactCostAt", fn := fun _ => fun
  | [d1, d2, d3, d4] => { results := [.lit (.bool false)], args := [d1, d2, d3, d4] }
  | _ => none }
def FnExactCostAtWrongFalsely : Prop := fnExactCostAtRow.holds Try.pinned (OpenSpec.ofChange fnExactCostAtWrong)

/-- 'laws.FnExactSquareVolume': WHATEVER THE INPUT: true; the input reads as it did. -/
def fnExactSquareVolumeSpec : ChangeSpec := { name := "fnExactSquareVolume", fn := fun _ => fun
  | [d1, d2, d3] => { results := [.lit (.bool true)], args := [d1, d2, d3] }
  | _ => none }
def fnExactSquareVolumeRow : OpenClaim := { program := "ytljfpepfidgjaaa", sum := "f669784fb9469e1ce53a5e7c6c386e3c0cb908e93591cc391a26df9364123da9", func := "loop.example/g01223/laws.FnExactSquareVolume", spec := "fnExactSquareVolume", unfollowed := true, recurses := true, apart := false }
def FnExactSquareVolumeSaid : Prop := fnExactSquareVolumeRow.holds Try.pinned (OpenSpec.ofChange fnExactSquareVolumeSpec)

/-- ITS FALSE NEIGHBOUR: 'it returns false'. Refute it at one input. -/
def fnExactSquareVolumeWrong : ChangeSpec := { name := "fnExactSquareVolume", fn := fun _ => fun
  | [d1, d2, d3] => { results := [.lit (.bool false)], args := [d1, d2, d3] }
  | _ => none }
def FnExactSquareVolumeWrongFalsely : Prop := fnExactSquareVolumeRow.holds Try.pinned (OpenSpec.ofChange fnExactSquareVolumeWrong)

/-- 'laws.FnExactSizeVolume': WHATEVER THE INPUT: true; the input reads as it did. -/
def fnExactSizeVolumeSpec : ChangeSpec := { name := "fnExactSizeVolume", fn := fun _ => fun
  | [d1, d2, d3] => { results := [.lit (.bool true)], args := [d1, d2, d3] }
  | _ => none }
def fnExactSizeVolumeRow : OpenClaim := { program := "ytljfpepfidgjaaa", sum := "f669784fb9469e1ce53a5e7c6c386e3c0cb908e93591cc391a26df9364123da9", func := "loop.example/g01223/laws.FnExactSizeVolume", spec := "fnExactSizeVolume", inPlace := ["math.Float64bits", "math.Float64frombits"], unfollowed := true, recurses := true, apart := false }
def FnExactSizeVolumeSaid : Prop := fnExactSizeVolumeRow.holds Try.pinned (OpenSpec.ofChange fnExactSizeVolumeSpec)

/-- ITS FALSE NEIGHBOUR: 'it returns false'. Refute it at one input. -/
def fnExactSizeVolumeWrong : ChangeSpec := { name := "fnExactSizeVolume", fn := fun _ => fun
  | [d1, d2, d3] => { results := [.lit (.bool false)], args := [d1, d2, d3] }
  | _ => none }
def FnExactSizeVolumeWrongFalsely : Prop := fnExactSizeVolumeRow.holds Try.pinned (OpenSpec.ofChange fnExactSizeVolumeWrong)

/-- 'laws.FnExactShallowVolume': WHATEVER THE INPUT: true; the input reads as it did. -/
def fnExactShallowVolumeSpec : ChangeSpec := { name := "fnExactShallowVolume", fn := fun _ => fun
  | [d1, d2] => { results := [.lit (.bool true)], args := [d1, d2] }
  | _ => none }
def fnExactShallowVolumeRow : OpenClaim := { program := "ytljfpepfidgjaaa", sum := "f669784fb9469e1ce53a5e7c6c386e3c0cb908e93591cc391a26df9364123da9", func := "loop.example/g01223/laws.FnExactShallowVolume", spec := "fnExactShallowVolume", unfollowed := true, recurses := true, apart := false }
def FnExactShallowVolumeSaid : Prop := fnExactShallowVolumeRow.holds Try.pinned (OpenSpec.ofChange fnExactShallowVolumeSpec)

/-- ITS FALSE NEIGHBOUR: 'it returns false'. Refute it at one input. -/
def fnExactShallowVolumeWrong : ChangeSpec := { name := "fnExactShallowVolume", fn := fun _ => fun
  | [d1, d2] => { results := [.lit (.bool false)], args := [d1, d2] }
  | _ => none }
def FnExactShallowVolumeWrongFalsely : Prop := fnExactShallowVolumeRow.holds Try.pinned (OpenSpec.ofChange fnExactShallowVolumeWrong)

/-- 'laws.FnExactStackOf': WHATEVER THE INPUT: true; the input reads as it did. -/
def fnExactStackOfSpec : ChangeSpec := { name := "fnExactStackOf", fn := fun _ => fun
  | [d] => { results := [.lit (.bool true)], args := [d] }
  | _ => none }
def fnExactStackOfRow : OpenClaim := { program := "ytljfpepfidgjaaa", sum := "f669784fb9469e1ce53a5e7c6c386e3c0cb908e93591cc391a26df9364123da9", func := "loop.example/g01223/laws.FnExactStackOf", spec := "fnExactStackOf", unfollowed := true, recurses := true, apart := false }
def FnExactStackOfSaid : Prop := fnExactStackOfRow.holds Try.pinned (OpenSpec.ofChange fnExactStackOfSpec)

/-- ITS FALSE NEIGHBOUR: 'it returns false'. Refute it at one input. -/
def fnExactStackOfWrong : ChangeSpec := { name := "fnExactStackOf", fn := fun _ => fun
  | [d] => { results := [.lit (.bool false)], args := [d] }
  | _ => none }
def FnExactStackOfWrongFalsely : Prop := fnExactStackOfRow.holds Try.pinned (OpenSpec.ofChange fnExactStackOfWrong)

/-- 'laws.FnExactBoxPicture': WHATEVER THE INPUT: true; the input reads as it did. -/
def fnExactBoxPictureSpec : ChangeSpec := { name := "fnExactBoxPicture", fn := fun _ => fun
  | [d1, d2] => { results := [.lit (.bool true)], args := [d1, d2] }
  | _ => none }
def fnExactBoxPictureRow : OpenClaim := { program := "ytljfpepfidgjaaa", sum := "f669784fb9469e1ce53a5e7c6c386e3c0cb908e93591cc391a26df9364123da9", func := "loop.example/g01223/laws.FnExactBoxPicture", spec := "fnExactBoxPicture", unfollowed := true, recurses := true, apart := false }
def FnExactBoxPictureSaid : Prop := fnExactBoxPictureRow.holds Try.pinned (OpenSpec.ofChange fnExactBoxPictureSpec)

/-- ITS FALSE NEIGHBOUR: 'it returns false'. Refute it at one input. -/
def fnExactBoxPictureWrong : ChangeSpec := { name := "fnExactBoxPicture", fn := fun _ => fun
  | [d1, d2] => { results := [.lit (.bool false)], args := [d1, d2] }
  | _ => none }
def FnExactBoxPictureWrongFalsely : Prop := fnExactBoxPictureRow.holds Try.pinned (OpenSpec.ofChange fnExactBoxPictureWrong)

/-- 'laws.FnExactBlurPicture': WHATEVER THE INPUT: true; the input reads as it did. -/
def fnExactBlurPictureSpec : ChangeSpec := { name := "fnExactBlurPicture", fn := fun _ => fun
  | [d1, d2] => { results := [.lit (.bool true)], args := [d1, d2] }
  | _ => none }
def fnExactBlurPictureRow : OpenClaim := { program := "ytljfpepfidgjaaa", sum := "f669784fb9469e1ce53a5e7c6c386e3c0cb908e93591cc391a26df9364123da9", func := "loop.example/g01223/laws.FnExactBlurPicture", spec := "fnExactBlurPicture", unfollowed := true, recurses := true, apart := false }
def FnExactBlurPictureSaid : Prop := fnExactBlurPictureRow.holds Try.pinned (OpenSpec.ofChange fnExactBlurPictureSpec)

/-- ITS FALSE NEIGHBOUR: 'it returns false'. Refute it at one input. -/
def fnExactBlurPictureWrong : ChangeSpec := { name := "fnExactBlurPicture", fn := fun _ => fun
  | [d1, d2] => { results := [.lit (.bool false)], args := [d1, d2] }
  | _ => none }
def FnExactBlurPictureWrongFalsely : Prop := fnExactBlurPictureRow.holds Try.pinned (OpenSpec.ofChange fnExactBlurPictureWrong)

/-- 'laws.FnExactRanksOf': WHATEVER THE INPUT: true; the input reads as it did. -/
def fnExactRanksOfSpec : ChangeSpec := { name := "fnExactRanksOf", fn := fun _ => fun
  | [d1, d2] => { results := [.lit (.bool true)], args := [d1, d2] }
  | _ => none }
def fnExactRanksOfRow : OpenClaim := { program := "ytljfpepfidgjaaa", sum := "f669784fb9469e1ce53a5e7c6c386e3c0cb908e93591cc391a26df9364123da9", func := "loop.example/g01223/laws.FnExactRanksOf", spec := "fnExactRanksOf", apart := false }
def FnExactRanksOfSaid : Prop := fnExactRanksOfRow.holds Try.pinned (OpenSpec.ofChange fnExactRanksOfSpec)

/-- ITS FALSE NEIGHBOUR: 'it returns false'. Refute it at one input. -/
def fnExactRanksOfWrong : ChangeSpec := { name := "fnExactRanksOf", fn := fun _ => fun
  | [d1, d2] => { results := [.lit (.bool false)], args := [d1, d2] }
  | _ => none }
def FnExactRanksOfWrongFalsely : Prop := fnExactRanksOfRow.holds Try.pinned (OpenSpec.ofChange fnExactRanksOfWrong)

/-- 'laws.FnExactRankDistance': WHATEVER THE INPUT: true; the input reads as it did. -/
def fnExactRankDistanceSpec : ChangeSpec := { name := "fnExactRankDistance", fn := fun _ => fun
  | [d1, d2] => { results := [.lit (.bool true)], args := [d1, d2] }
  | _ => none }
def fnExactRankDistanceRow : OpenClaim := { program := "ytljfpepfidgjaaa", sum := "f669784fb9469e1ce53a5e7c6c386e3c0cb908e93591cc391a26df9364123da9", func := "loop.example/g01223/laws.FnExactRankDistance", spec := "fnExactRankDistance", apart := false }
def FnExactRankDistanceSaid : Prop := fnExactRankDistanceRow.holds Try.pinned (OpenSpec.ofChange fnExactRankDistanceSpec)

/-- ITS FALSE NEIGHBOUR: 'it returns false'. Refute it at one input. -/
def fnExactRankDistanceWrong : ChangeSpec := { name := "fnExactRankDistance", fn := fun _ => fun
  | [d1, d2] => { results := [.lit (.bool false)], args := [d1, d2] }
  | _ => none }
def FnExactRankDistanceWrongFalsely : Prop := fnExactRankDistanceRow.holds Try.pinned (OpenSpec.ofChange fnExactRankDistanceWrong)

/-- 'laws.FnExactCountUnlike': WHATEVER THE INPUT: true; the input reads as it did. -/
def fnExactCountUnlikeSpec : ChangeSpec := { name := "fnExactCountUnlike", fn := fun _ => fun
  | [d1, d2, d3] => { results := [.lit (.bool true)], args := [d1, d2, d3] }
  | _ => none }
def fnExactCountUnlikeRow : OpenClaim := { program := "ytljfpepfidgjaaa", sum := "f669784fb9469e1ce53a5e7c6c386e3c0cb908e93591cc391a26df9364123da9", func := "loop.example/g01223/laws.FnExactCountUnlike", spec := "fnExactCountUnlike", inPlace := ["math.Float64bits", "math.Float64frombits"], apart := false }
def FnExactCountUnlikeSaid : Prop := fnExactCountUnlikeRow.holds Try.pinned (OpenSpec.ofChange fnExactCountUnlikeSpec)

/-- ITS FALSE NEIGHBOUR: 'it returns false'. Refute it at one input. -/
def fnExactCountUnlikeWrong : ChangeSpec := { name := "fnExactCountUnlike", fn := fun _ => fun
  | [d1, d2, d3] => { results := [.lit (.bool false)], args := [d1, d2, d3] }
  | _ => none }
def FnExactCountUnlikeWrongFalsely : Prop := fnExactCountUnlikeRow.holds Try.pinned (OpenSpec.ofChange fnExactCountUnlikeWrong)

/-- 'laws.FnExactWrongShare': WHATEVER THE INPUT: true; the input reads as it did. -/
def fnExactWrongShareSpec : ChangeSpec := { name := "fnExactWrongShare", fn := fun _ => fun
  | [d1, d2, d3] => { results := [.lit (.bool true)], args := [d1, d2, d3] }
  | _ => none }
def fnExactWrongShareRow : OpenClaim := { program := "ytljfpepfidgjaaa", sum := "f669784fb9469e1ce53a5e7c6c386e3c0cb908e93591cc391a26df9364123da9", func := "loop.example/g01223/laws.FnExactWrongShare", spec := "fnExactWrongShare", inPlace := ["math.Float64bits", "math.Float64frombits"], apart := false }
def FnExactWrongShareSaid : Prop := fnExactWrongShareRow.holds Try.pinned (OpenSpec.ofChange fnExactWrongShareSpec)

/-- ITS FALSE NEIGHBOUR: 'it returns false'. Refute it at one input. -/
def fnExactWrongShareWrong : ChangeSpec := { name := "fnExactWrongShare", fn := fun _ => fun
  | [d1, d2, d3] => { results := [.lit (.bool false)], args := [d1, d2, d3] }
  | _ => none }
def FnExactWrongShareWrongFalsely : Prop := fnExactWrongShareRow.holds Try.pinned (OpenSpec.ofChange fnExactWrongShareWrong)

/-- 'laws.FnExactCostOfMap': WHATEVER THE INPUT: true; the input reads as it did. -/
def fnExactCostOfMapSpec : ChangeSpec := { name := "fnExactCostOfMap", fn := fun _ => fun
  | [d1, d2] => { results := [.lit (.bool true)], args := [d1, d2] }
  | _ => none }
def fnExactCostOfMapRow : OpenClaim := { program := "ytljfpepfidgjaaa", sum := "f669784fb9469e1ce53a5e7c6c386e3c0cb908e93591cc391a26df9364123da9", func := "loop.example/g01223/laws.FnExactCostOfMap", spec := "fnExactCostOfMap", inPlace := ["math.RoundToEven", "math.Float64bits", "math.Float64frombits"], apart := false }
def FnExactCostOfMapSaid : Prop := fnExactCostOfMapRow.holds Try.pinned (OpenSpec.ofChange fnExactCostOfMapSpec)

/-- ITS FALSE NEIGHBOUR: 'it returns false'. Refute it at one input. -/
def fnExactCostOfMapWrong : ChangeSpec := { name := "fnExactCostOfMap", fn := fun _ => fun
  | [d1, d2] => { results := [.lit (.bool false)], args := [d1, d2] }
  | _ => none }
def FnExactCostOfMapWrongFalsely : Prop := fnExactCostOfMapRow.holds Try.pinned (OpenSpec.ofChange fnExactCostOfMapWrong)

/- THE SECOND FORM. 'bulk': how many values and letters a reading holds, each counted each time it is reached (what is shared counts as often as it is met; a slice's spare places count too). A statement '..UptoSaid' is the law's where the arguments, and the package variables that the reading takes, are together of bulk at most 1048576: NARROWER than '..Said'. Prove '..Said' where nothing that the law and all that it calls make is longer than what came in: it says more and counts as full. Else prove '..UptoSaid'. A law counts once. -/
mutual
def uptoBulk {H : Type} : DataW H → Nat
  | .lit (.string bytes) => bytes.length + 1
  | .lit _ => 1
  | .nil => 1
  | .ptr d => uptoBulk d + 1
  | .slice elems spare => uptoBulkAll elems + uptoBulkAll spare + 1
  | .agg parts => uptoBulkAll parts + 1
  | .iface _ d => uptoBulk d + 1
  | .map entries => uptoBulkEntries entries + 1
  | .held _ => 1
def uptoBulkAll {H : Type} : List (DataW H) → Nat
  | [] => 0
  | d :: r => uptoBulk d + uptoBulkAll r
def uptoBulkEntries {H : Type} : List (Lit × DataW H) → Nat
  | [] => 0
  | x :: r => uptoBulkEntry x + uptoBulkEntries r
def uptoBulkEntry {H : Type} : Lit × DataW H → Nat
  | (.string bytes, d) => bytes.length + uptoBulk d + 1
  | (_, d) => uptoBulk d + 1
 end
def uptoSmall : (H : Type) → List (DataW H) → Bool := fun _ ds => decide (uptoBulkAll ds ≤ 1048576)
def OpenSpec.upto (s : _root_.Go.ChangeSpec) : _root_.Go.OpenSpec := { _root_.Go.OpenSpec.ofChange s with cond := some uptoSmall }

/-- 'laws.FnExactCostAt', WHERE WHAT IT READS IS OF BULK AT MOST 1048576: true; the input reads as it did. -/
def fnExactCostAtUptoRow : OpenClaim := { program := "ytljfpepfidgjaaa", sum := "f669784fb9469e1ce53a5e7c6c386e3c0cb908e93591cc391a26df9364123da9", func := "loop.example/g01223/laws.FnExactCostAt", spec := "fnExactCostAt", apart := false, narrowed := true }
def FnExactCostAtUptoSaid : Prop := fnExactCostAtUptoRow.holds Try.pinned (OpenSpec.upto fnExactCostAtSpec)

/-- 'laws.FnExactSquareVolume', WHERE WHAT IT READS IS OF BULK AT MOST 1048576: true; the input reads as it did. -/
def fnExactSquareVolumeUptoRow : OpenClaim := { program := "ytljfpepfidgjaaa", sum := "f669784fb9469e1ce53a5e7c6c386e3c0cb908e93591cc391a26df9364123da9", func := "loop.example/g01223/laws.FnExactSquareVolume", spec := "fnExactSquareVolume", unfollowed := true, recurses := true, apart := false, narrowed := true }
def FnExactSquareVolumeUptoSaid : Prop := fnExactSquareVolumeUptoRow.holds Try.pinned (OpenSpec.upto fnExactSquareVolumeSpec)

/-- 'laws.FnExactSizeVolume', WHERE WHAT IT READS IS OF BULK AT MOST 1048576: true; the input reads as it did. -/
def fnExactSizeVolumeUptoRow : OpenClaim := { program := "ytljfpepfidgjaaa", sum := "f669784fb9469e1ce53a5e7c6c386e3c0cb908e93591cc391a26df9364123da9", func := "loop.example/g01223/laws.FnExactSizeVolume", spec := "fnExactSizeVolume", inPlace := ["math.Float64bits", "math.Float64frombits"], unfollowed := true, recurses := true, apart := false, narrowed := true }
def FnExactSizeVolumeUptoSaid : Prop := fnExactSizeVolumeUptoRow.holds Try.pinned (OpenSpec.upto fnExactSizeVolumeSpec)

/-- 'laws.FnExactShallowVolume', WHERE WHAT IT READS IS OF BULK AT MOST 1048576: true; the input reads as it did. -/
def fnExactShallowVolumeUptoRow : OpenClaim := { program := "ytljfpepfidgjaaa", sum := "f669784fb9469e1ce53a5e7c6c386e3c0cb908e93591cc391a26df9364123da9", func := "loop.example/g01223/laws.FnExactShallowVolume", spec := "fnExactShallowVolume", unfollowed := true, recurses := true, apart := false, narrowed := true }
def FnExactShallowVolumeUptoSaid : Prop := fnExactShallowVolumeUptoRow.holds Try.pinned (OpenSpec.upto fnExactShallowVolumeSpec)

/-- 'laws.FnExactStackOf', WHERE WHAT IT READS IS OF BULK AT MOST 1048576: true; the input reads as it did. -/
def fnExactStackOfUptoRow : OpenClaim := { program := "ytljfpepfidgjaaa", sum := "f669784fb9469e1ce53a5e7c6c386e3c0cb908e93591cc391a26df9364123da9", func := "loop.example/g01223/laws.FnExactStackOf", spec := "fnExactStackOf", unfollowed := true, recurses := true, apart := false, narrowed := true }
def FnExactStackOfUptoSaid : Prop := fnExactStackOfUptoRow.holds Try.pinned (OpenSpec.upto fnExactStackOfSpec)

/-- 'laws.FnExactBoxPicture', WHERE WHAT IT READS IS OF BULK AT MOST 1048576: true; the input reads as it did. -/
def fnExactBoxPictureUptoRow : OpenClaim := { program := "ytljfpepfidgjaaa", sum := "f669784fb9469e1ce53a5e7c6c386e3c0cb908e93591cc391a26df9364123da9", func := "loop.example/g01223/laws.FnExactBoxPicture", spec := "fnExactBoxPicture", unfollowed := true, recurses := true, apart := false, narrowed := true }
def FnExactBoxPictureUptoSaid : Prop := fnExactBoxPictureUptoRow.holds Try.pinned (OpenSpec.upto fnExactBoxPictureSpec)

/-- 'laws.FnExactBlurPicture', WHERE WHAT IT READS IS OF BULK AT MOST 1048576: true; the input reads as it did. -/
def fnExactBlurPictureUptoRow : OpenClaim := { program := "ytljfpepfidgjaaa", sum := "f669784fb9469e1ce53a5e7c6c386e3c0cb908e93591cc391a26df9364123da9", func := "loop.example/g01223/laws.FnExactBlurPicture", spec := "fnExactBlurPicture", unfollowed := true, recurses := true, apart := false, narrowed := true }
def FnExactBlurPictureUptoSaid : Prop := fnExactBlurPictureUptoRow.holds Try.pinned (OpenSpec.upto fnExactBlurPictureSpec)

/-- 'laws.FnExactRanksOf', WHERE WHAT IT READS IS OF BULK AT MOST 1048576: true; the input reads as it did. -/
def fnExactRanksOfUptoRow : OpenClaim := { program := "ytljfpepfidgjaaa", sum := "f669784fb9469e1ce53a5e7c6c386e3c0cb908e93591cc391a26df9364123da9", func := "loop.example/g01223/laws.FnExactRanksOf", spec := "fnExactRanksOf", apart := false, narrowed := true }
def FnExactRanksOfUptoSaid : Prop := fnExactRanksOfUptoRow.holds Try.pinned (OpenSpec.upto fnExactRanksOfSpec)

/-- 'laws.FnExactRankDistance', WHERE WHAT IT READS IS OF BULK AT MOST 1048576: true; the input reads as it did. -/
def fnExactRankDistanceUptoRow : OpenClaim := { program := "ytljfpepfidgjaaa", sum := "f669784fb9469e1ce53a5e7c6c386e3c0cb908e93591cc391a26df9364123da9", func := "loop.example/g01223/laws.FnExactRankDistance", spec := "fnExactRankDistance", apart := false, narrowed := true }
def FnExactRankDistanceUptoSaid : Prop := fnExactRankDistanceUptoRow.holds Try.pinned (OpenSpec.upto fnExactRankDistanceSpec)

/-- 'laws.FnExactCountUnlike', WHERE WHAT IT READS IS OF BULK AT MOST 1048576: true; the input reads as it did. -/
def fnExactCountUnlikeUptoRow : OpenClaim := { program := "ytljfpepfidgjaaa", sum := "f669784fb9469e1ce53a5e7c6c386e3c0cb908e93591cc391a26df9364123da9", func := "loop.example/g01223/laws.FnExactCountUnlike", spec := "fnExactCountUnlike", inPlace := ["math.Float64bits", "math.Float64frombits"], apart := false, narrowed := true }
def FnExactCountUnlikeUptoSaid : Prop := fnExactCountUnlikeUptoRow.holds Try.pinned (OpenSpec.upto fnExactCountUnlikeSpec)

/-- 'laws.FnExactWrongShare', WHERE WHAT IT READS IS OF BULK AT MOST 1048576: true; the input reads as it did. -/
def fnExactWrongShareUptoRow : OpenClaim := { program := "ytljfpepfidgjaaa", sum := "f669784fb9469e1ce53a5e7c6c386e3c0cb908e93591cc391a26df9364123da9", func := "loop.example/g01223/laws.FnExactWrongShare", spec := "fnExactWrongShare", inPlace := ["math.Float64bits", "math.Float64frombits"], apart := false, narrowed := true }
def FnExactWrongShareUptoSaid : Prop := fnExactWrongShareUptoRow.holds Try.pinned (OpenSpec.upto fnExactWrongShareSpec)

/-- 'laws.FnExactCostOfMap', WHERE WHAT IT READS IS OF BULK AT MOST 1048576: true; the input reads as it did. -/
def fnExactCostOfMapUptoRow : OpenClaim := { program := "ytljfpepfidgjaaa", sum := "f669784fb9469e1ce53a5e7c6c386e3c0cb908e93591cc391a26df9364123da9", func := "loop.example/g01223/laws.FnExactCostOfMap", spec := "fnExactCostOfMap", inPlace := ["math.RoundToEven", "math.Float64bits", "math.Float64frombits"], apart := false, narrowed := true }
def FnExactCostOfMapUptoSaid : Prop := fnExactCostOfMapUptoRow.holds Try.pinned (OpenSpec.upto fnExactCostOfMapSpec)

end Rows
end Go.Proofs.Ytljfpepfidgjaaa
