/-
  No cell of these rows narrows 'for every input' (looked for: loops, veiled, ifaces, maps, wideKeys, modest, calm, conditions, laid).
  DERIVED. THE GIVEN ROWS OF THIS SEAT. 11 by the template 'for every input the law returns true; each argument reads behind the call as it read before'; 0 by the template 'total and deterministic' (their statements: YtjmlpogaohljdaaTotals.lean).
  GIVEN WITH THE SEED: the statements are not yours to turn. If you find one false, say at which input.
  Laid BY PROGRAM, IN A SANDBOX (cutbox-rows.mjs): the forced cells as the released guide's own fill.sh prints them over the translation 3ff56ff225495c83… (all of the seat's roots in one cut). By AI agents, Wed Nov 11 2026. No macro, syntax, notation, axiom, sorry.
-/
import Derived.Test.YtjmlpogaohljdaaChecked
import GoSem.Claim
import GoSem.ClaimJoined
import GoSem.ClaimMapViews
import Derived.JoinedTies
import Derived.KernelRfl
namespace Go.Proofs.Ytjmlpogaohljdaa
/- THE CELL 'sum', in the pinned program and in every row, IS THE sha256 OF THE DUMP (.gsa) THAT YtjmlpogaohljdaaProg.lean LOADS. Nothing in Lean hashes anything: it is a label: what it is worth is what the hold of that sum in a sandbox is worth. -/
noncomputable def Try.pinned : Pinned := { name := "ytjmlpogaohljdaa", sum := "3ff56ff225495c83ca5644eeee7e36c11414e76367a68e9ba5fe2def91f0ce31", checked := Try.checked }
namespace Rows
def none {H : Type} : Left H := { results := [], args := [] }

/-- 'laws.FnExactStackOf': WHATEVER THE INPUT: true; the input reads as it did. -/
def fnExactStackOfSpec : ChangeSpec := { name := "fnExactStackOf", fn := fun _ => fun
  | [d] => { results := [.lit (.bool true)], args := [d] }
  | _ => none }
def fnExactStackOfRow : OpenClaim := { program := "ytjmlpogaohljdaa", sum := "3ff56ff225495c83ca5644eeee7e36c11414e76367a68e9ba5fe2def91f0ce31", func := "loop.example/g01223/laws.FnExactStackOf", spec := "fnExactStackOf", unfollowed := true, recurses := true, apart := false }
def FnExactStackOfSaid : Prop := fnExactStackOfRow.holds Try.pinned (OpenSpec.ofChange fnExactStackOfSpec)

/-- ITS FALSE NEIGHBOUR: 'it returns false'. Refute it at one input. -/
def fnExactStackOfWrong : ChangeSpec := { name := "fnExactStackOf", fn := fun _ => fun
  | [d] => { results := [.lit (.bool false)], args := [d] }
  | _ => none }
def FnExactStackOfWrongFalsely : Prop := fnExactStackOfRow.holds Try.pinned (OpenSpec.ofChange fnExactStackOfWrong)

/-- 'laws.FnExactBoxVolume': WHATEVER THE INPUT: true; the input reads as it did. -/
def fnExactBoxVolumeSpec : ChangeSpec := { name := "fnExactBoxVolume", fn := fun _ => fun
  | [d1, d2] => { results := [.lit (.bool true)], args := [d1, d2] }
  | _ => none }
def fnExactBoxVolumeRow : OpenClaim := { program := "ytjmlpogaohljdaa", sum := "3ff56ff225495c83ca5644eeee7e36c11414e76367a68e9ba5fe2def91f0ce31", func := "loop.example/g01223/laws.FnExactBoxVolume", spec := "fnExactBoxVolume", unfollowed := true, recurses := true, apart := false }
def FnExactBoxVolumeSaid : Prop := fnExactBoxVolumeRow.holds Try.pinned (OpenSpec.ofChange fnExactBoxVolumeSpec)

/-- ITS FALSE NEIGHBOUR: 'it returns false'. Refute it at one input. -/
def fnExactBoxVolumeWrong : ChangeSpec := { name := "fnExactBoxVolume", fn := fun _ => fun
  | [d1, d2] => { results := [.lit (.bool false)], args := [d1, d2] }
  | _ => none }
def FnExactBoxVolumeWrongFalsely : Prop := fnExactBoxVolumeRow.holds Try.pinned (OpenSpec.ofChange fnExactBoxVolumeWrong)

/-- 'laws.FnExactBoxPicture': WHATEVER THE INPUT: true; the input reads as it did. -/
def fnExactBoxPictureSpec : ChangeSpec := { name := "fnExactBoxPicture", fn := fun _ => fun
  | [d1, d2] => { results := [.lit (.bool true)], args := [d1, d2] }
  | _ => none }
def fnExactBoxPictureRow : OpenClaim := { program := "ytjmlpogaohljdaa", sum := "3ff56ff225495c83ca5644eeee7e36c11414e76367a68e9ba5fe2def91f0ce31", func := "loop.example/g01223/laws.FnExactBoxPicture", spec := "fnExactBoxPicture", unfollowed := true, recurses := true, apart := false }
def FnExactBoxPictureSaid : Prop := fnExactBoxPictureRow.holds Try.pinned (OpenSpec.ofChange fnExactBoxPictureSpec)

/-- ITS FALSE NEIGHBOUR: 'it returns false'. Refute it at one input. -/
def fnExactBoxPictureWrong : ChangeSpec := { name := "fnExactBoxPicture", fn := fun _ => fun
  | [d1, d2] => { results := [.lit (.bool false)], args := [d1, d2] }
  | _ => none }
def FnExactBoxPictureWrongFalsely : Prop := fnExactBoxPictureRow.holds Try.pinned (OpenSpec.ofChange fnExactBoxPictureWrong)

/-- 'laws.FnExactRankVolume': WHATEVER THE INPUT: true; the input reads as it did. -/
def fnExactRankVolumeSpec : ChangeSpec := { name := "fnExactRankVolume", fn := fun _ => fun
  | [d1, d2, d3, d4] => { results := [.lit (.bool true)], args := [d1, d2, d3, d4] }
  | _ => none }
def fnExactRankVolumeRow : OpenClaim := { program := "ytjmlpogaohljdaa", sum := "3ff56ff225495c83ca5644eeee7e36c11414e76367a68e9ba5fe2def91f0ce31", func := "loop.example/g01223/laws.FnExactRankVolume", spec := "fnExactRankVolume", unfollowed := true, recurses := true, apart := false }
def FnExactRankVolumeSaid : Prop := fnExactRankVolumeRow.holds Try.pinned (OpenSpec.ofChange fnExactRankVolumeSpec)

/-- ITS FALSE NEIGHBOUR: 'it returns false'. Refute it at one input. -/
def fnExactRankVolumeWrong : ChangeSpec := { name := "fnExactRankVolume", fn := fun _ => fun
  | [d1, d2, d3, d4] => { results := [.lit (.bool false)], args := [d1, d2, d3, d4] }
  | _ => none }
def FnExactRankVolumeWrongFalsely : Prop := fnExactRankVolumeRow.holds Try.pinned (OpenSpec.ofChange fnExactRankVolumeWrong)

/-- 'laws.FnExactRanksOf': WHATEVER THE INPUT: true; the input reads as it did. -/
def fnExactRanksOfSpec : ChangeSpec := { name := "fnExactRanksOf", fn := fun _ => fun
  | [d1, d2] => { results := [.lit (.bool true)], args := [d1, d2] }
  | _ => none }
def fnExactRanksOfRow : OpenClaim := { program := "ytjmlpogaohljdaa", sum := "3ff56ff225495c83ca5644eeee7e36c11414e76367a68e9ba5fe2def91f0ce31", func := "loop.example/g01223/laws.FnExactRanksOf", spec := "fnExactRanksOf", apart := false }
def FnExactRanksOfSaid : Prop := fnExactRanksOfRow.holds Try.pinned (OpenSpec.ofChange fnExactRanksOfSpec)

/-- ITS FALSE NEIGHBOUR: 'it returns false'. Refute it at one input. -/
def fnExactRanksOfWrong : ChangeSpec := { name := "fnExactRanksOf", fn := fun _ => fun
  | [d1, d2] => { results := [.lit (.bool false)], args := [d1, d2] }
  | _ => none }
def FnExactRanksOfWrongFalsely : Prop := fnExactRanksOfRow.holds Try.pinned (OpenSpec.ofChange fnExactRanksOfWrong)

/-- 'laws.FnExactRankDistance': WHATEVER THE INPUT: true; the input reads as it did. -/
def fnExactRankDistanceSpec : ChangeSpec := { name := "fnExactRankDistance", fn := fun _ => fun
  | [d1, d2] => { results := [.lit (.bool true)], args := [d1, d2] }
  | _ => none }
def fnExactRankDistanceRow : OpenClaim := { program := "ytjmlpogaohljdaa", sum := "3ff56ff225495c83ca5644eeee7e36c11414e76367a68e9ba5fe2def91f0ce31", func := "loop.example/g01223/laws.FnExactRankDistance", spec := "fnExactRankDistance", apart := false }
def FnExactRankDistanceSaid : Prop := fnExactRankDistanceRow.holds Try.pinned (OpenSpec.ofChange fnExactRankDistanceSpec)

/-- ITS FALSE NEIGHBOUR: 'it returns false'. Refute it at one input. -/
def fnExactRankDistanceWrong : ChangeSpec := { name := "fnExactRankDistance", fn := fun _ => fun
  | [d1, d2] => { results := [.lit (.bool false)], args := [d1, d2] }
  | _ => none }
def FnExactRankDistanceWrongFalsely : Prop := fnExactRankDistanceRow.holds Try.pinned (OpenSpec.ofChange fnExactRankDistanceWrong)

/-- 'laws.FnExactPutGrey': WHATEVER THE INPUT: true; the input reads as it did. -/
def fnExactPutGreySpec : ChangeSpec := { name := "fnExactPutGrey", fn := fun _ => fun
  | [d1, d2, d3, d4] => { results := [.lit (.bool true)], args := [d1, d2, d3, d4] }
  | _ => none }
def fnExactPutGreyRow : OpenClaim := { program := "ytjmlpogaohljdaa", sum := "3ff56ff225495c83ca5644eeee7e36c11414e76367a68e9ba5fe2def91f0ce31", func := "loop.example/g01223/laws.FnExactPutGrey", spec := "fnExactPutGrey", unfollowed := true, recurses := true, apart := false }
def FnExactPutGreySaid : Prop := fnExactPutGreyRow.holds Try.pinned (OpenSpec.ofChange fnExactPutGreySpec)

/-- ITS FALSE NEIGHBOUR: 'it returns false'. Refute it at one input. -/
def fnExactPutGreyWrong : ChangeSpec := { name := "fnExactPutGrey", fn := fun _ => fun
  | [d1, d2, d3, d4] => { results := [.lit (.bool false)], args := [d1, d2, d3, d4] }
  | _ => none }
def FnExactPutGreyWrongFalsely : Prop := fnExactPutGreyRow.holds Try.pinned (OpenSpec.ofChange fnExactPutGreyWrong)

/-- 'laws.FnExactBlurPicture': WHATEVER THE INPUT: true; the input reads as it did. -/
def fnExactBlurPictureSpec : ChangeSpec := { name := "fnExactBlurPicture", fn := fun _ => fun
  | [d1, d2] => { results := [.lit (.bool true)], args := [d1, d2] }
  | _ => none }
def fnExactBlurPictureRow : OpenClaim := { program := "ytjmlpogaohljdaa", sum := "3ff56ff225495c83ca5644eeee7e36c11414e76367a68e9ba5fe2def91f0ce31", func := "loop.example/g01223/laws.FnExactBlurPicture", spec := "fnExactBlurPicture", unfollowed := true, recurses := true, apart := false }
def FnExactBlurPictureSaid : Prop := fnExactBlurPictureRow.holds Try.pinned (OpenSpec.ofChange fnExactBlurPictureSpec)

/-- ITS FALSE NEIGHBOUR: 'it returns false'. Refute it at one input. -/
def fnExactBlurPictureWrong : ChangeSpec := { name := "fnExactBlurPicture", fn := fun _ => fun
  | [d1, d2] => { results := [.lit (.bool false)], args := [d1, d2] }
  | _ => none }
def FnExactBlurPictureWrongFalsely : Prop := fnExactBlurPictureRow.holds Try.pinned (OpenSpec.ofChange fnExactBlurPictureWrong)

/-- 'laws.FnExactHalvePicture': WHATEVER THE INPUT: true; the input reads as it did. -/
def fnExactHalvePictureSpec : ChangeSpec := { name := "fnExactHalvePicture", fn := fun _ => fun
  | [d] => { results := [.lit (.bool true)], args := [d] }
  | _ => none }
def fnExactHalvePictureRow : OpenClaim := { program := "ytjmlpogaohljdaa", sum := "3ff56ff225495c83ca5644eeee7e36c11414e76367a68e9ba5fe2def91f0ce31", func := "loop.example/g01223/laws.FnExactHalvePicture", spec := "fnExactHalvePicture", unfollowed := true, recurses := true, apart := false }
def FnExactHalvePictureSaid : Prop := fnExactHalvePictureRow.holds Try.pinned (OpenSpec.ofChange fnExactHalvePictureSpec)

/-- ITS FALSE NEIGHBOUR: 'it returns false'. Refute it at one input. -/
def fnExactHalvePictureWrong : ChangeSpec := { name := "fnExactHalvePicture", fn := fun _ => fun
  | [d] => { results := [.lit (.bool false)], args := [d] }
  | _ => none }
def FnExactHalvePictureWrongFalsely : Prop := fnExactHalvePictureRow.holds Try.pinned (OpenSpec.ofChange fnExactHalvePictureWrong)

/-- 'laws.FnExactPyramidOf': WHATEVER THE INPUT: true; the input reads as it did. -/
def fnExactPyramidOfSpec : ChangeSpec := { name := "fnExactPyramidOf", fn := fun _ => fun
  | [d1, d2] => { results := [.lit (.bool true)], args := [d1, d2] }
  | _ => none }
def fnExactPyramidOfRow : OpenClaim := { program := "ytjmlpogaohljdaa", sum := "3ff56ff225495c83ca5644eeee7e36c11414e76367a68e9ba5fe2def91f0ce31", func := "loop.example/g01223/laws.FnExactPyramidOf", spec := "fnExactPyramidOf", unfollowed := true, recurses := true, apart := false }
def FnExactPyramidOfSaid : Prop := fnExactPyramidOfRow.holds Try.pinned (OpenSpec.ofChange fnExactPyramidOfSpec)

/-- ITS FALSE NEIGHBOUR: 'it returns false'. Refute it at one input. -/
def fnExactPyramidOfWrong : ChangeSpec := { name := "fnExactPyramidOf", fn := fun _ => fun
  | [d1, d2] => { results := [.lit (.bool false)], args := [d1, d2] }
  | _ => none }
def FnExactPyramidOfWrongFalsely : Prop := fnExactPyramidOfRow.holds Try.pinned (OpenSpec.ofChange fnExactPyramidOfWrong)

/-- 'laws.FnExactNormPicture': WHATEVER THE INPUT: true; the input reads as it did. -/
def fnExactNormPictureSpec : ChangeSpec := { name := "fnExactNormPicture", fn := fun _ => fun
  | [d] => { results := [.lit (.bool true)], args := [d] }
  | _ => none }
def fnExactNormPictureRow : OpenClaim := { program := "ytjmlpogaohljdaa", sum := "3ff56ff225495c83ca5644eeee7e36c11414e76367a68e9ba5fe2def91f0ce31", func := "loop.example/g01223/laws.FnExactNormPicture", spec := "fnExactNormPicture", unfollowed := true, recurses := true, apart := false }
def FnExactNormPictureSaid : Prop := fnExactNormPictureRow.holds Try.pinned (OpenSpec.ofChange fnExactNormPictureSpec)

/-- ITS FALSE NEIGHBOUR: 'it returns false'. Refute it at one input. -/
def fnExactNormPictureWrong : ChangeSpec := { name := "fnExactNormPicture", fn := fun _ => fun
  | [d] => { results := [.lit (.bool false)], args := [d] }
  | _ => none }
def FnExactNormPictureWrongFalsely : Prop := fnExactNormPictureRow.holds Try.pinned (OpenSpec.ofChange fnExactNormPictureWrong)

/- THE SECOND FORM. 'bulk': how many values and letters a reading holds, each counted each time it is reached (what is shared counts as often as it is met; a slice's spare places count too). A statement '..UptoSaid' is the law's where the arguments, and the package variables that the reading takes, are together of bulk at most 1048576: NARROWER than '..Said'. Prove '..Said' where nothing that the law and all that it calls make is longer than what came in: it says more and counts as full. Else prove '..UptoSaid'. A law counts once. -/
mutual
def uptoBulk {H : Type} : DataW H → Nat
  | .lit (.string bytes) => bytes.length + 1
  | .lit _ => 1
  | .nil => 1
  | .ptr d => uptoBulk d + 1
  | .slice elems spare => uptoBulkAll elems + uptoBulkAll spare + 1
  | .agg parts => uptoBulkAll parts + 1
  | .iface _ d => uptoBulk d + 1
  | .map entries => uptoBulkEntries entries + 1
  | .held _ => 1
def uptoBulkAll {H : Type} : List (DataW H) → Nat
  | [] => 0
  | d :: r => uptoBulk d + uptoBulkAll r
def uptoBulkEntries {H : Type} : List (Lit × DataW H) → Nat
  | [] => 0
  | x :: r => uptoBulkEntry x + uptoBulkEntries r
def uptoBulkEntry {H : Type} : Lit × DataW H → Nat
  | (.string bytes, d) => bytes.length + uptoBulk d + 1
  | (_, d) => uptoBulk d + 1
 end
def uptoSmall : (H : Type) → List (DataW H) → Bool := fun _ ds => decide (uptoBulkAll ds ≤ 1048576)
def OpenSpec.upto (s : _root_.Go.ChangeSpec) : _root_.Go.OpenSpec := { _root_.Go.OpenSpec.ofChange s with cond := some uptoSmall }

/-- 'laws.FnExactStackOf', WHERE WHAT IT READS IS OF BULK AT MOST 1048576: true; the input reads as it did. -/
def fnExactStackOfUptoRow : OpenClaim := { program := "ytjmlpogaohljdaa", sum := "3ff56ff225495c83ca5644eeee7e36c11414e76367a68e9ba5fe2def91f0ce31", func := "loop.example/g01223/laws.FnExactStackOf", spec := "fnExactStackOf", unfollowed := true, recurses := true, apart := false, narrowed := true }
def FnExactStackOfUptoSaid : Prop := fnExactStackOfUptoRow.holds Try.pinned (OpenSpec.upto fnExactStackOfSpec)

/-- 'laws.FnExactBoxVolume', WHERE WHAT IT READS IS OF BULK AT MOST 1048576: true; the input reads as it did. -/
def fnExactBoxVolumeUptoRow : OpenClaim := { program := "ytjmlpogaohljdaa", sum := "3ff56ff225495c83ca5644eeee7e36c11414e76367a68e9ba5fe2def91f0ce31", func := "loop.example/g01223/laws.FnExactBoxVolume", spec := "fnExactBoxVolume", unfollowed := true, recurses := true, apart := false, narrowed := true }
def FnExactBoxVolumeUptoSaid : Prop := fnExactBoxVolumeUptoRow.holds Try.pinned (OpenSpec.upto fnExactBoxVolumeSpec)

/-- 'laws.FnExactBoxPicture', WHERE WHAT IT READS IS OF BULK AT MOST 1048576: true; the input reads as it did. -/
def fnExactBoxPictureUptoRow : OpenClaim := { program := "ytjmlpogaohljdaa", sum := "3ff56ff225495c83ca5644eeee7e36c11414e76367a68e9ba5fe2def91f0ce31", func := "loop.example/g01223/laws.FnExactBoxPicture", spec := "fnExactBoxPicture", unfollowed := true, recurses := true, apart := false, narrowed := true }
def FnExactBoxPictureUptoSaid : Prop := fnExactBoxPictureUptoRow.holds Try.pinned (OpenSpec.upto fnExactBoxPictureSpec)

/-- 'laws.FnExactRankVolume', WHERE WHAT IT READS IS OF BULK AT MOST 1048576: true; the input reads as it did. -/
def fnExactRankVolumeUptoRow : OpenClaim := { program := "ytjmlpogaohljdaa", sum := "3ff56ff225495c83ca5644eeee7e36c11414e76367a68e9ba5fe2def91f0ce31", func := "loop.example/g01223/laws.FnExactRankVolume", spec := "fnExactRankVolume", unfollowed := true, recurses := true, apart := false, narrowed := true }
def FnExactRankVolumeUptoSaid : Prop := fnExactRankVolumeUptoRow.holds Try.pinned (OpenSpec.upto fnExactRankVolumeSpec)

/-- 'laws.FnExactRanksOf', WHERE WHAT IT READS IS OF BULK AT MOST 1048576: true; the input reads as it did. -/
def fnExactRanksOfUptoRow : OpenClaim := { program := "ytjmlpogaohljdaa", sum := "3ff56ff225495c83ca5644eeee7e36c11414e76367a68e9ba5fe2def91f0ce31", func := "loop.example/g01223/laws.FnExactRanksOf", spec := "fnExactRanksOf", apart := false, narrowed := true }
def FnExactRanksOfUptoSaid : Prop := fnExactRanksOfUptoRow.holds Try.pinned (OpenSpec.upto fnExactRanksOfSpec)

/-- 'laws.FnExactRankDistance', WHERE WHAT IT READS IS OF BULK AT MOST 1048576: true; the input reads as it did. -/
def fnExactRankDistanceUptoRow : OpenClaim := { program := "ytjmlpogaohljdaa", sum := "3ff56ff225495c83ca5644eeee7e36c11414e76367a68e9ba5fe2def91f0ce31", func := "loop.example/g01223/laws.FnExactRankDistance", spec := "fnExactRankDistance", apart := false, narrowed := true }
def FnExactRankDistanceUptoSaid : Prop := fnExactRankDistanceUptoRow.holds Try.pinned (OpenSpec.upto fnExactRankDistanceSpec)

/-- 'laws.FnExactPutGrey', WHERE WHAT IT READS IS OF BULK AT MOST 1048576: true; the input reads as it did. -/
def fnExactPutGreyUptoRow : OpenClaim := { program := "ytjmlpogaohljdaa", sum := "3ff56ff225495c83ca5644eeee7e36c11414e76367a68e9ba5fe2def91f0ce31", func := "loop.example/g01223/laws.FnExactPutGrey", spec := "fnExactPutGrey", unfollowed := true, recurses := true, apart := false, narrowed := true }
def FnExactPutGreyUptoSaid : Prop := fnExactPutGreyUptoRow.holds Try.pinned (OpenSpec.upto fnExactPutGreySpec)

/-- 'laws.FnExactBlurPicture', WHERE WHAT IT READS IS OF BULK AT MOST 1048576: true; the input reads as it did. -/
def fnExactBlurPictureUptoRow : OpenClaim := { program := "ytjmlpogaohljdaa", sum := "3ff56ff225495c83ca5644eeee7e36c11414e76367a68e9ba5fe2def91f0ce31", func := "loop.example/g01223/laws.FnExactBlurPicture", spec := "fnExactBlurPicture", unfollowed := true, recurses := true, apart := false, narrowed := true }
def FnExactBlurPictureUptoSaid : Prop := fnExactBlurPictureUptoRow.holds Try.pinned (OpenSpec.upto fnExactBlurPictureSpec)

/-- 'laws.FnExactHalvePicture', WHERE WHAT IT READS IS OF BULK AT MOST 1048576: true; the input reads as it did. -/
def fnExactHalvePictureUptoRow : OpenClaim := { program := "ytjmlpogaohljdaa", sum := "3ff56ff225495c83ca5644eeee7e36c11414e76367a68e9ba5fe2def91f0ce31", func := "loop.example/g01223/laws.FnExactHalvePicture", spec := "fnExactHalvePicture", unfollowed := true, recurses := true, apart := false, narrowed := true }
def FnExactHalvePictureUptoSaid : Prop := fnExactHalvePictureUptoRow.holds Try.pinned (OpenSpec.upto fnExactHalvePictureSpec)

/-- 'laws.FnExactPyramidOf', WHERE WHAT IT READS IS OF BULK AT MOST 1048576: true; the input reads as it did. -/
def fnExactPyramidOfUptoRow : OpenClaim := { program := "ytjmlpogaohljdaa", sum := "3ff56ff225495c83ca5644eeee7e36c11414e76367a68e9ba5fe2def91f0ce31", func := "loop.example/g01223/laws.FnExactPyramidOf", spec := "fnExactPyramidOf", unfollowed := true, recurses := true, apart := false, narrowed := true }
def FnExactPyramidOfUptoSaid : Prop := fnExactPyramidOfUptoRow.holds Try.pinned (OpenSpec.upto fnExactPyramidOfSpec)

/-- 'laws.FnExactNormPicture', WHERE WHAT IT READS IS OF BULK AT MOST 1048576: true; the input reads as it did. -/
def fnExactNormPictureUptoRow : OpenClaim := { program := "ytjmlpogaohljdaa", sum := "3ff56ff225495c83ca5644eeee7e36c11414e76367a68e9ba5fe2def91f0ce31", func := "loop.example/g01223/laws.FnExactNormPicture", spec := "fnExactNormPicture", unfollowed := true, recurses := true, apart := false, narrowed := true }
def FnExactNormPictureUptoSaid : Prop := fnExactNormPictureUptoRow.holds Try.pinned (OpenSpec.upto fnExactNormPictureSpec)

end Rows
end Go.Proofs.Ytjmlpogaohljdaa
