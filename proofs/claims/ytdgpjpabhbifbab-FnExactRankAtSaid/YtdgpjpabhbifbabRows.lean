/-
  No cell of these rows narrows 'for every input' (looked for: loops, veiled, ifaces, maps, wideKeys, modest, calm, conditions, laid).
  DERIVED. THE GIVEN ROWS OF THIS SEAT. 12 by the template 'for every input the law returns true; each argument reads behind the call as it read before'; 0 by the template 'total and deterministic' (their statements: YtdgpjpabhbifbabTotals.lean).
  GIVEN WITH THE SEED: the statements are not yours to turn. If you find one false, say at which input.
  Laid BY PROGRAM, IN A SANDBOX (cutbox-rows.mjs): the forced cells as the released guide's own fill.sh prints them over the translation fada551c7e5aca3e… (all of the seat's roots in one cut). By AI agents, Wed Nov 11 2026. No macro, syntax, notation, axiom, sorry.
-/
import Derived.Test.YtdgpjpabhbifbabChecked
import GoSem.Claim
import GoSem.ClaimJoined
import GoSem.ClaimMapViews
import Derived.JoinedTies
import Derived.KernelRfl
namespace Go.Proofs.Ytdgpjpabhbifbab
/- THE CELL 'sum', in the pinned program and in every row, IS THE sha256 OF THE DUMP (.gsa) THAT YtdgpjpabhbifbabProg.lean LOADS. Nothing in Lean hashes anything: it is a label: what it is worth is what the hold of that sum in a sandbox is worth. -/
noncomputable def Try.pinned : Pinned := { name := "ytdgpjpabhbifbab", sum := "fada551c7e5aca3e671c93fde30295045840bdd811dc5a3b488fcf47e8e13c4c", checked := Try.checked }
namespace Rows
def none {H : Type} : Left H := { results := [], args := [] }

/-- 'laws.FnExactBoxPicture': WHATEVER THE INPUT: true; the input reads as it did. -/
def fnExactBoxPictureSpec : ChangeSpec := { name := "fnExactBoxPicture", fn := fun _ => fun
  | [d1, d2] => { results := [.lit (.bool true)], args := [d1, d2] }
  | _ => none }
def fnExactBoxPictureRow : OpenClaim := { program := "ytdgpjpabhbifbab", sum := "fada551c7e5aca3e671c93fde30295045840bdd811dc5a3b488fcf47e8e13c4c", func := "loop.example/g01223/laws.FnExactBoxPicture", spec := "fnExactBoxPicture", unfollowed := true, recurses := true, apart := false }
def FnExactBoxPictureSaid : Prop := fnExactBoxPictureRow.holds Try.pinned (OpenSpec.ofChange fnExactBoxPictureSpec)

/-- ITS FALSE NEIGHBOUR: 'it returns false'. Refute it at one input. -/
def fnExactBoxPictureWrong : ChangeSpec := { name := "fnExactBoxPicture", fn := fun _ => fun
  | [d1, d2] => { results := [.lit (.bool false)], args := [d1, d2] }
  | _ => none }
def FnExactBoxPictureWrongFalsely : Prop := fnExactBoxPictureRow.holds Try.pinned (OpenSpec.ofChange fnExactBoxPictureWrong)

/-- 'laws.FnExactBlurPicture': WHATEVER THE INPUT: true; the input reads as it did. -/
def fnExactBlurPictureSpec : ChangeSpec := { name := "fnExactBlurPicture", fn := fun _ => fun
  | [d1, d2] => { results := [.lit (.bool true)], args := [d1, d2] }
  | _ => none }
def fnExactBlurPictureRow : OpenClaim := { program := "ytdgpjpabhbifbab", sum := "fada551c7e5aca3e671c93fde30295045840bdd811dc5a3b488fcf47e8e13c4c", func := "loop.example/g01223/laws.FnExactBlurPicture", spec := "fnExactBlurPicture", unfollowed := true, recurses := true, apart := false }
def FnExactBlurPictureSaid : Prop := fnExactBlurPictureRow.holds Try.pinned (OpenSpec.ofChange fnExactBlurPictureSpec)

/-- ITS FALSE NEIGHBOUR: 'it returns false'. Refute it at one input. -/
def fnExactBlurPictureWrong : ChangeSpec := { name := "fnExactBlurPicture", fn := fun _ => fun
  | [d1, d2] => { results := [.lit (.bool false)], args := [d1, d2] }
  | _ => none }
def FnExactBlurPictureWrongFalsely : Prop := fnExactBlurPictureRow.holds Try.pinned (OpenSpec.ofChange fnExactBlurPictureWrong)

/-- 'laws.FnExactHalvePicture': WHATEVER THE INPUT: true; the input reads as it did. -/
def fnExactHalvePictureSpec : ChangeSpec := { name := "fnExactHalvePicture", fn := fun _ => fun
  | [d] => { results := [.lit (.bool true)], args := [d] }
  | _ => none }
def fnExactHalvePictureRow : OpenClaim := { program := "ytdgpjpabhbifbab", sum := "fada551c7e5aca3e671c93fde30295045840bdd811dc5a3b488fcf47e8e13c4c", func := "loop.example/g01223/laws.FnExactHalvePicture", spec := "fnExactHalvePicture", unfollowed := true, recurses := true, apart := false }
def FnExactHalvePictureSaid : Prop := fnExactHalvePictureRow.holds Try.pinned (OpenSpec.ofChange fnExactHalvePictureSpec)

/-- ITS FALSE NEIGHBOUR: 'it returns false'. Refute it at one input. -/
def fnExactHalvePictureWrong : ChangeSpec := { name := "fnExactHalvePicture", fn := fun _ => fun
  | [d] => { results := [.lit (.bool false)], args := [d] }
  | _ => none }
def FnExactHalvePictureWrongFalsely : Prop := fnExactHalvePictureRow.holds Try.pinned (OpenSpec.ofChange fnExactHalvePictureWrong)

/-- 'laws.FnExactDoublePicture': WHATEVER THE INPUT: true; the input reads as it did. -/
def fnExactDoublePictureSpec : ChangeSpec := { name := "fnExactDoublePicture", fn := fun _ => fun
  | [d1, d2, d3] => { results := [.lit (.bool true)], args := [d1, d2, d3] }
  | _ => none }
def fnExactDoublePictureRow : OpenClaim := { program := "ytdgpjpabhbifbab", sum := "fada551c7e5aca3e671c93fde30295045840bdd811dc5a3b488fcf47e8e13c4c", func := "loop.example/g01223/laws.FnExactDoublePicture", spec := "fnExactDoublePicture", unfollowed := true, recurses := true, apart := false }
def FnExactDoublePictureSaid : Prop := fnExactDoublePictureRow.holds Try.pinned (OpenSpec.ofChange fnExactDoublePictureSpec)

/-- ITS FALSE NEIGHBOUR: 'it returns false'. Refute it at one input. -/
def fnExactDoublePictureWrong : ChangeSpec := { name := "fnExactDoublePicture", fn := fun _ => fun
  | [d1, d2, d3] => { results := [.lit (.bool false)], args := [d1, d2, d3] }
  | _ => none }
def FnExactDoublePictureWrongFalsely : Prop := fnExactDoublePictureRow.holds Try.pinned (OpenSpec.ofChange fnExactDoublePictureWrong)

/-- 'laws.FnExactPyramidOf': WHATEVER THE INPUT: true; the input reads as it did. -/
def fnExactPyramidOfSpec : ChangeSpec := { name := "fnExactPyramidOf", fn := fun _ => fun
  | [d1, d2] => { results := [.lit (.bool true)], args := [d1, d2] }
  | _ => none }
def fnExactPyramidOfRow : OpenClaim := { program := "ytdgpjpabhbifbab", sum := "fada551c7e5aca3e671c93fde30295045840bdd811dc5a3b488fcf47e8e13c4c", func := "loop.example/g01223/laws.FnExactPyramidOf", spec := "fnExactPyramidOf", unfollowed := true, recurses := true, apart := false }
def FnExactPyramidOfSaid : Prop := fnExactPyramidOfRow.holds Try.pinned (OpenSpec.ofChange fnExactPyramidOfSpec)

/-- ITS FALSE NEIGHBOUR: 'it returns false'. Refute it at one input. -/
def fnExactPyramidOfWrong : ChangeSpec := { name := "fnExactPyramidOf", fn := fun _ => fun
  | [d1, d2] => { results := [.lit (.bool false)], args := [d1, d2] }
  | _ => none }
def FnExactPyramidOfWrongFalsely : Prop := fnExactPyramidOfRow.holds Try.pinned (OpenSpec.ofChange fnExactPyramidOfWrong)

/-- 'laws.FnExactSlopePicture': WHATEVER THE INPUT: true; the input reads as it did. -/
def fnExactSlopePictureSpec : ChangeSpec := { name := "fnExactSlopePicture", fn := fun _ => fun
  | [d] => { results := [.lit (.bool true)], args := [d] }
  | _ => none }
def fnExactSlopePictureRow : OpenClaim := { program := "ytdgpjpabhbifbab", sum := "fada551c7e5aca3e671c93fde30295045840bdd811dc5a3b488fcf47e8e13c4c", func := "loop.example/g01223/laws.FnExactSlopePicture", spec := "fnExactSlopePicture", unfollowed := true, recurses := true, apart := false }
def FnExactSlopePictureSaid : Prop := fnExactSlopePictureRow.holds Try.pinned (OpenSpec.ofChange fnExactSlopePictureSpec)

/-- ITS FALSE NEIGHBOUR: 'it returns false'. Refute it at one input. -/
def fnExactSlopePictureWrong : ChangeSpec := { name := "fnExactSlopePicture", fn := fun _ => fun
  | [d] => { results := [.lit (.bool false)], args := [d] }
  | _ => none }
def FnExactSlopePictureWrongFalsely : Prop := fnExactSlopePictureRow.holds Try.pinned (OpenSpec.ofChange fnExactSlopePictureWrong)

/-- 'laws.FnExactRankAt': WHATEVER THE INPUT: true; the input reads as it did. -/
def fnExactRankAtSpec : ChangeSpec := { name := "fnExactRankAt", fn := fun _ => fun
  | [d1, d2, d3, d4] => { results := [.lit (.bool true)], args := [d1, d2, d3, d4] }
  | _ => none }
def fnExactRankAtRow : OpenClaim := { program := "ytdgpjpabhbifbab", sum := "fada551c7e5aca3e671c93fde30295045840bdd811dc5a3b488fcf47e8e13c4c", func := "loop.example/g01223/laws.FnExactRankAt", spec := "fnExactRankAt", apart := false }
def FnExactRankAtSaid : Prop := fnExactRankAtRow.holds Try.pinned (OpenSpec.ofChange fnExactRankAtSpec)

/-- ITS FALSE NEIGHBOUR: 'it returns false'. Refute it at one input. -/
def fnExactRankAtWrong : ChangeSpec := { name := "fnExactRankAt", fn := fun _ => fun
  | [d1, d2, d3, d4] => { results := [.lit (.bool false)], args := [d1, d2, d3, d4] }
  | _ => none }
def FnExactRankAtWrongFalsely : Prop := fnExactRankAtRow.holds Try.pinned (OpenSpec.ofChange fnExactRankAtWrong)

/-- 'laws.FnExactRanksOf': WHATEVER THE INPUT: true; the input reads as it did. -/
def fnExactRanksOfSpec : ChangeSpec := { name := "fnExactRanksOf", fn := fun _ => fun
  | [d1, d2] => { results := [.lit (.bool true)], args := [d1, d2] }
  | _ => none }
def fnExactRanksOfRow : OpenClaim := { program := "ytdgpjpabhbifbab", sum := "fada551c7e5aca3e671c93fde30295045840bdd811dc5a3b488fcf47e8e13c4c", func := "loop.example/g01223/laws.FnExactRanksOf", spec := "fnExactRanksOf", apart := false }
def FnExactRanksOfSaid : Prop := fnExactRanksOfRow.holds Try.pinned (OpenSpec.ofChange fnExactRanksOfSpec)

/-- ITS FALSE NEIGHBOUR: 'it returns false'. Refute it at one input. -/
def fnExactRanksOfWrong : ChangeSpec := { name := "fnExactRanksOf", fn := fun _ => fun
  | [d1, d2] => { results := [.lit (.bool false)], args := [d1, d2] }
  | _ => none }
def FnExactRanksOfWrongFalsely : Prop := fnExactRanksOfRow.holds Try.pinned (OpenSpec.ofChange fnExactRanksOfWrong)

/-- 'laws.FnExactRankDistance': WHATEVER THE INPUT: true; the input reads as it did. -/
def fnExactRankDistanceSpec : ChangeSpec := { name := "fnExactRankDistance", fn := fun _ => fun
  | [d1, d2] => { results := [.lit (.bool true)], args := [d1, d2] }
  | _ => none }
def fnExactRankDistanceRow : OpenClaim := { program := "ytdgpjpabhbifbab", sum := "fada551c7e5aca3e671c93fde30295045840bdd811dc5a3b488fcf47e8e13c4c", func := "loop.example/g01223/laws.FnExactRankDistance", spec := "fnExactRankDistance", apart := false }
def FnExactRankDistanceSaid : Prop := fnExactRankDistanceRow.holds Try.pinned (OpenSpec.ofChange fnExactRankDistanceSpec)

/-- ITS FALSE NEIGHBOUR: 'it returns false'. Refute it at one input. -/
def fnExactRankDistanceWrong : ChangeSpec := { name := "fnExactRankDistance", fn := fun _ => fun
  | [d1, d2] => { results := [.lit (.bool false)], args := [d1, d2] }
  | _ => none }
def FnExactRankDistanceWrongFalsely : Prop := fnExactRankDistanceRow.holds Try.pinned (OpenSpec.ofChange fnExactRankDistanceWrong)

/-- 'laws.FnExactRangeOf': WHATEVER THE INPUT: true; the input reads as it did. -/
def fnExactRangeOfSpec : ChangeSpec := { name := "fnExactRangeOf", fn := fun _ => fun
  | [d] => { results := [.lit (.bool true)], args := [d] }
  | _ => none }
def fnExactRangeOfRow : OpenClaim := { program := "ytdgpjpabhbifbab", sum := "fada551c7e5aca3e671c93fde30295045840bdd811dc5a3b488fcf47e8e13c4c", func := "loop.example/g01223/laws.FnExactRangeOf", spec := "fnExactRangeOf", apart := false }
def FnExactRangeOfSaid : Prop := fnExactRangeOfRow.holds Try.pinned (OpenSpec.ofChange fnExactRangeOfSpec)

/-- ITS FALSE NEIGHBOUR: 'it returns false'. Refute it at one input. -/
def fnExactRangeOfWrong : ChangeSpec := { name := "fnExactRangeOf", fn := fun _ => fun
  | [d] => { results := [.lit (.bool false)], args := [d] }
  | _ => none }
def FnExactRangeOfWrongFalsely : Prop := fnExactRangeOfRow.holds Try.pinned (OpenSpec.ofChange fnExactRangeOfWrong)

/-- 'laws.FnExactNormPicture': WHATEVER THE INPUT: true; the input reads as it did. -/
def fnExactNormPictureSpec : ChangeSpec := { name := "fnExactNormPicture", fn := fun _ => fun
  | [d] => { results := [.lit (.bool true)], args := [d] }
  | _ => none }
def fnExactNormPictureRow : OpenClaim := { program := "ytdgpjpabhbifbab", sum := "fada551c7e5aca3e671c93fde30295045840bdd811dc5a3b488fcf47e8e13c4c", func := "loop.example/g01223/laws.FnExactNormPicture", spec := "fnExactNormPicture", unfollowed := true, recurses := true, apart := false }
def FnExactNormPictureSaid : Prop := fnExactNormPictureRow.holds Try.pinned (OpenSpec.ofChange fnExactNormPictureSpec)

/-- ITS FALSE NEIGHBOUR: 'it returns false'. Refute it at one input. -/
def fnExactNormPictureWrong : ChangeSpec := { name := "fnExactNormPicture", fn := fun _ => fun
  | [d] => { results := [.lit (.bool false)], args := [d] }
  | _ => none }
def FnExactNormPictureWrongFalsely : Prop := fnExactNormPictureRow.holds Try.pinned (OpenSpec.ofChange fnExactNormPictureWrong)

/-- 'laws.FnExactCountUnlike': WHATEVER THE INPUT: true; the input reads as it did. -/
def fnExactCountUnlikeSpec : ChangeSpec := { name := "fnExactCountUnlike", fn := fun _ => fun
  | [d1, d2, d3] => { results := [.lit (.bool true)], args := [d1, d2, d3] }
  | _ => none }
def fnExactCountUnlikeRow : OpenClaim := { program := "ytdgpjpabhbifbab", sum := "fada551c7e5aca3e671c93fde30295045840bdd811dc5a3b488fcf47e8e13c4c", func := "loop.example/g01223/laws.FnExactCountUnlike", spec := "fnExactCountUnlike", inPlace := ["math.Float64bits", "math.Float64frombits"], apart := false }
def FnExactCountUnlikeSaid : Prop := fnExactCountUnlikeRow.holds Try.pinned (OpenSpec.ofChange fnExactCountUnlikeSpec)

/-- ITS FALSE NEIGHBOUR: 'it returns false'. Refute it at one input. -/
def fnExactCountUnlikeWrong : ChangeSpec := { name := "fnExactCountUnlike", fn := fun _ => fun
  | [d1, d2, d3] => { results := [.lit (.bool false)], args := [d1, d2, d3] }
  | _ => none }
def FnExactCountUnlikeWrongFalsely : Prop := fnExactCountUnlikeRow.holds Try.pinned (OpenSpec.ofChange fnExactCountUnlikeWrong)

/- THE SECOND FORM. 'bulk': how many values and letters a reading holds, each counted each time it is reached (what is shared counts as often as it is met; a slice's spare places count too). A statement '..UptoSaid' is the law's where the arguments, and the package variables that the reading takes, are together of bulk at most 1048576: NARROWER than '..Said'. Prove '..Said' where nothing that the law and all that it calls make is longer than what came in: it says more and counts as full. Else prove '..UptoSaid'. A law counts once. -/
mutual
def uptoBulk {H : Type} : DataW H → Nat
  | .lit (.string bytes) => bytes.length + 1
  | .lit _ => 1
  | .nil => 1
  | .ptr d => uptoBulk d + 1
  | .slice elems spare => uptoBulkAll elems + uptoBulkAll spare + 1
  | .agg parts => uptoBulkAll parts + 1
  | .iface _ d => uptoBulk d + 1
  | .map entries => uptoBulkEntries entries + 1
  | .held _ => 1
def uptoBulkAll {H : Type} : List (DataW H) → Nat
  | [] => 0
  | d :: r => uptoBulk d + uptoBulkAll r
def uptoBulkEntries {H : Type} : List (Lit × DataW H) → Nat
  | [] => 0
  | x :: r => uptoBulkEntry x + uptoBulkEntries r
def uptoBulkEntry {H : Type} : Lit × DataW H → Nat
  | (.string bytes, d) => bytes.length + uptoBulk d + 1
  | (_, d) => uptoBulk d + 1
 end
def uptoSmall : (H : Type) → List (DataW H) → Bool := fun _ ds => decide (uptoBulkAll ds ≤ 1048576)
def OpenSpec.upto (s : _root_.Go.ChangeSpec) : _root_.Go.OpenSpec := { _root_.Go.OpenSpec.ofChange s with cond := some uptoSmall }

/-- 'laws.FnExactBoxPicture', WHERE WHAT IT READS IS OF BULK AT MOST 1048576: true; the input reads as it did. -/
def fnExactBoxPictureUptoRow : OpenClaim := { program := "ytdgpjpabhbifbab", sum := "fada551c7e5aca3e671c93fde30295045840bdd811dc5a3b488fcf47e8e13c4c", func := "loop.example/g01223/laws.FnExactBoxPicture", spec := "fnExactBoxPicture", unfollowed := true, recurses := true, apart := false, narrowed := true }
def FnExactBoxPictureUptoSaid : Prop := fnExactBoxPictureUptoRow.holds Try.pinned (OpenSpec.upto fnExactBoxPictureSpec)

/-- 'laws.FnExactBlurPicture', WHERE WHAT IT READS IS OF BULK AT MOST 1048576: true; the input reads as it did. -/
def fnExactBlurPictureUptoRow : OpenClaim := { program := "ytdgpjpabhbifbab", sum := "fada551c7e5aca3e671c93fde30295045840bdd811dc5a3b488fcf47e8e13c4c", func := "loop.example/g01223/laws.FnExactBlurPicture", spec := "fnExactBlurPicture", unfollowed := true, recurses := true, apart := false, narrowed := true }
def FnExactBlurPictureUptoSaid : Prop := fnExactBlurPictureUptoRow.holds Try.pinned (OpenSpec.upto fnExactBlurPictureSpec)

/-- 'laws.FnExactHalvePicture', WHERE WHAT IT READS IS OF BULK AT MOST 1048576: true; the input reads as it did. -/
def fnExactHalvePictureUptoRow : OpenClaim := { program := "ytdgpjpabhbifbab", sum := "fada551c7e5aca3e671c93fde30295045840bdd811dc5a3b488fcf47e8e13c4c", func := "loop.example/g01223/laws.FnExactHalvePicture", spec := "fnExactHalvePicture", unfollowed := true, recurses := true, apart := false, narrowed := true }
def FnExactHalvePictureUptoSaid : Prop := fnExactHalvePictureUptoRow.holds Try.pinned (OpenSpec.upto fnExactHalvePictureSpec)

/-- 'laws.FnExactDoublePicture', WHERE WHAT IT READS IS OF BULK AT MOST 1048576: true; the input reads as it did. -/
def fnExactDoublePictureUptoRow : OpenClaim := { program := "ytdgpjpabhbifbab", sum := "fada551c7e5aca3e671c93fde30295045840bdd811dc5a3b488fcf47e8e13c4c", func := "loop.example/g01223/laws.FnExactDoublePicture", spec := "fnExactDoublePicture", unfollowed := true, recurses := true, apart := false, narrowed := true }
def FnExactDoublePictureUptoSaid : Prop := fnExactDoublePictureUptoRow.holds Try.pinned (OpenSpec.upto fnExactDoublePictureSpec)

/-- 'laws.FnExactPyramidOf', WHERE WHAT IT READS IS OF BULK AT MOST 1048576: true; the input reads as it did. -/
def fnExactPyramidOfUptoRow : OpenClaim := { program := "ytdgpjpabhbifbab", sum := "fada551c7e5aca3e671c93fde30295045840bdd811dc5a3b488fcf47e8e13c4c", func := "loop.example/g01223/laws.FnExactPyramidOf", spec := "fnExactPyramidOf", unfollowed := true, recurses := true, apart := false, narrowed := true }
def FnExactPyramidOfUptoSaid : Prop := fnExactPyramidOfUptoRow.holds Try.pinned (OpenSpec.upto fnExactPyramidOfSpec)

/-- 'laws.FnExactSlopePicture', WHERE WHAT IT READS IS OF BULK AT MOST 1048576: true; the input reads as it did. -/
def fnExactSlopePictureUptoRow : OpenClaim := { program := "ytdgpjpabhbifbab", sum := "fada551c7e5aca3e671c93fde30295045840bdd811dc5a3b488fcf47e8e13c4c", func := "loop.example/g01223/laws.FnExactSlopePicture", spec := "fnExactSlopePicture", unfollowed := true, recurses := true, apart := false, narrowed := true }
def FnExactSlopePictureUptoSaid : Prop := fnExactSlopePictureUptoRow.holds Try.pinned (OpenSpec.upto fnExactSlopePictureSpec)

/-- 'laws.FnExactRankAt', WHERE WHAT IT READS IS OF BULK AT MOST 1048576: true; the input reads as it did. -/
def fnExactRankAtUptoRow : OpenClaim := { program := "ytdgpjpabhbifbab", sum := "fada551c7e5aca3e671c93fde30295045840bdd811dc5a3b488fcf47e8e13c4c", func := "loop.example/g01223/laws.FnExactRankAt", spec := "fnExactRankAt", apart := false, narrowed := true }
def FnExactRankAtUptoSaid : Prop := fnExactRankAtUptoRow.holds Try.pinned (OpenSpec.upto fnExactRankAtSpec)

/-- 'laws.FnExactRanksOf', WHERE WHAT IT READS IS OF BULK AT MOST 1048576: true; the input reads as it did. -/
def fnExactRanksOfUptoRow : OpenClaim := { program := "ytdgpjpabhbifbab", sum := "fada551c7e5aca3e671c93fde30295045840bdd811dc5a3b488fcf47e8e13c4c", func := "loop.example/g01223/laws.FnExactRanksOf", spec := "fnExactRanksOf", apart := false, narrowed := true }
def FnExactRanksOfUptoSaid : Prop := fnExactRanksOfUptoRow.holds Try.pinned (OpenSpec.upto fnExactRanksOfSpec)

/-- 'laws.FnExactRankDistance', WHERE WHAT IT READS IS OF BULK AT MOST 1048576: true; the input reads as it did. -/
def fnExactRankDistanceUptoRow : OpenClaim := { program := "ytdgpjpabhbifbab", sum := "fada551c7e5aca3e671c93fde30295045840bdd811dc5a3b488fcf47e8e13c4c", func := "loop.example/g01223/laws.FnExactRankDistance", spec := "fnExactRankDistance", apart := false, narrowed := true }
def FnExactRankDistanceUptoSaid : Prop := fnExactRankDistanceUptoRow.holds Try.pinned (OpenSpec.upto fnExactRankDistanceSpec)

/-- 'laws.FnExactRangeOf', WHERE WHAT IT READS IS OF BULK AT MOST 1048576: true; the input reads as it did. -/
def fnExactRangeOfUptoRow : OpenClaim := { program := "ytdgpjpabhbifbab", sum := "fada551c7e5aca3e671c93fde30295045840bdd811dc5a3b488fcf47e8e13c4c", func := "loop.example/g01223/laws.FnExactRangeOf", spec := "fnExactRangeOf", apart := false, narrowed := true }
def FnExactRangeOfUptoSaid : Prop := fnExactRangeOfUptoRow.holds Try.pinned (OpenSpec.upto fnExactRangeOfSpec)

/-- 'laws.FnExactNormPicture', WHERE WHAT IT READS IS OF BULK AT MOST 1048576: true; the input reads as it did. -/
def fnExactNormPictureUptoRow : OpenClaim := { program := "ytdgpjpabhbifbab", sum := "fada551c7e5aca3e671c93fde30295045840bdd811dc5a3b488fcf47e8e13c4c", func := "loop.example/g01223/laws.FnExactNormPicture", spec := "fnExactNormPicture", unfollowed := true, recurses := true, apart := false, narrowed := true }
def FnExactNormPictureUptoSaid : Prop := fnExactNormPictureUptoRow.holds Try.pinned (OpenSpec.upto fnExactNormPictureSpec)

/-- 'laws.FnExactCountUnlike', WHERE WHAT IT READS IS OF BULK AT MOST 1048576: true; the input reads as it did. -/
def fnExactCountUnlikeUptoRow : OpenClaim := { program := "ytdgpjpabhbifbab", sum := "fada551c7e5aca3e671c93fde30295045840bdd811dc5a3b488fcf47e8e13c4c", func := "loop.example/g01223/laws.FnExactCountUnlike", spec := "fnExactCountUnlike", inPlace := ["math.Float64bits", "math.Float64frombits"], apart := false, narrowed := true }
def FnExactCountUnlikeUptoSaid : Prop := fnExactCountUnlikeUptoRow.holds Try.pinned (OpenSpec.upto fnExactCountUnlikeSpec)

end Rows
end Go.Proofs.Ytdgpjpabhbifbab
