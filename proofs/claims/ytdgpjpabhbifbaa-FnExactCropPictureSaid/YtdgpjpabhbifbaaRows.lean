/-
  No cell of these rows narrows 'for every input' (looked for: loops, veiled, ifaces, maps, wideKeys, modest, calm, conditions, laid).
  DERIVED. THE GIVEN ROWS OF THIS SEAT. 12 by the template 'for every input the law returns true; each argument reads behind the call as it read before'; 0 by the template 'total and deterministic' (their statements: YtdgpjpabhbifbaaTotals.lean).
  GIVEN WITH THE SEED: the statements are not yours to turn. If you find one false, say at which input.
  Laid BY PROGRAM, IN A SANDBOX (cutbox-rows.mjs): the forced cells as the released guide's own fill.sh prints them over the translation f6982c3140671211… (all of the seat's roots in one cut). By AI agents, Wed Nov 11 2026. No macro, syntax, notation, axiom, sorry.
-/
import Derived.Test.YtdgpjpabhbifbaaChecked
import GoSem.Claim
import GoSem.ClaimJoined
import GoSem.ClaimMapViews
import Derived.JoinedTies
import Derived.KernelRfl
namespace Go.Proofs.Ytdgpjpabhbifbaa
/- THE CELL 'sum', in the pinned program and in every row, IS THE sha256 OF THE DUMP (.gsa) THAT YtdgpjpabhbifbaaProg.lean LOADS. Nothing in Lean hashes anything: it is a label: what it is worth is what the hold of that sum in a sandbox is worth. -/
noncomputable def Try.pinned : Pinned := { name := "ytdgpjpabhbifbaa", sum := "f6982c3140671211e95d1fab2e5bdf87aaaf05679da4a428f2b17bfe49b35b0c", checked := Try.checked }
namespace Rows
def none {H : Type} : Left H := { results := [], args := [] }

/-- 'laws.FnExactValidPicture': WHATEVER THE INPUT: true; the input reads as it did. -/
def fnExactValidPictureSpec : ChangeSpec := { name := "fnExactValidPicture", fn := fun _ => fun
  | [d] => { results := [.lit (.bool true)], args := [d] }
  | _ => none }
def fnExactValidPictureRow : OpenClaim := { program := "ytdgpjpabhbifbaa", sum := "f6982c3140671211e95d1fab2e5bdf87aaaf05679da4a428f2b17bfe49b35b0c", func := "loop.example/g01223/laws.FnExactValidPicture", spec := "fnExactValidPicture", apart := false }
def FnExactValidPictureSaid : Prop := fnExactValidPictureRow.holds Try.pinned (OpenSpec.ofChange fnExactValidPictureSpec)

/-- ITS FALSE NEIGHBOUR: 'it returns false'. Refute it at one input. -/
def fnExactValidPictureWrong : ChangeSpec := { name := "fnExactValidPicture", fn := fun _ => fun
  | [d] => { results := [.lit (.bool false)], args := [d] }
  | _ => none }
def FnExactValidPictureWrongFalsely : Prop := fnExactValidPictureRow.holds Try.pinned (OpenSpec.ofChange fnExactValidPictureWrong)

/-- 'laws.FnExactSamePicture': WHATEVER THE INPUT: true; the input reads as it did. -/
def fnExactSamePictureSpec : ChangeSpec := { name := "fnExactSamePicture", fn := fun _ => fun
  | [d1, d2] => { results := [.lit (.bool true)], args := [d1, d2] }
  | _ => none }
def fnExactSamePictureRow : OpenClaim := { program := "ytdgpjpabhbifbaa", sum := "f6982c3140671211e95d1fab2e5bdf87aaaf05679da4a428f2b17bfe49b35b0c", func := "loop.example/g01223/laws.FnExactSamePicture", spec := "fnExactSamePicture", inPlace := ["math.Float32bits"], apart := false }
def FnExactSamePictureSaid : Prop := fnExactSamePictureRow.holds Try.pinned (OpenSpec.ofChange fnExactSamePictureSpec)

/-- ITS FALSE NEIGHBOUR: 'it returns false'. Refute it at one input. -/
def fnExactSamePictureWrong : ChangeSpec := { name := "fnExactSamePicture", fn := fun _ => fun
  | [d1, d2] => { results := [.lit (.bool false)], args := [d1, d2] }
  | _ => none }
def FnExactSamePictureWrongFalsely : Prop := fnExactSamePictureRow.holds Try.pinned (OpenSpec.ofChange fnExactSamePictureWrong)

/-- 'laws.FnExactFlatPicture': WHATEVER THE INPUT: true; the input reads as it did. -/
def fnExactFlatPictureSpec : ChangeSpec := { name := "fnExactFlatPicture", fn := fun _ => fun
  | [d1, d2, d3] => { results := [.lit (.bool true)], args := [d1, d2, d3] }
  | _ => none }
def fnExactFlatPictureRow : OpenClaim := { program := "ytdgpjpabhbifbaa", sum := "f6982c3140671211e95d1fab2e5bdf87aaaf05679da4a428f2b17bfe49b35b0c", func := "loop.example/g01223/laws.FnExactFlatPicture", spec := "fnExactFlatPicture", unfollowed := true, recurses := true, apart := false }
def FnExactFlatPictureSaid : Prop := fnExactFlatPictureRow.holds Try.pinned (OpenSpec.ofChange fnExactFlatPictureSpec)

/-- ITS FALSE NEIGHBOUR: 'it returns false'. Refute it at one input. -/
def fnExactFlatPictureWrong : ChangeSpec := { name := "fnExactFlatPicture", fn := fun _ => fun
  | [d1, d2, d3] => { results := [.lit (.bool false)], args := [d1, d2, d3] }
  | _ => none }
def FnExactFlatPictureWrongFalsely : Prop := fnExactFlatPictureRow.holds Try.pinned (OpenSpec.ofChange fnExactFlatPictureWrong)

/-- 'laws.FnExactGreyAt': WHATEVER THE INPUT: true; the input reads as it did. -/
def fnExactGreyAtSpec : ChangeSpec := { name := "fnExactGreyAt", fn := fun _ => fun
  | [d1, d2, d3] => { results := [.lit (.bool true)], args := [d1, d2, d3] }
  | _ => none }
def fnExactGreyAtRow : OpenClaim := { program := "ytdgpjpabhbifbaa", sum := "f6982c3140671211e95d1fab2e5bdf87aaaf05679da4a428f2b17bfe49b35b0c", func := "loop.example/g01223/laws.FnExactGreyAt", spec := "fnExactGreyAt", apart := false }
def FnExactGreyAtSaid : Prop := fnExactGreyAtRow.holds Try.pinned (OpenSpec.ofChange fnExactGreyAtSpec)

/-- ITS FALSE NEIGHBOUR: 'it returns false'. Refute it at one input. -/
def fnExactGreyAtWrong : ChangeSpec := { name := "fnExactGreyAt", fn := fun _ => fun
  | [d1, d2, d3] => { results := [.lit (.bool false)], args := [d1, d2, d3] }
  | _ => none }
def FnExactGreyAtWrongFalsely : Prop := fnExactGreyAtRow.holds Try.pinned (OpenSpec.ofChange fnExactGreyAtWrong)

/-- 'laws.FnExactPutGrey': WHATEVER THE INPUT: true; the input reads as it did. -/
def fnExactPutGreySpec : ChangeSpec := { name := "fnExactPutGrey", fn := fun _ => fun
  | [d1, d2, d3, d4] => { results := [.lit (.bool true)], args := [d1, d2, d3, d4] }
  | _ => none }
def fnExactPutGreyRow : OpenClaim := { program := "ytdgpjpabhbifbaa", sum := "f6982c3140671211e95d1fab2e5bdf87aaaf05679da4a428f2b17bfe49b35b0c", func := "loop.example/g01223/laws.FnExactPutGrey", spec := "fnExactPutGrey", unfollowed := true, recurses := true, apart := false }
def FnExactPutGreySaid : Prop := fnExactPutGreyRow.holds Try.pinned (OpenSpec.ofChange fnExactPutGreySpec)

/-- ITS FALSE NEIGHBOUR: 'it returns false'. Refute it at one input. -/
def fnExactPutGreyWrong : ChangeSpec := { name := "fnExactPutGrey", fn := fun _ => fun
  | [d1, d2, d3, d4] => { results := [.lit (.bool false)], args := [d1, d2, d3, d4] }
  | _ => none }
def FnExactPutGreyWrongFalsely : Prop := fnExactPutGreyRow.holds Try.pinned (OpenSpec.ofChange fnExactPutGreyWrong)

/-- 'laws.FnExactMirrorPicture': WHATEVER THE INPUT: true; the input reads as it did. -/
def fnExactMirrorPictureSpec : ChangeSpec := { name := "fnExactMirrorPicture", fn := fun _ => fun
  | [d] => { results := [.lit (.bool true)], args := [d] }
  | _ => none }
def fnExactMirrorPictureRow : OpenClaim := { program := "ytdgpjpabhbifbaa", sum := "f6982c3140671211e95d1fab2e5bdf87aaaf05679da4a428f2b17bfe49b35b0c", func := "loop.example/g01223/laws.FnExactMirrorPicture", spec := "fnExactMirrorPicture", unfollowed := true, recurses := true, apart := false }
def FnExactMirrorPictureSaid : Prop := fnExactMirrorPictureRow.holds Try.pinned (OpenSpec.ofChange fnExactMirrorPictureSpec)

/-- ITS FALSE NEIGHBOUR: 'it returns false'. Refute it at one input. -/
def fnExactMirrorPictureWrong : ChangeSpec := { name := "fnExactMirrorPicture", fn := fun _ => fun
  | [d] => { results := [.lit (.bool false)], args := [d] }
  | _ => none }
def FnExactMirrorPictureWrongFalsely : Prop := fnExactMirrorPictureRow.holds Try.pinned (OpenSpec.ofChange fnExactMirrorPictureWrong)

/-- 'laws.FnExactFlipPicture': WHATEVER THE INPUT: true; the input reads as it did. -/
def fnExactFlipPictureSpec : ChangeSpec := { name := "fnExactFlipPicture", fn := fun _ => fun
  | [d] => { results := [.lit (.bool true)], args := [d] }
  | _ => none }
def fnExactFlipPictureRow : OpenClaim := { program := "ytdgpjpabhbifbaa", sum := "f6982c3140671211e95d1fab2e5bdf87aaaf05679da4a428f2b17bfe49b35b0c", func := "loop.example/g01223/laws.FnExactFlipPicture", spec := "fnExactFlipPicture", unfollowed := true, recurses := true, apart := false }
def FnExactFlipPictureSaid : Prop := fnExactFlipPictureRow.holds Try.pinned (OpenSpec.ofChange fnExactFlipPictureSpec)

/-- ITS FALSE NEIGHBOUR: 'it returns false'. Refute it at one input. -/
def fnExactFlipPictureWrong : ChangeSpec := { name := "fnExactFlipPicture", fn := fun _ => fun
  | [d] => { results := [.lit (.bool false)], args := [d] }
  | _ => none }
def FnExactFlipPictureWrongFalsely : Prop := fnExactFlipPictureRow.holds Try.pinned (OpenSpec.ofChange fnExactFlipPictureWrong)

/-- 'laws.FnExactSwapPicture': WHATEVER THE INPUT: true; the input reads as it did. -/
def fnExactSwapPictureSpec : ChangeSpec := { name := "fnExactSwapPicture", fn := fun _ => fun
  | [d] => { results := [.lit (.bool true)], args := [d] }
  | _ => none }
def fnExactSwapPictureRow : OpenClaim := { program := "ytdgpjpabhbifbaa", sum := "f6982c3140671211e95d1fab2e5bdf87aaaf05679da4a428f2b17bfe49b35b0c", func := "loop.example/g01223/laws.FnExactSwapPicture", spec := "fnExactSwapPicture", unfollowed := true, recurses := true, apart := false }
def FnExactSwapPictureSaid : Prop := fnExactSwapPictureRow.holds Try.pinned (OpenSpec.ofChange fnExactSwapPictureSpec)

/-- ITS FALSE NEIGHBOUR: 'it returns false'. Refute it at one input. -/
def fnExactSwapPictureWrong : ChangeSpec := { name := "fnExactSwapPicture", fn := fun _ => fun
  | [d] => { results := [.lit (.bool false)], args := [d] }
  | _ => none }
def FnExactSwapPictureWrongFalsely : Prop := fnExactSwapPictureRow.holds Try.pinned (OpenSpec.ofChange fnExactSwapPictureWrong)

/-- 'laws.FnExactShiftPicture': WHATEVER THE INPUT: true; the input reads as it did. -/
def fnExactShiftPictureSpec : ChangeSpec := { name := "fnExactShiftPicture", fn := fun _ => fun
  | [d1, d2] => { results := [.lit (.bool true)], args := [d1, d2] }
  | _ => none }
def fnExactShiftPictureRow : OpenClaim := { program := "ytdgpjpabhbifbaa", sum := "f6982c3140671211e95d1fab2e5bdf87aaaf05679da4a428f2b17bfe49b35b0c", func := "loop.example/g01223/laws.FnExactShiftPicture", spec := "fnExactShiftPicture", unfollowed := true, recurses := true, apart := false }
def FnExactShiftPictureSaid : Prop := fnExactShiftPictureRow.holds Try.pinned (OpenSpec.ofChange fnExactShiftPictureSpec)

/-- ITS FALSE NEIGHBOUR: 'it returns false'. Refute it at one input. -/
def fnExactShiftPictureWrong : ChangeSpec := { name := "fnExactShiftPicture", fn := fun _ => fun
  | [d1, d2] => { results := [.lit (.bool false)], args := [d1, d2] }
  | _ => none }
def FnExactShiftPictureWrongFalsely : Prop := fnExactShiftPictureRow.holds Try.pinned (OpenSpec.ofChange fnExactShiftPictureWrong)

/-- 'laws.FnExactCropPicture': WHATEVER THE INPUT: true; the input reads as it did. -/
def fnExactCropPictureSpec : ChangeSpec := { name := "fnExactCropPicture", fn := fun _ => fun
  | [d1, d2, d3, d4, d5] => { results := [.lit (.bool true)], args := [d1, d2, d3, d4, d5] }
  | _ => none }
def fnExactCropPictureRow : OpenClaim := { program := "ytdgpjpabhbifbaa", sum := "f6982c3140671211e95d1fab2e5bdf87aaaf05679da4a428f2b17bfe49b35b0c", func := "loop.example/g01223/laws.FnExactCropPicture", spec := "fnExactCropPicture", unfollowed := true, recurses := true, apart := false }
def FnExactCropPictureSaid : Prop := fnExactCropPictureRow.holds Try.pinned (OpenSpec.ofChange fnExactCropPictureSpec)

/-- ITS FALSE NEIGHBOUR: 'it returns false'. Refute it at one input. -/
def fnExactCropPictureWrong : ChangeSpec := { name := "fnExactCropPicture", fn := fun _ => fun
  | [d1, d2, d3, d4, d5] => { results := [.lit (.bool false)], args := [d1, d2, d3, d4, d5] }
  | _ => none }
def FnExactCropPictureWrongFalsely : Prop := fnExactCropPictureRow.holds Try.pinned (OpenSpec.ofChange fnExactCropPictureWrong)

/-- 'laws.FnExactScalePicture': WHATEVER THE INPUT: true; the input reads as it did. -/
def fnExactScalePictureSpec : ChangeSpec := { name := "fnExactScalePicture", fn := fun _ => fun
  | [d1, d2, d3] => { results := [.lit (.bool true)], args := [d1, d2, d3] }
  | _ => none }
def fnExactScalePictureRow : OpenClaim := { program := "ytdgpjpabhbifbaa", sum := "f6982c3140671211e95d1fab2e5bdf87aaaf05679da4a428f2b17bfe49b35b0c", func := "loop.example/g01223/laws.FnExactScalePicture", spec := "fnExactScalePicture", unfollowed := true, recurses := true, apart := false }
def FnExactScalePictureSaid : Prop := fnExactScalePictureRow.holds Try.pinned (OpenSpec.ofChange fnExactScalePictureSpec)

/-- ITS FALSE NEIGHBOUR: 'it returns false'. Refute it at one input. -/
def fnExactScalePictureWrong : ChangeSpec := { name := "fnExactScalePicture", fn := fun _ => fun
  | [d1, d2, d3] => { results := [.lit (.bool false)], args := [d1, d2, d3] }
  | _ => none }
def FnExactScalePictureWrongFalsely : Prop := fnExactScalePictureRow.holds Try.pinned (OpenSpec.ofChange fnExactScalePictureWrong)

/-- 'laws.FnExactLessPictures': WHATEVER THE INPUT: true; the input reads as it did. -/
def fnExactLessPicturesSpec : ChangeSpec := { name := "fnExactLessPictures", fn := fun _ => fun
  | [d1, d2] => { results := [.lit (.bool true)], args := [d1, d2] }
  | _ => none }
def fnExactLessPicturesRow : OpenClaim := { program := "ytdgpjpabhbifbaa", sum := "f6982c3140671211e95d1fab2e5bdf87aaaf05679da4a428f2b17bfe49b35b0c", func := "loop.example/g01223/laws.FnExactLessPictures", spec := "fnExactLessPictures", unfollowed := true, recurses := true, apart := false }
def FnExactLessPicturesSaid : Prop := fnExactLessPicturesRow.holds Try.pinned (OpenSpec.ofChange fnExactLessPicturesSpec)

/-- ITS FALSE NEIGHBOUR: 'it returns false'. Refute it at one input. -/
def fnExactLessPicturesWrong : ChangeSpec := { name := "fnExactLessPictures", fn := fun _ => fun
  | [d1, d2] => { results := [.lit (.bool false)], args := [d1, d2] }
  | _ => none }
def FnExactLessPicturesWrongFalsely : Prop := fnExactLessPicturesRow.holds Try.pinned (OpenSpec.ofChange fnExactLessPicturesWrong)

/- THE SECOND FORM. 'bulk': how many values and letters a reading holds, each counted each time it is reached (what is shared counts as often as it is met; a slice's spare places count too). A statement '..UptoSaid' is the law's where the arguments, and the package variables that the reading takes, are together of bulk at most 1048576: NARROWER than '..Said'. Prove '..Said' where nothing that the law and all that it calls make is longer than what came in: it says more and counts as full. Else prove '..UptoSaid'. A law counts once. -/
mutual
def uptoBulk {H : Type} : DataW H → Nat
  | .lit (.string bytes) => bytes.length + 1
  | .lit _ => 1
  | .nil => 1
  | .ptr d => uptoBulk d + 1
  | .slice elems spare => uptoBulkAll elems + uptoBulkAll spare + 1
  | .agg parts => uptoBulkAll parts + 1
  | .iface _ d => uptoBulk d + 1
  | .map entries => uptoBulkEntries entries + 1
  | .held _ => 1
def uptoBulkAll {H : Type} : List (DataW H) → Nat
  | [] => 0
  | d :: r => uptoBulk d + uptoBulkAll r
def uptoBulkEntries {H : Type} : List (Lit × DataW H) → Nat
  | [] => 0
  | x :: r => uptoBulkEntry x + uptoBulkEntries r
def uptoBulkEntry {H : Type} : Lit × DataW H → Nat
  | (.string bytes, d) => bytes.length + uptoBulk d + 1
  | (_, d) => uptoBulk d + 1
 end
def uptoSmall : (H : Type) → List (DataW H) → Bool := fun _ ds => decide (uptoBulkAll ds ≤ 1048576)
def OpenSpec.upto (s : _root_.Go.ChangeSpec) : _root_.Go.OpenSpec := { _root_.Go.OpenSpec.ofChange s with cond := some uptoSmall }

/-- 'laws.FnExactValidPicture', WHERE WHAT IT READS IS OF BULK AT MOST 1048576: true; the input reads as it did. -/
def fnExactValidPictureUptoRow : OpenClaim := { program := "ytdgpjpabhbifbaa", sum := "f6982c3140671211e95d1fab2e5bdf87aaaf05679da4a428f2b17bfe49b35b0c", func := "loop.example/g01223/laws.FnExactValidPicture", spec := "fnExactValidPicture", apart := false, narrowed := true }
def FnExactValidPictureUptoSaid : Prop := fnExactValidPictureUptoRow.holds Try.pinned (OpenSpec.upto fnExactValidPictureSpec)

/-- 'laws.FnExactSamePicture', WHERE WHAT IT READS IS OF BULK AT MOST 1048576: true; the input reads as it did. -/
def fnExactSamePictureUptoRow : OpenClaim := { program := "ytdgpjpabhbifbaa", sum := "f6982c3140671211e95d1fab2e5bdf87aaaf05679da4a428f2b17bfe49b35b0c", func := "loop.example/g01223/laws.FnExactSamePicture", spec := "fnExactSamePicture", inPlace := ["math.Float32bits"], apart := false, narrowed := true }
def FnExactSamePictureUptoSaid : Prop := fnExactSamePictureUptoRow.holds Try.pinned (OpenSpec.upto fnExactSamePictureSpec)

/-- 'laws.FnExactFlatPicture', WHERE WHAT IT READS IS OF BULK AT MOST 1048576: true; the input reads as it did. -/
def fnExactFlatPictureUptoRow : OpenClaim := { program := "ytdgpjpabhbifbaa", sum := "f6982c3140671211e95d1fab2e5bdf87aaaf05679da4a428f2b17bfe49b35b0c", func := "loop.example/g01223/laws.FnExactFlatPicture", spec := "fnExactFlatPicture", unfollowed := true, recurses := true, apart := false, narrowed := true }
def FnExactFlatPictureUptoSaid : Prop := fnExactFlatPictureUptoRow.holds Try.pinned (OpenSpec.upto fnExactFlatPictureSpec)

/-- 'laws.FnExactGreyAt', WHERE WHAT IT READS IS OF BULK AT MOST 1048576: true; the input reads as it did. -/
def fnExactGreyAtUptoRow : OpenClaim := { program := "ytdgpjpabhbifbaa", sum := "f6982c3140671211e95d1fab2e5bdf87aaaf05679da4a428f2b17bfe49b35b0c", func := "loop.example/g01223/laws.FnExactGreyAt", spec := "fnExactGreyAt", apart := false, narrowed := true }
def FnExactGreyAtUptoSaid : Prop := fnExactGreyAtUptoRow.holds Try.pinned (OpenSpec.upto fnExactGreyAtSpec)

/-- 'laws.FnExactPutGrey', WHERE WHAT IT READS IS OF BULK AT MOST 1048576: true; the input reads as it did. -/
def fnExactPutGreyUptoRow : OpenClaim := { program := "ytdgpjpabhbifbaa", sum := "f6982c3140671211e95d1fab2e5bdf87aaaf05679da4a428f2b17bfe49b35b0c", func := "loop.example/g01223/laws.FnExactPutGrey", spec := "fnExactPutGrey", unfollowed := true, recurses := true, apart := false, narrowed := true }
def FnExactPutGreyUptoSaid : Prop := fnExactPutGreyUptoRow.holds Try.pinned (OpenSpec.upto fnExactPutGreySpec)

/-- 'laws.FnExactMirrorPicture', WHERE WHAT IT READS IS OF BULK AT MOST 1048576: true; the input reads as it did. -/
def fnExactMirrorPictureUptoRow : OpenClaim := { program := "ytdgpjpabhbifbaa", sum := "f6982c3140671211e95d1fab2e5bdf87aaaf05679da4a428f2b17bfe49b35b0c", func := "loop.example/g01223/laws.FnExactMirrorPicture", spec := "fnExactMirrorPicture", unfollowed := true, recurses := true, apart := false, narrowed := true }
def FnExactMirrorPictureUptoSaid : Prop := fnExactMirrorPictureUptoRow.holds Try.pinned (OpenSpec.upto fnExactMirrorPictureSpec)

/-- 'laws.FnExactFlipPicture', WHERE WHAT IT READS IS OF BULK AT MOST 1048576: true; the input reads as it did. -/
def fnExactFlipPictureUptoRow : OpenClaim := { program := "ytdgpjpabhbifbaa", sum := "f6982c3140671211e95d1fab2e5bdf87aaaf05679da4a428f2b17bfe49b35b0c", func := "loop.example/g01223/laws.FnExactFlipPicture", spec := "fnExactFlipPicture", unfollowed := true, recurses := true, apart := false, narrowed := true }
def FnExactFlipPictureUptoSaid : Prop := fnExactFlipPictureUptoRow.holds Try.pinned (OpenSpec.upto fnExactFlipPictureSpec)

/-- 'laws.FnExactSwapPicture', WHERE WHAT IT READS IS OF BULK AT MOST 1048576: true; the input reads as it did. -/
def fnExactSwapPictureUptoRow : OpenClaim := { program := "ytdgpjpabhbifbaa", sum := "f6982c3140671211e95d1fab2e5bdf87aaaf05679da4a428f2b17bfe49b35b0c", func := "loop.example/g01223/laws.FnExactSwapPicture", spec := "fnExactSwapPicture", unfollowed := true, recurses := true, apart := false, narrowed := true }
def FnExactSwapPictureUptoSaid : Prop := fnExactSwapPictureUptoRow.holds Try.pinned (OpenSpec.upto fnExactSwapPictureSpec)

/-- 'laws.FnExactShiftPicture', WHERE WHAT IT READS IS OF BULK AT MOST 1048576: true; the input reads as it did. -/
def fnExactShiftPictureUptoRow : OpenClaim := { program := "ytdgpjpabhbifbaa", sum := "f6982c3140671211e95d1fab2e5bdf87aaaf05679da4a428f2b17bfe49b35b0c", func := "loop.example/g01223/laws.FnExactShiftPicture", spec := "fnExactShiftPicture", unfollowed := true, recurses := true, apart := false, narrowed := true }
def FnExactShiftPictureUptoSaid : Prop := fnExactShiftPictureUptoRow.holds Try.pinned (OpenSpec.upto fnExactShiftPictureSpec)

/-- 'laws.FnExactCropPicture', WHERE WHAT IT READS IS OF BULK AT MOST 1048576: true; the input reads as it did. -/
def fnExactCropPictureUptoRow : OpenClaim := { program := "ytdgpjpabhbifbaa", sum := "f6982c3140671211e95d1fab2e5bdf87aaaf05679da4a428f2b17bfe49b35b0c", func := "loop.example/g01223/laws.FnExactCropPicture", spec := "fnExactCropPicture", unfollowed := true, recurses := true, apart := false, narrowed := true }
def FnExactCropPictureUptoSaid : Prop := fnExactCropPictureUptoRow.holds Try.pinned (OpenSpec.upto fnExactCropPictureSpec)

/-- 'laws.FnExactScalePicture', WHERE WHAT IT READS IS OF BULK AT MOST 1048576: true; the input reads as it did. -/
def fnExactScalePictureUptoRow : OpenClaim := { program := "ytdgpjpabhbifbaa", sum := "f6982c3140671211e95d1fab2e5bdf87aaaf05679da4a428f2b17bfe49b35b0c", func := "loop.example/g01223/laws.FnExactScalePicture", spec := "fnExactScalePicture", unfollowed := true, recurses := true, apart := false, narrowed := true }
def FnExactScalePictureUptoSaid : Prop := fnExactScalePictureUptoRow.holds Try.pinned (OpenSpec.upto fnExactScalePictureSpec)

/-- 'laws.FnExactLessPictures', WHERE WHAT IT READS IS OF BULK AT MOST 1048576: true; the input reads as it did. -/
def fnExactLessPicturesUptoRow : OpenClaim := { program := "ytdgpjpabhbifbaa", sum := "f6982c3140671211e95d1fab2e5bdf87aaaf05679da4a428f2b17bfe49b35b0c", func := "loop.example/g01223/laws.FnExactLessPictures", spec := "fnExactLessPictures", unfollowed := true, recurses := true, apart := false, narrowed := true }
def FnExactLessPicturesUptoSaid : Prop := fnExactLessPicturesUptoRow.holds Try.pinned (OpenSpec.upto fnExactLessPicturesSpec)

end Rows
end Go.Proofs.Ytdgpjpabhbifbaa
