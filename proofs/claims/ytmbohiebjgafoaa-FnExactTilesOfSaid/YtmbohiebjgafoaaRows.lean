/-
  No cell of these rows narrows 'for every input' (looked for: loops, veiled, ifaces, maps, wideKeys, modest, calm, conditions, laid).
  DERIVED. THE GIVEN ROWS OF THIS SEAT. 12 by the template 'for every input the law returns true; each argument reads behind the call as it read before'; 0 by the template 'total and deterministic' (their statements: YtmbohiebjgafoaaTotals.lean).
  GIVEN WITH THE SEED: the statements are not yours to turn. If you find one false, say at which input.
  Laid BY PROGRAM, IN A SANDBOX (cutbox-rows.mjs): the forced cells as the released guide's own fill.sh prints them over the translation 880fc1db77b665b9… (all of the seat's roots in one cut). By AI agents, Wed Nov 11 2026. No macro, syntax, notation, axiom, sorry.
-/
import Derived.Test.YtmbohiebjgafoaaChecked
import GoSem.Claim
import GoSem.ClaimJoined
import GoSem.ClaimMapViews
import Derived.JoinedTies
import Derived.KernelRfl
namespace Go.Proofs.Ytmbohiebjgafoaa
/- THE CELL 'sum', in the pinned program and in every row, IS THE sha256 OF THE DUMP (.gsa) THAT YtmbohiebjgafoaaProg.lean LOADS. Nothing in Lean hashes anything: it is a label: what it is worth is what the hold of that sum in a sandbox is worth. -/
noncomputable def Try.pinned : Pinned := { name := "ytmbohiebjgafoaa", sum := "880fc1db77b665b9bba391f498154d512a937db08d59635000b0ad96dfd12d6b", checked := Try.checked }
namespace Rows
def none {H : Type} : Left H := { results := [], args := [] }

/-- 'laws.FnExactValidJob': WHATEVER THE INPUT: true; the input reads as it did. -/
def fnExactValidJobSpec : ChangeSpec := { name := "fnExactValidJob", fn := fun _ => fun
  | [d] => { results := [.lit (.bool true)], args := [d] }
  | _ => none }
def fnExactValidJobRow : OpenClaim := { program := "ytmbohiebjgafoaa", sum := "880fc1db77b665b9bba391f498154d512a937db08d59635000b0ad96dfd12d6b", func := "loop.example/g01223/laws.FnExactValidJob", spec := "fnExactValidJob", inPlace := ["math.Float64bits", "math.Float64frombits"], apart := false }
def FnExactValidJobSaid : Prop := fnExactValidJobRow.holds Try.pinned (OpenSpec.ofChange fnExactValidJobSpec)

/-- ITS FALSE NEIGHBOUR: 'it returns false'. Refute it at one input. -/
def fnExactValidJobWrong : ChangeSpec := { name := "fnExactValidJob", fn := fun _ => fun
  | [d] => { results := [.lit (.bool false)], args := [d] }
  | _ => none }
def FnExactValidJobWrongFalsely : Prop := fnExactValidJobRow.holds Try.pinned (OpenSpec.ofChange fnExactValidJobWrong)

/-- 'laws.FnExactTilesOf': WHATEVER THE INPUT: true; the input reads as it did. -/
def fnExactTilesOfSpec : ChangeSpec := { name := "fnExactTilesOf", fn := fun _ => fun
  | [d1, d2] => { results := [.lit (.bool true)], args := [d1, d2] }
  | _ => none }
def fnExactTilesOfRow : OpenClaim := { program := "ytmbohiebjgafoaa", sum := "880fc1db77b665b9bba391f498154d512a937db08d59635000b0ad96dfd12d6b", func := "loop.example/g01223/laws.FnExactTilesOf", spec := "fnExactTilesOf", apart := false }
def FnExactTilesOfSaid : Prop := fnExactTilesOfRow.holds Try.pinned (OpenSpec.ofChange fnExactTilesOfSpec)

/-- ITS FALSE NEIGHBOUR: 'it returns false'. Refute it at one input. -/
def fnExactTilesOfWrong : ChangeSpec := { name := "fnExactTilesOf", fn := fun _ => fun
  | [d1, d2] => { results := [.lit (.bool false)], args := [d1, d2] }
  | _ => none }
def FnExactTilesOfWrongFalsely : Prop := fnExactTilesOfRow.holds Try.pinned (OpenSpec.ofChange fnExactTilesOfWrong)

/-- 'laws.FnExactIsTile': WHATEVER THE INPUT: true; the input reads as it did. -/
def fnExactIsTileSpec : ChangeSpec := { name := "fnExactIsTile", fn := fun _ => fun
  | [d1, d2] => { results := [.lit (.bool true)], args := [d1, d2] }
  | _ => none }
def fnExactIsTileRow : OpenClaim := { program := "ytmbohiebjgafoaa", sum := "880fc1db77b665b9bba391f498154d512a937db08d59635000b0ad96dfd12d6b", func := "loop.example/g01223/laws.FnExactIsTile", spec := "fnExactIsTile", apart := false }
def FnExactIsTileSaid : Prop := fnExactIsTileRow.holds Try.pinned (OpenSpec.ofChange fnExactIsTileSpec)

/-- ITS FALSE NEIGHBOUR: 'it returns false'. Refute it at one input. -/
def fnExactIsTileWrong : ChangeSpec := { name := "fnExactIsTile", fn := fun _ => fun
  | [d1, d2] => { results := [.lit (.bool false)], args := [d1, d2] }
  | _ => none }
def FnExactIsTileWrongFalsely : Prop := fnExactIsTileRow.holds Try.pinned (OpenSpec.ofChange fnExactIsTileWrong)

/-- 'laws.FnExactHaloOf': WHATEVER THE INPUT: true; the input reads as it did. -/
def fnExactHaloOfSpec : ChangeSpec := { name := "fnExactHaloOf", fn := fun _ => fun
  | [d1, d2, d3] => { results := [.lit (.bool true)], args := [d1, d2, d3] }
  | _ => none }
def fnExactHaloOfRow : OpenClaim := { program := "ytmbohiebjgafoaa", sum := "880fc1db77b665b9bba391f498154d512a937db08d59635000b0ad96dfd12d6b", func := "loop.example/g01223/laws.FnExactHaloOf", spec := "fnExactHaloOf", apart := false }
def FnExactHaloOfSaid : Prop := fnExactHaloOfRow.holds Try.pinned (OpenSpec.ofChange fnExactHaloOfSpec)

/-- ITS FALSE NEIGHBOUR: 'it returns false'. Refute it at one input. -/
def fnExactHaloOfWrong : ChangeSpec := { name := "fnExactHaloOf", fn := fun _ => fun
  | [d1, d2, d3] => { results := [.lit (.bool false)], args := [d1, d2, d3] }
  | _ => none }
def FnExactHaloOfWrongFalsely : Prop := fnExactHaloOfRow.holds Try.pinned (OpenSpec.ofChange fnExactHaloOfWrong)

/-- 'laws.FnExactRowsOf': WHATEVER THE INPUT: true; the input reads as it did. -/
def fnExactRowsOfSpec : ChangeSpec := { name := "fnExactRowsOf", fn := fun _ => fun
  | [d1, d2] => { results := [.lit (.bool true)], args := [d1, d2] }
  | _ => none }
def fnExactRowsOfRow : OpenClaim := { program := "ytmbohiebjgafoaa", sum := "880fc1db77b665b9bba391f498154d512a937db08d59635000b0ad96dfd12d6b", func := "loop.example/g01223/laws.FnExactRowsOf", spec := "fnExactRowsOf", unfollowed := true, recurses := true, apart := false }
def FnExactRowsOfSaid : Prop := fnExactRowsOfRow.holds Try.pinned (OpenSpec.ofChange fnExactRowsOfSpec)

/-- ITS FALSE NEIGHBOUR: 'it returns false'. Refute it at one input. -/
def fnExactRowsOfWrong : ChangeSpec := { name := "fnExactRowsOf", fn := fun _ => fun
  | [d1, d2] => { results := [.lit (.bool false)], args := [d1, d2] }
  | _ => none }
def FnExactRowsOfWrongFalsely : Prop := fnExactRowsOfRow.holds Try.pinned (OpenSpec.ofChange fnExactRowsOfWrong)

/-- 'laws.FnExactGreyBytes': WHATEVER THE INPUT: true; the input reads as it did. -/
def fnExactGreyBytesSpec : ChangeSpec := { name := "fnExactGreyBytes", fn := fun _ => fun
  | [d] => { results := [.lit (.bool true)], args := [d] }
  | _ => none }
def fnExactGreyBytesRow : OpenClaim := { program := "ytmbohiebjgafoaa", sum := "880fc1db77b665b9bba391f498154d512a937db08d59635000b0ad96dfd12d6b", func := "loop.example/g01223/laws.FnExactGreyBytes", spec := "fnExactGreyBytes", inPlace := ["math.archFloor", "math.Float64bits", "math.Float64frombits", "math.archTrunc"], apart := false }
def FnExactGreyBytesSaid : Prop := fnExactGreyBytesRow.holds Try.pinned (OpenSpec.ofChange fnExactGreyBytesSpec)

/-- ITS FALSE NEIGHBOUR: 'it returns false'. Refute it at one input. -/
def fnExactGreyBytesWrong : ChangeSpec := { name := "fnExactGreyBytes", fn := fun _ => fun
  | [d] => { results := [.lit (.bool false)], args := [d] }
  | _ => none }
def FnExactGreyBytesWrongFalsely : Prop := fnExactGreyBytesRow.holds Try.pinned (OpenSpec.ofChange fnExactGreyBytesWrong)

/-- 'laws.FnExactGreyPicture': WHATEVER THE INPUT: true; the input reads as it did. -/
def fnExactGreyPictureSpec : ChangeSpec := { name := "fnExactGreyPicture", fn := fun _ => fun
  | [d1, d2, d3] => { results := [.lit (.bool true)], args := [d1, d2, d3] }
  | _ => none }
def fnExactGreyPictureRow : OpenClaim := { program := "ytmbohiebjgafoaa", sum := "880fc1db77b665b9bba391f498154d512a937db08d59635000b0ad96dfd12d6b", func := "loop.example/g01223/laws.FnExactGreyPicture", spec := "fnExactGreyPicture", unfollowed := true, recurses := true, apart := false }
def FnExactGreyPictureSaid : Prop := fnExactGreyPictureRow.holds Try.pinned (OpenSpec.ofChange fnExactGreyPictureSpec)

/-- ITS FALSE NEIGHBOUR: 'it returns false'. Refute it at one input. -/
def fnExactGreyPictureWrong : ChangeSpec := { name := "fnExactGreyPicture", fn := fun _ => fun
  | [d1, d2, d3] => { results := [.lit (.bool false)], args := [d1, d2, d3] }
  | _ => none }
def FnExactGreyPictureWrongFalsely : Prop := fnExactGreyPictureRow.holds Try.pinned (OpenSpec.ofChange fnExactGreyPictureWrong)

/-- 'laws.FnExactPackMap': WHATEVER THE INPUT: true; the input reads as it did. -/
def fnExactPackMapSpec : ChangeSpec := { name := "fnExactPackMap", fn := fun _ => fun
  | [d] => { results := [.lit (.bool true)], args := [d] }
  | _ => none }
def fnExactPackMapRow : OpenClaim := { program := "ytmbohiebjgafoaa", sum := "880fc1db77b665b9bba391f498154d512a937db08d59635000b0ad96dfd12d6b", func := "loop.example/g01223/laws.FnExactPackMap", spec := "fnExactPackMap", inPlace := ["math.archFloor", "math.Float64bits", "math.Float64frombits", "math.archTrunc"], unfollowed := true, recurses := true, apart := false }
def FnExactPackMapSaid : Prop := fnExactPackMapRow.holds Try.pinned (OpenSpec.ofChange fnExactPackMapSpec)

/-- ITS FALSE NEIGHBOUR: 'it returns false'. Refute it at one input. -/
def fnExactPackMapWrong : ChangeSpec := { name := "fnExactPackMap", fn := fun _ => fun
  | [d] => { results := [.lit (.bool false)], args := [d] }
  | _ => none }
def FnExactPackMapWrongFalsely : Prop := fnExactPackMapRow.holds Try.pinned (OpenSpec.ofChange fnExactPackMapWrong)

/-- 'laws.FnExactUnpackMap': WHATEVER THE INPUT: true; the input reads as it did. -/
def fnExactUnpackMapSpec : ChangeSpec := { name := "fnExactUnpackMap", fn := fun _ => fun
  | [d1, d2, d3] => { results := [.lit (.bool true)], args := [d1, d2, d3] }
  | _ => none }
def fnExactUnpackMapRow : OpenClaim := { program := "ytmbohiebjgafoaa", sum := "880fc1db77b665b9bba391f498154d512a937db08d59635000b0ad96dfd12d6b", func := "loop.example/g01223/laws.FnExactUnpackMap", spec := "fnExactUnpackMap", unfollowed := true, recurses := true, apart := false }
def FnExactUnpackMapSaid : Prop := fnExactUnpackMapRow.holds Try.pinned (OpenSpec.ofChange fnExactUnpackMapSpec)

/-- ITS FALSE NEIGHBOUR: 'it returns false'. Refute it at one input. -/
def fnExactUnpackMapWrong : ChangeSpec := { name := "fnExactUnpackMap", fn := fun _ => fun
  | [d1, d2, d3] => { results := [.lit (.bool false)], args := [d1, d2, d3] }
  | _ => none }
def FnExactUnpackMapWrongFalsely : Prop := fnExactUnpackMapRow.holds Try.pinned (OpenSpec.ofChange fnExactUnpackMapWrong)

/-- 'laws.FnExactStorePicture': WHATEVER THE INPUT: true; the input reads as it did. -/
def fnExactStorePictureSpec : ChangeSpec := { name := "fnExactStorePicture", fn := fun _ => fun
  | [d] => { results := [.lit (.bool true)], args := [d] }
  | _ => none }
def fnExactStorePictureRow : OpenClaim := { program := "ytmbohiebjgafoaa", sum := "880fc1db77b665b9bba391f498154d512a937db08d59635000b0ad96dfd12d6b", func := "loop.example/g01223/laws.FnExactStorePicture", spec := "fnExactStorePicture", inPlace := ["math.Float32bits"], apart := false }
def FnExactStorePictureSaid : Prop := fnExactStorePictureRow.holds Try.pinned (OpenSpec.ofChange fnExactStorePictureSpec)

/-- ITS FALSE NEIGHBOUR: 'it returns false'. Refute it at one input. -/
def fnExactStorePictureWrong : ChangeSpec := { name := "fnExactStorePicture", fn := fun _ => fun
  | [d] => { results := [.lit (.bool false)], args := [d] }
  | _ => none }
def FnExactStorePictureWrongFalsely : Prop := fnExactStorePictureRow.holds Try.pinned (OpenSpec.ofChange fnExactStorePictureWrong)

/-- 'laws.FnExactLoadPicture': WHATEVER THE INPUT: true; the input reads as it did. -/
def fnExactLoadPictureSpec : ChangeSpec := { name := "fnExactLoadPicture", fn := fun _ => fun
  | [d] => { results := [.lit (.bool true)], args := [d] }
  | _ => none }
def fnExactLoadPictureRow : OpenClaim := { program := "ytmbohiebjgafoaa", sum := "880fc1db77b665b9bba391f498154d512a937db08d59635000b0ad96dfd12d6b", func := "loop.example/g01223/laws.FnExactLoadPicture", spec := "fnExactLoadPicture", inPlace := ["math.Float32frombits", "math.Float32bits"], unfollowed := true, recurses := true, apart := false }
def FnExactLoadPictureSaid : Prop := fnExactLoadPictureRow.holds Try.pinned (OpenSpec.ofChange fnExactLoadPictureSpec)

/-- ITS FALSE NEIGHBOUR: 'it returns false'. Refute it at one input. -/
def fnExactLoadPictureWrong : ChangeSpec := { name := "fnExactLoadPicture", fn := fun _ => fun
  | [d] => { results := [.lit (.bool false)], args := [d] }
  | _ => none }
def FnExactLoadPictureWrongFalsely : Prop := fnExactLoadPictureRow.holds Try.pinned (OpenSpec.ofChange fnExactLoadPictureWrong)

/-- 'laws.FnExactValidAlbum': WHATEVER THE INPUT: true; the input reads as it did. -/
def fnExactValidAlbumSpec : ChangeSpec := { name := "fnExactValidAlbum", fn := fun _ => fun
  | [d] => { results := [.lit (.bool true)], args := [d] }
  | _ => none }
def fnExactValidAlbumRow : OpenClaim := { program := "ytmbohiebjgafoaa", sum := "880fc1db77b665b9bba391f498154d512a937db08d59635000b0ad96dfd12d6b", func := "loop.example/g01223/laws.FnExactValidAlbum", spec := "fnExactValidAlbum", unfollowed := true, recurses := true, apart := false }
def FnExactValidAlbumSaid : Prop := fnExactValidAlbumRow.holds Try.pinned (OpenSpec.ofChange fnExactValidAlbumSpec)

/-- ITS FALSE NEIGHBOUR: 'it returns false'. Refute it at one input. -/
def fnExactValidAlbumWrong : ChangeSpec := { name := "fnExactValidAlbum", fn := fun _ => fun
  | [d] => { results := [.lit (.bool false)], args := [d] }
  | _ => none }
def FnExactValidAlbumWrongFalsely : Prop := fnExactValidAlbumRow.holds Try.pinned (OpenSpec.ofChange fnExactValidAlbumWrong)

/- THE SECOND FORM. 'bulk': how many values and letters a reading holds, each counted each time it is reached (what is shared counts as often as it is met; a slice's spare places count too). A statement '..UptoSaid' is the law's where the arguments, and the package variables that the reading takes, are together of bulk at most 1048576: NARROWER than '..Said'. Prove '..Said' where nothing that the law and all that it calls make is longer than what came in: it says more and counts as full. Else prove '..UptoSaid'. A law counts once. -/
mutual
def uptoBulk {H : Type} : DataW H → Nat
  | .lit (.string bytes) => bytes.length + 1
  | .lit _ => 1
  | .nil => 1
  | .ptr d => uptoBulk d + 1
  | .slice elems spare => uptoBulkAll elems + uptoBulkAll spare + 1
  | .agg parts => uptoBulkAll parts + 1
  | .iface _ d => uptoBulk d + 1
  | .map entries => uptoBulkEntries entries + 1
  | .held _ => 1
def uptoBulkAll {H : Type} : List (DataW H) → Nat
  | [] => 0
  | d :: r => uptoBulk d + uptoBulkAll r
def uptoBulkEntries {H : Type} : List (Lit × DataW H) → Nat
  | [] => 0
  | x :: r => uptoBulkEntry x + uptoBulkEntries r
def uptoBulkEntry {H : Type} : Lit × DataW H → Nat
  | (.string bytes, d) => bytes.length + uptoBulk d + 1
  | (_, d) => uptoBulk d + 1
 end
def uptoSmall : (H : Type) → List (DataW H) → Bool := fun _ ds => decide (uptoBulkAll ds ≤ 1048576)
def OpenSpec.upto (s : _root_.Go.ChangeSpec) : _root_.Go.OpenSpec := { _root_.Go.OpenSpec.ofChange s with cond := some uptoSmall }

/-- 'laws.FnExactValidJob', WHERE WHAT IT READS IS OF BULK AT MOST 1048576: true; the input reads as it did. -/
def fnExactValidJobUptoRow : OpenClaim := { program := "ytmbohiebjgafoaa", sum := "880fc1db77b665b9bba391f498154d512a937db08d59635000b0ad96dfd12d6b", func := "loop.example/g01223/laws.FnExactValidJob", spec := "fnExactValidJob", inPlace := ["math.Float64bits", "math.Float64frombits"], apart := false, narrowed := true }
def FnExactValidJobUptoSaid : Prop := fnExactValidJobUptoRow.holds Try.pinned (OpenSpec.upto fnExactValidJobSpec)

/-- 'laws.FnExactTilesOf', WHERE WHAT IT READS IS OF BULK AT MOST 1048576: true; the input reads as it did. -/
def fnExactTilesOfUptoRow : OpenClaim := { program := "ytmbohiebjgafoaa", sum := "880fc1db77b665b9bba391f498154d512a937db08d59635000b0ad96dfd12d6b", func := "loop.example/g01223/laws.FnExactTilesOf", spec := "fnExactTilesOf", apart := false, narrowed := true }
def FnExactTilesOfUptoSaid : Prop := fnExactTilesOfUptoRow.holds Try.pinned (OpenSpec.upto fnExactTilesOfSpec)

/-- 'laws.FnExactIsTile', WHERE WHAT IT READS IS OF BULK AT MOST 1048576: true; the input reads as it did. -/
def fnExactIsTileUptoRow : OpenClaim := { program := "ytmbohiebjgafoaa", sum := "880fc1db77b665b9bba391f498154d512a937db08d59635000b0ad96dfd12d6b", func := "loop.example/g01223/laws.FnExactIsTile", spec := "fnExactIsTile", apart := false, narrowed := true }
def FnExactIsTileUptoSaid : Prop := fnExactIsTileUptoRow.holds Try.pinned (OpenSpec.upto fnExactIsTileSpec)

/-- 'laws.FnExactHaloOf', WHERE WHAT IT READS IS OF BULK AT MOST 1048576: true; the input reads as it did. -/
def fnExactHaloOfUptoRow : OpenClaim := { program := "ytmbohiebjgafoaa", sum := "880fc1db77b665b9bba391f498154d512a937db08d59635000b0ad96dfd12d6b", func := "loop.example/g01223/laws.FnExactHaloOf", spec := "fnExactHaloOf", apart := false, narrowed := true }
def FnExactHaloOfUptoSaid : Prop := fnExactHaloOfUptoRow.holds Try.pinned (OpenSpec.upto fnExactHaloOfSpec)

/-- 'laws.FnExactRowsOf', WHERE WHAT IT READS IS OF BULK AT MOST 1048576: true; the input reads as it did. -/
def fnExactRowsOfUptoRow : OpenClaim := { program := "ytmbohiebjgafoaa", sum := "880fc1db77b665b9bba391f498154d512a937db08d59635000b0ad96dfd12d6b", func := "loop.example/g01223/laws.FnExactRowsOf", spec := "fnExactRowsOf", unfollowed := true, recurses := true, apart := false, narrowed := true }
def FnExactRowsOfUptoSaid : Prop := fnExactRowsOfUptoRow.holds Try.pinned (OpenSpec.upto fnExactRowsOfSpec)

/-- 'laws.FnExactGreyBytes', WHERE WHAT IT READS IS OF BULK AT MOST 1048576: true; the input reads as it did. -/
def fnExactGreyBytesUptoRow : OpenClaim := { program := "ytmbohiebjgafoaa", sum := "880fc1db77b665b9bba391f498154d512a937db08d59635000b0ad96dfd12d6b", func := "loop.example/g01223/laws.FnExactGreyBytes", spec := "fnExactGreyBytes", inPlace := ["math.archFloor", "math.Float64bits", "math.Float64frombits", "math.archTrunc"], apart := false, narrowed := true }
def FnExactGreyBytesUptoSaid : Prop := fnExactGreyBytesUptoRow.holds Try.pinned (OpenSpec.upto fnExactGreyBytesSpec)

/-- 'laws.FnExactGreyPicture', WHERE WHAT IT READS IS OF BULK AT MOST 1048576: true; the input reads as it did. -/
def fnExactGreyPictureUptoRow : OpenClaim := { program := "ytmbohiebjgafoaa", sum := "880fc1db77b665b9bba391f498154d512a937db08d59635000b0ad96dfd12d6b", func := "loop.example/g01223/laws.FnExactGreyPicture", spec := "fnExactGreyPicture", unfollowed := true, recurses := true, apart := false, narrowed := true }
def FnExactGreyPictureUptoSaid : Prop := fnExactGreyPictureUptoRow.holds Try.pinned (OpenSpec.upto fnExactGreyPictureSpec)

/-- 'laws.FnExactPackMap', WHERE WHAT IT READS IS OF BULK AT MOST 1048576: true; the input reads as it did. -/
def fnExactPackMapUptoRow : OpenClaim := { program := "ytmbohiebjgafoaa", sum := "880fc1db77b665b9bba391f498154d512a937db08d59635000b0ad96dfd12d6b", func := "loop.example/g01223/laws.FnExactPackMap", spec := "fnExactPackMap", inPlace := ["math.archFloor", "math.Float64bits", "math.Float64frombits", "math.archTrunc"], unfollowed := true, recurses := true, apart := false, narrowed := true }
def FnExactPackMapUptoSaid : Prop := fnExactPackMapUptoRow.holds Try.pinned (OpenSpec.upto fnExactPackMapSpec)

/-- 'laws.FnExactUnpackMap', WHERE WHAT IT READS IS OF BULK AT MOST 1048576: true; the input reads as it did. -/
def fnExactUnpackMapUptoRow : OpenClaim := { program := "ytmbohiebjgafoaa", sum := "880fc1db77b665b9bba391f498154d512a937db08d59635000b0ad96dfd12d6b", func := "loop.example/g01223/laws.FnExactUnpackMap", spec := "fnExactUnpackMap", unfollowed := true, recurses := true, apart := false, narrowed := true }
def FnExactUnpackMapUptoSaid : Prop := fnExactUnpackMapUptoRow.holds Try.pinned (OpenSpec.upto fnExactUnpackMapSpec)

/-- 'laws.FnExactStorePicture', WHERE WHAT IT READS IS OF BULK AT MOST 1048576: true; the input reads as it did. -/
def fnExactStorePictureUptoRow : OpenClaim := { program := "ytmbohiebjgafoaa", sum := "880fc1db77b665b9bba391f498154d512a937db08d59635000b0ad96dfd12d6b", func := "loop.example/g01223/laws.FnExactStorePicture", spec := "fnExactStorePicture", inPlace := ["math.Float32bits"], apart := false, narrowed := true }
def FnExactStorePictureUptoSaid : Prop := fnExactStorePictureUptoRow.holds Try.pinned (OpenSpec.upto fnExactStorePictureSpec)

/-- 'laws.FnExactLoadPicture', WHERE WHAT IT READS IS OF BULK AT MOST 1048576: true; the input reads as it did. -/
def fnExactLoadPictureUptoRow : OpenClaim := { program := "ytmbohiebjgafoaa", sum := "880fc1db77b665b9bba391f498154d512a937db08d59635000b0ad96dfd12d6b", func := "loop.example/g01223/laws.FnExactLoadPicture", spec := "fnExactLoadPicture", inPlace := ["math.Float32frombits", "math.Float32bits"], unfollowed := true, recurses := true, apart := false, narrowed := true }
def FnExactLoadPictureUptoSaid : Prop := fnExactLoadPictureUptoRow.holds Try.pinned (OpenSpec.upto fnExactLoadPictureSpec)

/-- 'laws.FnExactValidAlbum', WHERE WHAT IT READS IS OF BULK AT MOST 1048576: true; the input reads as it did. -/
def fnExactValidAlbumUptoRow : OpenClaim := { program := "ytmbohiebjgafoaa", sum := "880fc1db77b665b9bba391f498154d512a937db08d59635000b0ad96dfd12d6b", func := "loop.example/g01223/laws.FnExactValidAlbum", spec := "fnExactValidAlbum", unfollowed := true, recurses := true, apart := false, narrowed := true }
def FnExactValidAlbumUptoSaid : Prop := fnExactValidAlbumUptoRow.holds Try.pinned (OpenSpec.upto fnExactValidAlbumSpec)

end Rows
end Go.Proofs.Ytmbohiebjgafoaa
