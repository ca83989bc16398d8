/-
  No cell of these rows narrows 'for every input' (looked for: loops, veiled, ifaces, maps, wideKeys, modest, calm, conditions, laid).
  DERIVED. THE GIVEN ROWS OF THIS SEAT. 9 by the template 'for every input the law returns true; each argument reads behind the call as it read before'; 0 by the template 'total and deterministic' (their statements: YthchdjfieofeaaaTotals.lean).
  GIVEN WITH THE SEED: the statements are not yours to turn. If you find one false, say at which input.
  Laid BY PROGRAM, IN A SANDBOX (cutbox-rows.mjs): the forced cells as the released guide's own fill.sh prints them over the translation d4755255b1f609e8… (all of the seat's roots in one cut). By AI agents, Wed Nov 11 2026. No macro, syntax, notation, axiom, sorry.
-/
import Derived.Test.YthchdjfieofeaaaChecked
import GoSem.Claim
import GoSem.ClaimJoined
import GoSem.ClaimMapViews
import Derived.JoinedTies
import Derived.KernelRfl
namespace Go.Proofs.Ythchdjfieofeaaa
/- THE CELL 'sum', in the pinned program and in every row, IS THE sha256 OF THE DUMP (.gsa) THAT YthchdjfieofeaaaProg.lean LOADS. Nothing in Lean hashes anything: it is a label: what it is worth is what the hold of that sum in a sandbox is worth. -/
noncomputable def Try.pinned : Pinned := { name := "ythchdjfieofeaaa", sum := "d4755255b1f609e841c1d8b475dfeb24168c839e804d7b4b2fa7a1133d5d8104", checked := Try.checked }
namespace Rows
def none {H : Type} : Left H := { results := [], args := [] }

/-- 'laws.FnExactRangeOf': WHATEVER THE INPUT: true; the input reads as it did. -/
def fnExactRangeOfSpec : ChangeSpec := { name := "fnExactRangeOf", fn := fun _ => fun
  | [d] => { results := [.lit (.bool true)], args := [d] }
  | _ => none }
def fnExactRangeOfRow : OpenClaim := { program := "ythchdjfieofeaaa", sum := "d4755255b1f609e841c1d8b475dfeb24168c839e804d7b4b2fa7a1133d5d8104", func := "loop.example/g01223/laws.FnExactRangeOf", spec := "fnExactRangeOf", apart := false }
def FnExactRangeOfSaid : Prop := fnExactRangeOfRow.holds Try.pinned (OpenSpec.ofChange fnExactRangeOfSpec)

/-- ITS FALSE NEIGHBOUR: 'it returns false'. Refute it at one input. -/
def fnExactRangeOfWrong : ChangeSpec := { name := "fnExactRangeOf", fn := fun _ => fun
  | [d] => { results := [.lit (.bool false)], args := [d] }
  | _ => none }
def FnExactRangeOfWrongFalsely : Prop := fnExactRangeOfRow.holds Try.pinned (OpenSpec.ofChange fnExactRangeOfWrong)

/-- 'laws.FnExactNormPicture': WHATEVER THE INPUT: true; the input reads as it did. -/
def fnExactNormPictureSpec : ChangeSpec := { name := "fnExactNormPicture", fn := fun _ => fun
  | [d] => { results := [.lit (.bool true)], args := [d] }
  | _ => none }
def fnExactNormPictureRow : OpenClaim := { program := "ythchdjfieofeaaa", sum := "d4755255b1f609e841c1d8b475dfeb24168c839e804d7b4b2fa7a1133d5d8104", func := "loop.example/g01223/laws.FnExactNormPicture", spec := "fnExactNormPicture", unfollowed := true, recurses := true, apart := false }
def FnExactNormPictureSaid : Prop := fnExactNormPictureRow.holds Try.pinned (OpenSpec.ofChange fnExactNormPictureSpec)

/-- ITS FALSE NEIGHBOUR: 'it returns false'. Refute it at one input. -/
def fnExactNormPictureWrong : ChangeSpec := { name := "fnExactNormPicture", fn := fun _ => fun
  | [d] => { results := [.lit (.bool false)], args := [d] }
  | _ => none }
def FnExactNormPictureWrongFalsely : Prop := fnExactNormPictureRow.holds Try.pinned (OpenSpec.ofChange fnExactNormPictureWrong)

/-- 'laws.FnExactWarpPicture': WHATEVER THE INPUT: true; the input reads as it did. -/
def fnExactWarpPictureSpec : ChangeSpec := { name := "fnExactWarpPicture", fn := fun _ => fun
  | [d1, d2] => { results := [.lit (.bool true)], args := [d1, d2] }
  | _ => none }
def fnExactWarpPictureRow : OpenClaim := { program := "ythchdjfieofeaaa", sum := "d4755255b1f609e841c1d8b475dfeb24168c839e804d7b4b2fa7a1133d5d8104", func := "loop.example/g01223/laws.FnExactWarpPicture", spec := "fnExactWarpPicture", inPlace := ["math.RoundToEven", "math.Float64bits", "math.Float64frombits"], unfollowed := true, recurses := true, apart := false }
def FnExactWarpPictureSaid : Prop := fnExactWarpPictureRow.holds Try.pinned (OpenSpec.ofChange fnExactWarpPictureSpec)

/-- ITS FALSE NEIGHBOUR: 'it returns false'. Refute it at one input. -/
def fnExactWarpPictureWrong : ChangeSpec := { name := "fnExactWarpPicture", fn := fun _ => fun
  | [d1, d2] => { results := [.lit (.bool false)], args := [d1, d2] }
  | _ => none }
def FnExactWarpPictureWrongFalsely : Prop := fnExactWarpPictureRow.holds Try.pinned (OpenSpec.ofChange fnExactWarpPictureWrong)

/-- 'laws.FnExactCostOfMap': WHATEVER THE INPUT: true; the input reads as it did. -/
def fnExactCostOfMapSpec : ChangeSpec := { name := "fnExactCostOfMap", fn := fun _ => fun
  | [d1, d2] => { results := [.lit (.bool true)], args := [d1, d2] }
  | _ => none }
def fnExactCostOfMapRow : OpenClaim := { program := "ythchdjfieofeaaa", sum := "d4755255b1f609e841c1d8b475dfeb24168c839e804d7b4b2fa7a1133d5d8104", func := "loop.example/g01223/laws.FnExactCostOfMap", spec := "fnExactCostOfMap", inPlace := ["math.RoundToEven", "math.Float64bits", "math.Float64frombits"], apart := false }
def FnExactCostOfMapSaid : Prop := fnExactCostOfMapRow.holds Try.pinned (OpenSpec.ofChange fnExactCostOfMapSpec)

/-- ITS FALSE NEIGHBOUR: 'it returns false'. Refute it at one input. -/
def fnExactCostOfMapWrong : ChangeSpec := { name := "fnExactCostOfMap", fn := fun _ => fun
  | [d1, d2] => { results := [.lit (.bool false)], args := [d1, d2] }
  | _ => none }
def FnExactCostOfMapWrongFalsely : Prop := fnExactCostOfMapRow.holds Try.pinned (OpenSpec.ofChange fnExactCostOfMapWrong)

/-- 'laws.FnExactErrorOf': WHATEVER THE INPUT: true; the input reads as it did. -/
def fnExactErrorOfSpec : ChangeSpec := { name := "fnExactErrorOf", fn := fun _ => fun
  | [d1, d2, d3] => { results := [.lit (.bool true)], args := [d1, d2, d3] }
  | _ => none }
def fnExactErrorOfRow : OpenClaim := { program := "ythchdjfieofeaaa", sum := "d4755255b1f609e841c1d8b475dfeb24168c839e804d7b4b2fa7a1133d5d8104", func := "loop.example/g01223/laws.FnExactErrorOf", spec := "fnExactErrorOf", inPlace := ["math.RoundToEven", "math.Float64bits", "math.Float64frombits"], unfollowed := true, recurses := true, apart := false }
def FnExactErrorOfSaid : Prop := fnExactErrorOfRow.holds Try.pinned (OpenSpec.ofChange fnExactErrorOfSpec)

/-- ITS FALSE NEIGHBOUR: 'it returns false'. Refute it at one input. -/
def fnExactErrorOfWrong : ChangeSpec := { name := "fnExactErrorOf", fn := fun _ => fun
  | [d1, d2, d3] => { results := [.lit (.bool false)], args := [d1, d2, d3] }
  | _ => none }
def FnExactErrorOfWrongFalsely : Prop := fnExactErrorOfRow.holds Try.pinned (OpenSpec.ofChange fnExactErrorOfWrong)

/-- 'laws.FnExactWrongShare': WHATEVER THE INPUT: true; the input reads as it did. -/
def fnExactWrongShareSpec : ChangeSpec := { name := "fnExactWrongShare", fn := fun _ => fun
  | [d1, d2, d3] => { results := [.lit (.bool true)], args := [d1, d2, d3] }
  | _ => none }
def fnExactWrongShareRow : OpenClaim := { program := "ythchdjfieofeaaa", sum := "d4755255b1f609e841c1d8b475dfeb24168c839e804d7b4b2fa7a1133d5d8104", func := "loop.example/g01223/laws.FnExactWrongShare", spec := "fnExactWrongShare", inPlace := ["math.Float64bits", "math.Float64frombits"], apart := false }
def FnExactWrongShareSaid : Prop := fnExactWrongShareRow.holds Try.pinned (OpenSpec.ofChange fnExactWrongShareSpec)

/-- ITS FALSE NEIGHBOUR: 'it returns false'. Refute it at one input. -/
def fnExactWrongShareWrong : ChangeSpec := { name := "fnExactWrongShare", fn := fun _ => fun
  | [d1, d2, d3] => { results := [.lit (.bool false)], args := [d1, d2, d3] }
  | _ => none }
def FnExactWrongShareWrongFalsely : Prop := fnExactWrongShareRow.holds Try.pinned (OpenSpec.ofChange fnExactWrongShareWrong)

/-- 'laws.FnExactBoxPicture': WHATEVER THE INPUT: true; the input reads as it did. -/
def fnExactBoxPictureSpec : ChangeSpec := { name := "fnExactBoxPicture", fn := fun _ => fun
  | [d1, d2] => { results := [.lit (.bool true)], args := [d1, d2] }
  | _ => none }
def fnExactBoxPictureRow : OpenClaim := { program := "ythchdjfieofeaaa", sum := "d4755255b1f609e841c1d8b475dfeb24168c839e804d7b4b2fa7a1133d5d8104", func := "loop.example/g01223/laws.FnExactBoxPicture", spec := "fnExactBoxPicture", unfollowed := true, recurses := true, apart := false }
def FnExactBoxPictureSaid : Prop := fnExactBoxPictureRow.holds Try.pinned (OpenSpec.ofChange fnExactBoxPictureSpec)

/-- ITS FALSE NEIGHBOUR: 'it returns false'. Refute it at one input. -/
def fnExactBoxPictureWrong : ChangeSpec := { name := "fnExactBoxPicture", fn := fun _ => fun
  | [d1, d2] => { results := [.lit (.bool false)], args := [d1, d2] }
  | _ => none }
def FnExactBoxPictureWrongFalsely : Prop := fnExactBoxPictureRow.holds Try.pinned (OpenSpec.ofChange fnExactBoxPictureWrong)

/-- 'laws.FnExactBlurPicture': WHATEVER THE INPUT: true; the input reads as it did. -/
def fnExactBlurPictureSpec : ChangeSpec := { name := "fnExactBlurPicture", fn := fun _ => fun
  | [d1, d2] => { results := [.lit (.bool true)], args := [d1, d2] }
  | _ => none }
def fnExactBlurPictureRow : OpenClaim := { program := "ythchdjfieofeaaa", sum := "d4755255b1f609e841c1d8b475dfeb24168c839e804d7b4b2fa7a1133d5d8104", func := "loop.example/g01223/laws.FnExactBlurPicture", spec := "fnExactBlurPicture", unfollowed := true, recurses := true, apart := false }
def FnExactBlurPictureSaid : Prop := fnExactBlurPictureRow.holds Try.pinned (OpenSpec.ofChange fnExactBlurPictureSpec)

/-- ITS FALSE NEIGHBOUR: 'it returns false'. Refute it at one input. -/
def fnExactBlurPictureWrong : ChangeSpec := { name := "fnExactBlurPicture", fn := fun _ => fun
  | [d1, d2] => { results := [.lit (.bool false)], args := [d1, d2] }
  | _ => none }
def FnExactBlurPictureWrongFalsely : Prop := fnExactBlurPictureRow.holds Try.pinned (OpenSpec.ofChange fnExactBlurPictureWrong)

/-- 'laws.FnExactIsWhole': WHATEVER THE INPUT: true; the input reads as it did. -/
def fnExactIsWholeSpec : ChangeSpec := { name := "fnExactIsWhole", fn := fun _ => fun
  | [d1, d2] => { results := [.lit (.bool true)], args := [d1, d2] }
  | _ => none }
def fnExactIsWholeRow : OpenClaim := { program := "ythchdjfieofeaaa", sum := "d4755255b1f609e841c1d8b475dfeb24168c839e804d7b4b2fa7a1133d5d8104", func := "loop.example/g01223/laws.FnExactIsWhole", spec := "fnExactIsWhole", inPlace := ["math.Float64bits", "math.Float64frombits", "math.RoundToEven"], apart := false }
def FnExactIsWholeSaid : Prop := fnExactIsWholeRow.holds Try.pinned (OpenSpec.ofChange fnExactIsWholeSpec)

/-- ITS FALSE NEIGHBOUR: 'it returns false'. Refute it at one input. -/
def fnExactIsWholeWrong : ChangeSpec := { name := "fnExactIsWhole", fn := fun _ => fun
  | [d1, d2] => { results := [.lit (.bool false)], args := [d1, d2] }
  | _ => none }
def FnExactIsWholeWrongFalsely : Prop := fnExactIsWholeRow.holds Try.pinned (OpenSpec.ofChange fnExactIsWholeWrong)

/- THE SECOND FORM. 'bulk': how many values and letters a reading holds, each counted each time it is reached (what is shared counts as often as it is met; a slice's spare places count too). A statement '..UptoSaid' is the law's where the arguments, and the package variables that the reading takes, are together of bulk at most 1048576: NARROWER than '..Said'. Prove '..Said' where nothing that the law and all that it calls make is longer than what came in: it says more and counts as full. Else prove '..UptoSaid'. A law counts once. -/
mutual
def uptoBulk {H : Type} : DataW H → Nat
  | .lit (.string bytes) => bytes.length + 1
  | .lit _ => 1
  | .nil => 1
  | .ptr d => uptoBulk d + 1
  | .slice elems spare => uptoBulkAll elems + uptoBulkAll spare + 1
  | .agg parts => uptoBulkAll parts + 1
  | .iface _ d => uptoBulk d + 1
  | .map entries => uptoBulkEntries entries + 1
  | .held _ => 1
def uptoBulkAll {H : Type} : List (DataW H) → Nat
  | [] => 0
  | d :: r => uptoBulk d + uptoBulkAll r
def uptoBulkEntries {H : Type} : List (Lit × DataW H) → Nat
  | [] => 0
  | x :: r => uptoBulkEntry x + uptoBulkEntries r
def uptoBulkEntry {H : Type} : Lit × DataW H → Nat
  | (.string bytes, d) => bytes.length + uptoBulk d + 1
  | (_, d) => uptoBulk d + 1
 end
def uptoSmall : (H : Type) → List (DataW H) → Bool := fun _ ds => decide (uptoBulkAll ds ≤ 1048576)
def OpenSpec.upto (s : _root_.Go.ChangeSpec) : _root_.Go.OpenSpec := { _root_.Go.OpenSpec.ofChange s with cond := some uptoSmall }

/-- 'laws.FnExactRangeOf', WHERE WHAT IT READS IS OF BULK AT MOST 1048576: true; the input reads as it did. -/
def fnExactRangeOfUptoRow : OpenClaim := { program := "ythchdjfieofeaaa", sum := "d4755255b1f609e841c1d8b475dfeb24168c839e804d7b4b2fa7a1133d5d8104", func := "loop.example/g01223/laws.FnExactRangeOf", spec := "fnExactRangeOf", apart := false, narrowed := true }
def FnExactRangeOfUptoSaid : Prop := fnExactRangeOfUptoRow.holds Try.pinned (OpenSpec.upto fnExactRangeOfSpec)

/-- 'laws.FnExactNormPicture', WHERE WHAT IT READS IS OF BULK AT MOST 1048576: true; the input reads as it did. -/
def fnExactNormPictureUptoRow : OpenClaim := { program := "ythchdjfieofeaaa", sum := "d4755255b1f609e841c1d8b475dfeb24168c839e804d7b4b2fa7a1133d5d8104", func := "loop.example/g01223/laws.FnExactNormPicture", spec := "fnExactNormPicture", unfollowed := true, recurses := true, apart := false, narrowed := true }
def FnExactNormPictureUptoSaid : Prop := fnExactNormPictureUptoRow.holds Try.pinned (OpenSpec.upto fnExactNormPictureSpec)

/-- 'laws.FnExactWarpPicture', WHERE WHAT IT READS IS OF BULK AT MOST 1048576: true; the input reads as it did. -/
def fnExactWarpPictureUptoRow : OpenClaim := { program := "ythchdjfieofeaaa", sum := "d4755255b1f609e841c1d8b475dfeb24168c839e804d7b4b2fa7a1133d5d8104", func := "loop.example/g01223/laws.FnExactWarpPicture", spec := "fnExactWarpPicture", inPlace := ["math.RoundToEven", "math.Float64bits", "math.Float64frombits"], unfollowed := true, recurses := true, apart := false, narrowed := true }
def FnExactWarpPictureUptoSaid : Prop := fnExactWarpPictureUptoRow.holds Try.pinned (OpenSpec.upto fnExactWarpPictureSpec)

/-- 'laws.FnExactCostOfMap', WHERE WHAT IT READS IS OF BULK AT MOST 1048576: true; the input reads as it did. -/
def fnExactCostOfMapUptoRow : OpenClaim := { program := "ythchdjfieofeaaa", sum := "d4755255b1f609e841c1d8b475dfeb24168c839e804d7b4b2fa7a1133d5d8104", func := "loop.example/g01223/laws.FnExactCostOfMap", spec := "fnExactCostOfMap", inPlace := ["math.RoundToEven", "math.Float64bits", "math.Float64frombits"], apart := false, narrowed := true }
def FnExactCostOfMapUptoSaid : Prop := fnExactCostOfMapUptoRow.holds Try.pinned (OpenSpec.upto fnExactCostOfMapSpec)

/-- 'laws.FnExactErrorOf', WHERE WHAT IT READS IS OF BULK AT MOST 1048576: true; the input reads as it did. -/
def fnExactErrorOfUptoRow : OpenClaim := { program := "ythchdjfieofeaaa", sum := "d4755255b1f609e841c1d8b475dfeb24168c839e804d7b4b2fa7a1133d5d8104", func := "loop.example/g01223/laws.FnExactErrorOf", spec := "fnExactErrorOf", inPlace := ["math.RoundToEven", "math.Float64bits", "math.Float64frombits"], unfollowed := true, recurses := true, apart := false, narrowed := true }
def FnExactErrorOfUptoSaid : Prop := fnExactErrorOfUptoRow.holds Try.pinned (OpenSpec.upto fnExactErrorOfSpec)

/-- 'laws.FnExactWrongShare', WHERE WHAT IT READS IS OF BULK AT MOST 1048576: true; the input reads as it did. -/
def fnExactWrongShareUptoRow : OpenClaim := { program := "ythchdjfieofeaaa", sum := "d4755255b1f609e841c1d8b475dfeb24168c839e804d7b4b2fa7a1133d5d8104", func := "loop.example/g01223/laws.FnExactWrongShare", spec := "fnExactWrongShare", inPlace := ["math.Float64bits", "math.Float64frombits"], apart := false, narrowed := true }
def FnExactWrongShareUptoSaid : Prop := fnExactWrongShareUptoRow.holds Try.pinned (OpenSpec.upto fnExactWrongShareSpec)

/-- 'laws.FnExactBoxPicture', WHERE WHAT IT READS IS OF BULK AT MOST 1048576: true; the input reads as it did. -/
def fnExactBoxPictureUptoRow : OpenClaim := { program := "ythchdjfieofeaaa", sum := "d4755255b1f609e841c1d8b475dfeb24168c839e804d7b4b2fa7a1133d5d8104", func := "loop.example/g01223/laws.FnExactBoxPicture", spec := "fnExactBoxPicture", unfollowed := true, recurses := true, apart := false, narrowed := true }
def FnExactBoxPictureUptoSaid : Prop := fnExactBoxPictureUptoRow.holds Try.pinned (OpenSpec.upto fnExactBoxPictureSpec)

/-- 'laws.FnExactBlurPicture', WHERE WHAT IT READS IS OF BULK AT MOST 1048576: true; the input reads as it did. -/
def fnExactBlurPictureUptoRow : OpenClaim := { program := "ythchdjfieofeaaa", sum := "d4755255b1f609e841c1d8b475dfeb24168c839e804d7b4b2fa7a1133d5d8104", func := "loop.example/g01223/laws.FnExactBlurPicture", spec := "fnExactBlurPicture", unfollowed := true, recurses := true, apart := false, narrowed := true }
def FnExactBlurPictureUptoSaid : Prop := fnExactBlurPictureUptoRow.holds Try.pinned (OpenSpec.upto fnExactBlurPictureSpec)

/-- 'laws.FnExactIsWhole', WHERE WHAT IT READS IS OF BULK AT MOST 1048576: true; the input reads as it did. -/
def fnExactIsWholeUptoRow : OpenClaim := { program := "ythchdjfieofeaaa", sum := "d4755255b1f609e841c1d8b475dfeb24168c839e804d7b4b2fa7a1133d5d8104", func := "loop.example/g01223/laws.FnExactIsWhole", spec := "fnExactIsWhole", inPlace := ["math.Float64bits", "math.Float64frombits", "math.RoundToEven"], apart := false, narrowed := true }
def FnExactIsWholeUptoSaid : Prop := fnExactIsWholeUptoRow.holds Try.pinned (OpenSpec.upto fnExactIsWholeSpec)

end Rows
end Go.Proofs.Ythchdjfieofeaaa
