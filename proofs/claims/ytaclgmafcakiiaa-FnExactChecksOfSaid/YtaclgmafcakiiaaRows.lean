/-
  No cell of these rows narrows 'for every input' (looked for: loops, veiled, ifaces, maps, wideKeys, modest, calm, conditions, laid).
  DERIVED. THE GIVEN ROWS OF THIS SEAT. 3 by the template 'for every input the law returns true; each argument reads behind the call as it read before'; 0 by the template 'total and deterministic' (their statements: YtaclgmafcakiiaaTotals.lean).
  GIVEN WITH THE SEED: the statements are not yours to turn. If you find one false, say at which input.
  Laid BY PROGRAM, IN A SANDBOX (cutbox-rows.mjs): the forced cells as the released guide's own fill.sh prints them over the translation e45244bb10c68e30… (all of the seat's roots in one cut). By AI agents, Wed Nov 11 2026. No macro, syntax, notation, axiom, sorry.
-/
import Derived.Test.YtaclgmafcakiiaaChecked
import GoSem.Claim
import GoSem.ClaimJoined
import GoSem.ClaimMapViews
import Derived.JoinedTies
import Derived.KernelRfl
namespace Go.Proofs.Ytaclgmafcakiiaa
/- THE CELL 'sum', in the pinned program and in every row, IS THE sha256 OF THE DUMP (.gsa) THAT YtaclgmafcakiiaaProg.lean LOADS. Nothing in Lean hashes anything: it is a label: what it is worth is what the hold of that sum in a sandbox is worth. -/
noncomputable def Try.pinned : Pinned := { name := "ytaclgmafcakiiaa", sum := "e45244bb10c68e304455277a4ebb7e4c9a16607fa917fd9304f45f52fbe797ba", checked := Try.checked }
namespace Rows
def none {H : Type} : Left H := { results := [], args := [] }

/-- 'laws.FnExactSharpMap': WHATEVER THE INPUT: true; the input reads as it did. -/
def fnExactSharpMapSpec : ChangeSpec := { name := "fnExactSharpMap", fn := fun _ => fun
  | [d] => { results := [.lit (.bool true)], args := [d] }
  | _ => none }
def fnExactSharpMapRow : OpenClaim := { program := "ytaclgmafcakiiaa", sum := "e45244bb10c68e304455277a4ebb7e4c9a16607fa917fd9304f45f52fbe797ba", func := "loop.example/g01223/laws.FnExactSharpMap", spec := "fnExactSharpMap", unfollowed := true, recurses := true, apart := false }
def FnExactSharpMapSaid : Prop := fnExactSharpMapRow.holds Try.pinned (OpenSpec.ofChange fnExactSharpMapSpec)

/-- ITS FALSE NEIGHBOUR: 'it returns false'. Refute it at one input. -/
def fnExactSharpMapWrong : ChangeSpec := { name := "fnExactSharpMap", fn := fun _ => fun
  | [d] => { results := [.lit (.bool false)], args := [d] }
  | _ => none }
def FnExactSharpMapWrongFalsely : Prop := fnExactSharpMapRow.holds Try.pinned (OpenSpec.ofChange fnExactSharpMapWrong)

/-- 'laws.FnExactTrustOf': WHATEVER THE INPUT: true; the input reads as it did. -/
def fnExactTrustOfSpec : ChangeSpec := { name := "fnExactTrustOf", fn := fun _ => fun
  | [d] => { results := [.lit (.bool true)], args := [d] }
  | _ => none }
def fnExactTrustOfRow : OpenClaim := { program := "ytaclgmafcakiiaa", sum := "e45244bb10c68e304455277a4ebb7e4c9a16607fa917fd9304f45f52fbe797ba", func := "loop.example/g01223/laws.FnExactTrustOf", spec := "fnExactTrustOf", inPlace := ["math.Float64frombits"], unfollowed := true, recurses := true, apart := false }
def FnExactTrustOfSaid : Prop := fnExactTrustOfRow.holds Try.pinned (OpenSpec.ofChange fnExactTrustOfSpec)

/-- ITS FALSE NEIGHBOUR: 'it returns false'. Refute it at one input. -/
def fnExactTrustOfWrong : ChangeSpec := { name := "fnExactTrustOf", fn := fun _ => fun
  | [d] => { results := [.lit (.bool false)], args := [d] }
  | _ => none }
def FnExactTrustOfWrongFalsely : Prop := fnExactTrustOfRow.holds Try.pinned (OpenSpec.ofChange fnExactTrustOfWrong)

/-- 'laws.FnExactChecksOf': WHATEVER THE INPUT: true; the input reads as it did. -/
def fnExactChecksOfSpec : ChangeSpec := { name := "fnExactChecksOf", fn := fun _ => fun
  | [d1, d2] => { results := [.lit (.bool true)], args := [d1, d2] }
  | _ => none }
def fnExactChecksOfRow : OpenClaim := { program := "ytaclgmafcakiiaa", sum := "e45244bb10c68e304455277a4ebb7e4c9a16607fa917fd9304f45f52fbe797ba", func := "loop.example/g01223/laws.FnExactChecksOf", spec := "fnExactChecksOf", inPlace := ["math.RoundToEven", "math.Float64bits", "math.Float64frombits"], unfollowed := true, recurses := true, apart := false }
def FnExactChecksOfSaid : Prop := fnExactChecksOfRow.holds Try.pinned (OpenSpec.ofChange fnExactChecksOfSpec)

/-- ITS FALSE NEIGHBOUR: 'it returns false'. Refute it at one input. -/
def fnExactChecksOfWrong : ChangeSpec := { name := "fnExactChecksOf", fn := fun _ => fun
  | [d1, d2] => { results := [.lit (.bool false)], args := [d1, d2] }
  | _ => none }
def FnExactChecksOfWrongFalsely : Prop := fnExactChecksOfRow.holds Try.pinned (OpenSpec.ofChange fnExactChecksOfWrong)

/- THE SECOND FORM. 'bulk': how many values and letters a reading holds, each counted each time it is reached (what is shared counts as often as it is met; a slice's spare places count too). A statement '..UptoSaid' is the law's where the arguments, and the package variables that the reading takes, are together of bulk at most 1048576: NARROWER than '..Said'. Prove '..Said' where nothing that the law and all that it calls make is longer than what came in: it says more and counts as full. Else prove '..UptoSaid'. A law counts once. -/
mutual
def uptoBulk {H : Type} : DataW H → Nat
  | .lit (.string bytes) => bytes.length + 1
  | .lit _ => 1
  | .nil => 1
  | .ptr d => uptoBulk d + 1
  | .slice elems spare => uptoBulkAll elems + uptoBulkAll spare + 1
  | .agg parts => uptoBulkAll parts + 1
  | .iface _ d => uptoBulk d + 1
  | .map entries => uptoBulkEntries entries + 1
  | .held _ => 1
def uptoBulkAll {H : Type} : List (DataW H) → Nat
  | [] => 0
  | d :: r => uptoBulk d + uptoBulkAll r
def uptoBulkEntries {H : Type} : List (Lit × DataW H) → Nat
  | [] => 0
  | x :: r => uptoBulkEntry x + uptoBulkEntries r
def uptoBulkEntry {H : Type} : Lit × DataW H → Nat
  | (.string bytes, d) => bytes.length + uptoBulk d + 1
  | (_, d) => uptoBulk d + 1
 end
def uptoSmall : (H : Type) → List (DataW H) → Bool := fun _ ds => decide (uptoBulkAll ds ≤ 1048576)
def OpenSpec.upto (s : _root_.Go.ChangeSpec) : _root_.Go.OpenSpec := { _root_.Go.OpenSpec.ofChange s with cond := some uptoSmall }

/-- 'laws.FnExactSharpMap', WHERE WHAT IT READS IS OF BULK AT MOST 1048576: true; the input reads as it did. -/
def fnExactSharpMapUptoRow : OpenClaim := { program := "ytaclgmafcakiiaa", sum := "e45244bb10c68e304455277a4ebb7e4c9a16607fa917fd9304f45f52fbe797ba", func := "loop.example/g01223/laws.FnExactSharpMap", spec := "fnExactSharpMap", unfollowed := true, recurses := true, apart := false, narrowed := true }
def FnExactSharpMapUptoSaid : Prop := fnExactSharpMapUptoRow.holds Try.pinned (OpenSpec.upto fnExactSharpMapSpec)

/-- 'laws.FnExactTrustOf', WHERE WHAT IT READS IS OF BULK AT MOST 1048576: true; the input reads as it did. -/
def fnExactTrustOfUptoRow : OpenClaim := { program := "ytaclgmafcakiiaa", sum := "e45244bb10c68e304455277a4ebb7e4c9a16607fa917fd9304f45f52fbe797ba", func := "loop.example/g01223/laws.FnExactTrustOf", spec := "fnExactTrustOf", inPlace := ["math.Float64frombits"], unfollowed := true, recurses := true, apart := false, narrowed := true }
def FnExactTrustOfUptoSaid : Prop := fnExactTrustOfUptoRow.holds Try.pinned (OpenSpec.upto fnExactTrustOfSpec)

/-- 'laws.FnExactChecksOf', WHERE WHAT IT READS IS OF BULK AT MOST 1048576: true; the input reads as it did. -/
def fnExactChecksOfUptoRow : OpenClaim := { program := "ytaclgmafcakiiaa", sum := "e45244bb10c68e304455277a4ebb7e4c9a16607fa917fd9304f45f52fbe797ba", func := "loop.example/g01223/laws.FnExactChecksOf", spec := "fnExactChecksOf", inPlace := ["math.RoundToEven", "math.Float64bits", "math.Float64frombits"], unfollowed := true, recurses := true, apart := false, narrowed := true }
def FnExactChecksOfUptoSaid : Prop := fnExactChecksOfUptoRow.holds Try.pinned (OpenSpec.upto fnExactChecksOfSpec)

end Rows
end Go.Proofs.Ytaclgmafcakiiaa
