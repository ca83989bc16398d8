/-
  No cell of these rows narrows 'for every input' (looked for: loops, veiled, ifaces, maps, wideKeys, modest, calm, conditions, laid).
  DERIVED. THE GIVEN ROWS OF THIS SEAT. 12 by the template 'for every input the law returns true; each argument reads behind the call as it read before'; 0 by the template 'total and deterministic' (their statements: YthnidpmolafmaaaTotals.lean).
  GIVEN WITH THE SEED: the statements are not yours to turn. If you find one false, say at which input.
  Laid BY PROGRAM, IN A SANDBOX (cutbox-rows.mjs): the forced cells as the released guide's own fill.sh prints them over the translation bc526503f921f9e0… (all of the seat's roots in one cut). By AI agents, Wed Nov 11 2026. No macro, syntax, notation, axiom, sorry.
-/
import Derived.Test.YthnidpmolafmaaaChecked
import GoSem.Claim
import GoSem.ClaimJoined
import GoSem.ClaimMapViews
import Derived.JoinedTies
import Derived.KernelRfl
namespace Go.Proofs.Ythnidpmolafmaaa
/- THE CELL 'sum', in the pinned program and in every row, IS THE sha256 OF THE DUMP (.gsa) THAT YthnidpmolafmaaaProg.lean LOADS. Nothing in Lean hashes anything: it is a label: what it is worth is what the hold of that sum in a sandbox is worth. -/
noncomputable def Try.pinned : Pinned := { name := "ythnidpmolafmaaa", sum := "bc526503f921f9e0e698c0987e13cbbb9b005ab547ed5d0cc3c6253024896a6a", checked := Try.checked }
namespace Rows
def none {H : Type} : Left H := { results := [], args := [] }

/-- 'laws.FnExactMirrorMap': WHATEVER THE INPUT: true; the input reads as it did. -/
def fnExactMirrorMapSpec : ChangeSpec := { name := "fnExactMirrorMap", fn := fun _ => fun
  | [d] => { results := [.lit (.bool true)], args := [d] }
  | _ => none }
def fnExactMirrorMapRow : OpenClaim := { program := "ythnidpmolafmaaa", sum := "bc526503f921f9e0e698c0987e13cbbb9b005ab547ed5d0cc3c6253024896a6a", func := "loop.example/g01223/laws.FnExactMirrorMap", spec := "fnExactMirrorMap", unfollowed := true, recurses := true, apart := false }
def FnExactMirrorMapSaid : Prop := fnExactMirrorMapRow.holds Try.pinned (OpenSpec.ofChange fnExactMirrorMapSpec)

/-- ITS FALSE NEIGHBOUR: 'it returns false'. Refute it at one input. -/
def fnExactMirrorMapWrong : ChangeSpec := { name := "fnExactMirrorMap", fn := fun _ => fun
  | [d] => { results := [.lit (.bool false)], args := [d] }
  | _ => none }
def FnExactMirrorMapWrongFalsely : Prop := fnExactMirrorMapRow.holds Try.pinned (OpenSpec.ofChange fnExactMirrorMapWrong)

/-- 'laws.FnExactLessMaps': WHATEVER THE INPUT: true; the input reads as it did. -/
def fnExactLessMapsSpec : ChangeSpec := { name := "fnExactLessMaps", fn := fun _ => fun
  | [d1, d2] => { results := [.lit (.bool true)], args := [d1, d2] }
  | _ => none }
def fnExactLessMapsRow : OpenClaim := { program := "ythnidpmolafmaaa", sum := "bc526503f921f9e0e698c0987e13cbbb9b005ab547ed5d0cc3c6253024896a6a", func := "loop.example/g01223/laws.FnExactLessMaps", spec := "fnExactLessMaps", unfollowed := true, recurses := true, apart := false }
def FnExactLessMapsSaid : Prop := fnExactLessMapsRow.holds Try.pinned (OpenSpec.ofChange fnExactLessMapsSpec)

/-- ITS FALSE NEIGHBOUR: 'it returns false'. Refute it at one input. -/
def fnExactLessMapsWrong : ChangeSpec := { name := "fnExactLessMaps", fn := fun _ => fun
  | [d1, d2] => { results := [.lit (.bool false)], args := [d1, d2] }
  | _ => none }
def FnExactLessMapsWrongFalsely : Prop := fnExactLessMapsRow.holds Try.pinned (OpenSpec.ofChange fnExactLessMapsWrong)

/-- 'laws.FnExactKeepMap': WHATEVER THE INPUT: true; the input reads as it did. -/
def fnExactKeepMapSpec : ChangeSpec := { name := "fnExactKeepMap", fn := fun _ => fun
  | [d1, d2, d3] => { results := [.lit (.bool true)], args := [d1, d2, d3] }
  | _ => none }
def fnExactKeepMapRow : OpenClaim := { program := "ythnidpmolafmaaa", sum := "bc526503f921f9e0e698c0987e13cbbb9b005ab547ed5d0cc3c6253024896a6a", func := "loop.example/g01223/laws.FnExactKeepMap", spec := "fnExactKeepMap", unfollowed := true, recurses := true, apart := false }
def FnExactKeepMapSaid : Prop := fnExactKeepMapRow.holds Try.pinned (OpenSpec.ofChange fnExactKeepMapSpec)

/-- ITS FALSE NEIGHBOUR: 'it returns false'. Refute it at one input. -/
def fnExactKeepMapWrong : ChangeSpec := { name := "fnExactKeepMap", fn := fun _ => fun
  | [d1, d2, d3] => { results := [.lit (.bool false)], args := [d1, d2, d3] }
  | _ => none }
def FnExactKeepMapWrongFalsely : Prop := fnExactKeepMapRow.holds Try.pinned (OpenSpec.ofChange fnExactKeepMapWrong)

/-- 'laws.FnExactHalveMap': WHATEVER THE INPUT: true; the input reads as it did. -/
def fnExactHalveMapSpec : ChangeSpec := { name := "fnExactHalveMap", fn := fun _ => fun
  | [d] => { results := [.lit (.bool true)], args := [d] }
  | _ => none }
def fnExactHalveMapRow : OpenClaim := { program := "ythnidpmolafmaaa", sum := "bc526503f921f9e0e698c0987e13cbbb9b005ab547ed5d0cc3c6253024896a6a", func := "loop.example/g01223/laws.FnExactHalveMap", spec := "fnExactHalveMap", unfollowed := true, recurses := true, apart := false }
def FnExactHalveMapSaid : Prop := fnExactHalveMapRow.holds Try.pinned (OpenSpec.ofChange fnExactHalveMapSpec)

/-- ITS FALSE NEIGHBOUR: 'it returns false'. Refute it at one input. -/
def fnExactHalveMapWrong : ChangeSpec := { name := "fnExactHalveMap", fn := fun _ => fun
  | [d] => { results := [.lit (.bool false)], args := [d] }
  | _ => none }
def FnExactHalveMapWrongFalsely : Prop := fnExactHalveMapRow.holds Try.pinned (OpenSpec.ofChange fnExactHalveMapWrong)

/-- 'laws.FnExactDoubleMap': WHATEVER THE INPUT: true; the input reads as it did. -/
def fnExactDoubleMapSpec : ChangeSpec := { name := "fnExactDoubleMap", fn := fun _ => fun
  | [d1, d2, d3] => { results := [.lit (.bool true)], args := [d1, d2, d3] }
  | _ => none }
def fnExactDoubleMapRow : OpenClaim := { program := "ythnidpmolafmaaa", sum := "bc526503f921f9e0e698c0987e13cbbb9b005ab547ed5d0cc3c6253024896a6a", func := "loop.example/g01223/laws.FnExactDoubleMap", spec := "fnExactDoubleMap", unfollowed := true, recurses := true, apart := false }
def FnExactDoubleMapSaid : Prop := fnExactDoubleMapRow.holds Try.pinned (OpenSpec.ofChange fnExactDoubleMapSpec)

/-- ITS FALSE NEIGHBOUR: 'it returns false'. Refute it at one input. -/
def fnExactDoubleMapWrong : ChangeSpec := { name := "fnExactDoubleMap", fn := fun _ => fun
  | [d1, d2, d3] => { results := [.lit (.bool false)], args := [d1, d2, d3] }
  | _ => none }
def FnExactDoubleMapWrongFalsely : Prop := fnExactDoubleMapRow.holds Try.pinned (OpenSpec.ofChange fnExactDoubleMapWrong)

/-- 'laws.FnExactRoundMap': WHATEVER THE INPUT: true; the input reads as it did. -/
def fnExactRoundMapSpec : ChangeSpec := { name := "fnExactRoundMap", fn := fun _ => fun
  | [d] => { results := [.lit (.bool true)], args := [d] }
  | _ => none }
def fnExactRoundMapRow : OpenClaim := { program := "ythnidpmolafmaaa", sum := "bc526503f921f9e0e698c0987e13cbbb9b005ab547ed5d0cc3c6253024896a6a", func := "loop.example/g01223/laws.FnExactRoundMap", spec := "fnExactRoundMap", inPlace := ["math.RoundToEven", "math.Float64bits", "math.Float64frombits"], unfollowed := true, recurses := true, apart := false }
def FnExactRoundMapSaid : Prop := fnExactRoundMapRow.holds Try.pinned (OpenSpec.ofChange fnExactRoundMapSpec)

/-- ITS FALSE NEIGHBOUR: 'it returns false'. Refute it at one input. -/
def fnExactRoundMapWrong : ChangeSpec := { name := "fnExactRoundMap", fn := fun _ => fun
  | [d] => { results := [.lit (.bool false)], args := [d] }
  | _ => none }
def FnExactRoundMapWrongFalsely : Prop := fnExactRoundMapRow.holds Try.pinned (OpenSpec.ofChange fnExactRoundMapWrong)

/-- 'laws.FnExactCheckMaps': WHATEVER THE INPUT: true; the input reads as it did. -/
def fnExactCheckMapsSpec : ChangeSpec := { name := "fnExactCheckMaps", fn := fun _ => fun
  | [d1, d2, d3] => { results := [.lit (.bool true)], args := [d1, d2, d3] }
  | _ => none }
def fnExactCheckMapsRow : OpenClaim := { program := "ythnidpmolafmaaa", sum := "bc526503f921f9e0e698c0987e13cbbb9b005ab547ed5d0cc3c6253024896a6a", func := "loop.example/g01223/laws.FnExactCheckMaps", spec := "fnExactCheckMaps", inPlace := ["math.RoundToEven", "math.Float64bits", "math.Float64frombits"], unfollowed := true, recurses := true, apart := false }
def FnExactCheckMapsSaid : Prop := fnExactCheckMapsRow.holds Try.pinned (OpenSpec.ofChange fnExactCheckMapsSpec)

/-- ITS FALSE NEIGHBOUR: 'it returns false'. Refute it at one input. -/
def fnExactCheckMapsWrong : ChangeSpec := { name := "fnExactCheckMaps", fn := fun _ => fun
  | [d1, d2, d3] => { results := [.lit (.bool false)], args := [d1, d2, d3] }
  | _ => none }
def FnExactCheckMapsWrongFalsely : Prop := fnExactCheckMapsRow.holds Try.pinned (OpenSpec.ofChange fnExactCheckMapsWrong)

/-- 'laws.FnExactHolesOf': WHATEVER THE INPUT: true; the input reads as it did. -/
def fnExactHolesOfSpec : ChangeSpec := { name := "fnExactHolesOf", fn := fun _ => fun
  | [d] => { results := [.lit (.bool true)], args := [d] }
  | _ => none }
def fnExactHolesOfRow : OpenClaim := { program := "ythnidpmolafmaaa", sum := "bc526503f921f9e0e698c0987e13cbbb9b005ab547ed5d0cc3c6253024896a6a", func := "loop.example/g01223/laws.FnExactHolesOf", spec := "fnExactHolesOf", unfollowed := true, recurses := true, apart := false }
def FnExactHolesOfSaid : Prop := fnExactHolesOfRow.holds Try.pinned (OpenSpec.ofChange fnExactHolesOfSpec)

/-- ITS FALSE NEIGHBOUR: 'it returns false'. Refute it at one input. -/
def fnExactHolesOfWrong : ChangeSpec := { name := "fnExactHolesOf", fn := fun _ => fun
  | [d] => { results := [.lit (.bool false)], args := [d] }
  | _ => none }
def FnExactHolesOfWrongFalsely : Prop := fnExactHolesOfRow.holds Try.pinned (OpenSpec.ofChange fnExactHolesOfWrong)

/-- 'laws.FnExactRangeOfMap': WHATEVER THE INPUT: true; the input reads as it did. -/
def fnExactRangeOfMapSpec : ChangeSpec := { name := "fnExactRangeOfMap", fn := fun _ => fun
  | [d] => { results := [.lit (.bool true)], args := [d] }
  | _ => none }
def fnExactRangeOfMapRow : OpenClaim := { program := "ythnidpmolafmaaa", sum := "bc526503f921f9e0e698c0987e13cbbb9b005ab547ed5d0cc3c6253024896a6a", func := "loop.example/g01223/laws.FnExactRangeOfMap", spec := "fnExactRangeOfMap", unfollowed := true, recurses := true, apart := false }
def FnExactRangeOfMapSaid : Prop := fnExactRangeOfMapRow.holds Try.pinned (OpenSpec.ofChange fnExactRangeOfMapSpec)

/-- ITS FALSE NEIGHBOUR: 'it returns false'. Refute it at one input. -/
def fnExactRangeOfMapWrong : ChangeSpec := { name := "fnExactRangeOfMap", fn := fun _ => fun
  | [d] => { results := [.lit (.bool false)], args := [d] }
  | _ => none }
def FnExactRangeOfMapWrongFalsely : Prop := fnExactRangeOfMapRow.holds Try.pinned (OpenSpec.ofChange fnExactRangeOfMapWrong)

/-- 'laws.FnExactMeanOfMap': WHATEVER THE INPUT: true; the input reads as it did. -/
def fnExactMeanOfMapSpec : ChangeSpec := { name := "fnExactMeanOfMap", fn := fun _ => fun
  | [d] => { results := [.lit (.bool true)], args := [d] }
  | _ => none }
def fnExactMeanOfMapRow : OpenClaim := { program := "ythnidpmolafmaaa", sum := "bc526503f921f9e0e698c0987e13cbbb9b005ab547ed5d0cc3c6253024896a6a", func := "loop.example/g01223/laws.FnExactMeanOfMap", spec := "fnExactMeanOfMap", unfollowed := true, recurses := true, apart := false }
def FnExactMeanOfMapSaid : Prop := fnExactMeanOfMapRow.holds Try.pinned (OpenSpec.ofChange fnExactMeanOfMapSpec)

/-- ITS FALSE NEIGHBOUR: 'it returns false'. Refute it at one input. -/
def fnExactMeanOfMapWrong : ChangeSpec := { name := "fnExactMeanOfMap", fn := fun _ => fun
  | [d] => { results := [.lit (.bool false)], args := [d] }
  | _ => none }
def FnExactMeanOfMapWrongFalsely : Prop := fnExactMeanOfMapRow.holds Try.pinned (OpenSpec.ofChange fnExactMeanOfMapWrong)

/-- 'laws.FnExactFillRows': WHATEVER THE INPUT: true; the input reads as it did. -/
def fnExactFillRowsSpec : ChangeSpec := { name := "fnExactFillRows", fn := fun _ => fun
  | [d] => { results := [.lit (.bool true)], args := [d] }
  | _ => none }
def fnExactFillRowsRow : OpenClaim := { program := "ythnidpmolafmaaa", sum := "bc526503f921f9e0e698c0987e13cbbb9b005ab547ed5d0cc3c6253024896a6a", func := "loop.example/g01223/laws.FnExactFillRows", spec := "fnExactFillRows", unfollowed := true, recurses := true, apart := false }
def FnExactFillRowsSaid : Prop := fnExactFillRowsRow.holds Try.pinned (OpenSpec.ofChange fnExactFillRowsSpec)

/-- ITS FALSE NEIGHBOUR: 'it returns false'. Refute it at one input. -/
def fnExactFillRowsWrong : ChangeSpec := { name := "fnExactFillRows", fn := fun _ => fun
  | [d] => { results := [.lit (.bool false)], args := [d] }
  | _ => none }
def FnExactFillRowsWrongFalsely : Prop := fnExactFillRowsRow.holds Try.pinned (OpenSpec.ofChange fnExactFillRowsWrong)

/-- 'laws.FnExactUnseenOf': WHATEVER THE INPUT: true; the input reads as it did. -/
def fnExactUnseenOfSpec : ChangeSpec := { name := "fnExactUnseenOf", fn := fun _ => fun
  | [d] => { results := [.lit (.bool true)], args := [d] }
  | _ => none }
def fnExactUnseenOfRow : OpenClaim := { program := "ythnidpmolafmaaa", sum := "bc526503f921f9e0e698c0987e13cbbb9b005ab547ed5d0cc3c6253024896a6a", func := "loop.example/g01223/laws.FnExactUnseenOf", spec := "fnExactUnseenOf", inPlace := ["math.RoundToEven", "math.Float64bits", "math.Float64frombits"], apart := false }
def FnExactUnseenOfSaid : Prop := fnExactUnseenOfRow.holds Try.pinned (OpenSpec.ofChange fnExactUnseenOfSpec)

/-- ITS FALSE NEIGHBOUR: 'it returns false'. Refute it at one input. -/
def fnExactUnseenOfWrong : ChangeSpec := { name := "fnExactUnseenOf", fn := fun _ => fun
  | [d] => { results := [.lit (.bool false)], args := [d] }
  | _ => none }
def FnExactUnseenOfWrongFalsely : Prop := fnExactUnseenOfRow.holds Try.pinned (OpenSpec.ofChange fnExactUnseenOfWrong)

/- THE SECOND FORM. 'bulk': how many values and letters a reading holds, each counted each time it is reached (what is shared counts as often as it is met; a slice's spare places count too). A statement '..UptoSaid' is the law's where the arguments, and the package variables that the reading takes, are together of bulk at most 1048576: NARROWER than '..Said'. Prove '..Said' where nothing that the law and all that it calls make is longer than what came in: it says more and counts as full. Else prove '..UptoSaid'. A law counts once. -/
mutual
def uptoBulk {H : Type} : DataW H → Nat
  | .lit (.string bytes) => bytes.length + 1
  | .lit _ => 1
  | .nil => 1
  | .ptr d => uptoBulk d + 1
  | .slice elems spare => uptoBulkAll elems + uptoBulkAll spare + 1
  | .agg parts => uptoBulkAll parts + 1
  | .iface _ d => uptoBulk d + 1
  | .map entries => uptoBulkEntries entries + 1
  | .held _ => 1
def uptoBulkAll {H : Type} : List (DataW H) → Nat
  | [] => 0
  | d :: r => uptoBulk d + uptoBulkAll r
def uptoBulkEntries {H : Type} : List (Lit × DataW H) → Nat
  | [] => 0
  | x :: r => uptoBulkEntry x + uptoBulkEntries r
def uptoBulkEntry {H : Type} : Lit × DataW H → Nat
  | (.string bytes, d) => bytes.length + uptoBulk d + 1
  | (_, d) => uptoBulk d + 1
 end
def uptoSmall : (H : Type) → List (DataW H) → Bool := fun _ ds => decide (uptoBulkAll ds ≤ 1048576)
def OpenSpec.upto (s : _root_.Go.ChangeSpec) : _root_.Go.OpenSpec := { _root_.Go.OpenSpec.ofChange s with cond := some uptoSmall }

/-- 'laws.FnExactMirrorMap', WHERE WHAT IT READS IS OF BULK AT MOST 1048576: true; the input reads as it did. -/
def fnExactMirrorMapUptoRow : OpenClaim := { program := "ythnidpmolafmaaa", sum := "bc526503f921f9e0e698c0987e13cbbb9b005ab547ed5d0cc3c6253024896a6a", func := "loop.example/g01223/laws.FnExactMirrorMap", spec := "fnExactMirrorMap", unfollowed := true, recurses := true, apart := false, narrowed := true }
def FnExactMirrorMapUptoSaid : Prop := fnExactMirrorMapUptoRow.holds Try.pinned (OpenSpec.upto fnExactMirrorMapSpec)

/-- 'laws.FnExactLessMaps', WHERE WHAT IT READS IS OF BULK AT MOST 1048576: true; the input reads as it did. -/
def fnExactLessMapsUptoRow : OpenClaim := { program := "ythnidpmolafmaaa", sum := "bc526503f921f9e0e698c0987e13cbbb9b005ab547ed5d0cc3c6253024896a6a", func := "loop.example/g01223/laws.FnExactLessMaps", spec := "fnExactLessMaps", unfollowed := true, recurses := true, apart := false, narrowed := true }
def FnExactLessMapsUptoSaid : Prop := fnExactLessMapsUptoRow.holds Try.pinned (OpenSpec.upto fnExactLessMapsSpec)

/-- 'laws.FnExactKeepMap', WHERE WHAT IT READS IS OF BULK AT MOST 1048576: true; the input reads as it did. -/
def fnExactKeepMapUptoRow : OpenClaim := { program := "ythnidpmolafmaaa", sum := "bc526503f921f9e0e698c0987e13cbbb9b005ab547ed5d0cc3c6253024896a6a", func := "loop.example/g01223/laws.FnExactKeepMap", spec := "fnExactKeepMap", unfollowed := true, recurses := true, apart := false, narrowed := true }
def FnExactKeepMapUptoSaid : Prop := fnExactKeepMapUptoRow.holds Try.pinned (OpenSpec.upto fnExactKeepMapSpec)

/-- 'laws.FnExactHalveMap', WHERE WHAT IT READS IS OF BULK AT MOST 1048576: true; the input reads as it did. -/
def fnExactHalveMapUptoRow : OpenClaim := { program := "ythnidpmolafmaaa", sum := "bc526503f921f9e0e698c0987e13cbbb9b005ab547ed5d0cc3c6253024896a6a", func := "loop.example/g01223/laws.FnExactHalveMap", spec := "fnExactHalveMap", unfollowed := true, recurses := true, apart := false, narrowed := true }
def FnExactHalveMapUptoSaid : Prop := fnExactHalveMapUptoRow.holds Try.pinned (OpenSpec.upto fnExactHalveMapSpec)

/-- 'laws.FnExactDoubleMap', WHERE WHAT IT READS IS OF BULK AT MOST 1048576: true; the input reads as it did. -/
def fnExactDoubleMapUptoRow : OpenClaim := { program := "ythnidpmolafmaaa", sum := "bc526503f921f9e0e698c0987e13cbbb9b005ab547ed5d0cc3c6253024896a6a", func := "loop.example/g01223/laws.FnExactDoubleMap", spec := "fnExactDoubleMap", unfollowed := true, recurses := true, apart := false, narrowed := true }
def FnExactDoubleMapUptoSaid : Prop := fnExactDoubleMapUptoRow.holds Try.pinned (OpenSpec.upto fnExactDoubleMapSpec)

/-- 'laws.FnExactRoundMap', WHERE WHAT IT READS IS OF BULK AT MOST 1048576: true; the input reads as it did. -/
def fnExactRoundMapUptoRow : OpenClaim := { program := "ythnidpmolafmaaa", sum := "bc526503f921f9e0e698c0987e13cbbb9b005ab547ed5d0cc3c6253024896a6a", func := "loop.example/g01223/laws.FnExactRoundMap", spec := "fnExactRoundMap", inPlace := ["math.RoundToEven", "math.Float64bits", "math.Float64frombits"], unfollowed := true, recurses := true, apart := false, narrowed := true }
def FnExactRoundMapUptoSaid : Prop := fnExactRoundMapUptoRow.holds Try.pinned (OpenSpec.upto fnExactRoundMapSpec)

/-- 'laws.FnExactCheckMaps', WHERE WHAT IT READS IS OF BULK AT MOST 1048576: true; the input reads as it did. -/
def fnExactCheckMapsUptoRow : OpenClaim := { program := "ythnidpmolafmaaa", sum := "bc526503f921f9e0e698c0987e13cbbb9b005ab547ed5d0cc3c6253024896a6a", func := "loop.example/g01223/laws.FnExactCheckMaps", spec := "fnExactCheckMaps", inPlace := ["math.RoundToEven", "math.Float64bits", "math.Float64frombits"], unfollowed := true, recurses := true, apart := false, narrowed := true }
def FnExactCheckMapsUptoSaid : Prop := fnExactCheckMapsUptoRow.holds Try.pinned (OpenSpec.upto fnExactCheckMapsSpec)

/-- 'laws.FnExactHolesOf', WHERE WHAT IT READS IS OF BULK AT MOST 1048576: true; the input reads as it did. -/
def fnExactHolesOfUptoRow : OpenClaim := { program := "ythnidpmolafmaaa", sum := "bc526503f921f9e0e698c0987e13cbbb9b005ab547ed5d0cc3c6253024896a6a", func := "loop.example/g01223/laws.FnExactHolesOf", spec := "fnExactHolesOf", unfollowed := true, recurses := true, apart := false, narrowed := true }
def FnExactHolesOfUptoSaid : Prop := fnExactHolesOfUptoRow.holds Try.pinned (OpenSpec.upto fnExactHolesOfSpec)

/-- 'laws.FnExactRangeOfMap', WHERE WHAT IT READS IS OF BULK AT MOST 1048576: true; the input reads as it did. -/
def fnExactRangeOfMapUptoRow : OpenClaim := { program := "ythnidpmolafmaaa", sum := "bc526503f921f9e0e698c0987e13cbbb9b005ab547ed5d0cc3c6253024896a6a", func := "loop.example/g01223/laws.FnExactRangeOfMap", spec := "fnExactRangeOfMap", unfollowed := true, recurses := true, apart := false, narrowed := true }
def FnExactRangeOfMapUptoSaid : Prop := fnExactRangeOfMapUptoRow.holds Try.pinned (OpenSpec.upto fnExactRangeOfMapSpec)

/-- 'laws.FnExactMeanOfMap', WHERE WHAT IT READS IS OF BULK AT MOST 1048576: true; the input reads as it did. -/
def fnExactMeanOfMapUptoRow : OpenClaim := { program := "ythnidpmolafmaaa", sum := "bc526503f921f9e0e698c0987e13cbbb9b005ab547ed5d0cc3c6253024896a6a", func := "loop.example/g01223/laws.FnExactMeanOfMap", spec := "fnExactMeanOfMap", unfollowed := true, recurses := true, apart := false, narrowed := true }
def FnExactMeanOfMapUptoSaid : Prop := fnExactMeanOfMapUptoRow.holds Try.pinned (OpenSpec.upto fnExactMeanOfMapSpec)

/-- 'laws.FnExactFillRows', WHERE WHAT IT READS IS OF BULK AT MOST 1048576: true; the input reads as it did. -/
def fnExactFillRowsUptoRow : OpenClaim := { program := "ythnidpmolafmaaa", sum := "bc526503f921f9e0e698c0987e13cbbb9b005ab547ed5d0cc3c6253024896a6a", func := "loop.example/g01223/laws.FnExactFillRows", spec := "fnExactFillRows", unfollowed := true, recurses := true, apart := false, narrowed := true }
def FnExactFillRowsUptoSaid : Prop := fnExactFillRowsUptoRow.holds Try.pinned (OpenSpec.upto fnExactFillRowsSpec)

/-- 'laws.FnExactUnseenOf', WHERE WHAT IT READS IS OF BULK AT MOST 1048576: true; the input reads as it did. -/
def fnExactUnseenOfUptoRow : OpenClaim := { program := "ythnidpmolafmaaa", sum := "bc526503f921f9e0e698c0987e13cbbb9b005ab547ed5d0cc3c6253024896a6a", func := "loop.example/g01223/laws.FnExactUnseenOf", spec := "fnExactUnseenOf", inPlace := ["math.RoundToEven", "math.Float64bits", "math.Float64frombits"], apart := false, narrowed := true }
def FnExactUnseenOfUptoSaid : Prop := fnExactUnseenOfUptoRow.holds Try.pinned (OpenSpec.upto fnExactUnseenOfSpec)

end Rows
end Go.Proofs.Ythnidpmolafmaaa
