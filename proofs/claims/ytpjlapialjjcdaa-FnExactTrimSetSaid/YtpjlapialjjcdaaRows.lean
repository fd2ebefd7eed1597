/-
  No cell of these rows narrows 'for every input' (looked for: loops, veiled, ifaces, maps, wideKeys, modest, calm, conditions, laid).
  DERIVED. THE GIVEN ROWS OF THIS SEAT. 12 by the template 'for every input the law returns true; each argument reads behind the call as it read before'; 0 by the template 'total and deterministic' (their statements: YtpjlapialjjcdaaTotals.lean).
  GIVEN WITH THE SEED: the statements are not yours to turn. If you find one false, say at which input.
  Laid BY PROGRAM, IN A SANDBOX (cutbox-rows.mjs): the forced cells as the released guide's own fill.sh prints them over the translation 9c574196983f85be… (all of the seat's roots in one cut). By AI agents, Wed Nov 11 2026. No macro, syntax, notation, axiom, sorry.
-/
import Derived.Test.YtpjlapialjjcdaaChecked
import GoSem.Claim
import GoSem.ClaimJoined
import GoSem.ClaimMapViews
import Derived.JoinedTies
import Derived.KernelRfl
namespace Go.Proofs.Ytpjlapialjjcdaa
/- THE CELL 'sum', in the pinned program and in every row, IS THE sha256 OF THE DUMP (.gsa) THAT YtpjlapialjjcdaaProg.lean LOADS. Nothing in Lean hashes anything: it is a label: what it is worth is what the hold of that sum in a sandbox is worth. -/
noncomputable def Try.pinned : Pinned := { name := "ytpjlapialjjcdaa", sum := "9c574196983f85becf249b1db486564b7e81baf4cc1b5932a0dcdcea1b36f5b4", checked := Try.checked }
namespace Rows
def none {H : Type} : Left H := { results := [], args := [] }

/-- 'laws.FnExactLastingTiles': WHATEVER THE INPUT: true; the input reads as it did. -/
def fnExactLastingTilesSpec : ChangeSpec := { name := "fnExactLastingTiles", fn := fun _ => fun
  | [d] => { results := [.lit (.bool true)], args := [d] }
  | _ => none }
def fnExactLastingTilesRow : OpenClaim := { program := "ytpjlapialjjcdaa", sum := "9c574196983f85becf249b1db486564b7e81baf4cc1b5932a0dcdcea1b36f5b4", func := "loop.example/g01354/laws.FnExactLastingTiles", spec := "fnExactLastingTiles", plainKeys := false, apart := false }
def FnExactLastingTilesSaid : Prop := fnExactLastingTilesRow.holds Try.pinned (OpenSpec.ofChange fnExactLastingTilesSpec)

/-- ITS FALSE NEIGHBOUR: 'it returns false'. Refute it at one input. -/
def fnExactLastingTilesWrong : ChangeSpec := { name := "fnExactLastingTiles", fn := fun _ => fun
  | [d] => { results := [.lit (.bool false)], args := [d] }
  | _ => none }
def FnExactLastingTilesWrongFalsely : Prop := fnExactLastingTilesRow.holds Try.pinned (OpenSpec.ofChange fnExactLastingTilesWrong)

/-- 'laws.FnExactCommonTiles': WHATEVER THE INPUT: true; the input reads as it did. -/
def fnExactCommonTilesSpec : ChangeSpec := { name := "fnExactCommonTiles", fn := fun _ => fun
  | [d1, d2] => { results := [.lit (.bool true)], args := [d1, d2] }
  | _ => none }
def fnExactCommonTilesRow : OpenClaim := { program := "ytpjlapialjjcdaa", sum := "9c574196983f85becf249b1db486564b7e81baf4cc1b5932a0dcdcea1b36f5b4", func := "loop.example/g01354/laws.FnExactCommonTiles", spec := "fnExactCommonTiles", plainKeys := false, apart := false }
def FnExactCommonTilesSaid : Prop := fnExactCommonTilesRow.holds Try.pinned (OpenSpec.ofChange fnExactCommonTilesSpec)

/-- ITS FALSE NEIGHBOUR: 'it returns false'. Refute it at one input. -/
def fnExactCommonTilesWrong : ChangeSpec := { name := "fnExactCommonTiles", fn := fun _ => fun
  | [d1, d2] => { results := [.lit (.bool false)], args := [d1, d2] }
  | _ => none }
def FnExactCommonTilesWrongFalsely : Prop := fnExactCommonTilesRow.holds Try.pinned (OpenSpec.ofChange fnExactCommonTilesWrong)

/-- 'laws.FnExactSetOf': WHATEVER THE INPUT: true; the input reads as it did. -/
def fnExactSetOfSpec : ChangeSpec := { name := "fnExactSetOf", fn := fun _ => fun
  | [d1, d2] => { results := [.lit (.bool true)], args := [d1, d2] }
  | _ => none }
def fnExactSetOfRow : OpenClaim := { program := "ytpjlapialjjcdaa", sum := "9c574196983f85becf249b1db486564b7e81baf4cc1b5932a0dcdcea1b36f5b4", func := "loop.example/g01354/laws.FnExactSetOf", spec := "fnExactSetOf", unfollowed := true, recurses := true, plainKeys := false, apart := false }
def FnExactSetOfSaid : Prop := fnExactSetOfRow.holds Try.pinned (OpenSpec.ofChange fnExactSetOfSpec)

/-- ITS FALSE NEIGHBOUR: 'it returns false'. Refute it at one input. -/
def fnExactSetOfWrong : ChangeSpec := { name := "fnExactSetOf", fn := fun _ => fun
  | [d1, d2] => { results := [.lit (.bool false)], args := [d1, d2] }
  | _ => none }
def FnExactSetOfWrongFalsely : Prop := fnExactSetOfRow.holds Try.pinned (OpenSpec.ofChange fnExactSetOfWrong)

/-- 'laws.FnExactJoinSets': WHATEVER THE INPUT: true; the input reads as it did. -/
def fnExactJoinSetsSpec : ChangeSpec := { name := "fnExactJoinSets", fn := fun _ => fun
  | [d1, d2] => { results := [.lit (.bool true)], args := [d1, d2] }
  | _ => none }
def fnExactJoinSetsRow : OpenClaim := { program := "ytpjlapialjjcdaa", sum := "9c574196983f85becf249b1db486564b7e81baf4cc1b5932a0dcdcea1b36f5b4", func := "loop.example/g01354/laws.FnExactJoinSets", spec := "fnExactJoinSets", unfollowed := true, recurses := true, plainKeys := false, apart := false }
def FnExactJoinSetsSaid : Prop := fnExactJoinSetsRow.holds Try.pinned (OpenSpec.ofChange fnExactJoinSetsSpec)

/-- ITS FALSE NEIGHBOUR: 'it returns false'. Refute it at one input. -/
def fnExactJoinSetsWrong : ChangeSpec := { name := "fnExactJoinSets", fn := fun _ => fun
  | [d1, d2] => { results := [.lit (.bool false)], args := [d1, d2] }
  | _ => none }
def FnExactJoinSetsWrongFalsely : Prop := fnExactJoinSetsRow.holds Try.pinned (OpenSpec.ofChange fnExactJoinSetsWrong)

/-- 'laws.FnExactProductOfSets': WHATEVER THE INPUT: true; the input reads as it did. -/
def fnExactProductOfSetsSpec : ChangeSpec := { name := "fnExactProductOfSets", fn := fun _ => fun
  | [d1, d2] => { results := [.lit (.bool true)], args := [d1, d2] }
  | _ => none }
def fnExactProductOfSetsRow : OpenClaim := { program := "ytpjlapialjjcdaa", sum := "9c574196983f85becf249b1db486564b7e81baf4cc1b5932a0dcdcea1b36f5b4", func := "loop.example/g01354/laws.FnExactProductOfSets", spec := "fnExactProductOfSets", unfollowed := true, recurses := true, plainKeys := false, apart := false }
def FnExactProductOfSetsSaid : Prop := fnExactProductOfSetsRow.holds Try.pinned (OpenSpec.ofChange fnExactProductOfSetsSpec)

/-- ITS FALSE NEIGHBOUR: 'it returns false'. Refute it at one input. -/
def fnExactProductOfSetsWrong : ChangeSpec := { name := "fnExactProductOfSets", fn := fun _ => fun
  | [d1, d2] => { results := [.lit (.bool false)], args := [d1, d2] }
  | _ => none }
def FnExactProductOfSetsWrongFalsely : Prop := fnExactProductOfSetsRow.holds Try.pinned (OpenSpec.ofChange fnExactProductOfSetsWrong)

/-- 'laws.FnExactPutTile': WHATEVER THE INPUT: true; the input reads as it did. -/
def fnExactPutTileSpec : ChangeSpec := { name := "fnExactPutTile", fn := fun _ => fun
  | [d1, d2] => { results := [.lit (.bool true)], args := [d1, d2] }
  | _ => none }
def fnExactPutTileRow : OpenClaim := { program := "ytpjlapialjjcdaa", sum := "9c574196983f85becf249b1db486564b7e81baf4cc1b5932a0dcdcea1b36f5b4", func := "loop.example/g01354/laws.FnExactPutTile", spec := "fnExactPutTile", unfollowed := true, recurses := true, plainKeys := false, apart := false }
def FnExactPutTileSaid : Prop := fnExactPutTileRow.holds Try.pinned (OpenSpec.ofChange fnExactPutTileSpec)

/-- ITS FALSE NEIGHBOUR: 'it returns false'. Refute it at one input. -/
def fnExactPutTileWrong : ChangeSpec := { name := "fnExactPutTile", fn := fun _ => fun
  | [d1, d2] => { results := [.lit (.bool false)], args := [d1, d2] }
  | _ => none }
def FnExactPutTileWrongFalsely : Prop := fnExactPutTileRow.holds Try.pinned (OpenSpec.ofChange fnExactPutTileWrong)

/-- 'laws.FnExactKeepLasting': WHATEVER THE INPUT: true; the input reads as it did. -/
def fnExactKeepLastingSpec : ChangeSpec := { name := "fnExactKeepLasting", fn := fun _ => fun
  | [d] => { results := [.lit (.bool true)], args := [d] }
  | _ => none }
def fnExactKeepLastingRow : OpenClaim := { program := "ytpjlapialjjcdaa", sum := "9c574196983f85becf249b1db486564b7e81baf4cc1b5932a0dcdcea1b36f5b4", func := "loop.example/g01354/laws.FnExactKeepLasting", spec := "fnExactKeepLasting", plainKeys := false, apart := false }
def FnExactKeepLastingSaid : Prop := fnExactKeepLastingRow.holds Try.pinned (OpenSpec.ofChange fnExactKeepLastingSpec)

/-- ITS FALSE NEIGHBOUR: 'it returns false'. Refute it at one input. -/
def fnExactKeepLastingWrong : ChangeSpec := { name := "fnExactKeepLasting", fn := fun _ => fun
  | [d] => { results := [.lit (.bool false)], args := [d] }
  | _ => none }
def FnExactKeepLastingWrongFalsely : Prop := fnExactKeepLastingRow.holds Try.pinned (OpenSpec.ofChange fnExactKeepLastingWrong)

/-- 'laws.FnExactTrimSet': WHATEVER THE INPUT: true; the input reads as it did. -/
def fnExactTrimSetSpec : ChangeSpec := { name := "fnExactTrimSet", fn := fun _ => fun
  | [d] => { results := [.lit (.bool true)], args := [d] }
  | _ => none }
def fnExactTrimSetRow : OpenClaim := { program := "ytpjlapialjjcdaa", sum := "9c574196983f85becf249b1db486564b7e81baf4cc1b5932a0dcdcea1b36f5b4", func := "loop.example/g01354/laws.FnExactTrimSet", spec := "fnExactTrimSet", unfollowed := true, recurses := true, plainKeys := false, apart := false }
def FnExactTrimSetSaid : Prop := fnExactTrimSetRow.holds Try.pinned (OpenSpec.ofChange fnExactTrimSetSpec)

/-- ITS FALSE NEIGHBOUR: 'it returns false'. Refute it at one input. -/
def fnExactTrimSetWrong : ChangeSpec := { name := "fnExactTrimSet", fn := fun _ => fun
  | [d] => { results := [.lit (.bool false)], args := [d] }
  | _ => none }
def FnExactTrimSetWrongFalsely : Prop := fnExactTrimSetRow.holds Try.pinned (OpenSpec.ofChange fnExactTrimSetWrong)

/-- 'laws.FnExactPairsOfStack': WHATEVER THE INPUT: true; the input reads as it did. -/
def fnExactPairsOfStackSpec : ChangeSpec := { name := "fnExactPairsOfStack", fn := fun _ => fun
  | [d1, d2] => { results := [.lit (.bool true)], args := [d1, d2] }
  | _ => none }
def fnExactPairsOfStackRow : OpenClaim := { program := "ytpjlapialjjcdaa", sum := "9c574196983f85becf249b1db486564b7e81baf4cc1b5932a0dcdcea1b36f5b4", func := "loop.example/g01354/laws.FnExactPairsOfStack", spec := "fnExactPairsOfStack", unfollowed := true, recurses := true, plainKeys := false, apart := false }
def FnExactPairsOfStackSaid : Prop := fnExactPairsOfStackRow.holds Try.pinned (OpenSpec.ofChange fnExactPairsOfStackSpec)

/-- ITS FALSE NEIGHBOUR: 'it returns false'. Refute it at one input. -/
def fnExactPairsOfStackWrong : ChangeSpec := { name := "fnExactPairsOfStack", fn := fun _ => fun
  | [d1, d2] => { results := [.lit (.bool false)], args := [d1, d2] }
  | _ => none }
def FnExactPairsOfStackWrongFalsely : Prop := fnExactPairsOfStackRow.holds Try.pinned (OpenSpec.ofChange fnExactPairsOfStackWrong)

/-- 'laws.FnExactStackSets': WHATEVER THE INPUT: true; the input reads as it did. -/
def fnExactStackSetsSpec : ChangeSpec := { name := "fnExactStackSets", fn := fun _ => fun
  | [d1, d2] => { results := [.lit (.bool true)], args := [d1, d2] }
  | _ => none }
def fnExactStackSetsRow : OpenClaim := { program := "ytpjlapialjjcdaa", sum := "9c574196983f85becf249b1db486564b7e81baf4cc1b5932a0dcdcea1b36f5b4", func := "loop.example/g01354/laws.FnExactStackSets", spec := "fnExactStackSets", unfollowed := true, recurses := true, plainKeys := false, apart := false }
def FnExactStackSetsSaid : Prop := fnExactStackSetsRow.holds Try.pinned (OpenSpec.ofChange fnExactStackSetsSpec)

/-- ITS FALSE NEIGHBOUR: 'it returns false'. Refute it at one input. -/
def fnExactStackSetsWrong : ChangeSpec := { name := "fnExactStackSets", fn := fun _ => fun
  | [d1, d2] => { results := [.lit (.bool false)], args := [d1, d2] }
  | _ => none }
def FnExactStackSetsWrongFalsely : Prop := fnExactStackSetsRow.holds Try.pinned (OpenSpec.ofChange fnExactStackSetsWrong)

/-- 'laws.FnExactPowerOf': WHATEVER THE INPUT: true; the input reads as it did. -/
def fnExactPowerOfSpec : ChangeSpec := { name := "fnExactPowerOf", fn := fun _ => fun
  | [d1, d2] => { results := [.lit (.bool true)], args := [d1, d2] }
  | _ => none }
def fnExactPowerOfRow : OpenClaim := { program := "ytpjlapialjjcdaa", sum := "9c574196983f85becf249b1db486564b7e81baf4cc1b5932a0dcdcea1b36f5b4", func := "loop.example/g01354/laws.FnExactPowerOf", spec := "fnExactPowerOf", unfollowed := true, recurses := true, plainKeys := false, apart := false }
def FnExactPowerOfSaid : Prop := fnExactPowerOfRow.holds Try.pinned (OpenSpec.ofChange fnExactPowerOfSpec)

/-- ITS FALSE NEIGHBOUR: 'it returns false'. Refute it at one input. -/
def fnExactPowerOfWrong : ChangeSpec := { name := "fnExactPowerOf", fn := fun _ => fun
  | [d1, d2] => { results := [.lit (.bool false)], args := [d1, d2] }
  | _ => none }
def FnExactPowerOfWrongFalsely : Prop := fnExactPowerOfRow.holds Try.pinned (OpenSpec.ofChange fnExactPowerOfWrong)

/-- 'laws.FnExactFailingHeight': WHATEVER THE INPUT: true; the input reads as it did. -/
def fnExactFailingHeightSpec : ChangeSpec := { name := "fnExactFailingHeight", fn := fun _ => fun
  | [d1, d2] => { results := [.lit (.bool true)], args := [d1, d2] }
  | _ => none }
def fnExactFailingHeightRow : OpenClaim := { program := "ytpjlapialjjcdaa", sum := "9c574196983f85becf249b1db486564b7e81baf4cc1b5932a0dcdcea1b36f5b4", func := "loop.example/g01354/laws.FnExactFailingHeight", spec := "fnExactFailingHeight", unfollowed := true, recurses := true, plainKeys := false, apart := false }
def FnExactFailingHeightSaid : Prop := fnExactFailingHeightRow.holds Try.pinned (OpenSpec.ofChange fnExactFailingHeightSpec)

/-- ITS FALSE NEIGHBOUR: 'it returns false'. Refute it at one input. -/
def fnExactFailingHeightWrong : ChangeSpec := { name := "fnExactFailingHeight", fn := fun _ => fun
  | [d1, d2] => { results := [.lit (.bool false)], args := [d1, d2] }
  | _ => none }
def FnExactFailingHeightWrongFalsely : Prop := fnExactFailingHeightRow.holds Try.pinned (OpenSpec.ofChange fnExactFailingHeightWrong)

/- THE SECOND FORM. 'bulk': how many values and letters a reading holds, each counted each time it is reached (what is shared counts as often as it is met; a slice's spare places count too). A statement '..UptoSaid' is the law's where the arguments, and the package variables that the reading takes, are together of bulk at most 1048576: NARROWER than '..Said'. Prove '..Said' where nothing that the law and all that it calls make is longer than what came in: it says more and counts as full. Else prove '..UptoSaid'. A law counts once. -/
mutual
def uptoBulk {H : Type} : DataW H → Nat
  | .lit (.string bytes) => bytes.length + 1
  | .lit _ => 1
  | .nil => 1
  | .ptr d => uptoBulk d + 1
  | .slice elems spare => uptoBulkAll elems + uptoBulkAll spare + 1
  | .agg parts => uptoBulkAll parts + 1
  | .iface _ d => uptoBulk d + 1
  | .map entries => uptoBulkEntries entries + 1
  | .held _ => 1
def uptoBulkAll {H : Type} : List (DataW H) → Nat
  | [] => 0
  | d :: r => uptoBulk d + uptoBulkAll r
def uptoBulkEntries {H : Type} : List (Lit × DataW H) → Nat
  | [] => 0
  | x :: r => uptoBulkEntry x + uptoBulkEntries r
def uptoBulkEntry {H : Type} : Lit × DataW H → Nat
  | (.string bytes, d) => bytes.length + uptoBulk d + 1
  | (_, d) => uptoBulk d + 1
 end
def uptoSmall : (H : Type) → List (DataW H) → Bool := fun _ ds => decide (uptoBulkAll ds ≤ 1048576)
def OpenSpec.upto (s : _root_.Go.ChangeSpec) : _root_.Go.OpenSpec := { _root_.Go.OpenSpec.ofChange s with cond := some uptoSmall }

/-- 'laws.FnExactLastingTiles', WHERE WHAT IT READS IS OF BULK AT MOST 1048576: true; the input reads as it did. -/
def fnExactLastingTilesUptoRow : OpenClaim := { program := "ytpjlapialjjcdaa", sum := "9c574196983f85becf249b1db486564b7e81baf4cc1b5932a0dcdcea1b36f5b4", func := "loop.example/g01354/laws.FnExactLastingTiles", spec := "fnExactLastingTiles", plainKeys := false, apart := false, narrowed := true }
def FnExactLastingTilesUptoSaid : Prop := fnExactLastingTilesUptoRow.holds Try.pinned (OpenSpec.upto fnExactLastingTilesSpec)

/-- 'laws.FnExactCommonTiles', WHERE WHAT IT READS IS OF BULK AT MOST 1048576: true; the input reads as it did. -/
def fnExactCommonTilesUptoRow : OpenClaim := { program := "ytpjlapialjjcdaa", sum := "9c574196983f85becf249b1db486564b7e81baf4cc1b5932a0dcdcea1b36f5b4", func := "loop.example/g01354/laws.FnExactCommonTiles", spec := "fnExactCommonTiles", plainKeys := false, apart := false, narrowed := true }
def FnExactCommonTilesUptoSaid : Prop := fnExactCommonTilesUptoRow.holds Try.pinned (OpenSpec.upto fnExactCommonTilesSpec)

/-- 'laws.FnExactSetOf', WHERE WHAT IT READS IS OF BULK AT MOST 1048576: true; the input reads as it did. -/
def fnExactSetOfUptoRow : OpenClaim := { program := "ytpjlapialjjcdaa", sum := "9c574196983f85becf249b1db486564b7e81baf4cc1b5932a0dcdcea1b36f5b4", func := "loop.example/g01354/laws.FnExactSetOf", spec := "fnExactSetOf", unfollowed := true, recurses := true, plainKeys := false, apart := false, narrowed := true }
def FnExactSetOfUptoSaid : Prop := fnExactSetOfUptoRow.holds Try.pinned (OpenSpec.upto fnExactSetOfSpec)

/-- 'laws.FnExactJoinSets', WHERE WHAT IT READS IS OF BULK AT MOST 1048576: true; the input reads as it did. -/
def fnExactJoinSetsUptoRow : OpenClaim := { program := "ytpjlapialjjcdaa", sum := "9c574196983f85becf249b1db486564b7e81baf4cc1b5932a0dcdcea1b36f5b4", func := "loop.example/g01354/laws.FnExactJoinSets", spec := "fnExactJoinSets", unfollowed := true, recurses := true, plainKeys := false, apart := false, narrowed := true }
def FnExactJoinSetsUptoSaid : Prop := fnExactJoinSetsUptoRow.holds Try.pinned (OpenSpec.upto fnExactJoinSetsSpec)

/-- 'laws.FnExactProductOfSets', WHERE WHAT IT READS IS OF BULK AT MOST 1048576: true; the input reads as it did. -/
def fnExactProductOfSetsUptoRow : OpenClaim := { program := "ytpjlapialjjcdaa", sum := "9c574196983f85becf249b1db486564b7e81baf4cc1b5932a0dcdcea1b36f5b4", func := "loop.example/g01354/laws.FnExactProductOfSets", spec := "fnExactProductOfSets", unfollowed := true, recurses := true, plainKeys := false, apart := false, narrowed := true }
def FnExactProductOfSetsUptoSaid : Prop := fnExactProductOfSetsUptoRow.holds Try.pinned (OpenSpec.upto fnExactProductOfSetsSpec)

/-- 'laws.FnExactPutTile', WHERE WHAT IT READS IS OF BULK AT MOST 1048576: true; the input reads as it did. -/
def fnExactPutTileUptoRow : OpenClaim := { program := "ytpjlapialjjcdaa", sum := "9c574196983f85becf249b1db486564b7e81baf4cc1b5932a0dcdcea1b36f5b4", func := "loop.example/g01354/laws.FnExactPutTile", spec := "fnExactPutTile", unfollowed := true, recurses := true, plainKeys := false, apart := false, narrowed := true }
def FnExactPutTileUptoSaid : Prop := fnExactPutTileUptoRow.holds Try.pinned (OpenSpec.upto fnExactPutTileSpec)

/-- 'laws.FnExactKeepLasting', WHERE WHAT IT READS IS OF BULK AT MOST 1048576: true; the input reads as it did. -/
def fnExactKeepLastingUptoRow : OpenClaim := { program := "ytpjlapialjjcdaa", sum := "9c574196983f85becf249b1db486564b7e81baf4cc1b5932a0dcdcea1b36f5b4", func := "loop.example/g01354/laws.FnExactKeepLasting", spec := "fnExactKeepLasting", plainKeys := false, apart := false, narrowed := true }
def FnExactKeepLastingUptoSaid : Prop := fnExactKeepLastingUptoRow.holds Try.pinned (OpenSpec.upto fnExactKeepLastingSpec)

/-- 'laws.FnExactTrimSet', WHERE WHAT IT READS IS OF BULK AT MOST 1048576: true; the input reads as it did. -/
def fnExactTrimSetUptoRow : OpenClaim := { program := "ytpjlapialjjcdaa", sum := "9c574196983f85becf249b1db486564b7e81baf4cc1b5932a0dcdcea1b36f5b4", func := "loop.example/g01354/laws.FnExactTrimSet", spec := "fnExactTrimSet", unfollowed := true, recurses := true, plainKeys := false, apart := false, narrowed := true }
def FnExactTrimSetUptoSaid : Prop := fnExactTrimSetUptoRow.holds Try.pinned (OpenSpec.upto fnExactTrimSetSpec)

/-- 'laws.FnExactPairsOfStack', WHERE WHAT IT READS IS OF BULK AT MOST 1048576: true; the input reads as it did. -/
def fnExactPairsOfStackUptoRow : OpenClaim := { program := "ytpjlapialjjcdaa", sum := "9c574196983f85becf249b1db486564b7e81baf4cc1b5932a0dcdcea1b36f5b4", func := "loop.example/g01354/laws.FnExactPairsOfStack", spec := "fnExactPairsOfStack", unfollowed := true, recurses := true, plainKeys := false, apart := false, narrowed := true }
def FnExactPairsOfStackUptoSaid : Prop := fnExactPairsOfStackUptoRow.holds Try.pinned (OpenSpec.upto fnExactPairsOfStackSpec)

/-- 'laws.FnExactStackSets', WHERE WHAT IT READS IS OF BULK AT MOST 1048576: true; the input reads as it did. -/
def fnExactStackSetsUptoRow : OpenClaim := { program := "ytpjlapialjjcdaa", sum := "9c574196983f85becf249b1db486564b7e81baf4cc1b5932a0dcdcea1b36f5b4", func := "loop.example/g01354/laws.FnExactStackSets", spec := "fnExactStackSets", unfollowed := true, recurses := true, plainKeys := false, apart := false, narrowed := true }
def FnExactStackSetsUptoSaid : Prop := fnExactStackSetsUptoRow.holds Try.pinned (OpenSpec.upto fnExactStackSetsSpec)

/-- 'laws.FnExactPowerOf', WHERE WHAT IT READS IS OF BULK AT MOST 1048576: true; the input reads as it did. -/
def fnExactPowerOfUptoRow : OpenClaim := { program := "ytpjlapialjjcdaa", sum := "9c574196983f85becf249b1db486564b7e81baf4cc1b5932a0dcdcea1b36f5b4", func := "loop.example/g01354/laws.FnExactPowerOf", spec := "fnExactPowerOf", unfollowed := true, recurses := true, plainKeys := false, apart := false, narrowed := true }
def FnExactPowerOfUptoSaid : Prop := fnExactPowerOfUptoRow.holds Try.pinned (OpenSpec.upto fnExactPowerOfSpec)

/-- 'laws.FnExactFailingHeight', WHERE WHAT IT READS IS OF BULK AT MOST 1048576: true; the input reads as it did. -/
def fnExactFailingHeightUptoRow : OpenClaim := { program := "ytpjlapialjjcdaa", sum := "9c574196983f85becf249b1db486564b7e81baf4cc1b5932a0dcdcea1b36f5b4", func := "loop.example/g01354/laws.FnExactFailingHeight", spec := "fnExactFailingHeight", unfollowed := true, recurses := true, plainKeys := false, apart := false, narrowed := true }
def FnExactFailingHeightUptoSaid : Prop := fnExactFailingHeightUptoRow.holds Try.pinned (OpenSpec.upto fnExactFailingHeightSpec)

end Rows
end Go.Proofs.Ytpjlapialjjcdaa
