/-
  No cell of these rows narrows 'for every input' (looked for: loops, veiled, ifaces, maps, wideKeys, modest, calm, conditions, laid).
  DERIVED. THE GIVEN ROWS OF THIS SEAT. 12 by the template 'for every input the law returns true; each argument reads behind the call as it read before'; 0 by the template 'total and deterministic' (their statements: YtafpiembiiicoaaTotals.lean).
  GIVEN WITH THE SEED: the statements are not yours to turn. If you find one false, say at which input.
  Laid BY PROGRAM, IN A SANDBOX (cutbox-rows.mjs): the forced cells as the released guide's own fill.sh prints them over the translation 820c68a288e52579… (all of the seat's roots in one cut). By AI agents, Wed Nov 11 2026. No macro, syntax, notation, axiom, sorry.
-/
import Derived.Test.YtafpiembiiicoaaChecked
import GoSem.Claim
import GoSem.ClaimJoined
import GoSem.ClaimMapViews
import Derived.JoinedTies
import Derived.KernelRfl
namespace Go.Proofs.Ytafpiembiiicoaa
/- THE CELL 'sum', in the pinned program and in every row, IS THE sha256 OF THE DUMP (.gsa) THAT YtafpiembiiicoaaProg.lean LOADS. Nothing in Lean hashes anything: it is a label: what it is worth is what the hold of that sum in a sandbox is worth. -/
noncomputable def Try.pinned : Pinned := { name := "ytafpiembiiicoaa", sum := "820c68a288e52579a164b753f19cf2a1d10124b2c0680af23ca10b8cfe81808c", checked := Try.checked }
namespace Rows
def none {H : Type} : Left H := { results := [], args := [] }

/-- 'laws.FnExactSetOf': WHATEVER THE INPUT: true; the input reads as it did. -/
def fnExactSetOfSpec : ChangeSpec := { name := "fnExactSetOf", fn := fun _ => fun
  | [d1, d2] => { results := [.lit (.bool true)], args := [d1, d2] }
  | _ => none }
def fnExactSetOfRow : OpenClaim := { program := "ytafpiembiiicoaa", sum := "820c68a288e52579a164b753f19cf2a1d10124b2c0680af23ca10b8cfe81808c", func := "loop.example/g01354/laws.FnExactSetOf", spec := "fnExactSetOf", unfollowed := true, recurses := true, plainKeys := false, apart := false }
def FnExactSetOfSaid : Prop := fnExactSetOfRow.holds Try.pinned (OpenSpec.ofChange fnExactSetOfSpec)

/-- ITS FALSE NEIGHBOUR: 'it returns false'. Refute it at one input. -/
def fnExactSetOfWrong : ChangeSpec := { name := "fnExactSetOf", fn := fun _ => fun
  | [d1, d2] => { results := [.lit (.bool false)], args := [d1, d2] }
  | _ => none }
def FnExactSetOfWrongFalsely : Prop := fnExactSetOfRow.holds Try.pinned (OpenSpec.ofChange fnExactSetOfWrong)

/-- 'laws.FnExactPutTile': WHATEVER THE INPUT: true; the input reads as it did. -/
def fnExactPutTileSpec : ChangeSpec := { name := "fnExactPutTile", fn := fun _ => fun
  | [d1, d2] => { results := [.lit (.bool true)], args := [d1, d2] }
  | _ => none }
def fnExactPutTileRow : OpenClaim := { program := "ytafpiembiiicoaa", sum := "820c68a288e52579a164b753f19cf2a1d10124b2c0680af23ca10b8cfe81808c", func := "loop.example/g01354/laws.FnExactPutTile", spec := "fnExactPutTile", unfollowed := true, recurses := true, plainKeys := false, apart := false }
def FnExactPutTileSaid : Prop := fnExactPutTileRow.holds Try.pinned (OpenSpec.ofChange fnExactPutTileSpec)

/-- ITS FALSE NEIGHBOUR: 'it returns false'. Refute it at one input. -/
def fnExactPutTileWrong : ChangeSpec := { name := "fnExactPutTile", fn := fun _ => fun
  | [d1, d2] => { results := [.lit (.bool false)], args := [d1, d2] }
  | _ => none }
def FnExactPutTileWrongFalsely : Prop := fnExactPutTileRow.holds Try.pinned (OpenSpec.ofChange fnExactPutTileWrong)

/-- 'laws.FnExactRenameColours': WHATEVER THE INPUT: true; the input reads as it did. -/
def fnExactRenameColoursSpec : ChangeSpec := { name := "fnExactRenameColours", fn := fun _ => fun
  | [d1, d2] => { results := [.lit (.bool true)], args := [d1, d2] }
  | _ => none }
def fnExactRenameColoursRow : OpenClaim := { program := "ytafpiembiiicoaa", sum := "820c68a288e52579a164b753f19cf2a1d10124b2c0680af23ca10b8cfe81808c", func := "loop.example/g01354/laws.FnExactRenameColours", spec := "fnExactRenameColours", unfollowed := true, recurses := true, plainKeys := false, apart := false }
def FnExactRenameColoursSaid : Prop := fnExactRenameColoursRow.holds Try.pinned (OpenSpec.ofChange fnExactRenameColoursSpec)

/-- ITS FALSE NEIGHBOUR: 'it returns false'. Refute it at one input. -/
def fnExactRenameColoursWrong : ChangeSpec := { name := "fnExactRenameColours", fn := fun _ => fun
  | [d1, d2] => { results := [.lit (.bool false)], args := [d1, d2] }
  | _ => none }
def FnExactRenameColoursWrongFalsely : Prop := fnExactRenameColoursRow.holds Try.pinned (OpenSpec.ofChange fnExactRenameColoursWrong)

/-- 'laws.FnExactJoinSets': WHATEVER THE INPUT: true; the input reads as it did. -/
def fnExactJoinSetsSpec : ChangeSpec := { name := "fnExactJoinSets", fn := fun _ => fun
  | [d1, d2] => { results := [.lit (.bool true)], args := [d1, d2] }
  | _ => none }
def fnExactJoinSetsRow : OpenClaim := { program := "ytafpiembiiicoaa", sum := "820c68a288e52579a164b753f19cf2a1d10124b2c0680af23ca10b8cfe81808c", func := "loop.example/g01354/laws.FnExactJoinSets", spec := "fnExactJoinSets", unfollowed := true, recurses := true, plainKeys := false, apart := false }
def FnExactJoinSetsSaid : Prop := fnExactJoinSetsRow.holds Try.pinned (OpenSpec.ofChange fnExactJoinSetsSpec)

/-- ITS FALSE NEIGHBOUR: 'it returns false'. Refute it at one input. -/
def fnExactJoinSetsWrong : ChangeSpec := { name := "fnExactJoinSets", fn := fun _ => fun
  | [d1, d2] => { results := [.lit (.bool false)], args := [d1, d2] }
  | _ => none }
def FnExactJoinSetsWrongFalsely : Prop := fnExactJoinSetsRow.holds Try.pinned (OpenSpec.ofChange fnExactJoinSetsWrong)

/-- 'laws.FnExactProductOfSets': WHATEVER THE INPUT: true; the input reads as it did. -/
def fnExactProductOfSetsSpec : ChangeSpec := { name := "fnExactProductOfSets", fn := fun _ => fun
  | [d1, d2] => { results := [.lit (.bool true)], args := [d1, d2] }
  | _ => none }
def fnExactProductOfSetsRow : OpenClaim := { program := "ytafpiembiiicoaa", sum := "820c68a288e52579a164b753f19cf2a1d10124b2c0680af23ca10b8cfe81808c", func := "loop.example/g01354/laws.FnExactProductOfSets", spec := "fnExactProductOfSets", unfollowed := true, recurses := true, plainKeys := false, apart := false }
def FnExactProductOfSetsSaid : Prop := fnExactProductOfSetsRow.holds Try.pinned (OpenSpec.ofChange fnExactProductOfSetsSpec)

/-- ITS FALSE NEIGHBOUR: 'it returns false'. Refute it at one input. -/
def fnExactProductOfSetsWrong : ChangeSpec := { name := "fnExactProductOfSets", fn := fun _ => fun
  | [d1, d2] => { results := [.lit (.bool false)], args := [d1, d2] }
  | _ => none }
def FnExactProductOfSetsWrongFalsely : Prop := fnExactProductOfSetsRow.holds Try.pinned (OpenSpec.ofChange fnExactProductOfSetsWrong)

/-- 'laws.FnExactRightOf': WHATEVER THE INPUT: true; the input reads as it did. -/
def fnExactRightOfSpec : ChangeSpec := { name := "fnExactRightOf", fn := fun _ => fun
  | [d1, d2] => { results := [.lit (.bool true)], args := [d1, d2] }
  | _ => none }
def fnExactRightOfRow : OpenClaim := { program := "ytafpiembiiicoaa", sum := "820c68a288e52579a164b753f19cf2a1d10124b2c0680af23ca10b8cfe81808c", func := "loop.example/g01354/laws.FnExactRightOf", spec := "fnExactRightOf", unfollowed := true, recurses := true, plainKeys := false, apart := false }
def FnExactRightOfSaid : Prop := fnExactRightOfRow.holds Try.pinned (OpenSpec.ofChange fnExactRightOfSpec)

/-- ITS FALSE NEIGHBOUR: 'it returns false'. Refute it at one input. -/
def fnExactRightOfWrong : ChangeSpec := { name := "fnExactRightOf", fn := fun _ => fun
  | [d1, d2] => { results := [.lit (.bool false)], args := [d1, d2] }
  | _ => none }
def FnExactRightOfWrongFalsely : Prop := fnExactRightOfRow.holds Try.pinned (OpenSpec.ofChange fnExactRightOfWrong)

/-- 'laws.FnExactBelowOf': WHATEVER THE INPUT: true; the input reads as it did. -/
def fnExactBelowOfSpec : ChangeSpec := { name := "fnExactBelowOf", fn := fun _ => fun
  | [d1, d2] => { results := [.lit (.bool true)], args := [d1, d2] }
  | _ => none }
def fnExactBelowOfRow : OpenClaim := { program := "ytafpiembiiicoaa", sum := "820c68a288e52579a164b753f19cf2a1d10124b2c0680af23ca10b8cfe81808c", func := "loop.example/g01354/laws.FnExactBelowOf", spec := "fnExactBelowOf", unfollowed := true, recurses := true, plainKeys := false, apart := false }
def FnExactBelowOfSaid : Prop := fnExactBelowOfRow.holds Try.pinned (OpenSpec.ofChange fnExactBelowOfSpec)

/-- ITS FALSE NEIGHBOUR: 'it returns false'. Refute it at one input. -/
def fnExactBelowOfWrong : ChangeSpec := { name := "fnExactBelowOf", fn := fun _ => fun
  | [d1, d2] => { results := [.lit (.bool false)], args := [d1, d2] }
  | _ => none }
def FnExactBelowOfWrongFalsely : Prop := fnExactBelowOfRow.holds Try.pinned (OpenSpec.ofChange fnExactBelowOfWrong)

/-- 'laws.FnExactIsFilling': WHATEVER THE INPUT: true; the input reads as it did. -/
def fnExactIsFillingSpec : ChangeSpec := { name := "fnExactIsFilling", fn := fun _ => fun
  | [d1, d2] => { results := [.lit (.bool true)], args := [d1, d2] }
  | _ => none }
def fnExactIsFillingRow : OpenClaim := { program := "ytafpiembiiicoaa", sum := "820c68a288e52579a164b753f19cf2a1d10124b2c0680af23ca10b8cfe81808c", func := "loop.example/g01354/laws.FnExactIsFilling", spec := "fnExactIsFilling", plainKeys := false, apart := false }
def FnExactIsFillingSaid : Prop := fnExactIsFillingRow.holds Try.pinned (OpenSpec.ofChange fnExactIsFillingSpec)

/-- ITS FALSE NEIGHBOUR: 'it returns false'. Refute it at one input. -/
def fnExactIsFillingWrong : ChangeSpec := { name := "fnExactIsFilling", fn := fun _ => fun
  | [d1, d2] => { results := [.lit (.bool false)], args := [d1, d2] }
  | _ => none }
def FnExactIsFillingWrongFalsely : Prop := fnExactIsFillingRow.holds Try.pinned (OpenSpec.ofChange fnExactIsFillingWrong)

/-- 'laws.FnExactBordersOf': WHATEVER THE INPUT: true; the input reads as it did. -/
def fnExactBordersOfSpec : ChangeSpec := { name := "fnExactBordersOf", fn := fun _ => fun
  | [d1, d2] => { results := [.lit (.bool true)], args := [d1, d2] }
  | _ => none }
def fnExactBordersOfRow : OpenClaim := { program := "ytafpiembiiicoaa", sum := "820c68a288e52579a164b753f19cf2a1d10124b2c0680af23ca10b8cfe81808c", func := "loop.example/g01354/laws.FnExactBordersOf", spec := "fnExactBordersOf", plainKeys := false, apart := false }
def FnExactBordersOfSaid : Prop := fnExactBordersOfRow.holds Try.pinned (OpenSpec.ofChange fnExactBordersOfSpec)

/-- ITS FALSE NEIGHBOUR: 'it returns false'. Refute it at one input. -/
def fnExactBordersOfWrong : ChangeSpec := { name := "fnExactBordersOf", fn := fun _ => fun
  | [d1, d2] => { results := [.lit (.bool false)], args := [d1, d2] }
  | _ => none }
def FnExactBordersOfWrongFalsely : Prop := fnExactBordersOfRow.holds Try.pinned (OpenSpec.ofChange fnExactBordersOfWrong)

/-- 'laws.FnExactCommonTiles': WHATEVER THE INPUT: true; the input reads as it did. -/
def fnExactCommonTilesSpec : ChangeSpec := { name := "fnExactCommonTiles", fn := fun _ => fun
  | [d1, d2] => { results := [.lit (.bool true)], args := [d1, d2] }
  | _ => none }
def fnExactCommonTilesRow : OpenClaim := { program := "ytafpiembiiicoaa", sum := "820c68a288e52579a164b753f19cf2a1d10124b2c0680af23ca10b8cfe81808c", func := "loop.example/g01354/laws.FnExactCommonTiles", spec := "fnExactCommonTiles", plainKeys := false, apart := false }
def FnExactCommonTilesSaid : Prop := fnExactCommonTilesRow.holds Try.pinned (OpenSpec.ofChange fnExactCommonTilesSpec)

/-- ITS FALSE NEIGHBOUR: 'it returns false'. Refute it at one input. -/
def fnExactCommonTilesWrong : ChangeSpec := { name := "fnExactCommonTiles", fn := fun _ => fun
  | [d1, d2] => { results := [.lit (.bool false)], args := [d1, d2] }
  | _ => none }
def FnExactCommonTilesWrongFalsely : Prop := fnExactCommonTilesRow.holds Try.pinned (OpenSpec.ofChange fnExactCommonTilesWrong)

/-- 'laws.FnExactIsRow': WHATEVER THE INPUT: true; the input reads as it did. -/
def fnExactIsRowSpec : ChangeSpec := { name := "fnExactIsRow", fn := fun _ => fun
  | [d1, d2] => { results := [.lit (.bool true)], args := [d1, d2] }
  | _ => none }
def fnExactIsRowRow : OpenClaim := { program := "ytafpiembiiicoaa", sum := "820c68a288e52579a164b753f19cf2a1d10124b2c0680af23ca10b8cfe81808c", func := "loop.example/g01354/laws.FnExactIsRow", spec := "fnExactIsRow", plainKeys := false, apart := false }
def FnExactIsRowSaid : Prop := fnExactIsRowRow.holds Try.pinned (OpenSpec.ofChange fnExactIsRowSpec)

/-- ITS FALSE NEIGHBOUR: 'it returns false'. Refute it at one input. -/
def fnExactIsRowWrong : ChangeSpec := { name := "fnExactIsRow", fn := fun _ => fun
  | [d1, d2] => { results := [.lit (.bool false)], args := [d1, d2] }
  | _ => none }
def FnExactIsRowWrongFalsely : Prop := fnExactIsRowRow.holds Try.pinned (OpenSpec.ofChange fnExactIsRowWrong)

/-- 'laws.FnExactWordsOfRow': WHATEVER THE INPUT: true; the input reads as it did. -/
def fnExactWordsOfRowSpec : ChangeSpec := { name := "fnExactWordsOfRow", fn := fun _ => fun
  | [d1, d2] => { results := [.lit (.bool true)], args := [d1, d2] }
  | _ => none }
def fnExactWordsOfRowRow : OpenClaim := { program := "ytafpiembiiicoaa", sum := "820c68a288e52579a164b753f19cf2a1d10124b2c0680af23ca10b8cfe81808c", func := "loop.example/g01354/laws.FnExactWordsOfRow", spec := "fnExactWordsOfRow", plainKeys := false, apart := false }
def FnExactWordsOfRowSaid : Prop := fnExactWordsOfRowRow.holds Try.pinned (OpenSpec.ofChange fnExactWordsOfRowSpec)

/-- ITS FALSE NEIGHBOUR: 'it returns false'. Refute it at one input. -/
def fnExactWordsOfRowWrong : ChangeSpec := { name := "fnExactWordsOfRow", fn := fun _ => fun
  | [d1, d2] => { results := [.lit (.bool false)], args := [d1, d2] }
  | _ => none }
def FnExactWordsOfRowWrongFalsely : Prop := fnExactWordsOfRowRow.holds Try.pinned (OpenSpec.ofChange fnExactWordsOfRowWrong)

/- THE SECOND FORM. 'bulk': how many values and letters a reading holds, each counted each time it is reached (what is shared counts as often as it is met; a slice's spare places count too). A statement '..UptoSaid' is the law's where the arguments, and the package variables that the reading takes, are together of bulk at most 1048576: NARROWER than '..Said'. Prove '..Said' where nothing that the law and all that it calls make is longer than what came in: it says more and counts as full. Else prove '..UptoSaid'. A law counts once. -/
mutual
def uptoBulk {H : Type} : DataW H → Nat
  | .lit (.string bytes) => bytes.length + 1
  | .lit _ => 1
  | .nil => 1
  | .ptr d => uptoBulk d + 1
  | .slice elems spare => uptoBulkAll elems + uptoBulkAll spare + 1
  | .agg parts => uptoBulkAll parts + 1
  | .iface _ d => uptoBulk d + 1
  | .map entries => uptoBulkEntries entries + 1
  | .held _ => 1
def uptoBulkAll {H : Type} : List (DataW H) → Nat
  | [] => 0
  | d :: r => uptoBulk d + uptoBulkAll r
def uptoBulkEntries {H : Type} : List (Lit × DataW H) → Nat
  | [] => 0
  | x :: r => uptoBulkEntry x + uptoBulkEntries r
def uptoBulkEntry {H : Type} : Lit × DataW H → Nat
  | (.string bytes, d) => bytes.length + uptoBulk d + 1
  | (_, d) => uptoBulk d + 1
 end
def uptoSmall : (H : Type) → List (DataW H) → Bool := fun _ ds => decide (uptoBulkAll ds ≤ 1048576)
def OpenSpec.upto (s : _root_.Go.ChangeSpec) : _root_.Go.OpenSpec := { _root_.Go.OpenSpec.ofChange s with cond := some uptoSmall }

/-- 'laws.FnExactSetOf', WHERE WHAT IT READS IS OF BULK AT MOST 1048576: true; the input reads as it did. -/
def fnExactSetOfUptoRow : OpenClaim := { program := "ytafpiembiiicoaa", sum := "820c68a288e52579a164b753f19cf2a1d10124b2c0680af23ca10b8cfe81808c", func := "loop.example/g01354/laws.FnExactSetOf", spec := "fnExactSetOf", unfollowed := true, recurses := true, plainKeys := false, apart := false, narrowed := true }
def FnExactSetOfUptoSaid : Prop := fnExactSetOfUptoRow.holds Try.pinned (OpenSpec.upto fnExactSetOfSpec)

/-- 'laws.FnExactPutTile', WHERE WHAT IT READS IS OF BULK AT MOST 1048576: true; the input reads as it did. -/
def fnExactPutTileUptoRow : OpenClaim := { program := "ytafpiembiiicoaa", sum := "820c68a288e52579a164b753f19cf2a1d10124b2c0680af23ca10b8cfe81808c", func := "loop.example/g01354/laws.FnExactPutTile", spec := "fnExactPutTile", unfollowed := true, recurses := true, plainKeys := false, apart := false, narrowed := true }
def FnExactPutTileUptoSaid : Prop := fnExactPutTileUptoRow.holds Try.pinned (OpenSpec.upto fnExactPutTileSpec)

/-- 'laws.FnExactRenameColours', WHERE WHAT IT READS IS OF BULK AT MOST 1048576: true; the input reads as it did. -/
def fnExactRenameColoursUptoRow : OpenClaim := { program := "ytafpiembiiicoaa", sum := "820c68a288e52579a164b753f19cf2a1d10124b2c0680af23ca10b8cfe81808c", func := "loop.example/g01354/laws.FnExactRenameColours", spec := "fnExactRenameColours", unfollowed := true, recurses := true, plainKeys := false, apart := false, narrowed := true }
def FnExactRenameColoursUptoSaid : Prop := fnExactRenameColoursUptoRow.holds Try.pinned (OpenSpec.upto fnExactRenameColoursSpec)

/-- 'laws.FnExactJoinSets', WHERE WHAT IT READS IS OF BULK AT MOST 1048576: true; the input reads as it did. -/
def fnExactJoinSetsUptoRow : OpenClaim := { program := "ytafpiembiiicoaa", sum := "820c68a288e52579a164b753f19cf2a1d10124b2c0680af23ca10b8cfe81808c", func := "loop.example/g01354/laws.FnExactJoinSets", spec := "fnExactJoinSets", unfollowed := true, recurses := true, plainKeys := false, apart := false, narrowed := true }
def FnExactJoinSetsUptoSaid : Prop := fnExactJoinSetsUptoRow.holds Try.pinned (OpenSpec.upto fnExactJoinSetsSpec)

/-- 'laws.FnExactProductOfSets', WHERE WHAT IT READS IS OF BULK AT MOST 1048576: true; the input reads as it did. -/
def fnExactProductOfSetsUptoRow : OpenClaim := { program := "ytafpiembiiicoaa", sum := "820c68a288e52579a164b753f19cf2a1d10124b2c0680af23ca10b8cfe81808c", func := "loop.example/g01354/laws.FnExactProductOfSets", spec := "fnExactProductOfSets", unfollowed := true, recurses := true, plainKeys := false, apart := false, narrowed := true }
def FnExactProductOfSetsUptoSaid : Prop := fnExactProductOfSetsUptoRow.holds Try.pinned (OpenSpec.upto fnExactProductOfSetsSpec)

/-- 'laws.FnExactRightOf', WHERE WHAT IT READS IS OF BULK AT MOST 1048576: true; the input reads as it did. -/
def fnExactRightOfUptoRow : OpenClaim := { program := "ytafpiembiiicoaa", sum := "820c68a288e52579a164b753f19cf2a1d10124b2c0680af23ca10b8cfe81808c", func := "loop.example/g01354/laws.FnExactRightOf", spec := "fnExactRightOf", unfollowed := true, recurses := true, plainKeys := false, apart := false, narrowed := true }
def FnExactRightOfUptoSaid : Prop := fnExactRightOfUptoRow.holds Try.pinned (OpenSpec.upto fnExactRightOfSpec)

/-- 'laws.FnExactBelowOf', WHERE WHAT IT READS IS OF BULK AT MOST 1048576: true; the input reads as it did. -/
def fnExactBelowOfUptoRow : OpenClaim := { program := "ytafpiembiiicoaa", sum := "820c68a288e52579a164b753f19cf2a1d10124b2c0680af23ca10b8cfe81808c", func := "loop.example/g01354/laws.FnExactBelowOf", spec := "fnExactBelowOf", unfollowed := true, recurses := true, plainKeys := false, apart := false, narrowed := true }
def FnExactBelowOfUptoSaid : Prop := fnExactBelowOfUptoRow.holds Try.pinned (OpenSpec.upto fnExactBelowOfSpec)

/-- 'laws.FnExactIsFilling', WHERE WHAT IT READS IS OF BULK AT MOST 1048576: true; the input reads as it did. -/
def fnExactIsFillingUptoRow : OpenClaim := { program := "ytafpiembiiicoaa", sum := "820c68a288e52579a164b753f19cf2a1d10124b2c0680af23ca10b8cfe81808c", func := "loop.example/g01354/laws.FnExactIsFilling", spec := "fnExactIsFilling", plainKeys := false, apart := false, narrowed := true }
def FnExactIsFillingUptoSaid : Prop := fnExactIsFillingUptoRow.holds Try.pinned (OpenSpec.upto fnExactIsFillingSpec)

/-- 'laws.FnExactBordersOf', WHERE WHAT IT READS IS OF BULK AT MOST 1048576: true; the input reads as it did. -/
def fnExactBordersOfUptoRow : OpenClaim := { program := "ytafpiembiiicoaa", sum := "820c68a288e52579a164b753f19cf2a1d10124b2c0680af23ca10b8cfe81808c", func := "loop.example/g01354/laws.FnExactBordersOf", spec := "fnExactBordersOf", plainKeys := false, apart := false, narrowed := true }
def FnExactBordersOfUptoSaid : Prop := fnExactBordersOfUptoRow.holds Try.pinned (OpenSpec.upto fnExactBordersOfSpec)

/-- 'laws.FnExactCommonTiles', WHERE WHAT IT READS IS OF BULK AT MOST 1048576: true; the input reads as it did. -/
def fnExactCommonTilesUptoRow : OpenClaim := { program := "ytafpiembiiicoaa", sum := "820c68a288e52579a164b753f19cf2a1d10124b2c0680af23ca10b8cfe81808c", func := "loop.example/g01354/laws.FnExactCommonTiles", spec := "fnExactCommonTiles", plainKeys := false, apart := false, narrowed := true }
def FnExactCommonTilesUptoSaid : Prop := fnExactCommonTilesUptoRow.holds Try.pinned (OpenSpec.upto fnExactCommonTilesSpec)

/-- 'laws.FnExactIsRow', WHERE WHAT IT READS IS OF BULK AT MOST 1048576: true; the input reads as it did. -/
def fnExactIsRowUptoRow : OpenClaim := { program := "ytafpiembiiicoaa", sum := "820c68a288e52579a164b753f19cf2a1d10124b2c0680af23ca10b8cfe81808c", func := "loop.example/g01354/laws.FnExactIsRow", spec := "fnExactIsRow", plainKeys := false, apart := false, narrowed := true }
def FnExactIsRowUptoSaid : Prop := fnExactIsRowUptoRow.holds Try.pinned (OpenSpec.upto fnExactIsRowSpec)

/-- 'laws.FnExactWordsOfRow', WHERE WHAT IT READS IS OF BULK AT MOST 1048576: true; the input reads as it did. -/
def fnExactWordsOfRowUptoRow : OpenClaim := { program := "ytafpiembiiicoaa", sum := "820c68a288e52579a164b753f19cf2a1d10124b2c0680af23ca10b8cfe81808c", func := "loop.example/g01354/laws.FnExactWordsOfRow", spec := "fnExactWordsOfRow", plainKeys := false, apart := false, narrowed := true }
def FnExactWordsOfRowUptoSaid : Prop := fnExactWordsOfRowUptoRow.holds Try.pinned (OpenSpec.upto fnExactWordsOfRowSpec)

end Rows
end Go.Proofs.Ytafpiembiiicoaa
