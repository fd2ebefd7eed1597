/-
  No cell of these rows narrows 'for every input' (looked for: loops, veiled, ifaces, maps, wideKeys, modest, calm, conditions, laid).
  DERIVED. THE GIVEN ROWS OF THIS SEAT. 12 by the template 'for every input the law returns true; each argument reads behind the call as it read before'; 0 by the template 'total and deterministic' (their statements: YtjbnmkiidongmaaTotals.lean).
  GIVEN WITH THE SEED: the statements are not yours to turn. If you find one false, say at which input.
  Laid BY PROGRAM, IN A SANDBOX (cutbox-rows.mjs): the forced cells as the released guide's own fill.sh prints them over the translation cb55dbf954ff5919… (all of the seat's roots in one cut). By AI agents, Wed Nov 11 2026. No macro, syntax, notation, axiom, sorry.
-/
import Derived.Test.YtjbnmkiidongmaaChecked
import GoSem.Claim
import GoSem.ClaimJoined
import GoSem.ClaimMapViews
import Derived.JoinedTies
import Derived.KernelRfl
namespace Go.Proofs.Ytjbnmkiidongmaa
/- THE CELL 'sum', in the pinned program and in every row, IS THE sha256 OF THE DUMP (.gsa) THAT YtjbnmkiidongmaaProg.lean LOADS. Nothing in Lean hashes anything: it is a label: what it is worth is what the hold of that sum in a sandbox is worth. -/
noncomputable def Try.pinned : Pinned := { name := "ytjbnmkiidongmaa", sum := "cb55dbf954ff5919d48d84acb961e548e57c8bbaa8bd30df75dbdf15b6173842", checked := Try.checked }
namespace Rows
def none {H : Type} : Left H := { results := [], args := [] }

/-- 'laws.FnExactFreePlan': WHATEVER THE INPUT: true; the input reads as it did. -/
def fnExactFreePlanSpec : ChangeSpec := { name := "fnExactFreePlan", fn := fun _ => fun
  | [d1, d2] => { results := [.lit (.bool true)], args := [d1, d2] }
  | _ => none }
def fnExactFreePlanRow : OpenClaim := { program := "ytjbnmkiidongmaa", sum := "cb55dbf954ff5919d48d84acb961e548e57c8bbaa8bd30df75dbdf15b6173842", func := "loop.example/g01354/laws.FnExactFreePlan", spec := "fnExactFreePlan", plainKeys := false, apart := false }
def FnExactFreePlanSaid : Prop := fnExactFreePlanRow.holds Try.pinned (OpenSpec.ofChange fnExactFreePlanSpec)

/-- ITS FALSE NEIGHBOUR: 'it returns false'. Refute it at one input. -/
def fnExactFreePlanWrong : ChangeSpec := { name := "fnExactFreePlan", fn := fun _ => fun
  | [d1, d2] => { results := [.lit (.bool false)], args := [d1, d2] }
  | _ => none }
def FnExactFreePlanWrongFalsely : Prop := fnExactFreePlanRow.holds Try.pinned (OpenSpec.ofChange fnExactFreePlanWrong)

/-- 'laws.FnExactBordersOf': WHATEVER THE INPUT: true; the input reads as it did. -/
def fnExactBordersOfSpec : ChangeSpec := { name := "fnExactBordersOf", fn := fun _ => fun
  | [d1, d2] => { results := [.lit (.bool true)], args := [d1, d2] }
  | _ => none }
def fnExactBordersOfRow : OpenClaim := { program := "ytjbnmkiidongmaa", sum := "cb55dbf954ff5919d48d84acb961e548e57c8bbaa8bd30df75dbdf15b6173842", func := "loop.example/g01354/laws.FnExactBordersOf", spec := "fnExactBordersOf", plainKeys := false, apart := false }
def FnExactBordersOfSaid : Prop := fnExactBordersOfRow.holds Try.pinned (OpenSpec.ofChange fnExactBordersOfSpec)

/-- ITS FALSE NEIGHBOUR: 'it returns false'. Refute it at one input. -/
def fnExactBordersOfWrong : ChangeSpec := { name := "fnExactBordersOf", fn := fun _ => fun
  | [d1, d2] => { results := [.lit (.bool false)], args := [d1, d2] }
  | _ => none }
def FnExactBordersOfWrongFalsely : Prop := fnExactBordersOfRow.holds Try.pinned (OpenSpec.ofChange fnExactBordersOfWrong)

/-- 'laws.FnExactLastingTiles': WHATEVER THE INPUT: true; the input reads as it did. -/
def fnExactLastingTilesSpec : ChangeSpec := { name := "fnExactLastingTiles", fn := fun _ => fun
  | [d] => { results := [.lit (.bool true)], args := [d] }
  | _ => none }
def fnExactLastingTilesRow : OpenClaim := { program := "ytjbnmkiidongmaa", sum := "cb55dbf954ff5919d48d84acb961e548e57c8bbaa8bd30df75dbdf15b6173842", func := "loop.example/g01354/laws.FnExactLastingTiles", spec := "fnExactLastingTiles", plainKeys := false, apart := false }
def FnExactLastingTilesSaid : Prop := fnExactLastingTilesRow.holds Try.pinned (OpenSpec.ofChange fnExactLastingTilesSpec)

/-- ITS FALSE NEIGHBOUR: 'it returns false'. Refute it at one input. -/
def fnExactLastingTilesWrong : ChangeSpec := { name := "fnExactLastingTiles", fn := fun _ => fun
  | [d] => { results := [.lit (.bool false)], args := [d] }
  | _ => none }
def FnExactLastingTilesWrongFalsely : Prop := fnExactLastingTilesRow.holds Try.pinned (OpenSpec.ofChange fnExactLastingTilesWrong)

/-- 'laws.FnExactIsDetermined': WHATEVER THE INPUT: true; the input reads as it did. -/
def fnExactIsDeterminedSpec : ChangeSpec := { name := "fnExactIsDetermined", fn := fun _ => fun
  | [d1, d2] => { results := [.lit (.bool true)], args := [d1, d2] }
  | _ => none }
def fnExactIsDeterminedRow : OpenClaim := { program := "ytjbnmkiidongmaa", sum := "cb55dbf954ff5919d48d84acb961e548e57c8bbaa8bd30df75dbdf15b6173842", func := "loop.example/g01354/laws.FnExactIsDetermined", spec := "fnExactIsDetermined", plainKeys := false, apart := false }
def FnExactIsDeterminedSaid : Prop := fnExactIsDeterminedRow.holds Try.pinned (OpenSpec.ofChange fnExactIsDeterminedSpec)

/-- ITS FALSE NEIGHBOUR: 'it returns false'. Refute it at one input. -/
def fnExactIsDeterminedWrong : ChangeSpec := { name := "fnExactIsDetermined", fn := fun _ => fun
  | [d1, d2] => { results := [.lit (.bool false)], args := [d1, d2] }
  | _ => none }
def FnExactIsDeterminedWrongFalsely : Prop := fnExactIsDeterminedRow.holds Try.pinned (OpenSpec.ofChange fnExactIsDeterminedWrong)

/-- 'laws.FnExactRightOf': WHATEVER THE INPUT: true; the input reads as it did. -/
def fnExactRightOfSpec : ChangeSpec := { name := "fnExactRightOf", fn := fun _ => fun
  | [d1, d2] => { results := [.lit (.bool true)], args := [d1, d2] }
  | _ => none }
def fnExactRightOfRow : OpenClaim := { program := "ytjbnmkiidongmaa", sum := "cb55dbf954ff5919d48d84acb961e548e57c8bbaa8bd30df75dbdf15b6173842", func := "loop.example/g01354/laws.FnExactRightOf", spec := "fnExactRightOf", unfollowed := true, recurses := true, plainKeys := false, apart := false }
def FnExactRightOfSaid : Prop := fnExactRightOfRow.holds Try.pinned (OpenSpec.ofChange fnExactRightOfSpec)

/-- ITS FALSE NEIGHBOUR: 'it returns false'. Refute it at one input. -/
def fnExactRightOfWrong : ChangeSpec := { name := "fnExactRightOf", fn := fun _ => fun
  | [d1, d2] => { results := [.lit (.bool false)], args := [d1, d2] }
  | _ => none }
def FnExactRightOfWrongFalsely : Prop := fnExactRightOfRow.holds Try.pinned (OpenSpec.ofChange fnExactRightOfWrong)

/-- 'laws.FnExactBelowOf': WHATEVER THE INPUT: true; the input reads as it did. -/
def fnExactBelowOfSpec : ChangeSpec := { name := "fnExactBelowOf", fn := fun _ => fun
  | [d1, d2] => { results := [.lit (.bool true)], args := [d1, d2] }
  | _ => none }
def fnExactBelowOfRow : OpenClaim := { program := "ytjbnmkiidongmaa", sum := "cb55dbf954ff5919d48d84acb961e548e57c8bbaa8bd30df75dbdf15b6173842", func := "loop.example/g01354/laws.FnExactBelowOf", spec := "fnExactBelowOf", unfollowed := true, recurses := true, plainKeys := false, apart := false }
def FnExactBelowOfSaid : Prop := fnExactBelowOfRow.holds Try.pinned (OpenSpec.ofChange fnExactBelowOfSpec)

/-- ITS FALSE NEIGHBOUR: 'it returns false'. Refute it at one input. -/
def fnExactBelowOfWrong : ChangeSpec := { name := "fnExactBelowOf", fn := fun _ => fun
  | [d1, d2] => { results := [.lit (.bool false)], args := [d1, d2] }
  | _ => none }
def FnExactBelowOfWrongFalsely : Prop := fnExactBelowOfRow.holds Try.pinned (OpenSpec.ofChange fnExactBelowOfWrong)

/-- 'laws.FnExactRenameColours': WHATEVER THE INPUT: true; the input reads as it did. -/
def fnExactRenameColoursSpec : ChangeSpec := { name := "fnExactRenameColours", fn := fun _ => fun
  | [d1, d2] => { results := [.lit (.bool true)], args := [d1, d2] }
  | _ => none }
def fnExactRenameColoursRow : OpenClaim := { program := "ytjbnmkiidongmaa", sum := "cb55dbf954ff5919d48d84acb961e548e57c8bbaa8bd30df75dbdf15b6173842", func := "loop.example/g01354/laws.FnExactRenameColours", spec := "fnExactRenameColours", unfollowed := true, recurses := true, plainKeys := false, apart := false }
def FnExactRenameColoursSaid : Prop := fnExactRenameColoursRow.holds Try.pinned (OpenSpec.ofChange fnExactRenameColoursSpec)

/-- ITS FALSE NEIGHBOUR: 'it returns false'. Refute it at one input. -/
def fnExactRenameColoursWrong : ChangeSpec := { name := "fnExactRenameColours", fn := fun _ => fun
  | [d1, d2] => { results := [.lit (.bool false)], args := [d1, d2] }
  | _ => none }
def FnExactRenameColoursWrongFalsely : Prop := fnExactRenameColoursRow.holds Try.pinned (OpenSpec.ofChange fnExactRenameColoursWrong)

/-- 'laws.FnExactJoinSets': WHATEVER THE INPUT: true; the input reads as it did. -/
def fnExactJoinSetsSpec : ChangeSpec := { name := "fnExactJoinSets", fn := fun _ => fun
  | [d1, d2] => { results := [.lit (.bool true)], args := [d1, d2] }
  | _ => none }
def fnExactJoinSetsRow : OpenClaim := { program := "ytjbnmkiidongmaa", sum := "cb55dbf954ff5919d48d84acb961e548e57c8bbaa8bd30df75dbdf15b6173842", func := "loop.example/g01354/laws.FnExactJoinSets", spec := "fnExactJoinSets", unfollowed := true, recurses := true, plainKeys := false, apart := false }
def FnExactJoinSetsSaid : Prop := fnExactJoinSetsRow.holds Try.pinned (OpenSpec.ofChange fnExactJoinSetsSpec)

/-- ITS FALSE NEIGHBOUR: 'it returns false'. Refute it at one input. -/
def fnExactJoinSetsWrong : ChangeSpec := { name := "fnExactJoinSets", fn := fun _ => fun
  | [d1, d2] => { results := [.lit (.bool false)], args := [d1, d2] }
  | _ => none }
def FnExactJoinSetsWrongFalsely : Prop := fnExactJoinSetsRow.holds Try.pinned (OpenSpec.ofChange fnExactJoinSetsWrong)

/-- 'laws.FnExactProductOfSets': WHATEVER THE INPUT: true; the input reads as it did. -/
def fnExactProductOfSetsSpec : ChangeSpec := { name := "fnExactProductOfSets", fn := fun _ => fun
  | [d1, d2] => { results := [.lit (.bool true)], args := [d1, d2] }
  | _ => none }
def fnExactProductOfSetsRow : OpenClaim := { program := "ytjbnmkiidongmaa", sum := "cb55dbf954ff5919d48d84acb961e548e57c8bbaa8bd30df75dbdf15b6173842", func := "loop.example/g01354/laws.FnExactProductOfSets", spec := "fnExactProductOfSets", unfollowed := true, recurses := true, plainKeys := false, apart := false }
def FnExactProductOfSetsSaid : Prop := fnExactProductOfSetsRow.holds Try.pinned (OpenSpec.ofChange fnExactProductOfSetsSpec)

/-- ITS FALSE NEIGHBOUR: 'it returns false'. Refute it at one input. -/
def fnExactProductOfSetsWrong : ChangeSpec := { name := "fnExactProductOfSets", fn := fun _ => fun
  | [d1, d2] => { results := [.lit (.bool false)], args := [d1, d2] }
  | _ => none }
def FnExactProductOfSetsWrongFalsely : Prop := fnExactProductOfSetsRow.holds Try.pinned (OpenSpec.ofChange fnExactProductOfSetsWrong)

/-- 'laws.FnExactPutTile': WHATEVER THE INPUT: true; the input reads as it did. -/
def fnExactPutTileSpec : ChangeSpec := { name := "fnExactPutTile", fn := fun _ => fun
  | [d1, d2] => { results := [.lit (.bool true)], args := [d1, d2] }
  | _ => none }
def fnExactPutTileRow : OpenClaim := { program := "ytjbnmkiidongmaa", sum := "cb55dbf954ff5919d48d84acb961e548e57c8bbaa8bd30df75dbdf15b6173842", func := "loop.example/g01354/laws.FnExactPutTile", spec := "fnExactPutTile", unfollowed := true, recurses := true, plainKeys := false, apart := false }
def FnExactPutTileSaid : Prop := fnExactPutTileRow.holds Try.pinned (OpenSpec.ofChange fnExactPutTileSpec)

/-- ITS FALSE NEIGHBOUR: 'it returns false'. Refute it at one input. -/
def fnExactPutTileWrong : ChangeSpec := { name := "fnExactPutTile", fn := fun _ => fun
  | [d1, d2] => { results := [.lit (.bool false)], args := [d1, d2] }
  | _ => none }
def FnExactPutTileWrongFalsely : Prop := fnExactPutTileRow.holds Try.pinned (OpenSpec.ofChange fnExactPutTileWrong)

/-- 'laws.FnExactCommonTiles': WHATEVER THE INPUT: true; the input reads as it did. -/
def fnExactCommonTilesSpec : ChangeSpec := { name := "fnExactCommonTiles", fn := fun _ => fun
  | [d1, d2] => { results := [.lit (.bool true)], args := [d1, d2] }
  | _ => none }
def fnExactCommonTilesRow : OpenClaim := { program := "ytjbnmkiidongmaa", sum := "cb55dbf954ff5919d48d84acb961e548e57c8bbaa8bd30df75dbdf15b6173842", func := "loop.example/g01354/laws.FnExactCommonTiles", spec := "fnExactCommonTiles", plainKeys := false, apart := false }
def FnExactCommonTilesSaid : Prop := fnExactCommonTilesRow.holds Try.pinned (OpenSpec.ofChange fnExactCommonTilesSpec)

/-- ITS FALSE NEIGHBOUR: 'it returns false'. Refute it at one input. -/
def fnExactCommonTilesWrong : ChangeSpec := { name := "fnExactCommonTiles", fn := fun _ => fun
  | [d1, d2] => { results := [.lit (.bool false)], args := [d1, d2] }
  | _ => none }
def FnExactCommonTilesWrongFalsely : Prop := fnExactCommonTilesRow.holds Try.pinned (OpenSpec.ofChange fnExactCommonTilesWrong)

/-- 'laws.FnExactSetOf': WHATEVER THE INPUT: true; the input reads as it did. -/
def fnExactSetOfSpec : ChangeSpec := { name := "fnExactSetOf", fn := fun _ => fun
  | [d1, d2] => { results := [.lit (.bool true)], args := [d1, d2] }
  | _ => none }
def fnExactSetOfRow : OpenClaim := { program := "ytjbnmkiidongmaa", sum := "cb55dbf954ff5919d48d84acb961e548e57c8bbaa8bd30df75dbdf15b6173842", func := "loop.example/g01354/laws.FnExactSetOf", spec := "fnExactSetOf", unfollowed := true, recurses := true, plainKeys := false, apart := false }
def FnExactSetOfSaid : Prop := fnExactSetOfRow.holds Try.pinned (OpenSpec.ofChange fnExactSetOfSpec)

/-- ITS FALSE NEIGHBOUR: 'it returns false'. Refute it at one input. -/
def fnExactSetOfWrong : ChangeSpec := { name := "fnExactSetOf", fn := fun _ => fun
  | [d1, d2] => { results := [.lit (.bool false)], args := [d1, d2] }
  | _ => none }
def FnExactSetOfWrongFalsely : Prop := fnExactSetOfRow.holds Try.pinned (OpenSpec.ofChange fnExactSetOfWrong)

/- THE SECOND FORM. 'bulk': how many values and letters a reading holds, each counted each time it is reached (what is shared counts as often as it is met; a slice's spare places count too). A statement '..UptoSaid' is the law's where the arguments, and the package variables that the reading takes, are together of bulk at most 1048576: NARROWER than '..Said'. Prove '..Said' where nothing that the law and all that it calls make is longer than what came in: it says more and counts as full. Else prove '..UptoSaid'. A law counts once. -/
mutual
def uptoBulk {H : Type} : DataW H → Nat
  | .lit (.string bytes) => bytes.length + 1
  | .lit _ => 1
  | .nil => 1
  | .ptr d => uptoBulk d + 1
  | .slice elems spare => uptoBulkAll elems + uptoBulkAll spare + 1
  | .agg parts => uptoBulkAll parts + 1
  | .iface _ d => uptoBulk d + 1
  | .map entries => uptoBulkEntries entries + 1
  | .held _ => 1
def uptoBulkAll {H : Type} : List (DataW H) → Nat
  | [] => 0
  | d :: r => uptoBulk d + uptoBulkAll r
def uptoBulkEntries {H : Type} : List (Lit × DataW H) → Nat
  | [] => 0
  | x :: r => uptoBulkEntry x + uptoBulkEntries r
def uptoBulkEntry {H : Type} : Lit × DataW H → Nat
  | (.string bytes, d) => bytes.length + uptoBulk d + 1
  | (_, d) => uptoBulk d + 1
 end
def uptoSmall : (H : Type) → List (DataW H) → Bool := fun _ ds => decide (uptoBulkAll ds ≤ 1048576)
def OpenSpec.upto (s : _root_.Go.ChangeSpec) : _root_.Go.OpenSpec := { _root_.Go.OpenSpec.ofChange s with cond := some uptoSmall }

/-- 'laws.FnExactFreePlan', WHERE WHAT IT READS IS OF BULK AT MOST 1048576: true; the input reads as it did. -/
def fnExactFreePlanUptoRow : OpenClaim := { program := "ytjbnmkiidongmaa", sum := "cb55dbf954ff5919d48d84acb961e548e57c8bbaa8bd30df75dbdf15b6173842", func := "loop.example/g01354/laws.FnExactFreePlan", spec := "fnExactFreePlan", plainKeys := false, apart := false, narrowed := true }
def FnExactFreePlanUptoSaid : Prop := fnExactFreePlanUptoRow.holds Try.pinned (OpenSpec.upto fnExactFreePlanSpec)

/-- 'laws.FnExactBordersOf', WHERE WHAT IT READS IS OF BULK AT MOST 1048576: true; the input reads as it did. -/
def fnExactBordersOfUptoRow : OpenClaim := { program := "ytjbnmkiidongmaa", sum := "cb55dbf954ff5919d48d84acb961e548e57c8bbaa8bd30df75dbdf15b6173842", func := "loop.example/g01354/laws.FnExactBordersOf", spec := "fnExactBordersOf", plainKeys := false, apart := false, narrowed := true }
def FnExactBordersOfUptoSaid : Prop := fnExactBordersOfUptoRow.holds Try.pinned (OpenSpec.upto fnExactBordersOfSpec)

/-- 'laws.FnExactLastingTiles', WHERE WHAT IT READS IS OF BULK AT MOST 1048576: true; the input reads as it did. -/
def fnExactLastingTilesUptoRow : OpenClaim := { program := "ytjbnmkiidongmaa", sum := "cb55dbf954ff5919d48d84acb961e548e57c8bbaa8bd30df75dbdf15b6173842", func := "loop.example/g01354/laws.FnExactLastingTiles", spec := "fnExactLastingTiles", plainKeys := false, apart := false, narrowed := true }
def FnExactLastingTilesUptoSaid : Prop := fnExactLastingTilesUptoRow.holds Try.pinned (OpenSpec.upto fnExactLastingTilesSpec)

/-- 'laws.FnExactIsDetermined', WHERE WHAT IT READS IS OF BULK AT MOST 1048576: true; the input reads as it did. -/
def fnExactIsDeterminedUptoRow : OpenClaim := { program := "ytjbnmkiidongmaa", sum := "cb55dbf954ff5919d48d84acb961e548e57c8bbaa8bd30df75dbdf15b6173842", func := "loop.example/g01354/laws.FnExactIsDetermined", spec := "fnExactIsDetermined", plainKeys := false, apart := false, narrowed := true }
def FnExactIsDeterminedUptoSaid : Prop := fnExactIsDeterminedUptoRow.holds Try.pinned (OpenSpec.upto fnExactIsDeterminedSpec)

/-- 'laws.FnExactRightOf', WHERE WHAT IT READS IS OF BULK AT MOST 1048576: true; the input reads as it did. -/
def fnExactRightOfUptoRow : OpenClaim := { program := "ytjbnmkiidongmaa", sum := "cb55dbf954ff5919d48d84acb961e548e57c8bbaa8bd30df75dbdf15b6173842", func := "loop.example/g01354/laws.FnExactRightOf", spec := "fnExactRightOf", unfollowed := true, recurses := true, plainKeys := false, apart := false, narrowed := true }
def FnExactRightOfUptoSaid : Prop := fnExactRightOfUptoRow.holds Try.pinned (OpenSpec.upto fnExactRightOfSpec)

/-- 'laws.FnExactBelowOf', WHERE WHAT IT READS IS OF BULK AT MOST 1048576: true; the input reads as it did. -/
def fnExactBelowOfUptoRow : OpenClaim := { program := "ytjbnmkiidongmaa", sum := "cb55dbf954ff5919d48d84acb961e548e57c8bbaa8bd30df75dbdf15b6173842", func := "loop.example/g01354/laws.FnExactBelowOf", spec := "fnExactBelowOf", unfollowed := true, recurses := true, plainKeys := false, apart := false, narrowed := true }
def FnExactBelowOfUptoSaid : Prop := fnExactBelowOfUptoRow.holds Try.pinned (OpenSpec.upto fnExactBelowOfSpec)

/-- 'laws.FnExactRenameColours', WHERE WHAT IT READS IS OF BULK AT MOST 1048576: true; the input reads as it did. -/
def fnExactRenameColoursUptoRow : OpenClaim := { program := "ytjbnmkiidongmaa", sum := "cb55dbf954ff5919d48d84acb961e548e57c8bbaa8bd30df75dbdf15b6173842", func := "loop.example/g01354/laws.FnExactRenameColours", spec := "fnExactRenameColours", unfollowed := true, recurses := true, plainKeys := false, apart := false, narrowed := true }
def FnExactRenameColoursUptoSaid : Prop := fnExactRenameColoursUptoRow.holds Try.pinned (OpenSpec.upto fnExactRenameColoursSpec)

/-- 'laws.FnExactJoinSets', WHERE WHAT IT READS IS OF BULK AT MOST 1048576: true; the input reads as it did. -/
def fnExactJoinSetsUptoRow : OpenClaim := { program := "ytjbnmkiidongmaa", sum := "cb55dbf954ff5919d48d84acb961e548e57c8bbaa8bd30df75dbdf15b6173842", func := "loop.example/g01354/laws.FnExactJoinSets", spec := "fnExactJoinSets", unfollowed := true, recurses := true, plainKeys := false, apart := false, narrowed := true }
def FnExactJoinSetsUptoSaid : Prop := fnExactJoinSetsUptoRow.holds Try.pinned (OpenSpec.upto fnExactJoinSetsSpec)

/-- 'laws.FnExactProductOfSets', WHERE WHAT IT READS IS OF BULK AT MOST 1048576: true; the input reads as it did. -/
def fnExactProductOfSetsUptoRow : OpenClaim := { program := "ytjbnmkiidongmaa", sum := "cb55dbf954ff5919d48d84acb961e548e57c8bbaa8bd30df75dbdf15b6173842", func := "loop.example/g01354/laws.FnExactProductOfSets", spec := "fnExactProductOfSets", unfollowed := true, recurses := true, plainKeys := false, apart := false, narrowed := true }
def FnExactProductOfSetsUptoSaid : Prop := fnExactProductOfSetsUptoRow.holds Try.pinned (OpenSpec.upto fnExactProductOfSetsSpec)

/-- 'laws.FnExactPutTile', WHERE WHAT IT READS IS OF BULK AT MOST 1048576: true; the input reads as it did. -/
def fnExactPutTileUptoRow : OpenClaim := { program := "ytjbnmkiidongmaa", sum := "cb55dbf954ff5919d48d84acb961e548e57c8bbaa8bd30df75dbdf15b6173842", func := "loop.example/g01354/laws.FnExactPutTile", spec := "fnExactPutTile", unfollowed := true, recurses := true, plainKeys := false, apart := false, narrowed := true }
def FnExactPutTileUptoSaid : Prop := fnExactPutTileUptoRow.holds Try.pinned (OpenSpec.upto fnExactPutTileSpec)

/-- 'laws.FnExactCommonTiles', WHERE WHAT IT READS IS OF BULK AT MOST 1048576: true; the input reads as it did. -/
def fnExactCommonTilesUptoRow : OpenClaim := { program := "ytjbnmkiidongmaa", sum := "cb55dbf954ff5919d48d84acb961e548e57c8bbaa8bd30df75dbdf15b6173842", func := "loop.example/g01354/laws.FnExactCommonTiles", spec := "fnExactCommonTiles", plainKeys := false, apart := false, narrowed := true }
def FnExactCommonTilesUptoSaid : Prop := fnExactCommonTilesUptoRow.holds Try.pinned (OpenSpec.upto fnExactCommonTilesSpec)

/-- 'laws.FnExactSetOf', WHERE WHAT IT READS IS OF BULK AT MOST 1048576: true; the input reads as it did. -/
def fnExactSetOfUptoRow : OpenClaim := { program := "ytjbnmkiidongmaa", sum := "cb55dbf954ff5919d48d84acb961e548e57c8bbaa8bd30df75dbdf15b6173842", func := "loop.example/g01354/laws.FnExactSetOf", spec := "fnExactSetOf", unfollowed := true, recurses := true, plainKeys := false, apart := false, narrowed := true }
def FnExactSetOfUptoSaid : Prop := fnExactSetOfUptoRow.holds Try.pinned (OpenSpec.upto fnExactSetOfSpec)

end Rows
end Go.Proofs.Ytjbnmkiidongmaa
