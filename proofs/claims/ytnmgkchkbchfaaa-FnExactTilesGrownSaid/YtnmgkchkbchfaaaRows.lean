/-
  No cell of these rows narrows 'for every input' (looked for: loops, veiled, ifaces, maps, wideKeys, modest, calm, conditions, laid).
  DERIVED. THE GIVEN ROWS OF THIS SEAT. 11 by the template 'for every input the law returns true; each argument reads behind the call as it read before'; 0 by the template 'total and deterministic' (their statements: YtnmgkchkbchfaaaTotals.lean).
  GIVEN WITH THE SEED: the statements are not yours to turn. If you find one false, say at which input.
  Laid BY PROGRAM, IN A SANDBOX (cutbox-rows.mjs): the forced cells as the released guide's own fill.sh prints them over the translation b20c450b9a38f345… (all of the seat's roots in one cut). By AI agents, Wed Nov 11 2026. No macro, syntax, notation, axiom, sorry.
-/
import Derived.Test.YtnmgkchkbchfaaaChecked
import GoSem.Claim
import GoSem.ClaimJoined
import GoSem.ClaimMapViews
import Derived.JoinedTies
import Derived.KernelRfl
namespace Go.Proofs.Ytnmgkchkbchfaaa
/- THE CELL 'sum', in the pinned program and in every row, IS THE sha256 OF THE DUMP (.gsa) THAT YtnmgkchkbchfaaaProg.lean LOADS. Nothing in Lean hashes anything: it is a label: what it is worth is what the hold of that sum in a sandbox is worth. -/
noncomputable def Try.pinned : Pinned := { name := "ytnmgkchkbchfaaa", sum := "b20c450b9a38f345566f65419fb1cbaaf9cd821a557f01e8a820de52df1241fc", checked := Try.checked }
namespace Rows
def none {H : Type} : Left H := { results := [], args := [] }

/-- 'laws.FnExactIsRule': WHATEVER THE INPUT: true; the input reads as it did. -/
def fnExactIsRuleSpec : ChangeSpec := { name := "fnExactIsRule", fn := fun _ => fun
  | [d1, d2] => { results := [.lit (.bool true)], args := [d1, d2] }
  | _ => none }
def fnExactIsRuleRow : OpenClaim := { program := "ytnmgkchkbchfaaa", sum := "b20c450b9a38f345566f65419fb1cbaaf9cd821a557f01e8a820de52df1241fc", func := "loop.example/g01354/laws.FnExactIsRule", spec := "fnExactIsRule", unfollowed := true, recurses := true, leaving := true, apart := false }
def FnExactIsRuleSaid : Prop := fnExactIsRuleRow.holds Try.pinned (OpenSpec.ofChange fnExactIsRuleSpec)

/-- ITS FALSE NEIGHBOUR: 'it returns false'. Refute it at one input. -/
def fnExactIsRuleWrong : ChangeSpec := { name := "fnExactIsRule", fn := fun _ => fun
  | [d1, d2] => { results := [.lit (.bool false)], args := [d1, d2] }
  | _ => none }
def FnExactIsRuleWrongFalsely : Prop := fnExactIsRuleRow.holds Try.pinned (OpenSpec.ofChange fnExactIsRuleWrong)

/-- 'laws.FnExactIsOneToOne': WHATEVER THE INPUT: true; the input reads as it did. -/
def fnExactIsOneToOneSpec : ChangeSpec := { name := "fnExactIsOneToOne", fn := fun _ => fun
  | [d1, d2] => { results := [.lit (.bool true)], args := [d1, d2] }
  | _ => none }
def fnExactIsOneToOneRow : OpenClaim := { program := "ytnmgkchkbchfaaa", sum := "b20c450b9a38f345566f65419fb1cbaaf9cd821a557f01e8a820de52df1241fc", func := "loop.example/g01354/laws.FnExactIsOneToOne", spec := "fnExactIsOneToOne", apart := false }
def FnExactIsOneToOneSaid : Prop := fnExactIsOneToOneRow.holds Try.pinned (OpenSpec.ofChange fnExactIsOneToOneSpec)

/-- ITS FALSE NEIGHBOUR: 'it returns false'. Refute it at one input. -/
def fnExactIsOneToOneWrong : ChangeSpec := { name := "fnExactIsOneToOne", fn := fun _ => fun
  | [d1, d2] => { results := [.lit (.bool false)], args := [d1, d2] }
  | _ => none }
def FnExactIsOneToOneWrongFalsely : Prop := fnExactIsOneToOneRow.holds Try.pinned (OpenSpec.ofChange fnExactIsOneToOneWrong)

/-- 'laws.FnExactGrowRows': WHATEVER THE INPUT: true; the input reads as it did. -/
def fnExactGrowRowsSpec : ChangeSpec := { name := "fnExactGrowRows", fn := fun _ => fun
  | [d1, d2, d3] => { results := [.lit (.bool true)], args := [d1, d2, d3] }
  | _ => none }
def fnExactGrowRowsRow : OpenClaim := { program := "ytnmgkchkbchfaaa", sum := "b20c450b9a38f345566f65419fb1cbaaf9cd821a557f01e8a820de52df1241fc", func := "loop.example/g01354/laws.FnExactGrowRows", spec := "fnExactGrowRows", apart := false }
def FnExactGrowRowsSaid : Prop := fnExactGrowRowsRow.holds Try.pinned (OpenSpec.ofChange fnExactGrowRowsSpec)

/-- ITS FALSE NEIGHBOUR: 'it returns false'. Refute it at one input. -/
def fnExactGrowRowsWrong : ChangeSpec := { name := "fnExactGrowRows", fn := fun _ => fun
  | [d1, d2, d3] => { results := [.lit (.bool false)], args := [d1, d2, d3] }
  | _ => none }
def FnExactGrowRowsWrongFalsely : Prop := fnExactGrowRowsRow.holds Try.pinned (OpenSpec.ofChange fnExactGrowRowsWrong)

/-- 'laws.FnExactShrinkRows': WHATEVER THE INPUT: true; the input reads as it did. -/
def fnExactShrinkRowsSpec : ChangeSpec := { name := "fnExactShrinkRows", fn := fun _ => fun
  | [d1, d2, d3] => { results := [.lit (.bool true)], args := [d1, d2, d3] }
  | _ => none }
def fnExactShrinkRowsRow : OpenClaim := { program := "ytnmgkchkbchfaaa", sum := "b20c450b9a38f345566f65419fb1cbaaf9cd821a557f01e8a820de52df1241fc", func := "loop.example/g01354/laws.FnExactShrinkRows", spec := "fnExactShrinkRows", unfollowed := true, recurses := true, leaving := true, apart := false }
def FnExactShrinkRowsSaid : Prop := fnExactShrinkRowsRow.holds Try.pinned (OpenSpec.ofChange fnExactShrinkRowsSpec)

/-- ITS FALSE NEIGHBOUR: 'it returns false'. Refute it at one input. -/
def fnExactShrinkRowsWrong : ChangeSpec := { name := "fnExactShrinkRows", fn := fun _ => fun
  | [d1, d2, d3] => { results := [.lit (.bool false)], args := [d1, d2, d3] }
  | _ => none }
def FnExactShrinkRowsWrongFalsely : Prop := fnExactShrinkRowsRow.holds Try.pinned (OpenSpec.ofChange fnExactShrinkRowsWrong)

/-- 'laws.FnExactGrowTile': WHATEVER THE INPUT: true; the input reads as it did. -/
def fnExactGrowTileSpec : ChangeSpec := { name := "fnExactGrowTile", fn := fun _ => fun
  | [d1, d2, d3, d4] => { results := [.lit (.bool true)], args := [d1, d2, d3, d4] }
  | _ => none }
def fnExactGrowTileRow : OpenClaim := { program := "ytnmgkchkbchfaaa", sum := "b20c450b9a38f345566f65419fb1cbaaf9cd821a557f01e8a820de52df1241fc", func := "loop.example/g01354/laws.FnExactGrowTile", spec := "fnExactGrowTile", apart := false }
def FnExactGrowTileSaid : Prop := fnExactGrowTileRow.holds Try.pinned (OpenSpec.ofChange fnExactGrowTileSpec)

/-- ITS FALSE NEIGHBOUR: 'it returns false'. Refute it at one input. -/
def fnExactGrowTileWrong : ChangeSpec := { name := "fnExactGrowTile", fn := fun _ => fun
  | [d1, d2, d3, d4] => { results := [.lit (.bool false)], args := [d1, d2, d3, d4] }
  | _ => none }
def FnExactGrowTileWrongFalsely : Prop := fnExactGrowTileRow.holds Try.pinned (OpenSpec.ofChange fnExactGrowTileWrong)

/-- 'laws.FnExactNumbersAfter': WHATEVER THE INPUT: true; the input reads as it did. -/
def fnExactNumbersAfterSpec : ChangeSpec := { name := "fnExactNumbersAfter", fn := fun _ => fun
  | [d1, d2, d3, d4] => { results := [.lit (.bool true)], args := [d1, d2, d3, d4] }
  | _ => none }
def fnExactNumbersAfterRow : OpenClaim := { program := "ytnmgkchkbchfaaa", sum := "b20c450b9a38f345566f65419fb1cbaaf9cd821a557f01e8a820de52df1241fc", func := "loop.example/g01354/laws.FnExactNumbersAfter", spec := "fnExactNumbersAfter", inPlace := ["(*sync.WaitGroup).Add", "internal/race.ReleaseMerge", "internal/race.Disable", "internal/race.Enable", "internal/synctest.IsInBubble", "internal/synctest.Associate[sync.WaitGroup]", "sync.fatal", "sync/atomic.OrUint64", "sync/atomic.AddUint64", "internal/race.Read", "sync/atomic.LoadUint64", "sync/atomic.StoreUint64", "internal/synctest.Disassociate[sync.WaitGroup]", "sync.runtime_Semrelease", "(*sync.WaitGroup).Done", "(*sync.WaitGroup).Wait", "internal/race.Acquire", "internal/synctest.IsAssociated[sync.WaitGroup]", "sync/atomic.CompareAndSwapUint64", "internal/race.Write", "sync.runtime_SemacquireWaitGroup"], unfollowed := true, recurses := true, leaving := true, apart := false }
def FnExactNumbersAfterSaid : Prop := fnExactNumbersAfterRow.holds Try.pinned (OpenSpec.ofChange fnExactNumbersAfterSpec)

/-- ITS FALSE NEIGHBOUR: 'it returns false'. Refute it at one input. -/
def fnExactNumbersAfterWrong : ChangeSpec := { name := "fnExactNumbersAfter", fn := fun _ => fun
  | [d1, d2, d3, d4] => { results := [.lit (.bool false)], args := [d1, d2, d3, d4] }
  | _ => none }
def FnExactNumbersAfterWrongFalsely : Prop := fnExactNumbersAfterRow.holds Try.pinned (OpenSpec.ofChange fnExactNumbersAfterWrong)

/-- 'laws.FnExactIsPrimitive': WHATEVER THE INPUT: true; the input reads as it did. -/
def fnExactIsPrimitiveSpec : ChangeSpec := { name := "fnExactIsPrimitive", fn := fun _ => fun
  | [d1, d2] => { results := [.lit (.bool true)], args := [d1, d2] }
  | _ => none }
def fnExactIsPrimitiveRow : OpenClaim := { program := "ytnmgkchkbchfaaa", sum := "b20c450b9a38f345566f65419fb1cbaaf9cd821a557f01e8a820de52df1241fc", func := "loop.example/g01354/laws.FnExactIsPrimitive", spec := "fnExactIsPrimitive", unfollowed := true, recurses := true, leaving := true, apart := false }
def FnExactIsPrimitiveSaid : Prop := fnExactIsPrimitiveRow.holds Try.pinned (OpenSpec.ofChange fnExactIsPrimitiveSpec)

/-- ITS FALSE NEIGHBOUR: 'it returns false'. Refute it at one input. -/
def fnExactIsPrimitiveWrong : ChangeSpec := { name := "fnExactIsPrimitive", fn := fun _ => fun
  | [d1, d2] => { results := [.lit (.bool false)], args := [d1, d2] }
  | _ => none }
def FnExactIsPrimitiveWrongFalsely : Prop := fnExactIsPrimitiveRow.holds Try.pinned (OpenSpec.ofChange fnExactIsPrimitiveWrong)

/-- 'laws.FnExactCornersOf': WHATEVER THE INPUT: true; the input reads as it did. -/
def fnExactCornersOfSpec : ChangeSpec := { name := "fnExactCornersOf", fn := fun _ => fun
  | [d1, d2, d3, d4] => { results := [.lit (.bool true)], args := [d1, d2, d3, d4] }
  | _ => none }
def fnExactCornersOfRow : OpenClaim := { program := "ytnmgkchkbchfaaa", sum := "b20c450b9a38f345566f65419fb1cbaaf9cd821a557f01e8a820de52df1241fc", func := "loop.example/g01354/laws.FnExactCornersOf", spec := "fnExactCornersOf", apart := false }
def FnExactCornersOfSaid : Prop := fnExactCornersOfRow.holds Try.pinned (OpenSpec.ofChange fnExactCornersOfSpec)

/-- ITS FALSE NEIGHBOUR: 'it returns false'. Refute it at one input. -/
def fnExactCornersOfWrong : ChangeSpec := { name := "fnExactCornersOf", fn := fun _ => fun
  | [d1, d2, d3, d4] => { results := [.lit (.bool false)], args := [d1, d2, d3, d4] }
  | _ => none }
def FnExactCornersOfWrongFalsely : Prop := fnExactCornersOfRow.holds Try.pinned (OpenSpec.ofChange fnExactCornersOfWrong)

/-- 'laws.FnExactCornerPeriod': WHATEVER THE INPUT: true; the input reads as it did. -/
def fnExactCornerPeriodSpec : ChangeSpec := { name := "fnExactCornerPeriod", fn := fun _ => fun
  | [d1, d2, d3] => { results := [.lit (.bool true)], args := [d1, d2, d3] }
  | _ => none }
def fnExactCornerPeriodRow : OpenClaim := { program := "ytnmgkchkbchfaaa", sum := "b20c450b9a38f345566f65419fb1cbaaf9cd821a557f01e8a820de52df1241fc", func := "loop.example/g01354/laws.FnExactCornerPeriod", spec := "fnExactCornerPeriod", apart := false }
def FnExactCornerPeriodSaid : Prop := fnExactCornerPeriodRow.holds Try.pinned (OpenSpec.ofChange fnExactCornerPeriodSpec)

/-- ITS FALSE NEIGHBOUR: 'it returns false'. Refute it at one input. -/
def fnExactCornerPeriodWrong : ChangeSpec := { name := "fnExactCornerPeriod", fn := fun _ => fun
  | [d1, d2, d3] => { results := [.lit (.bool false)], args := [d1, d2, d3] }
  | _ => none }
def FnExactCornerPeriodWrongFalsely : Prop := fnExactCornerPeriodRow.holds Try.pinned (OpenSpec.ofChange fnExactCornerPeriodWrong)

/-- 'laws.FnExactPairsGrown': WHATEVER THE INPUT: true; the input reads as it did. -/
def fnExactPairsGrownSpec : ChangeSpec := { name := "fnExactPairsGrown", fn := fun _ => fun
  | [d1, d2, d3] => { results := [.lit (.bool true)], args := [d1, d2, d3] }
  | _ => none }
def fnExactPairsGrownRow : OpenClaim := { program := "ytnmgkchkbchfaaa", sum := "b20c450b9a38f345566f65419fb1cbaaf9cd821a557f01e8a820de52df1241fc", func := "loop.example/g01354/laws.FnExactPairsGrown", spec := "fnExactPairsGrown", unfollowed := true, recurses := true, leaving := true, apart := false }
def FnExactPairsGrownSaid : Prop := fnExactPairsGrownRow.holds Try.pinned (OpenSpec.ofChange fnExactPairsGrownSpec)

/-- ITS FALSE NEIGHBOUR: 'it returns false'. Refute it at one input. -/
def fnExactPairsGrownWrong : ChangeSpec := { name := "fnExactPairsGrown", fn := fun _ => fun
  | [d1, d2, d3] => { results := [.lit (.bool false)], args := [d1, d2, d3] }
  | _ => none }
def FnExactPairsGrownWrongFalsely : Prop := fnExactPairsGrownRow.holds Try.pinned (OpenSpec.ofChange fnExactPairsGrownWrong)

/-- 'laws.FnExactTilesGrown': WHATEVER THE INPUT: true; the input reads as it did. -/
def fnExactTilesGrownSpec : ChangeSpec := { name := "fnExactTilesGrown", fn := fun _ => fun
  | [d1, d2, d3] => { results := [.lit (.bool true)], args := [d1, d2, d3] }
  | _ => none }
def fnExactTilesGrownRow : OpenClaim := { program := "ytnmgkchkbchfaaa", sum := "b20c450b9a38f345566f65419fb1cbaaf9cd821a557f01e8a820de52df1241fc", func := "loop.example/g01354/laws.FnExactTilesGrown", spec := "fnExactTilesGrown", unfollowed := true, recurses := true, leaving := true, apart := false }
def FnExactTilesGrownSaid : Prop := fnExactTilesGrownRow.holds Try.pinned (OpenSpec.ofChange fnExactTilesGrownSpec)

/-- ITS FALSE NEIGHBOUR: 'it returns false'. Refute it at one input. -/
def fnExactTilesGrownWrong : ChangeSpec := { name := "fnExactTilesGrown", fn := fun _ => fun
  | [d1, d2, d3] => { results := [.lit (.bool false)], args := [d1, d2, d3] }
  | _ => none }
def FnExactTilesGrownWrongFalsely : Prop := fnExactTilesGrownRow.holds Try.pinned (OpenSpec.ofChange fnExactTilesGrownWrong)

/- THE SECOND FORM. 'bulk': how many values and letters a reading holds, each counted each time it is reached (what is shared counts as often as it is met; a slice's spare places count too). A statement '..UptoSaid' is the law's where the arguments, and the package variables that the reading takes, are together of bulk at most 1048576: NARROWER than '..Said'. Prove '..Said' where nothing that the law and all that it calls make is longer than what came in: it says more and counts as full. Else prove '..UptoSaid'. A law counts once. -/
mutual
def uptoBulk {H : Type} : DataW H → Nat
  | .lit (.string bytes) => bytes.length + 1
  | .lit _ => 1
  | .nil => 1
  | .ptr d => uptoBulk d + 1
  | .slice elems spare => uptoBulkAll elems + uptoBulkAll spare + 1
  | .agg parts => uptoBulkAll parts + 1
  | .iface _ d => uptoBulk d + 1
  | .map entries => uptoBulkEntries entries + 1
  | .held _ => 1
def uptoBulkAll {H : Type} : List (DataW H) → Nat
  | [] => 0
  | d :: r => uptoBulk d + uptoBulkAll r
def uptoBulkEntries {H : Type} : List (Lit × DataW H) → Nat
  | [] => 0
  | x :: r => uptoBulkEntry x + uptoBulkEntries r
def uptoBulkEntry {H : Type} : Lit × DataW H → Nat
  | (.string bytes, d) => bytes.length + uptoBulk d + 1
  | (_, d) => uptoBulk d + 1
 end
def uptoSmall : (H : Type) → List (DataW H) → Bool := fun _ ds => decide (uptoBulkAll ds ≤ 1048576)
def OpenSpec.upto (s : _root_.Go.ChangeSpec) : _root_.Go.OpenSpec := { _root_.Go.OpenSpec.ofChange s with cond := some uptoSmall }

/-- 'laws.FnExactIsRule', WHERE WHAT IT READS IS OF BULK AT MOST 1048576: true; the input reads as it did. -/
def fnExactIsRuleUptoRow : OpenClaim := { program := "ytnmgkchkbchfaaa", sum := "b20c450b9a38f345566f65419fb1cbaaf9cd821a557f01e8a820de52df1241fc", func := "loop.example/g01354/laws.FnExactIsRule", spec := "fnExactIsRule", unfollowed := true, recurses := true, leaving := true, apart := false, narrowed := true }
def FnExactIsRuleUptoSaid : Prop := fnExactIsRuleUptoRow.holds Try.pinned (OpenSpec.upto fnExactIsRuleSpec)

/-- 'laws.FnExactIsOneToOne', WHERE WHAT IT READS IS OF BULK AT MOST 1048576: true; the input reads as it did. -/
def fnExactIsOneToOneUptoRow : OpenClaim := { program := "ytnmgkchkbchfaaa", sum := "b20c450b9a38f345566f65419fb1cbaaf9cd821a557f01e8a820de52df1241fc", func := "loop.example/g01354/laws.FnExactIsOneToOne", spec := "fnExactIsOneToOne", apart := false, narrowed := true }
def FnExactIsOneToOneUptoSaid : Prop := fnExactIsOneToOneUptoRow.holds Try.pinned (OpenSpec.upto fnExactIsOneToOneSpec)

/-- 'laws.FnExactGrowRows', WHERE WHAT IT READS IS OF BULK AT MOST 1048576: true; the input reads as it did. -/
def fnExactGrowRowsUptoRow : OpenClaim := { program := "ytnmgkchkbchfaaa", sum := "b20c450b9a38f345566f65419fb1cbaaf9cd821a557f01e8a820de52df1241fc", func := "loop.example/g01354/laws.FnExactGrowRows", spec := "fnExactGrowRows", apart := false, narrowed := true }
def FnExactGrowRowsUptoSaid : Prop := fnExactGrowRowsUptoRow.holds Try.pinned (OpenSpec.upto fnExactGrowRowsSpec)

/-- 'laws.FnExactShrinkRows', WHERE WHAT IT READS IS OF BULK AT MOST 1048576: true; the input reads as it did. -/
def fnExactShrinkRowsUptoRow : OpenClaim := { program := "ytnmgkchkbchfaaa", sum := "b20c450b9a38f345566f65419fb1cbaaf9cd821a557f01e8a820de52df1241fc", func := "loop.example/g01354/laws.FnExactShrinkRows", spec := "fnExactShrinkRows", unfollowed := true, recurses := true, leaving := true, apart := false, narrowed := true }
def FnExactShrinkRowsUptoSaid : Prop := fnExactShrinkRowsUptoRow.holds Try.pinned (OpenSpec.upto fnExactShrinkRowsSpec)

/-- 'laws.FnExactGrowTile', WHERE WHAT IT READS IS OF BULK AT MOST 1048576: true; the input reads as it did. -/
def fnExactGrowTileUptoRow : OpenClaim := { program := "ytnmgkchkbchfaaa", sum := "b20c450b9a38f345566f65419fb1cbaaf9cd821a557f01e8a820de52df1241fc", func := "loop.example/g01354/laws.FnExactGrowTile", spec := "fnExactGrowTile", apart := false, narrowed := true }
def FnExactGrowTileUptoSaid : Prop := fnExactGrowTileUptoRow.holds Try.pinned (OpenSpec.upto fnExactGrowTileSpec)

/-- 'laws.FnExactNumbersAfter', WHERE WHAT IT READS IS OF BULK AT MOST 1048576: true; the input reads as it did. -/
def fnExactNumbersAfterUptoRow : OpenClaim := { program := "ytnmgkchkbchfaaa", sum := "b20c450b9a38f345566f65419fb1cbaaf9cd821a557f01e8a820de52df1241fc", func := "loop.example/g01354/laws.FnExactNumbersAfter", spec := "fnExactNumbersAfter", inPlace := ["(*sync.WaitGroup).Add", "internal/race.ReleaseMerge", "internal/race.Disable", "internal/race.Enable", "internal/synctest.IsInBubble", "internal/synctest.Associate[sync.WaitGroup]", "sync.fatal", "sync/atomic.OrUint64", "sync/atomic.AddUint64", "internal/race.Read", "sync/atomic.LoadUint64", "sync/atomic.StoreUint64", "internal/synctest.Disassociate[sync.WaitGroup]", "sync.runtime_Semrelease", "(*sync.WaitGroup).Done", "(*sync.WaitGroup).Wait", "internal/race.Acquire", "internal/synctest.IsAssociated[sync.WaitGroup]", "sync/atomic.CompareAndSwapUint64", "internal/race.Write", "sync.runtime_SemacquireWaitGroup"], unfollowed := true, recurses := true, leaving := true, apart := false, narrowed := true }
def FnExactNumbersAfterUptoSaid : Prop := fnExactNumbersAfterUptoRow.holds Try.pinned (OpenSpec.upto fnExactNumbersAfterSpec)

/-- 'laws.FnExactIsPrimitive', WHERE WHAT IT READS IS OF BULK AT MOST 1048576: true; the input reads as it did. -/
def fnExactIsPrimitiveUptoRow : OpenClaim := { program := "ytnmgkchkbchfaaa", sum := "b20c450b9a38f345566f65419fb1cbaaf9cd821a557f01e8a820de52df1241fc", func := "loop.example/g01354/laws.FnExactIsPrimitive", spec := "fnExactIsPrimitive", unfollowed := true, recurses := true, leaving := true, apart := false, narrowed := true }
def FnExactIsPrimitiveUptoSaid : Prop := fnExactIsPrimitiveUptoRow.holds Try.pinned (OpenSpec.upto fnExactIsPrimitiveSpec)

/-- 'laws.FnExactCornersOf', WHERE WHAT IT READS IS OF BULK AT MOST 1048576: true; the input reads as it did. -/
def fnExactCornersOfUptoRow : OpenClaim := { program := "ytnmgkchkbchfaaa", sum := "b20c450b9a38f345566f65419fb1cbaaf9cd821a557f01e8a820de52df1241fc", func := "loop.example/g01354/laws.FnExactCornersOf", spec := "fnExactCornersOf", apart := false, narrowed := true }
def FnExactCornersOfUptoSaid : Prop := fnExactCornersOfUptoRow.holds Try.pinned (OpenSpec.upto fnExactCornersOfSpec)

/-- 'laws.FnExactCornerPeriod', WHERE WHAT IT READS IS OF BULK AT MOST 1048576: true; the input reads as it did. -/
def fnExactCornerPeriodUptoRow : OpenClaim := { program := "ytnmgkchkbchfaaa", sum := "b20c450b9a38f345566f65419fb1cbaaf9cd821a557f01e8a820de52df1241fc", func := "loop.example/g01354/laws.FnExactCornerPeriod", spec := "fnExactCornerPeriod", apart := false, narrowed := true }
def FnExactCornerPeriodUptoSaid : Prop := fnExactCornerPeriodUptoRow.holds Try.pinned (OpenSpec.upto fnExactCornerPeriodSpec)

/-- 'laws.FnExactPairsGrown', WHERE WHAT IT READS IS OF BULK AT MOST 1048576: true; the input reads as it did. -/
def fnExactPairsGrownUptoRow : OpenClaim := { program := "ytnmgkchkbchfaaa", sum := "b20c450b9a38f345566f65419fb1cbaaf9cd821a557f01e8a820de52df1241fc", func := "loop.example/g01354/laws.FnExactPairsGrown", spec := "fnExactPairsGrown", unfollowed := true, recurses := true, leaving := true, apart := false, narrowed := true }
def FnExactPairsGrownUptoSaid : Prop := fnExactPairsGrownUptoRow.holds Try.pinned (OpenSpec.upto fnExactPairsGrownSpec)

/-- 'laws.FnExactTilesGrown', WHERE WHAT IT READS IS OF BULK AT MOST 1048576: true; the input reads as it did. -/
def fnExactTilesGrownUptoRow : OpenClaim := { program := "ytnmgkchkbchfaaa", sum := "b20c450b9a38f345566f65419fb1cbaaf9cd821a557f01e8a820de52df1241fc", func := "loop.example/g01354/laws.FnExactTilesGrown", spec := "fnExactTilesGrown", unfollowed := true, recurses := true, leaving := true, apart := false, narrowed := true }
def FnExactTilesGrownUptoSaid : Prop := fnExactTilesGrownUptoRow.holds Try.pinned (OpenSpec.upto fnExactTilesGrownSpec)

end Rows
end Go.Proofs.Ytnmgkchkbchfaaa
