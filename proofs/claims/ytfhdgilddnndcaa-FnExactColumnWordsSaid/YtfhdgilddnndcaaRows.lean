/-
  No cell of these rows narrows 'for every input' (looked for: loops, veiled, ifaces, maps, wideKeys, modest, calm, conditions, laid).
  DERIVED. THE GIVEN ROWS OF THIS SEAT. 12 by the template 'for every input the law returns true; each argument reads behind the call as it read before'; 0 by the template 'total and deterministic' (their statements: YtfhdgilddnndcaaTotals.lean).
  GIVEN WITH THE SEED: the statements are not yours to turn. If you find one false, say at which input.
  Laid BY PROGRAM, IN A SANDBOX (cutbox-rows.mjs): the forced cells as the released guide's own fill.sh prints them over the translation 651034ea8eb89b7d… (all of the seat's roots in one cut). By AI agents, Wed Nov 11 2026. No macro, syntax, notation, axiom, sorry.
-/
import Derived.Test.YtfhdgilddnndcaaChecked
import GoSem.Claim
import GoSem.ClaimJoined
import GoSem.ClaimMapViews
import Derived.JoinedTies
import Derived.KernelRfl
namespace Go.Proofs.Ytfhdgilddnndcaa
/- THE CELL 'sum', in the pinned program and in every row, IS THE sha256 OF THE DUMP (.gsa) THAT YtfhdgilddnndcaaProg.lean LOADS. Nothing in Lean hashes anything: it is a label: what it is worth is what the hold of that sum in a sandbox is worth. -/
noncomputable def Try.pinned : Pinned := { name := "ytfhdgilddnndcaa", sum := "651034ea8eb89b7d2dd0826fa9012dbdc0d823aac4fb78cd25164a8c44dccd1b", checked := Try.checked }
namespace Rows
def none {H : Type} : Left H := { results := [], args := [] }

/-- 'laws.FnExactSetOf': WHATEVER THE INPUT: true; the input reads as it did. -/
def fnExactSetOfSpec : ChangeSpec := { name := "fnExactSetOf", fn := fun _ => fun
  | [d1, d2] => { results := [.lit (.bool true)], args := [d1, d2] }
  | _ => none }
def fnExactSetOfRow : OpenClaim := { program := "ytfhdgilddnndcaa", sum := "651034ea8eb89b7d2dd0826fa9012dbdc0d823aac4fb78cd25164a8c44dccd1b", func := "loop.example/g01354/laws.FnExactSetOf", spec := "fnExactSetOf", unfollowed := true, recurses := true, plainKeys := false, apart := false }
def FnExactSetOfSaid : Prop := fnExactSetOfRow.holds Try.pinned (OpenSpec.ofChange fnExactSetOfSpec)

/-- ITS FALSE NEIGHBOUR: 'it returns false'. Refute it at one input. -/
def fnExactSetOfWrong : ChangeSpec := { name := "fnExactSetOf", fn := fun _ => fun
  | [d1, d2] => { results := [.lit (.bool false)], args := [d1, d2] }
  | _ => none }
def FnExactSetOfWrongFalsely : Prop := fnExactSetOfRow.holds Try.pinned (OpenSpec.ofChange fnExactSetOfWrong)

/-- 'laws.FnExactTurnsOf': WHATEVER THE INPUT: true; the input reads as it did. -/
def fnExactTurnsOfSpec : ChangeSpec := { name := "fnExactTurnsOf", fn := fun _ => fun
  | [d] => { results := [.lit (.bool true)], args := [d] }
  | _ => none }
def fnExactTurnsOfRow : OpenClaim := { program := "ytfhdgilddnndcaa", sum := "651034ea8eb89b7d2dd0826fa9012dbdc0d823aac4fb78cd25164a8c44dccd1b", func := "loop.example/g01354/laws.FnExactTurnsOf", spec := "fnExactTurnsOf", unfollowed := true, recurses := true, plainKeys := false, apart := false }
def FnExactTurnsOfSaid : Prop := fnExactTurnsOfRow.holds Try.pinned (OpenSpec.ofChange fnExactTurnsOfSpec)

/-- ITS FALSE NEIGHBOUR: 'it returns false'. Refute it at one input. -/
def fnExactTurnsOfWrong : ChangeSpec := { name := "fnExactTurnsOf", fn := fun _ => fun
  | [d] => { results := [.lit (.bool false)], args := [d] }
  | _ => none }
def FnExactTurnsOfWrongFalsely : Prop := fnExactTurnsOfRow.holds Try.pinned (OpenSpec.ofChange fnExactTurnsOfWrong)

/-- 'laws.FnExactClassOf': WHATEVER THE INPUT: true; the input reads as it did. -/
def fnExactClassOfSpec : ChangeSpec := { name := "fnExactClassOf", fn := fun _ => fun
  | [d] => { results := [.lit (.bool true)], args := [d] }
  | _ => none }
def fnExactClassOfRow : OpenClaim := { program := "ytfhdgilddnndcaa", sum := "651034ea8eb89b7d2dd0826fa9012dbdc0d823aac4fb78cd25164a8c44dccd1b", func := "loop.example/g01354/laws.FnExactClassOf", spec := "fnExactClassOf", unfollowed := true, recurses := true, plainKeys := false, apart := false }
def FnExactClassOfSaid : Prop := fnExactClassOfRow.holds Try.pinned (OpenSpec.ofChange fnExactClassOfSpec)

/-- ITS FALSE NEIGHBOUR: 'it returns false'. Refute it at one input. -/
def fnExactClassOfWrong : ChangeSpec := { name := "fnExactClassOf", fn := fun _ => fun
  | [d] => { results := [.lit (.bool false)], args := [d] }
  | _ => none }
def FnExactClassOfWrongFalsely : Prop := fnExactClassOfRow.holds Try.pinned (OpenSpec.ofChange fnExactClassOfWrong)

/-- 'laws.FnExactTurnNumber': WHATEVER THE INPUT: true; the input reads as it did. -/
def fnExactTurnNumberSpec : ChangeSpec := { name := "fnExactTurnNumber", fn := fun _ => fun
  | [d] => { results := [.lit (.bool true)], args := [d] }
  | _ => none }
def fnExactTurnNumberRow : OpenClaim := { program := "ytfhdgilddnndcaa", sum := "651034ea8eb89b7d2dd0826fa9012dbdc0d823aac4fb78cd25164a8c44dccd1b", func := "loop.example/g01354/laws.FnExactTurnNumber", spec := "fnExactTurnNumber", unfollowed := true, recurses := true, plainKeys := false, apart := false }
def FnExactTurnNumberSaid : Prop := fnExactTurnNumberRow.holds Try.pinned (OpenSpec.ofChange fnExactTurnNumberSpec)

/-- ITS FALSE NEIGHBOUR: 'it returns false'. Refute it at one input. -/
def fnExactTurnNumberWrong : ChangeSpec := { name := "fnExactTurnNumber", fn := fun _ => fun
  | [d] => { results := [.lit (.bool false)], args := [d] }
  | _ => none }
def FnExactTurnNumberWrongFalsely : Prop := fnExactTurnNumberRow.holds Try.pinned (OpenSpec.ofChange fnExactTurnNumberWrong)

/-- 'laws.FnExactAreAlike': WHATEVER THE INPUT: true; the input reads as it did. -/
def fnExactAreAlikeSpec : ChangeSpec := { name := "fnExactAreAlike", fn := fun _ => fun
  | [d1, d2] => { results := [.lit (.bool true)], args := [d1, d2] }
  | _ => none }
def fnExactAreAlikeRow : OpenClaim := { program := "ytfhdgilddnndcaa", sum := "651034ea8eb89b7d2dd0826fa9012dbdc0d823aac4fb78cd25164a8c44dccd1b", func := "loop.example/g01354/laws.FnExactAreAlike", spec := "fnExactAreAlike", unfollowed := true, recurses := true, plainKeys := false, apart := false }
def FnExactAreAlikeSaid : Prop := fnExactAreAlikeRow.holds Try.pinned (OpenSpec.ofChange fnExactAreAlikeSpec)

/-- ITS FALSE NEIGHBOUR: 'it returns false'. Refute it at one input. -/
def fnExactAreAlikeWrong : ChangeSpec := { name := "fnExactAreAlike", fn := fun _ => fun
  | [d1, d2] => { results := [.lit (.bool false)], args := [d1, d2] }
  | _ => none }
def FnExactAreAlikeWrongFalsely : Prop := fnExactAreAlikeRow.holds Try.pinned (OpenSpec.ofChange fnExactAreAlikeWrong)

/-- 'laws.FnExactSidesByColour': WHATEVER THE INPUT: true; the input reads as it did. -/
def fnExactSidesByColourSpec : ChangeSpec := { name := "fnExactSidesByColour", fn := fun _ => fun
  | [d] => { results := [.lit (.bool true)], args := [d] }
  | _ => none }
def fnExactSidesByColourRow : OpenClaim := { program := "ytfhdgilddnndcaa", sum := "651034ea8eb89b7d2dd0826fa9012dbdc0d823aac4fb78cd25164a8c44dccd1b", func := "loop.example/g01354/laws.FnExactSidesByColour", spec := "fnExactSidesByColour", plainKeys := false, apart := false }
def FnExactSidesByColourSaid : Prop := fnExactSidesByColourRow.holds Try.pinned (OpenSpec.ofChange fnExactSidesByColourSpec)

/-- ITS FALSE NEIGHBOUR: 'it returns false'. Refute it at one input. -/
def fnExactSidesByColourWrong : ChangeSpec := { name := "fnExactSidesByColour", fn := fun _ => fun
  | [d] => { results := [.lit (.bool false)], args := [d] }
  | _ => none }
def FnExactSidesByColourWrongFalsely : Prop := fnExactSidesByColourRow.holds Try.pinned (OpenSpec.ofChange fnExactSidesByColourWrong)

/-- 'laws.FnExactClassesOf': WHATEVER THE INPUT: true; the input reads as it did. -/
def fnExactClassesOfSpec : ChangeSpec := { name := "fnExactClassesOf", fn := fun _ => fun
  | [d] => { results := [.lit (.bool true)], args := [d] }
  | _ => none }
def fnExactClassesOfRow : OpenClaim := { program := "ytfhdgilddnndcaa", sum := "651034ea8eb89b7d2dd0826fa9012dbdc0d823aac4fb78cd25164a8c44dccd1b", func := "loop.example/g01354/laws.FnExactClassesOf", spec := "fnExactClassesOf", unfollowed := true, recurses := true, plainKeys := false, apart := false }
def FnExactClassesOfSaid : Prop := fnExactClassesOfRow.holds Try.pinned (OpenSpec.ofChange fnExactClassesOfSpec)

/-- ITS FALSE NEIGHBOUR: 'it returns false'. Refute it at one input. -/
def fnExactClassesOfWrong : ChangeSpec := { name := "fnExactClassesOf", fn := fun _ => fun
  | [d] => { results := [.lit (.bool false)], args := [d] }
  | _ => none }
def FnExactClassesOfWrongFalsely : Prop := fnExactClassesOfRow.holds Try.pinned (OpenSpec.ofChange fnExactClassesOfWrong)

/-- 'laws.FnExactCountClasses': WHATEVER THE INPUT: true; the input reads as it did. -/
def fnExactCountClassesSpec : ChangeSpec := { name := "fnExactCountClasses", fn := fun _ => fun
  | [d] => { results := [.lit (.bool true)], args := [d] }
  | _ => none }
def fnExactCountClassesRow : OpenClaim := { program := "ytfhdgilddnndcaa", sum := "651034ea8eb89b7d2dd0826fa9012dbdc0d823aac4fb78cd25164a8c44dccd1b", func := "loop.example/g01354/laws.FnExactCountClasses", spec := "fnExactCountClasses", unfollowed := true, recurses := true, plainKeys := false, apart := false }
def FnExactCountClassesSaid : Prop := fnExactCountClassesRow.holds Try.pinned (OpenSpec.ofChange fnExactCountClassesSpec)

/-- ITS FALSE NEIGHBOUR: 'it returns false'. Refute it at one input. -/
def fnExactCountClassesWrong : ChangeSpec := { name := "fnExactCountClasses", fn := fun _ => fun
  | [d] => { results := [.lit (.bool false)], args := [d] }
  | _ => none }
def FnExactCountClassesWrongFalsely : Prop := fnExactCountClassesRow.holds Try.pinned (OpenSpec.ofChange fnExactCountClassesWrong)

/-- 'laws.FnExactColumnWords': WHATEVER THE INPUT: true; the input reads as it did. -/
def fnExactColumnWordsSpec : ChangeSpec := { name := "fnExactColumnWords", fn := fun _ => fun
  | [d1, d2] => { results := [.lit (.bool true)], args := [d1, d2] }
  | _ => none }
def fnExactColumnWordsRow : OpenClaim := { program := "ytfhdgilddnndcaa", sum := "651034ea8eb89b7d2dd0826fa9012dbdc0d823aac4fb78cd25164a8c44dccd1b", func := "loop.example/g01354/laws.FnExactColumnWords", spec := "fnExactColumnWords", unfollowed := true, recurses := true, plainKeys := false, apart := false }
def FnExactColumnWordsSaid : Prop := fnExactColumnWordsRow.holds Try.pinned (OpenSpec.ofChange fnExactColumnWordsSpec)

/-- ITS FALSE NEIGHBOUR: 'it returns false'. Refute it at one input. -/
def fnExactColumnWordsWrong : ChangeSpec := { name := "fnExactColumnWords", fn := fun _ => fun
  | [d1, d2] => { results := [.lit (.bool false)], args := [d1, d2] }
  | _ => none }
def FnExactColumnWordsWrongFalsely : Prop := fnExactColumnWordsRow.holds Try.pinned (OpenSpec.ofChange fnExactColumnWordsWrong)

/-- 'laws.FnExactIsBoard': WHATEVER THE INPUT: true; the input reads as it did. -/
def fnExactIsBoardSpec : ChangeSpec := { name := "fnExactIsBoard", fn := fun _ => fun
  | [d1, d2, d3] => { results := [.lit (.bool true)], args := [d1, d2, d3] }
  | _ => none }
def fnExactIsBoardRow : OpenClaim := { program := "ytfhdgilddnndcaa", sum := "651034ea8eb89b7d2dd0826fa9012dbdc0d823aac4fb78cd25164a8c44dccd1b", func := "loop.example/g01354/laws.FnExactIsBoard", spec := "fnExactIsBoard", unfollowed := true, recurses := true, plainKeys := false, apart := false }
def FnExactIsBoardSaid : Prop := fnExactIsBoardRow.holds Try.pinned (OpenSpec.ofChange fnExactIsBoardSpec)

/-- ITS FALSE NEIGHBOUR: 'it returns false'. Refute it at one input. -/
def fnExactIsBoardWrong : ChangeSpec := { name := "fnExactIsBoard", fn := fun _ => fun
  | [d1, d2, d3] => { results := [.lit (.bool false)], args := [d1, d2, d3] }
  | _ => none }
def FnExactIsBoardWrongFalsely : Prop := fnExactIsBoardRow.holds Try.pinned (OpenSpec.ofChange fnExactIsBoardWrong)

/-- 'laws.FnExactBoardTiles': WHATEVER THE INPUT: true; the input reads as it did. -/
def fnExactBoardTilesSpec : ChangeSpec := { name := "fnExactBoardTiles", fn := fun _ => fun
  | [d1, d2, d3] => { results := [.lit (.bool true)], args := [d1, d2, d3] }
  | _ => none }
def fnExactBoardTilesRow : OpenClaim := { program := "ytfhdgilddnndcaa", sum := "651034ea8eb89b7d2dd0826fa9012dbdc0d823aac4fb78cd25164a8c44dccd1b", func := "loop.example/g01354/laws.FnExactBoardTiles", spec := "fnExactBoardTiles", unfollowed := true, recurses := true, plainKeys := false, apart := false }
def FnExactBoardTilesSaid : Prop := fnExactBoardTilesRow.holds Try.pinned (OpenSpec.ofChange fnExactBoardTilesSpec)

/-- ITS FALSE NEIGHBOUR: 'it returns false'. Refute it at one input. -/
def fnExactBoardTilesWrong : ChangeSpec := { name := "fnExactBoardTiles", fn := fun _ => fun
  | [d1, d2, d3] => { results := [.lit (.bool false)], args := [d1, d2, d3] }
  | _ => none }
def FnExactBoardTilesWrongFalsely : Prop := fnExactBoardTilesRow.holds Try.pinned (OpenSpec.ofChange fnExactBoardTilesWrong)

/-- 'laws.FnExactCountBoards': WHATEVER THE INPUT: true; the input reads as it did. -/
def fnExactCountBoardsSpec : ChangeSpec := { name := "fnExactCountBoards", fn := fun _ => fun
  | [d1, d2, d3, d4] => { results := [.lit (.bool true)], args := [d1, d2, d3, d4] }
  | _ => none }
def fnExactCountBoardsRow : OpenClaim := { program := "ytfhdgilddnndcaa", sum := "651034ea8eb89b7d2dd0826fa9012dbdc0d823aac4fb78cd25164a8c44dccd1b", func := "loop.example/g01354/laws.FnExactCountBoards", spec := "fnExactCountBoards", unfollowed := true, recurses := true, plainKeys := false, apart := false }
def FnExactCountBoardsSaid : Prop := fnExactCountBoardsRow.holds Try.pinned (OpenSpec.ofChange fnExactCountBoardsSpec)

/-- ITS FALSE NEIGHBOUR: 'it returns false'. Refute it at one input. -/
def fnExactCountBoardsWrong : ChangeSpec := { name := "fnExactCountBoards", fn := fun _ => fun
  | [d1, d2, d3, d4] => { results := [.lit (.bool false)], args := [d1, d2, d3, d4] }
  | _ => none }
def FnExactCountBoardsWrongFalsely : Prop := fnExactCountBoardsRow.holds Try.pinned (OpenSpec.ofChange fnExactCountBoardsWrong)

/- THE SECOND FORM. 'bulk': how many values and letters a reading holds, each counted each time it is reached (what is shared counts as often as it is met; a slice's spare places count too). A statement '..UptoSaid' is the law's where the arguments, and the package variables that the reading takes, are together of bulk at most 1048576: NARROWER than '..Said'. Prove '..Said' where nothing that the law and all that it calls make is longer than what came in: it says more and counts as full. Else prove '..UptoSaid'. A law counts once. -/
mutual
def uptoBulk {H : Type} : DataW H → Nat
  | .lit (.string bytes) => bytes.length + 1
  | .lit _ => 1
  | .nil => 1
  | .ptr d => uptoBulk d + 1
  | .slice elems spare => uptoBulkAll elems + uptoBulkAll spare + 1
  | .agg parts => uptoBulkAll parts + 1
  | .iface _ d => uptoBulk d + 1
  | .map entries => uptoBulkEntries entries + 1
  | .held _ => 1
def uptoBulkAll {H : Type} : List (DataW H) → Nat
  | [] => 0
  | d :: r => uptoBulk d + uptoBulkAll r
def uptoBulkEntries {H : Type} : List (Lit × DataW H) → Nat
  | [] => 0
  | x :: r => uptoBulkEntry x + uptoBulkEntries r
def uptoBulkEntry {H : Type} : Lit × DataW H → Nat
  | (.string bytes, d) => bytes.length + uptoBulk d + 1
  | (_, d) => uptoBulk d + 1
 end
def uptoSmall : (H : Type) → List (DataW H) → Bool := fun _ ds => decide (uptoBulkAll ds ≤ 1048576)
def OpenSpec.upto (s : _root_.Go.ChangeSpec) : _root_.Go.OpenSpec := { _root_.Go.OpenSpec.ofChange s with cond := some uptoSmall }

/-- 'laws.FnExactSetOf', WHERE WHAT IT READS IS OF BULK AT MOST 1048576: true; the input reads as it did. -/
def fnExactSetOfUptoRow : OpenClaim := { program := "ytfhdgilddnndcaa", sum := "651034ea8eb89b7d2dd0826fa9012dbdc0d823aac4fb78cd25164a8c44dccd1b", func := "loop.example/g01354/laws.FnExactSetOf", spec := "fnExactSetOf", unfollowed := true, recurses := true, plainKeys := false, apart := false, narrowed := true }
def FnExactSetOfUptoSaid : Prop := fnExactSetOfUptoRow.holds Try.pinned (OpenSpec.upto fnExactSetOfSpec)

/-- 'laws.FnExactTurnsOf', WHERE WHAT IT READS IS OF BULK AT MOST 1048576: true; the input reads as it did. -/
def fnExactTurnsOfUptoRow : OpenClaim := { program := "ytfhdgilddnndcaa", sum := "651034ea8eb89b7d2dd0826fa9012dbdc0d823aac4fb78cd25164a8c44dccd1b", func := "loop.example/g01354/laws.FnExactTurnsOf", spec := "fnExactTurnsOf", unfollowed := true, recurses := true, plainKeys := false, apart := false, narrowed := true }
def FnExactTurnsOfUptoSaid : Prop := fnExactTurnsOfUptoRow.holds Try.pinned (OpenSpec.upto fnExactTurnsOfSpec)

/-- 'laws.FnExactClassOf', WHERE WHAT IT READS IS OF BULK AT MOST 1048576: true; the input reads as it did. -/
def fnExactClassOfUptoRow : OpenClaim := { program := "ytfhdgilddnndcaa", sum := "651034ea8eb89b7d2dd0826fa9012dbdc0d823aac4fb78cd25164a8c44dccd1b", func := "loop.example/g01354/laws.FnExactClassOf", spec := "fnExactClassOf", unfollowed := true, recurses := true, plainKeys := false, apart := false, narrowed := true }
def FnExactClassOfUptoSaid : Prop := fnExactClassOfUptoRow.holds Try.pinned (OpenSpec.upto fnExactClassOfSpec)

/-- 'laws.FnExactTurnNumber', WHERE WHAT IT READS IS OF BULK AT MOST 1048576: true; the input reads as it did. -/
def fnExactTurnNumberUptoRow : OpenClaim := { program := "ytfhdgilddnndcaa", sum := "651034ea8eb89b7d2dd0826fa9012dbdc0d823aac4fb78cd25164a8c44dccd1b", func := "loop.example/g01354/laws.FnExactTurnNumber", spec := "fnExactTurnNumber", unfollowed := true, recurses := true, plainKeys := false, apart := false, narrowed := true }
def FnExactTurnNumberUptoSaid : Prop := fnExactTurnNumberUptoRow.holds Try.pinned (OpenSpec.upto fnExactTurnNumberSpec)

/-- 'laws.FnExactAreAlike', WHERE WHAT IT READS IS OF BULK AT MOST 1048576: true; the input reads as it did. -/
def fnExactAreAlikeUptoRow : OpenClaim := { program := "ytfhdgilddnndcaa", sum := "651034ea8eb89b7d2dd0826fa9012dbdc0d823aac4fb78cd25164a8c44dccd1b", func := "loop.example/g01354/laws.FnExactAreAlike", spec := "fnExactAreAlike", unfollowed := true, recurses := true, plainKeys := false, apart := false, narrowed := true }
def FnExactAreAlikeUptoSaid : Prop := fnExactAreAlikeUptoRow.holds Try.pinned (OpenSpec.upto fnExactAreAlikeSpec)

/-- 'laws.FnExactSidesByColour', WHERE WHAT IT READS IS OF BULK AT MOST 1048576: true; the input reads as it did. -/
def fnExactSidesByColourUptoRow : OpenClaim := { program := "ytfhdgilddnndcaa", sum := "651034ea8eb89b7d2dd0826fa9012dbdc0d823aac4fb78cd25164a8c44dccd1b", func := "loop.example/g01354/laws.FnExactSidesByColour", spec := "fnExactSidesByColour", plainKeys := false, apart := false, narrowed := true }
def FnExactSidesByColourUptoSaid : Prop := fnExactSidesByColourUptoRow.holds Try.pinned (OpenSpec.upto fnExactSidesByColourSpec)

/-- 'laws.FnExactClassesOf', WHERE WHAT IT READS IS OF BULK AT MOST 1048576: true; the input reads as it did. -/
def fnExactClassesOfUptoRow : OpenClaim := { program := "ytfhdgilddnndcaa", sum := "651034ea8eb89b7d2dd0826fa9012dbdc0d823aac4fb78cd25164a8c44dccd1b", func := "loop.example/g01354/laws.FnExactClassesOf", spec := "fnExactClassesOf", unfollowed := true, recurses := true, plainKeys := false, apart := false, narrowed := true }
def FnExactClassesOfUptoSaid : Prop := fnExactClassesOfUptoRow.holds Try.pinned (OpenSpec.upto fnExactClassesOfSpec)

/-- 'laws.FnExactCountClasses', WHERE WHAT IT READS IS OF BULK AT MOST 1048576: true; the input reads as it did. -/
def fnExactCountClassesUptoRow : OpenClaim := { program := "ytfhdgilddnndcaa", sum := "651034ea8eb89b7d2dd0826fa9012dbdc0d823aac4fb78cd25164a8c44dccd1b", func := "loop.example/g01354/laws.FnExactCountClasses", spec := "fnExactCountClasses", unfollowed := true, recurses := true, plainKeys := false, apart := false, narrowed := true }
def FnExactCountClassesUptoSaid : Prop := fnExactCountClassesUptoRow.holds Try.pinned (OpenSpec.upto fnExactCountClassesSpec)

/-- 'laws.FnExactColumnWords', WHERE WHAT IT READS IS OF BULK AT MOST 1048576: true; the input reads as it did. -/
def fnExactColumnWordsUptoRow : OpenClaim := { program := "ytfhdgilddnndcaa", sum := "651034ea8eb89b7d2dd0826fa9012dbdc0d823aac4fb78cd25164a8c44dccd1b", func := "loop.example/g01354/laws.FnExactColumnWords", spec := "fnExactColumnWords", unfollowed := true, recurses := true, plainKeys := false, apart := false, narrowed := true }
def FnExactColumnWordsUptoSaid : Prop := fnExactColumnWordsUptoRow.holds Try.pinned (OpenSpec.upto fnExactColumnWordsSpec)

/-- 'laws.FnExactIsBoard', WHERE WHAT IT READS IS OF BULK AT MOST 1048576: true; the input reads as it did. -/
def fnExactIsBoardUptoRow : OpenClaim := { program := "ytfhdgilddnndcaa", sum := "651034ea8eb89b7d2dd0826fa9012dbdc0d823aac4fb78cd25164a8c44dccd1b", func := "loop.example/g01354/laws.FnExactIsBoard", spec := "fnExactIsBoard", unfollowed := true, recurses := true, plainKeys := false, apart := false, narrowed := true }
def FnExactIsBoardUptoSaid : Prop := fnExactIsBoardUptoRow.holds Try.pinned (OpenSpec.upto fnExactIsBoardSpec)

/-- 'laws.FnExactBoardTiles', WHERE WHAT IT READS IS OF BULK AT MOST 1048576: true; the input reads as it did. -/
def fnExactBoardTilesUptoRow : OpenClaim := { program := "ytfhdgilddnndcaa", sum := "651034ea8eb89b7d2dd0826fa9012dbdc0d823aac4fb78cd25164a8c44dccd1b", func := "loop.example/g01354/laws.FnExactBoardTiles", spec := "fnExactBoardTiles", unfollowed := true, recurses := true, plainKeys := false, apart := false, narrowed := true }
def FnExactBoardTilesUptoSaid : Prop := fnExactBoardTilesUptoRow.holds Try.pinned (OpenSpec.upto fnExactBoardTilesSpec)

/-- 'laws.FnExactCountBoards', WHERE WHAT IT READS IS OF BULK AT MOST 1048576: true; the input reads as it did. -/
def fnExactCountBoardsUptoRow : OpenClaim := { program := "ytfhdgilddnndcaa", sum := "651034ea8eb89b7d2dd0826fa9012dbdc0d823aac4fb78cd25164a8c44dccd1b", func := "loop.example/g01354/laws.FnExactCountBoards", spec := "fnExactCountBoards", unfollowed := true, recurses := true, plainKeys := false, apart := false, narrowed := true }
def FnExactCountBoardsUptoSaid : Prop := fnExactCountBoardsUptoRow.holds Try.pinned (OpenSpec.upto fnExactCountBoardsSpec)

end Rows
end Go.Proofs.Ytfhdgilddnndcaa
