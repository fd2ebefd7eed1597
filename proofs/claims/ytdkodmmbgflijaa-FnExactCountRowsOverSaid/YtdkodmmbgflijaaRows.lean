/-
  No cell of these rows narrows 'for every input' (looked for: loops, veiled, ifaces, maps, wideKeys, modest, calm, conditions, laid).
  DERIVED. THE GIVEN ROWS OF THIS SEAT. 12 by the template 'for every input the law returns true; each argument reads behind the call as it read before'; 0 by the template 'total and deterministic' (their statements: YtdkodmmbgflijaaTotals.lean).
  GIVEN WITH THE SEED: the statements are not yours to turn. If you find one false, say at which input.
  Laid BY PROGRAM, IN A SANDBOX (cutbox-rows.mjs): the forced cells as the released guide's own fill.sh prints them over the translation dbb2f5812072d14b… (all of the seat's roots in one cut). By AI agents, Wed Nov 11 2026. No macro, syntax, notation, axiom, sorry.
-/
import Derived.Test.YtdkodmmbgflijaaChecked
import GoSem.Claim
import GoSem.ClaimJoined
import GoSem.ClaimMapViews
import Derived.JoinedTies
import Derived.KernelRfl
namespace Go.Proofs.Ytdkodmmbgflijaa
/- THE CELL 'sum', in the pinned program and in every row, IS THE sha256 OF THE DUMP (.gsa) THAT YtdkodmmbgflijaaProg.lean LOADS. Nothing in Lean hashes anything: it is a label: what it is worth is what the hold of that sum in a sandbox is worth. -/
noncomputable def Try.pinned : Pinned := { name := "ytdkodmmbgflijaa", sum := "dbb2f5812072d14b7da80d697efb08fd7a5215f67bb3f3bc8e2df464fdfc981d", checked := Try.checked }
namespace Rows
def none {H : Type} : Left H := { results := [], args := [] }

/-- 'laws.FnExactIsSet': WHATEVER THE INPUT: true; the input reads as it did. -/
def fnExactIsSetSpec : ChangeSpec := { name := "fnExactIsSet", fn := fun _ => fun
  | [d] => { results := [.lit (.bool true)], args := [d] }
  | _ => none }
def fnExactIsSetRow : OpenClaim := { program := "ytdkodmmbgflijaa", sum := "dbb2f5812072d14b7da80d697efb08fd7a5215f67bb3f3bc8e2df464fdfc981d", func := "loop.example/g01354/laws.FnExactIsSet", spec := "fnExactIsSet", apart := false }
def FnExactIsSetSaid : Prop := fnExactIsSetRow.holds Try.pinned (OpenSpec.ofChange fnExactIsSetSpec)

/-- ITS FALSE NEIGHBOUR: 'it returns false'. Refute it at one input. -/
def fnExactIsSetWrong : ChangeSpec := { name := "fnExactIsSet", fn := fun _ => fun
  | [d] => { results := [.lit (.bool false)], args := [d] }
  | _ => none }
def FnExactIsSetWrongFalsely : Prop := fnExactIsSetRow.holds Try.pinned (OpenSpec.ofChange fnExactIsSetWrong)

/-- 'laws.FnExactFlippedSet': WHATEVER THE INPUT: true; the input reads as it did. -/
def fnExactFlippedSetSpec : ChangeSpec := { name := "fnExactFlippedSet", fn := fun _ => fun
  | [d] => { results := [.lit (.bool true)], args := [d] }
  | _ => none }
def fnExactFlippedSetRow : OpenClaim := { program := "ytdkodmmbgflijaa", sum := "dbb2f5812072d14b7da80d697efb08fd7a5215f67bb3f3bc8e2df464fdfc981d", func := "loop.example/g01354/laws.FnExactFlippedSet", spec := "fnExactFlippedSet", unfollowed := true, recurses := true, apart := false }
def FnExactFlippedSetSaid : Prop := fnExactFlippedSetRow.holds Try.pinned (OpenSpec.ofChange fnExactFlippedSetSpec)

/-- ITS FALSE NEIGHBOUR: 'it returns false'. Refute it at one input. -/
def fnExactFlippedSetWrong : ChangeSpec := { name := "fnExactFlippedSet", fn := fun _ => fun
  | [d] => { results := [.lit (.bool false)], args := [d] }
  | _ => none }
def FnExactFlippedSetWrongFalsely : Prop := fnExactFlippedSetRow.holds Try.pinned (OpenSpec.ofChange fnExactFlippedSetWrong)

/-- 'laws.FnExactMirroredSet': WHATEVER THE INPUT: true; the input reads as it did. -/
def fnExactMirroredSetSpec : ChangeSpec := { name := "fnExactMirroredSet", fn := fun _ => fun
  | [d] => { results := [.lit (.bool true)], args := [d] }
  | _ => none }
def fnExactMirroredSetRow : OpenClaim := { program := "ytdkodmmbgflijaa", sum := "dbb2f5812072d14b7da80d697efb08fd7a5215f67bb3f3bc8e2df464fdfc981d", func := "loop.example/g01354/laws.FnExactMirroredSet", spec := "fnExactMirroredSet", unfollowed := true, recurses := true, apart := false }
def FnExactMirroredSetSaid : Prop := fnExactMirroredSetRow.holds Try.pinned (OpenSpec.ofChange fnExactMirroredSetSpec)

/-- ITS FALSE NEIGHBOUR: 'it returns false'. Refute it at one input. -/
def fnExactMirroredSetWrong : ChangeSpec := { name := "fnExactMirroredSet", fn := fun _ => fun
  | [d] => { results := [.lit (.bool false)], args := [d] }
  | _ => none }
def FnExactMirroredSetWrongFalsely : Prop := fnExactMirroredSetRow.holds Try.pinned (OpenSpec.ofChange fnExactMirroredSetWrong)

/-- 'laws.FnExactTurnedSet': WHATEVER THE INPUT: true; the input reads as it did. -/
def fnExactTurnedSetSpec : ChangeSpec := { name := "fnExactTurnedSet", fn := fun _ => fun
  | [d] => { results := [.lit (.bool true)], args := [d] }
  | _ => none }
def fnExactTurnedSetRow : OpenClaim := { program := "ytdkodmmbgflijaa", sum := "dbb2f5812072d14b7da80d697efb08fd7a5215f67bb3f3bc8e2df464fdfc981d", func := "loop.example/g01354/laws.FnExactTurnedSet", spec := "fnExactTurnedSet", unfollowed := true, recurses := true, apart := false }
def FnExactTurnedSetSaid : Prop := fnExactTurnedSetRow.holds Try.pinned (OpenSpec.ofChange fnExactTurnedSetSpec)

/-- ITS FALSE NEIGHBOUR: 'it returns false'. Refute it at one input. -/
def fnExactTurnedSetWrong : ChangeSpec := { name := "fnExactTurnedSet", fn := fun _ => fun
  | [d] => { results := [.lit (.bool false)], args := [d] }
  | _ => none }
def FnExactTurnedSetWrongFalsely : Prop := fnExactTurnedSetRow.holds Try.pinned (OpenSpec.ofChange fnExactTurnedSetWrong)

/-- 'laws.FnExactTransposedSet': WHATEVER THE INPUT: true; the input reads as it did. -/
def fnExactTransposedSetSpec : ChangeSpec := { name := "fnExactTransposedSet", fn := fun _ => fun
  | [d] => { results := [.lit (.bool true)], args := [d] }
  | _ => none }
def fnExactTransposedSetRow : OpenClaim := { program := "ytdkodmmbgflijaa", sum := "dbb2f5812072d14b7da80d697efb08fd7a5215f67bb3f3bc8e2df464fdfc981d", func := "loop.example/g01354/laws.FnExactTransposedSet", spec := "fnExactTransposedSet", unfollowed := true, recurses := true, apart := false }
def FnExactTransposedSetSaid : Prop := fnExactTransposedSetRow.holds Try.pinned (OpenSpec.ofChange fnExactTransposedSetSpec)

/-- ITS FALSE NEIGHBOUR: 'it returns false'. Refute it at one input. -/
def fnExactTransposedSetWrong : ChangeSpec := { name := "fnExactTransposedSet", fn := fun _ => fun
  | [d] => { results := [.lit (.bool false)], args := [d] }
  | _ => none }
def FnExactTransposedSetWrongFalsely : Prop := fnExactTransposedSetRow.holds Try.pinned (OpenSpec.ofChange fnExactTransposedSetWrong)

/-- 'laws.FnExactTakeTile': WHATEVER THE INPUT: true; the input reads as it did. -/
def fnExactTakeTileSpec : ChangeSpec := { name := "fnExactTakeTile", fn := fun _ => fun
  | [d1, d2] => { results := [.lit (.bool true)], args := [d1, d2] }
  | _ => none }
def fnExactTakeTileRow : OpenClaim := { program := "ytdkodmmbgflijaa", sum := "dbb2f5812072d14b7da80d697efb08fd7a5215f67bb3f3bc8e2df464fdfc981d", func := "loop.example/g01354/laws.FnExactTakeTile", spec := "fnExactTakeTile", apart := false }
def FnExactTakeTileSaid : Prop := fnExactTakeTileRow.holds Try.pinned (OpenSpec.ofChange fnExactTakeTileSpec)

/-- ITS FALSE NEIGHBOUR: 'it returns false'. Refute it at one input. -/
def fnExactTakeTileWrong : ChangeSpec := { name := "fnExactTakeTile", fn := fun _ => fun
  | [d1, d2] => { results := [.lit (.bool false)], args := [d1, d2] }
  | _ => none }
def FnExactTakeTileWrongFalsely : Prop := fnExactTakeTileRow.holds Try.pinned (OpenSpec.ofChange fnExactTakeTileWrong)

/-- 'laws.FnExactIsRow': WHATEVER THE INPUT: true; the input reads as it did. -/
def fnExactIsRowSpec : ChangeSpec := { name := "fnExactIsRow", fn := fun _ => fun
  | [d1, d2] => { results := [.lit (.bool true)], args := [d1, d2] }
  | _ => none }
def fnExactIsRowRow : OpenClaim := { program := "ytdkodmmbgflijaa", sum := "dbb2f5812072d14b7da80d697efb08fd7a5215f67bb3f3bc8e2df464fdfc981d", func := "loop.example/g01354/laws.FnExactIsRow", spec := "fnExactIsRow", apart := false }
def FnExactIsRowSaid : Prop := fnExactIsRowRow.holds Try.pinned (OpenSpec.ofChange fnExactIsRowSpec)

/-- ITS FALSE NEIGHBOUR: 'it returns false'. Refute it at one input. -/
def fnExactIsRowWrong : ChangeSpec := { name := "fnExactIsRow", fn := fun _ => fun
  | [d1, d2] => { results := [.lit (.bool false)], args := [d1, d2] }
  | _ => none }
def FnExactIsRowWrongFalsely : Prop := fnExactIsRowRow.holds Try.pinned (OpenSpec.ofChange fnExactIsRowWrong)

/-- 'laws.FnExactWordsOfRow': WHATEVER THE INPUT: true; the input reads as it did. -/
def fnExactWordsOfRowSpec : ChangeSpec := { name := "fnExactWordsOfRow", fn := fun _ => fun
  | [d1, d2] => { results := [.lit (.bool true)], args := [d1, d2] }
  | _ => none }
def fnExactWordsOfRowRow : OpenClaim := { program := "ytdkodmmbgflijaa", sum := "dbb2f5812072d14b7da80d697efb08fd7a5215f67bb3f3bc8e2df464fdfc981d", func := "loop.example/g01354/laws.FnExactWordsOfRow", spec := "fnExactWordsOfRow", apart := false }
def FnExactWordsOfRowSaid : Prop := fnExactWordsOfRowRow.holds Try.pinned (OpenSpec.ofChange fnExactWordsOfRowSpec)

/-- ITS FALSE NEIGHBOUR: 'it returns false'. Refute it at one input. -/
def fnExactWordsOfRowWrong : ChangeSpec := { name := "fnExactWordsOfRow", fn := fun _ => fun
  | [d1, d2] => { results := [.lit (.bool false)], args := [d1, d2] }
  | _ => none }
def FnExactWordsOfRowWrongFalsely : Prop := fnExactWordsOfRowRow.holds Try.pinned (OpenSpec.ofChange fnExactWordsOfRowWrong)

/-- 'laws.FnExactCountRows': WHATEVER THE INPUT: true; the input reads as it did. -/
def fnExactCountRowsSpec : ChangeSpec := { name := "fnExactCountRows", fn := fun _ => fun
  | [d1, d2] => { results := [.lit (.bool true)], args := [d1, d2] }
  | _ => none }
def fnExactCountRowsRow : OpenClaim := { program := "ytdkodmmbgflijaa", sum := "dbb2f5812072d14b7da80d697efb08fd7a5215f67bb3f3bc8e2df464fdfc981d", func := "loop.example/g01354/laws.FnExactCountRows", spec := "fnExactCountRows", apart := false }
def FnExactCountRowsSaid : Prop := fnExactCountRowsRow.holds Try.pinned (OpenSpec.ofChange fnExactCountRowsSpec)

/-- ITS FALSE NEIGHBOUR: 'it returns false'. Refute it at one input. -/
def fnExactCountRowsWrong : ChangeSpec := { name := "fnExactCountRows", fn := fun _ => fun
  | [d1, d2] => { results := [.lit (.bool false)], args := [d1, d2] }
  | _ => none }
def FnExactCountRowsWrongFalsely : Prop := fnExactCountRowsRow.holds Try.pinned (OpenSpec.ofChange fnExactCountRowsWrong)

/-- 'laws.FnExactCountRowsOver': WHATEVER THE INPUT: true; the input reads as it did. -/
def fnExactCountRowsOverSpec : ChangeSpec := { name := "fnExactCountRowsOver", fn := fun _ => fun
  | [d1, d2] => { results := [.lit (.bool true)], args := [d1, d2] }
  | _ => none }
def fnExactCountRowsOverRow : OpenClaim := { program := "ytdkodmmbgflijaa", sum := "dbb2f5812072d14b7da80d697efb08fd7a5215f67bb3f3bc8e2df464fdfc981d", func := "loop.example/g01354/laws.FnExactCountRowsOver", spec := "fnExactCountRowsOver", apart := false }
def FnExactCountRowsOverSaid : Prop := fnExactCountRowsOverRow.holds Try.pinned (OpenSpec.ofChange fnExactCountRowsOverSpec)

/-- ITS FALSE NEIGHBOUR: 'it returns false'. Refute it at one input. -/
def fnExactCountRowsOverWrong : ChangeSpec := { name := "fnExactCountRowsOver", fn := fun _ => fun
  | [d1, d2] => { results := [.lit (.bool false)], args := [d1, d2] }
  | _ => none }
def FnExactCountRowsOverWrongFalsely : Prop := fnExactCountRowsOverRow.holds Try.pinned (OpenSpec.ofChange fnExactCountRowsOverWrong)

/-- 'laws.FnExactCountRounds': WHATEVER THE INPUT: true; the input reads as it did. -/
def fnExactCountRoundsSpec : ChangeSpec := { name := "fnExactCountRounds", fn := fun _ => fun
  | [d1, d2] => { results := [.lit (.bool true)], args := [d1, d2] }
  | _ => none }
def fnExactCountRoundsRow : OpenClaim := { program := "ytdkodmmbgflijaa", sum := "dbb2f5812072d14b7da80d697efb08fd7a5215f67bb3f3bc8e2df464fdfc981d", func := "loop.example/g01354/laws.FnExactCountRounds", spec := "fnExactCountRounds", apart := false }
def FnExactCountRoundsSaid : Prop := fnExactCountRoundsRow.holds Try.pinned (OpenSpec.ofChange fnExactCountRoundsSpec)

/-- ITS FALSE NEIGHBOUR: 'it returns false'. Refute it at one input. -/
def fnExactCountRoundsWrong : ChangeSpec := { name := "fnExactCountRounds", fn := fun _ => fun
  | [d1, d2] => { results := [.lit (.bool false)], args := [d1, d2] }
  | _ => none }
def FnExactCountRoundsWrongFalsely : Prop := fnExactCountRoundsRow.holds Try.pinned (OpenSpec.ofChange fnExactCountRoundsWrong)

/-- 'laws.FnExactIsFilling': WHATEVER THE INPUT: true; the input reads as it did. -/
def fnExactIsFillingSpec : ChangeSpec := { name := "fnExactIsFilling", fn := fun _ => fun
  | [d1, d2] => { results := [.lit (.bool true)], args := [d1, d2] }
  | _ => none }
def fnExactIsFillingRow : OpenClaim := { program := "ytdkodmmbgflijaa", sum := "dbb2f5812072d14b7da80d697efb08fd7a5215f67bb3f3bc8e2df464fdfc981d", func := "loop.example/g01354/laws.FnExactIsFilling", spec := "fnExactIsFilling", apart := false }
def FnExactIsFillingSaid : Prop := fnExactIsFillingRow.holds Try.pinned (OpenSpec.ofChange fnExactIsFillingSpec)

/-- ITS FALSE NEIGHBOUR: 'it returns false'. Refute it at one input. -/
def fnExactIsFillingWrong : ChangeSpec := { name := "fnExactIsFilling", fn := fun _ => fun
  | [d1, d2] => { results := [.lit (.bool false)], args := [d1, d2] }
  | _ => none }
def FnExactIsFillingWrongFalsely : Prop := fnExactIsFillingRow.holds Try.pinned (OpenSpec.ofChange fnExactIsFillingWrong)

/- THE SECOND FORM. 'bulk': how many values and letters a reading holds, each counted each time it is reached (what is shared counts as often as it is met; a slice's spare places count too). A statement '..UptoSaid' is the law's where the arguments, and the package variables that the reading takes, are together of bulk at most 1048576: NARROWER than '..Said'. Prove '..Said' where nothing that the law and all that it calls make is longer than what came in: it says more and counts as full. Else prove '..UptoSaid'. A law counts once. -/
mutual
def uptoBulk {H : Type} : DataW H → Nat
  | .lit (.string bytes) => bytes.length + 1
  | .lit _ => 1
  | .nil => 1
  | .ptr d => uptoBulk d + 1
  | .slice elems spare => uptoBulkAll elems + uptoBulkAll spare + 1
  | .agg parts => uptoBulkAll parts + 1
  | .iface _ d => uptoBulk d + 1
  | .map entries => uptoBulkEntries entries + 1
  | .held _ => 1
def uptoBulkAll {H : Type} : List (DataW H) → Nat
  | [] => 0
  | d :: r => uptoBulk d + uptoBulkAll r
def uptoBulkEntries {H : Type} : List (Lit × DataW H) → Nat
  | [] => 0
  | x :: r => uptoBulkEntry x + uptoBulkEntries r
def uptoBulkEntry {H : Type} : Lit × DataW H → Nat
  | (.string bytes, d) => bytes.length + uptoBulk d + 1
  | (_, d) => uptoBulk d + 1
 end
def uptoSmall : (H : Type) → List (DataW H) → Bool := fun _ ds => decide (uptoBulkAll ds ≤ 1048576)
def OpenSpec.upto (s : _root_.Go.ChangeSpec) : _root_.Go.OpenSpec := { _root_.Go.OpenSpec.ofChange s with cond := some uptoSmall }

/-- 'laws.FnExactIsSet', WHERE WHAT IT READS IS OF BULK AT MOST 1048576: true; the input reads as it did. -/
def fnExactIsSetUptoRow : OpenClaim := { program := "ytdkodmmbgflijaa", sum := "dbb2f5812072d14b7da80d697efb08fd7a5215f67bb3f3bc8e2df464fdfc981d", func := "loop.example/g01354/laws.FnExactIsSet", spec := "fnExactIsSet", apart := false, narrowed := true }
def FnExactIsSetUptoSaid : Prop := fnExactIsSetUptoRow.holds Try.pinned (OpenSpec.upto fnExactIsSetSpec)

/-- 'laws.FnExactFlippedSet', WHERE WHAT IT READS IS OF BULK AT MOST 1048576: true; the input reads as it did. -/
def fnExactFlippedSetUptoRow : OpenClaim := { program := "ytdkodmmbgflijaa", sum := "dbb2f5812072d14b7da80d697efb08fd7a5215f67bb3f3bc8e2df464fdfc981d", func := "loop.example/g01354/laws.FnExactFlippedSet", spec := "fnExactFlippedSet", unfollowed := true, recurses := true, apart := false, narrowed := true }
def FnExactFlippedSetUptoSaid : Prop := fnExactFlippedSetUptoRow.holds Try.pinned (OpenSpec.upto fnExactFlippedSetSpec)

/-- 'laws.FnExactMirroredSet', WHERE WHAT IT READS IS OF BULK AT MOST 1048576: true; the input reads as it did. -/
def fnExactMirroredSetUptoRow : OpenClaim := { program := "ytdkodmmbgflijaa", sum := "dbb2f5812072d14b7da80d697efb08fd7a5215f67bb3f3bc8e2df464fdfc981d", func := "loop.example/g01354/laws.FnExactMirroredSet", spec := "fnExactMirroredSet", unfollowed := true, recurses := true, apart := false, narrowed := true }
def FnExactMirroredSetUptoSaid : Prop := fnExactMirroredSetUptoRow.holds Try.pinned (OpenSpec.upto fnExactMirroredSetSpec)

/-- 'laws.FnExactTurnedSet', WHERE WHAT IT READS IS OF BULK AT MOST 1048576: true; the input reads as it did. -/
def fnExactTurnedSetUptoRow : OpenClaim := { program := "ytdkodmmbgflijaa", sum := "dbb2f5812072d14b7da80d697efb08fd7a5215f67bb3f3bc8e2df464fdfc981d", func := "loop.example/g01354/laws.FnExactTurnedSet", spec := "fnExactTurnedSet", unfollowed := true, recurses := true, apart := false, narrowed := true }
def FnExactTurnedSetUptoSaid : Prop := fnExactTurnedSetUptoRow.holds Try.pinned (OpenSpec.upto fnExactTurnedSetSpec)

/-- 'laws.FnExactTransposedSet', WHERE WHAT IT READS IS OF BULK AT MOST 1048576: true; the input reads as it did. -/
def fnExactTransposedSetUptoRow : OpenClaim := { program := "ytdkodmmbgflijaa", sum := "dbb2f5812072d14b7da80d697efb08fd7a5215f67bb3f3bc8e2df464fdfc981d", func := "loop.example/g01354/laws.FnExactTransposedSet", spec := "fnExactTransposedSet", unfollowed := true, recurses := true, apart := false, narrowed := true }
def FnExactTransposedSetUptoSaid : Prop := fnExactTransposedSetUptoRow.holds Try.pinned (OpenSpec.upto fnExactTransposedSetSpec)

/-- 'laws.FnExactTakeTile', WHERE WHAT IT READS IS OF BULK AT MOST 1048576: true; the input reads as it did. -/
def fnExactTakeTileUptoRow : OpenClaim := { program := "ytdkodmmbgflijaa", sum := "dbb2f5812072d14b7da80d697efb08fd7a5215f67bb3f3bc8e2df464fdfc981d", func := "loop.example/g01354/laws.FnExactTakeTile", spec := "fnExactTakeTile", apart := false, narrowed := true }
def FnExactTakeTileUptoSaid : Prop := fnExactTakeTileUptoRow.holds Try.pinned (OpenSpec.upto fnExactTakeTileSpec)

/-- 'laws.FnExactIsRow', WHERE WHAT IT READS IS OF BULK AT MOST 1048576: true; the input reads as it did. -/
def fnExactIsRowUptoRow : OpenClaim := { program := "ytdkodmmbgflijaa", sum := "dbb2f5812072d14b7da80d697efb08fd7a5215f67bb3f3bc8e2df464fdfc981d", func := "loop.example/g01354/laws.FnExactIsRow", spec := "fnExactIsRow", apart := false, narrowed := true }
def FnExactIsRowUptoSaid : Prop := fnExactIsRowUptoRow.holds Try.pinned (OpenSpec.upto fnExactIsRowSpec)

/-- 'laws.FnExactWordsOfRow', WHERE WHAT IT READS IS OF BULK AT MOST 1048576: true; the input reads as it did. -/
def fnExactWordsOfRowUptoRow : OpenClaim := { program := "ytdkodmmbgflijaa", sum := "dbb2f5812072d14b7da80d697efb08fd7a5215f67bb3f3bc8e2df464fdfc981d", func := "loop.example/g01354/laws.FnExactWordsOfRow", spec := "fnExactWordsOfRow", apart := false, narrowed := true }
def FnExactWordsOfRowUptoSaid : Prop := fnExactWordsOfRowUptoRow.holds Try.pinned (OpenSpec.upto fnExactWordsOfRowSpec)

/-- 'laws.FnExactCountRows', WHERE WHAT IT READS IS OF BULK AT MOST 1048576: true; the input reads as it did. -/
def fnExactCountRowsUptoRow : OpenClaim := { program := "ytdkodmmbgflijaa", sum := "dbb2f5812072d14b7da80d697efb08fd7a5215f67bb3f3bc8e2df464fdfc981d", func := "loop.example/g01354/laws.FnExactCountRows", spec := "fnExactCountRows", apart := false, narrowed := true }
def FnExactCountRowsUptoSaid : Prop := fnExactCountRowsUptoRow.holds Try.pinned (OpenSpec.upto fnExactCountRowsSpec)

/-- 'laws.FnExactCountRowsOver', WHERE WHAT IT READS IS OF BULK AT MOST 1048576: true; the input reads as it did. -/
def fnExactCountRowsOverUptoRow : OpenClaim := { program := "ytdkodmmbgflijaa", sum := "dbb2f5812072d14b7da80d697efb08fd7a5215f67bb3f3bc8e2df464fdfc981d", func := "loop.example/g01354/laws.FnExactCountRowsOver", spec := "fnExactCountRowsOver", apart := false, narrowed := true }
def FnExactCountRowsOverUptoSaid : Prop := fnExactCountRowsOverUptoRow.holds Try.pinned (OpenSpec.upto fnExactCountRowsOverSpec)

/-- 'laws.FnExactCountRounds', WHERE WHAT IT READS IS OF BULK AT MOST 1048576: true; the input reads as it did. -/
def fnExactCountRoundsUptoRow : OpenClaim := { program := "ytdkodmmbgflijaa", sum := "dbb2f5812072d14b7da80d697efb08fd7a5215f67bb3f3bc8e2df464fdfc981d", func := "loop.example/g01354/laws.FnExactCountRounds", spec := "fnExactCountRounds", apart := false, narrowed := true }
def FnExactCountRoundsUptoSaid : Prop := fnExactCountRoundsUptoRow.holds Try.pinned (OpenSpec.upto fnExactCountRoundsSpec)

/-- 'laws.FnExactIsFilling', WHERE WHAT IT READS IS OF BULK AT MOST 1048576: true; the input reads as it did. -/
def fnExactIsFillingUptoRow : OpenClaim := { program := "ytdkodmmbgflijaa", sum := "dbb2f5812072d14b7da80d697efb08fd7a5215f67bb3f3bc8e2df464fdfc981d", func := "loop.example/g01354/laws.FnExactIsFilling", spec := "fnExactIsFilling", apart := false, narrowed := true }
def FnExactIsFillingUptoSaid : Prop := fnExactIsFillingUptoRow.holds Try.pinned (OpenSpec.upto fnExactIsFillingSpec)

end Rows
end Go.Proofs.Ytdkodmmbgflijaa
