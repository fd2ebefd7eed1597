/-
  No cell of these rows narrows 'for every input' (looked for: loops, veiled, ifaces, maps, wideKeys, modest, calm, conditions, laid).
  DERIVED. THE GIVEN ROWS OF THIS SEAT. 10 by the template 'for every input the law returns true; each argument reads behind the call as it read before'; 0 by the template 'total and deterministic' (their statements: YtafpiembiiicoabTotals.lean).
  GIVEN WITH THE SEED: the statements are not yours to turn. If you find one false, say at which input.
  Laid BY PROGRAM, IN A SANDBOX (cutbox-rows.mjs): the forced cells as the released guide's own fill.sh prints them over the translation 1c792f9b3b2c64e4… (all of the seat's roots in one cut). By AI agents, Wed Nov 11 2026. No macro, syntax, notation, axiom, sorry.
-/
import Derived.Test.YtafpiembiiicoabChecked
import GoSem.Claim
import GoSem.ClaimJoined
import GoSem.ClaimMapViews
import Derived.JoinedTies
import Derived.KernelRfl
namespace Go.Proofs.Ytafpiembiiicoab
/- THE CELL 'sum', in the pinned program and in every row, IS THE sha256 OF THE DUMP (.gsa) THAT YtafpiembiiicoabProg.lean LOADS. Nothing in Lean hashes anything: it is a label: what it is worth is what the hold of that sum in a sandbox is worth. -/
noncomputable def Try.pinned : Pinned := { name := "ytafpiembiiicoab", sum := "1c792f9b3b2c64e4a6b16c9a9adf3878d1aa7a53b6d7412faad0599df0e3f5de", checked := Try.checked }
namespace Rows
def none {H : Type} : Left H := { results := [], args := [] }

/-- 'laws.FnExactCountRows': WHATEVER THE INPUT: true; the input reads as it did. -/
def fnExactCountRowsSpec : ChangeSpec := { name := "fnExactCountRows", fn := fun _ => fun
  | [d1, d2] => { results := [.lit (.bool true)], args := [d1, d2] }
  | _ => none }
def fnExactCountRowsRow : OpenClaim := { program := "ytafpiembiiicoab", sum := "1c792f9b3b2c64e4a6b16c9a9adf3878d1aa7a53b6d7412faad0599df0e3f5de", func := "loop.example/g01354/laws.FnExactCountRows", spec := "fnExactCountRows", plainKeys := false, apart := false }
def FnExactCountRowsSaid : Prop := fnExactCountRowsRow.holds Try.pinned (OpenSpec.ofChange fnExactCountRowsSpec)

/-- ITS FALSE NEIGHBOUR: 'it returns false'. Refute it at one input. -/
def fnExactCountRowsWrong : ChangeSpec := { name := "fnExactCountRows", fn := fun _ => fun
  | [d1, d2] => { results := [.lit (.bool false)], args := [d1, d2] }
  | _ => none }
def FnExactCountRowsWrongFalsely : Prop := fnExactCountRowsRow.holds Try.pinned (OpenSpec.ofChange fnExactCountRowsWrong)

/-- 'laws.FnExactCountRounds': WHATEVER THE INPUT: true; the input reads as it did. -/
def fnExactCountRoundsSpec : ChangeSpec := { name := "fnExactCountRounds", fn := fun _ => fun
  | [d1, d2] => { results := [.lit (.bool true)], args := [d1, d2] }
  | _ => none }
def fnExactCountRoundsRow : OpenClaim := { program := "ytafpiembiiicoab", sum := "1c792f9b3b2c64e4a6b16c9a9adf3878d1aa7a53b6d7412faad0599df0e3f5de", func := "loop.example/g01354/laws.FnExactCountRounds", spec := "fnExactCountRounds", plainKeys := false, apart := false }
def FnExactCountRoundsSaid : Prop := fnExactCountRoundsRow.holds Try.pinned (OpenSpec.ofChange fnExactCountRoundsSpec)

/-- ITS FALSE NEIGHBOUR: 'it returns false'. Refute it at one input. -/
def fnExactCountRoundsWrong : ChangeSpec := { name := "fnExactCountRounds", fn := fun _ => fun
  | [d1, d2] => { results := [.lit (.bool false)], args := [d1, d2] }
  | _ => none }
def FnExactCountRoundsWrongFalsely : Prop := fnExactCountRoundsRow.holds Try.pinned (OpenSpec.ofChange fnExactCountRoundsWrong)

/-- 'laws.FnExactCountRowsOver': WHATEVER THE INPUT: true; the input reads as it did. -/
def fnExactCountRowsOverSpec : ChangeSpec := { name := "fnExactCountRowsOver", fn := fun _ => fun
  | [d1, d2] => { results := [.lit (.bool true)], args := [d1, d2] }
  | _ => none }
def fnExactCountRowsOverRow : OpenClaim := { program := "ytafpiembiiicoab", sum := "1c792f9b3b2c64e4a6b16c9a9adf3878d1aa7a53b6d7412faad0599df0e3f5de", func := "loop.example/g01354/laws.FnExactCountRowsOver", spec := "fnExactCountRowsOver", plainKeys := false, apart := false }
def FnExactCountRowsOverSaid : Prop := fnExactCountRowsOverRow.holds Try.pinned (OpenSpec.ofChange fnExactCountRowsOverSpec)

/-- ITS FALSE NEIGHBOUR: 'it returns false'. Refute it at one input. -/
def fnExactCountRowsOverWrong : ChangeSpec := { name := "fnExactCountRowsOver", fn := fun _ => fun
  | [d1, d2] => { results := [.lit (.bool false)], args := [d1, d2] }
  | _ => none }
def FnExactCountRowsOverWrongFalsely : Prop := fnExactCountRowsOverRow.holds Try.pinned (OpenSpec.ofChange fnExactCountRowsOverWrong)

/-- 'laws.FnExactFirstRow': WHATEVER THE INPUT: true; the input reads as it did. -/
def fnExactFirstRowSpec : ChangeSpec := { name := "fnExactFirstRow", fn := fun _ => fun
  | [d1, d2] => { results := [.lit (.bool true)], args := [d1, d2] }
  | _ => none }
def fnExactFirstRowRow : OpenClaim := { program := "ytafpiembiiicoab", sum := "1c792f9b3b2c64e4a6b16c9a9adf3878d1aa7a53b6d7412faad0599df0e3f5de", func := "loop.example/g01354/laws.FnExactFirstRow", spec := "fnExactFirstRow", unfollowed := true, recurses := true, plainKeys := false, apart := false }
def FnExactFirstRowSaid : Prop := fnExactFirstRowRow.holds Try.pinned (OpenSpec.ofChange fnExactFirstRowSpec)

/-- ITS FALSE NEIGHBOUR: 'it returns false'. Refute it at one input. -/
def fnExactFirstRowWrong : ChangeSpec := { name := "fnExactFirstRow", fn := fun _ => fun
  | [d1, d2] => { results := [.lit (.bool false)], args := [d1, d2] }
  | _ => none }
def FnExactFirstRowWrongFalsely : Prop := fnExactFirstRowRow.holds Try.pinned (OpenSpec.ofChange fnExactFirstRowWrong)

/-- 'laws.FnExactSouthWords': WHATEVER THE INPUT: true; the input reads as it did. -/
def fnExactSouthWordsSpec : ChangeSpec := { name := "fnExactSouthWords", fn := fun _ => fun
  | [d1, d2] => { results := [.lit (.bool true)], args := [d1, d2] }
  | _ => none }
def fnExactSouthWordsRow : OpenClaim := { program := "ytafpiembiiicoab", sum := "1c792f9b3b2c64e4a6b16c9a9adf3878d1aa7a53b6d7412faad0599df0e3f5de", func := "loop.example/g01354/laws.FnExactSouthWords", spec := "fnExactSouthWords", unfollowed := true, recurses := true, plainKeys := false, apart := false }
def FnExactSouthWordsSaid : Prop := fnExactSouthWordsRow.holds Try.pinned (OpenSpec.ofChange fnExactSouthWordsSpec)

/-- ITS FALSE NEIGHBOUR: 'it returns false'. Refute it at one input. -/
def fnExactSouthWordsWrong : ChangeSpec := { name := "fnExactSouthWords", fn := fun _ => fun
  | [d1, d2] => { results := [.lit (.bool false)], args := [d1, d2] }
  | _ => none }
def FnExactSouthWordsWrongFalsely : Prop := fnExactSouthWordsRow.holds Try.pinned (OpenSpec.ofChange fnExactSouthWordsWrong)

/-- 'laws.FnExactSouthRounds': WHATEVER THE INPUT: true; the input reads as it did. -/
def fnExactSouthRoundsSpec : ChangeSpec := { name := "fnExactSouthRounds", fn := fun _ => fun
  | [d1, d2] => { results := [.lit (.bool true)], args := [d1, d2] }
  | _ => none }
def fnExactSouthRoundsRow : OpenClaim := { program := "ytafpiembiiicoab", sum := "1c792f9b3b2c64e4a6b16c9a9adf3878d1aa7a53b6d7412faad0599df0e3f5de", func := "loop.example/g01354/laws.FnExactSouthRounds", spec := "fnExactSouthRounds", unfollowed := true, recurses := true, plainKeys := false, apart := false }
def FnExactSouthRoundsSaid : Prop := fnExactSouthRoundsRow.holds Try.pinned (OpenSpec.ofChange fnExactSouthRoundsSpec)

/-- ITS FALSE NEIGHBOUR: 'it returns false'. Refute it at one input. -/
def fnExactSouthRoundsWrong : ChangeSpec := { name := "fnExactSouthRounds", fn := fun _ => fun
  | [d1, d2] => { results := [.lit (.bool false)], args := [d1, d2] }
  | _ => none }
def FnExactSouthRoundsWrongFalsely : Prop := fnExactSouthRoundsRow.holds Try.pinned (OpenSpec.ofChange fnExactSouthRoundsWrong)

/-- 'laws.FnExactLastingTiles': WHATEVER THE INPUT: true; the input reads as it did. -/
def fnExactLastingTilesSpec : ChangeSpec := { name := "fnExactLastingTiles", fn := fun _ => fun
  | [d] => { results := [.lit (.bool true)], args := [d] }
  | _ => none }
def fnExactLastingTilesRow : OpenClaim := { program := "ytafpiembiiicoab", sum := "1c792f9b3b2c64e4a6b16c9a9adf3878d1aa7a53b6d7412faad0599df0e3f5de", func := "loop.example/g01354/laws.FnExactLastingTiles", spec := "fnExactLastingTiles", plainKeys := false, apart := false }
def FnExactLastingTilesSaid : Prop := fnExactLastingTilesRow.holds Try.pinned (OpenSpec.ofChange fnExactLastingTilesSpec)

/-- ITS FALSE NEIGHBOUR: 'it returns false'. Refute it at one input. -/
def fnExactLastingTilesWrong : ChangeSpec := { name := "fnExactLastingTiles", fn := fun _ => fun
  | [d] => { results := [.lit (.bool false)], args := [d] }
  | _ => none }
def FnExactLastingTilesWrongFalsely : Prop := fnExactLastingTilesRow.holds Try.pinned (OpenSpec.ofChange fnExactLastingTilesWrong)

/-- 'laws.FnExactIsDetermined': WHATEVER THE INPUT: true; the input reads as it did. -/
def fnExactIsDeterminedSpec : ChangeSpec := { name := "fnExactIsDetermined", fn := fun _ => fun
  | [d1, d2] => { results := [.lit (.bool true)], args := [d1, d2] }
  | _ => none }
def fnExactIsDeterminedRow : OpenClaim := { program := "ytafpiembiiicoab", sum := "1c792f9b3b2c64e4a6b16c9a9adf3878d1aa7a53b6d7412faad0599df0e3f5de", func := "loop.example/g01354/laws.FnExactIsDetermined", spec := "fnExactIsDetermined", plainKeys := false, apart := false }
def FnExactIsDeterminedSaid : Prop := fnExactIsDeterminedRow.holds Try.pinned (OpenSpec.ofChange fnExactIsDeterminedSpec)

/-- ITS FALSE NEIGHBOUR: 'it returns false'. Refute it at one input. -/
def fnExactIsDeterminedWrong : ChangeSpec := { name := "fnExactIsDetermined", fn := fun _ => fun
  | [d1, d2] => { results := [.lit (.bool false)], args := [d1, d2] }
  | _ => none }
def FnExactIsDeterminedWrongFalsely : Prop := fnExactIsDeterminedRow.holds Try.pinned (OpenSpec.ofChange fnExactIsDeterminedWrong)

/-- 'laws.FnRows': WHATEVER THE INPUT: true; the input reads as it did. -/
def fnRowsSpec : ChangeSpec := { name := "fnRows", fn := fun _ => fun
  | [d] => { results := [.lit (.bool true)], args := [d] }
  | _ => none }
def fnRowsRow : OpenClaim := { program := "ytafpiembiiicoab", sum := "1c792f9b3b2c64e4a6b16c9a9adf3878d1aa7a53b6d7412faad0599df0e3f5de", func := "loop.example/g01354/laws.FnRows", spec := "fnRows", unfollowed := true, recurses := true, plainKeys := false, apart := false }
def FnRowsSaid : Prop := fnRowsRow.holds Try.pinned (OpenSpec.ofChange fnRowsSpec)

/-- ITS FALSE NEIGHBOUR: 'it returns false'. Refute it at one input. -/
def fnRowsWrong : ChangeSpec := { name := "fnRows", fn := fun _ => fun
  | [d] => { results := [.lit (.bool false)], args := [d] }
  | _ => none }
def FnRowsWrongFalsely : Prop := fnRowsRow.holds Try.pinned (OpenSpec.ofChange fnRowsWrong)

/-- 'laws.FnTurnedSets': WHATEVER THE INPUT: true; the input reads as it did. -/
def fnTurnedSetsSpec : ChangeSpec := { name := "fnTurnedSets", fn := fun _ => fun
  | [d] => { results := [.lit (.bool true)], args := [d] }
  | _ => none }
def fnTurnedSetsRow : OpenClaim := { program := "ytafpiembiiicoab", sum := "1c792f9b3b2c64e4a6b16c9a9adf3878d1aa7a53b6d7412faad0599df0e3f5de", func := "loop.example/g01354/laws.FnTurnedSets", spec := "fnTurnedSets", unfollowed := true, recurses := true, plainKeys := false, apart := false }
def FnTurnedSetsSaid : Prop := fnTurnedSetsRow.holds Try.pinned (OpenSpec.ofChange fnTurnedSetsSpec)

/-- ITS FALSE NEIGHBOUR: 'it returns false'. Refute it at one input. -/
def fnTurnedSetsWrong : ChangeSpec := { name := "fnTurnedSets", fn := fun _ => fun
  | [d] => { results := [.lit (.bool false)], args := [d] }
  | _ => none }
def FnTurnedSetsWrongFalsely : Prop := fnTurnedSetsRow.holds Try.pinned (OpenSpec.ofChange fnTurnedSetsWrong)

/- THE SECOND FORM. 'bulk': how many values and letters a reading holds, each counted each time it is reached (what is shared counts as often as it is met; a slice's spare places count too). A statement '..UptoSaid' is the law's where the arguments, and the package variables that the reading takes, are together of bulk at most 1048576: NARROWER than '..Said'. Prove '..Said' where nothing that the law and all that it calls make is longer than what came in: it says more and counts as full. Else prove '..UptoSaid'. A law counts once. -/
mutual
def uptoBulk {H : Type} : DataW H → Nat
  | .lit (.string bytes) => bytes.length + 1
  | .lit _ => 1
  | .nil => 1
  | .ptr d => uptoBulk d + 1
  | .slice elems spare => uptoBulkAll elems + uptoBulkAll spare + 1
  | .agg parts => uptoBulkAll parts + 1
  | .iface _ d => uptoBulk d + 1
  | .map entries => uptoBulkEntries entries + 1
  | .held _ => 1
def uptoBulkAll {H : Type} : List (DataW H) → Nat
  | [] => 0
  | d :: r => uptoBulk d + uptoBulkAll r
def uptoBulkEntries {H : Type} : List (Lit × DataW H) → Nat
  | [] => 0
  | x :: r => uptoBulkEntry x + uptoBulkEntries r
def uptoBulkEntry {H : Type} : Lit × DataW H → Nat
  | (.string bytes, d) => bytes.length + uptoBulk d + 1
  | (_, d) => uptoBulk d + 1
 end
def uptoSmall : (H : Type) → List (DataW H) → Bool := fun _ ds => decide (uptoBulkAll ds ≤ 1048576)
def OpenSpec.upto (s : _root_.Go.ChangeSpec) : _root_.Go.OpenSpec := { _root_.Go.OpenSpec.ofChange s with cond := some uptoSmall }

/-- 'laws.FnExactCountRows', WHERE WHAT IT READS IS OF BULK AT MOST 1048576: true; the input reads as it did. -/
def fnExactCountRowsUptoRow : OpenClaim := { program := "ytafpiembiiicoab", sum := "1c792f9b3b2c64e4a6b16c9a9adf3878d1aa7a53b6d7412faad0599df0e3f5de", func := "loop.example/g01354/laws.FnExactCountRows", spec := "fnExactCountRows", plainKeys := false, apart := false, narrowed := true }
def FnExactCountRowsUptoSaid : Prop := fnExactCountRowsUptoRow.holds Try.pinned (OpenSpec.upto fnExactCountRowsSpec)

/-- 'laws.FnExactCountRounds', WHERE WHAT IT READS IS OF BULK AT MOST 1048576: true; the input reads as it did. -/
def fnExactCountRoundsUptoRow : OpenClaim := { program := "ytafpiembiiicoab", sum := "1c792f9b3b2c64e4a6b16c9a9adf3878d1aa7a53b6d7412faad0599df0e3f5de", func := "loop.example/g01354/laws.FnExactCountRounds", spec := "fnExactCountRounds", plainKeys := false, apart := false, narrowed := true }
def FnExactCountRoundsUptoSaid : Prop := fnExactCountRoundsUptoRow.holds Try.pinned (OpenSpec.upto fnExactCountRoundsSpec)

/-- 'laws.FnExactCountRowsOver', WHERE WHAT IT READS IS OF BULK AT MOST 1048576: true; the input reads as it did. -/
def fnExactCountRowsOverUptoRow : OpenClaim := { program := "ytafpiembiiicoab", sum := "1c792f9b3b2c64e4a6b16c9a9adf3878d1aa7a53b6d7412faad0599df0e3f5de", func := "loop.example/g01354/laws.FnExactCountRowsOver", spec := "fnExactCountRowsOver", plainKeys := false, apart := false, narrowed := true }
def FnExactCountRowsOverUptoSaid : Prop := fnExactCountRowsOverUptoRow.holds Try.pinned (OpenSpec.upto fnExactCountRowsOverSpec)

/-- 'laws.FnExactFirstRow', WHERE WHAT IT READS IS OF BULK AT MOST 1048576: true; the input reads as it did. -/
def fnExactFirstRowUptoRow : OpenClaim := { program := "ytafpiembiiicoab", sum := "1c792f9b3b2c64e4a6b16c9a9adf3878d1aa7a53b6d7412faad0599df0e3f5de", func := "loop.example/g01354/laws.FnExactFirstRow", spec := "fnExactFirstRow", unfollowed := true, recurses := true, plainKeys := false, apart := false, narrowed := true }
def FnExactFirstRowUptoSaid : Prop := fnExactFirstRowUptoRow.holds Try.pinned (OpenSpec.upto fnExactFirstRowSpec)

/-- 'laws.FnExactSouthWords', WHERE WHAT IT READS IS OF BULK AT MOST 1048576: true; the input reads as it did. -/
def fnExactSouthWordsUptoRow : OpenClaim := { program := "ytafpiembiiicoab", sum := "1c792f9b3b2c64e4a6b16c9a9adf3878d1aa7a53b6d7412faad0599df0e3f5de", func := "loop.example/g01354/laws.FnExactSouthWords", spec := "fnExactSouthWords", unfollowed := true, recurses := true, plainKeys := false, apart := false, narrowed := true }
def FnExactSouthWordsUptoSaid : Prop := fnExactSouthWordsUptoRow.holds Try.pinned (OpenSpec.upto fnExactSouthWordsSpec)

/-- 'laws.FnExactSouthRounds', WHERE WHAT IT READS IS OF BULK AT MOST 1048576: true; the input reads as it did. -/
def fnExactSouthRoundsUptoRow : OpenClaim := { program := "ytafpiembiiicoab", sum := "1c792f9b3b2c64e4a6b16c9a9adf3878d1aa7a53b6d7412faad0599df0e3f5de", func := "loop.example/g01354/laws.FnExactSouthRounds", spec := "fnExactSouthRounds", unfollowed := true, recurses := true, plainKeys := false, apart := false, narrowed := true }
def FnExactSouthRoundsUptoSaid : Prop := fnExactSouthRoundsUptoRow.holds Try.pinned (OpenSpec.upto fnExactSouthRoundsSpec)

/-- 'laws.FnExactLastingTiles', WHERE WHAT IT READS IS OF BULK AT MOST 1048576: true; the input reads as it did. -/
def fnExactLastingTilesUptoRow : OpenClaim := { program := "ytafpiembiiicoab", sum := "1c792f9b3b2c64e4a6b16c9a9adf3878d1aa7a53b6d7412faad0599df0e3f5de", func := "loop.example/g01354/laws.FnExactLastingTiles", spec := "fnExactLastingTiles", plainKeys := false, apart := false, narrowed := true }
def FnExactLastingTilesUptoSaid : Prop := fnExactLastingTilesUptoRow.holds Try.pinned (OpenSpec.upto fnExactLastingTilesSpec)

/-- 'laws.FnExactIsDetermined', WHERE WHAT IT READS IS OF BULK AT MOST 1048576: true; the input reads as it did. -/
def fnExactIsDeterminedUptoRow : OpenClaim := { program := "ytafpiembiiicoab", sum := "1c792f9b3b2c64e4a6b16c9a9adf3878d1aa7a53b6d7412faad0599df0e3f5de", func := "loop.example/g01354/laws.FnExactIsDetermined", spec := "fnExactIsDetermined", plainKeys := false, apart := false, narrowed := true }
def FnExactIsDeterminedUptoSaid : Prop := fnExactIsDeterminedUptoRow.holds Try.pinned (OpenSpec.upto fnExactIsDeterminedSpec)

/-- 'laws.FnRows', WHERE WHAT IT READS IS OF BULK AT MOST 1048576: true; the input reads as it did. -/
def fnRowsUptoRow : OpenClaim := { program := "ytafpiembiiicoab", sum := "1c792f9b3b2c64e4a6b16c9a9adf3878d1aa7a53b6d7412faad0599df0e3f5de", func := "loop.example/g01354/laws.FnRows", spec := "fnRows", unfollowed := true, recurses := true, plainKeys := false, apart := false, narrowed := true }
def FnRowsUptoSaid : Prop := fnRowsUptoRow.holds Try.pinned (OpenSpec.upto fnRowsSpec)

/-- 'laws.FnTurnedSets', WHERE WHAT IT READS IS OF BULK AT MOST 1048576: true; the input reads as it did. -/
def fnTurnedSetsUptoRow : OpenClaim := { program := "ytafpiembiiicoab", sum := "1c792f9b3b2c64e4a6b16c9a9adf3878d1aa7a53b6d7412faad0599df0e3f5de", func := "loop.example/g01354/laws.FnTurnedSets", spec := "fnTurnedSets", unfollowed := true, recurses := true, plainKeys := false, apart := false, narrowed := true }
def FnTurnedSetsUptoSaid : Prop := fnTurnedSetsUptoRow.holds Try.pinned (OpenSpec.upto fnTurnedSetsSpec)

end Rows
end Go.Proofs.Ytafpiembiiicoab
