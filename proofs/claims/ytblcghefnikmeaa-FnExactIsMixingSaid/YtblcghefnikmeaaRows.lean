/-
  No cell of these rows narrows 'for every input' (looked for: loops, veiled, ifaces, maps, wideKeys, modest, calm, conditions, laid).
  DERIVED. THE GIVEN ROWS OF THIS SEAT. 10 by the template 'for every input the law returns true; each argument reads behind the call as it read before'; 0 by the template 'total and deterministic' (their statements: YtblcghefnikmeaaTotals.lean).
  GIVEN WITH THE SEED: the statements are not yours to turn. If you find one false, say at which input.
  Laid BY PROGRAM, IN A SANDBOX (cutbox-rows.mjs): the forced cells as the released guide's own fill.sh prints them over the translation 2529843e03a85461… (all of the seat's roots in one cut). By AI agents, Wed Nov 11 2026. No macro, syntax, notation, axiom, sorry.
-/
import Derived.Test.YtblcghefnikmeaaChecked
import GoSem.Claim
import GoSem.ClaimJoined
import GoSem.ClaimMapViews
import Derived.JoinedTies
import Derived.KernelRfl
namespace Go.Proofs.Ytblcghefnikmeaa
/- THE CELL 'sum', in the pinned program and in every row, IS THE sha256 OF THE DUMP (.gsa) THAT YtblcghefnikmeaaProg.lean LOADS. Nothing in Lean hashes anything: it is a label: what it is worth is what the hold of that sum in a sandbox is worth. -/
noncomputable def Try.pinned : Pinned := { name := "ytblcghefnikmeaa", sum := "2529843e03a8546159ad6ed24563ea0ea76b003a8e136ccf39ff49ee11b0c5d9", checked := Try.checked }
namespace Rows
def none {H : Type} : Left H := { results := [], args := [] }

/-- 'laws.FnExactCountColumns': WHATEVER THE INPUT: true; the input reads as it did. -/
def fnExactCountColumnsSpec : ChangeSpec := { name := "fnExactCountColumns", fn := fun _ => fun
  | [d1, d2] => { results := [.lit (.bool true)], args := [d1, d2] }
  | _ => none }
def fnExactCountColumnsRow : OpenClaim := { program := "ytblcghefnikmeaa", sum := "2529843e03a8546159ad6ed24563ea0ea76b003a8e136ccf39ff49ee11b0c5d9", func := "loop.example/g01354/laws.FnExactCountColumns", spec := "fnExactCountColumns", plainKeys := false, apart := false }
def FnExactCountColumnsSaid : Prop := fnExactCountColumnsRow.holds Try.pinned (OpenSpec.ofChange fnExactCountColumnsSpec)

/-- ITS FALSE NEIGHBOUR: 'it returns false'. Refute it at one input. -/
def fnExactCountColumnsWrong : ChangeSpec := { name := "fnExactCountColumns", fn := fun _ => fun
  | [d1, d2] => { results := [.lit (.bool false)], args := [d1, d2] }
  | _ => none }
def FnExactCountColumnsWrongFalsely : Prop := fnExactCountColumnsRow.holds Try.pinned (OpenSpec.ofChange fnExactCountColumnsWrong)

/-- 'laws.FnExactColumnWords': WHATEVER THE INPUT: true; the input reads as it did. -/
def fnExactColumnWordsSpec : ChangeSpec := { name := "fnExactColumnWords", fn := fun _ => fun
  | [d1, d2] => { results := [.lit (.bool true)], args := [d1, d2] }
  | _ => none }
def fnExactColumnWordsRow : OpenClaim := { program := "ytblcghefnikmeaa", sum := "2529843e03a8546159ad6ed24563ea0ea76b003a8e136ccf39ff49ee11b0c5d9", func := "loop.example/g01354/laws.FnExactColumnWords", spec := "fnExactColumnWords", unfollowed := true, recurses := true, plainKeys := false, apart := false }
def FnExactColumnWordsSaid : Prop := fnExactColumnWordsRow.holds Try.pinned (OpenSpec.ofChange fnExactColumnWordsSpec)

/-- ITS FALSE NEIGHBOUR: 'it returns false'. Refute it at one input. -/
def fnExactColumnWordsWrong : ChangeSpec := { name := "fnExactColumnWords", fn := fun _ => fun
  | [d1, d2] => { results := [.lit (.bool false)], args := [d1, d2] }
  | _ => none }
def FnExactColumnWordsWrongFalsely : Prop := fnExactColumnWordsRow.holds Try.pinned (OpenSpec.ofChange fnExactColumnWordsWrong)

/-- 'laws.FnExactColumnTable': WHATEVER THE INPUT: true; the input reads as it did. -/
def fnExactColumnTableSpec : ChangeSpec := { name := "fnExactColumnTable", fn := fun _ => fun
  | [d1, d2] => { results := [.lit (.bool true)], args := [d1, d2] }
  | _ => none }
def fnExactColumnTableRow : OpenClaim := { program := "ytblcghefnikmeaa", sum := "2529843e03a8546159ad6ed24563ea0ea76b003a8e136ccf39ff49ee11b0c5d9", func := "loop.example/g01354/laws.FnExactColumnTable", spec := "fnExactColumnTable", recurses := true, plainKeys := false, apart := false }
def FnExactColumnTableSaid : Prop := fnExactColumnTableRow.holds Try.pinned (OpenSpec.ofChange fnExactColumnTableSpec)

/-- ITS FALSE NEIGHBOUR: 'it returns false'. Refute it at one input. -/
def fnExactColumnTableWrong : ChangeSpec := { name := "fnExactColumnTable", fn := fun _ => fun
  | [d1, d2] => { results := [.lit (.bool false)], args := [d1, d2] }
  | _ => none }
def FnExactColumnTableWrongFalsely : Prop := fnExactColumnTableRow.holds Try.pinned (OpenSpec.ofChange fnExactColumnTableWrong)

/-- 'laws.FnExactStrongParts': WHATEVER THE INPUT: true; the input reads as it did. -/
def fnExactStrongPartsSpec : ChangeSpec := { name := "fnExactStrongParts", fn := fun _ => fun
  | [d1, d2] => { results := [.lit (.bool true)], args := [d1, d2] }
  | _ => none }
def fnExactStrongPartsRow : OpenClaim := { program := "ytblcghefnikmeaa", sum := "2529843e03a8546159ad6ed24563ea0ea76b003a8e136ccf39ff49ee11b0c5d9", func := "loop.example/g01354/laws.FnExactStrongParts", spec := "fnExactStrongParts", recurses := true, plainKeys := false, apart := false }
def FnExactStrongPartsSaid : Prop := fnExactStrongPartsRow.holds Try.pinned (OpenSpec.ofChange fnExactStrongPartsSpec)

/-- ITS FALSE NEIGHBOUR: 'it returns false'. Refute it at one input. -/
def fnExactStrongPartsWrong : ChangeSpec := { name := "fnExactStrongParts", fn := fun _ => fun
  | [d1, d2] => { results := [.lit (.bool false)], args := [d1, d2] }
  | _ => none }
def FnExactStrongPartsWrongFalsely : Prop := fnExactStrongPartsRow.holds Try.pinned (OpenSpec.ofChange fnExactStrongPartsWrong)

/-- 'laws.FnExactPeriodOfHeight': WHATEVER THE INPUT: true; the input reads as it did. -/
def fnExactPeriodOfHeightSpec : ChangeSpec := { name := "fnExactPeriodOfHeight", fn := fun _ => fun
  | [d1, d2] => { results := [.lit (.bool true)], args := [d1, d2] }
  | _ => none }
def fnExactPeriodOfHeightRow : OpenClaim := { program := "ytblcghefnikmeaa", sum := "2529843e03a8546159ad6ed24563ea0ea76b003a8e136ccf39ff49ee11b0c5d9", func := "loop.example/g01354/laws.FnExactPeriodOfHeight", spec := "fnExactPeriodOfHeight", recurses := true, plainKeys := false, apart := false }
def FnExactPeriodOfHeightSaid : Prop := fnExactPeriodOfHeightRow.holds Try.pinned (OpenSpec.ofChange fnExactPeriodOfHeightSpec)

/-- ITS FALSE NEIGHBOUR: 'it returns false'. Refute it at one input. -/
def fnExactPeriodOfHeightWrong : ChangeSpec := { name := "fnExactPeriodOfHeight", fn := fun _ => fun
  | [d1, d2] => { results := [.lit (.bool false)], args := [d1, d2] }
  | _ => none }
def FnExactPeriodOfHeightWrongFalsely : Prop := fnExactPeriodOfHeightRow.holds Try.pinned (OpenSpec.ofChange fnExactPeriodOfHeightWrong)

/-- 'laws.FnExactIsMixing': WHATEVER THE INPUT: true; the input reads as it did. -/
def fnExactIsMixingSpec : ChangeSpec := { name := "fnExactIsMixing", fn := fun _ => fun
  | [d1, d2] => { results := [.lit (.bool true)], args := [d1, d2] }
  | _ => none }
def fnExactIsMixingRow : OpenClaim := { program := "ytblcghefnikmeaa", sum := "2529843e03a8546159ad6ed24563ea0ea76b003a8e136ccf39ff49ee11b0c5d9", func := "loop.example/g01354/laws.FnExactIsMixing", spec := "fnExactIsMixing", recurses := true, plainKeys := false, apart := false }
def FnExactIsMixingSaid : Prop := fnExactIsMixingRow.holds Try.pinned (OpenSpec.ofChange fnExactIsMixingSpec)

/-- ITS FALSE NEIGHBOUR: 'it returns false'. Refute it at one input. -/
def fnExactIsMixingWrong : ChangeSpec := { name := "fnExactIsMixing", fn := fun _ => fun
  | [d1, d2] => { results := [.lit (.bool false)], args := [d1, d2] }
  | _ => none }
def FnExactIsMixingWrongFalsely : Prop := fnExactIsMixingRow.holds Try.pinned (OpenSpec.ofChange fnExactIsMixingWrong)

/-- 'laws.FnExactPutTile': WHATEVER THE INPUT: true; the input reads as it did. -/
def fnExactPutTileSpec : ChangeSpec := { name := "fnExactPutTile", fn := fun _ => fun
  | [d1, d2] => { results := [.lit (.bool true)], args := [d1, d2] }
  | _ => none }
def fnExactPutTileRow : OpenClaim := { program := "ytblcghefnikmeaa", sum := "2529843e03a8546159ad6ed24563ea0ea76b003a8e136ccf39ff49ee11b0c5d9", func := "loop.example/g01354/laws.FnExactPutTile", spec := "fnExactPutTile", unfollowed := true, recurses := true, plainKeys := false, apart := false }
def FnExactPutTileSaid : Prop := fnExactPutTileRow.holds Try.pinned (OpenSpec.ofChange fnExactPutTileSpec)

/-- ITS FALSE NEIGHBOUR: 'it returns false'. Refute it at one input. -/
def fnExactPutTileWrong : ChangeSpec := { name := "fnExactPutTile", fn := fun _ => fun
  | [d1, d2] => { results := [.lit (.bool false)], args := [d1, d2] }
  | _ => none }
def FnExactPutTileWrongFalsely : Prop := fnExactPutTileRow.holds Try.pinned (OpenSpec.ofChange fnExactPutTileWrong)

/-- 'laws.FnExactFailingHeight': WHATEVER THE INPUT: true; the input reads as it did. -/
def fnExactFailingHeightSpec : ChangeSpec := { name := "fnExactFailingHeight", fn := fun _ => fun
  | [d1, d2] => { results := [.lit (.bool true)], args := [d1, d2] }
  | _ => none }
def fnExactFailingHeightRow : OpenClaim := { program := "ytblcghefnikmeaa", sum := "2529843e03a8546159ad6ed24563ea0ea76b003a8e136ccf39ff49ee11b0c5d9", func := "loop.example/g01354/laws.FnExactFailingHeight", spec := "fnExactFailingHeight", unfollowed := true, recurses := true, plainKeys := false, apart := false }
def FnExactFailingHeightSaid : Prop := fnExactFailingHeightRow.holds Try.pinned (OpenSpec.ofChange fnExactFailingHeightSpec)

/-- ITS FALSE NEIGHBOUR: 'it returns false'. Refute it at one input. -/
def fnExactFailingHeightWrong : ChangeSpec := { name := "fnExactFailingHeight", fn := fun _ => fun
  | [d1, d2] => { results := [.lit (.bool false)], args := [d1, d2] }
  | _ => none }
def FnExactFailingHeightWrongFalsely : Prop := fnExactFailingHeightRow.holds Try.pinned (OpenSpec.ofChange fnExactFailingHeightWrong)

/-- 'laws.FnExactFailingWidth': WHATEVER THE INPUT: true; the input reads as it did. -/
def fnExactFailingWidthSpec : ChangeSpec := { name := "fnExactFailingWidth", fn := fun _ => fun
  | [d1, d2] => { results := [.lit (.bool true)], args := [d1, d2] }
  | _ => none }
def fnExactFailingWidthRow : OpenClaim := { program := "ytblcghefnikmeaa", sum := "2529843e03a8546159ad6ed24563ea0ea76b003a8e136ccf39ff49ee11b0c5d9", func := "loop.example/g01354/laws.FnExactFailingWidth", spec := "fnExactFailingWidth", unfollowed := true, recurses := true, plainKeys := false, apart := false }
def FnExactFailingWidthSaid : Prop := fnExactFailingWidthRow.holds Try.pinned (OpenSpec.ofChange fnExactFailingWidthSpec)

/-- ITS FALSE NEIGHBOUR: 'it returns false'. Refute it at one input. -/
def fnExactFailingWidthWrong : ChangeSpec := { name := "fnExactFailingWidth", fn := fun _ => fun
  | [d1, d2] => { results := [.lit (.bool false)], args := [d1, d2] }
  | _ => none }
def FnExactFailingWidthWrongFalsely : Prop := fnExactFailingWidthRow.holds Try.pinned (OpenSpec.ofChange fnExactFailingWidthWrong)

/-- 'laws.FnExactSouthRounds': WHATEVER THE INPUT: true; the input reads as it did. -/
def fnExactSouthRoundsSpec : ChangeSpec := { name := "fnExactSouthRounds", fn := fun _ => fun
  | [d1, d2] => { results := [.lit (.bool true)], args := [d1, d2] }
  | _ => none }
def fnExactSouthRoundsRow : OpenClaim := { program := "ytblcghefnikmeaa", sum := "2529843e03a8546159ad6ed24563ea0ea76b003a8e136ccf39ff49ee11b0c5d9", func := "loop.example/g01354/laws.FnExactSouthRounds", spec := "fnExactSouthRounds", unfollowed := true, recurses := true, plainKeys := false, apart := false }
def FnExactSouthRoundsSaid : Prop := fnExactSouthRoundsRow.holds Try.pinned (OpenSpec.ofChange fnExactSouthRoundsSpec)

/-- ITS FALSE NEIGHBOUR: 'it returns false'. Refute it at one input. -/
def fnExactSouthRoundsWrong : ChangeSpec := { name := "fnExactSouthRounds", fn := fun _ => fun
  | [d1, d2] => { results := [.lit (.bool false)], args := [d1, d2] }
  | _ => none }
def FnExactSouthRoundsWrongFalsely : Prop := fnExactSouthRoundsRow.holds Try.pinned (OpenSpec.ofChange fnExactSouthRoundsWrong)

/- THE SECOND FORM. 'bulk': how many values and letters a reading holds, each counted each time it is reached (what is shared counts as often as it is met; a slice's spare places count too). A statement '..UptoSaid' is the law's where the arguments, and the package variables that the reading takes, are together of bulk at most 1048576: NARROWER than '..Said'. Prove '..Said' where nothing that the law and all that it calls make is longer than what came in: it says more and counts as full. Else prove '..UptoSaid'. A law counts once. -/
mutual
def uptoBulk {H : Type} : DataW H → Nat
  | .lit (.string bytes) => bytes.length + 1
  | .lit _ => 1
  | .nil => 1
  | .ptr d => uptoBulk d + 1
  | .slice elems spare => uptoBulkAll elems + uptoBulkAll spare + 1
  | .agg parts => uptoBulkAll parts + 1
  | .iface _ d => uptoBulk d + 1
  | .map entries => uptoBulkEntries entries + 1
  | .held _ => 1
def uptoBulkAll {H : Type} : List (DataW H) → Nat
  | [] => 0
  | d :: r => uptoBulk d + uptoBulkAll r
def uptoBulkEntries {H : Type} : List (Lit × DataW H) → Nat
  | [] => 0
  | x :: r => uptoBulkEntry x + uptoBulkEntries r
def uptoBulkEntry {H : Type} : Lit × DataW H → Nat
  | (.string bytes, d) => bytes.length + uptoBulk d + 1
  | (_, d) => uptoBulk d + 1
 end
def uptoSmall : (H : Type) → List (DataW H) → Bool := fun _ ds => decide (uptoBulkAll ds ≤ 1048576)
def OpenSpec.upto (s : _root_.Go.ChangeSpec) : _root_.Go.OpenSpec := { _root_.Go.OpenSpec.ofChange s with cond := some uptoSmall }

/-- 'laws.FnExactCountColumns', WHERE WHAT IT READS IS OF BULK AT MOST 1048576: true; the input reads as it did. -/
def fnExactCountColumnsUptoRow : OpenClaim := { program := "ytblcghefnikmeaa", sum := "2529843e03a8546159ad6ed24563ea0ea76b003a8e136ccf39ff49ee11b0c5d9", func := "loop.example/g01354/laws.FnExactCountColumns", spec := "fnExactCountColumns", plainKeys := false, apart := false, narrowed := true }
def FnExactCountColumnsUptoSaid : Prop := fnExactCountColumnsUptoRow.holds Try.pinned (OpenSpec.upto fnExactCountColumnsSpec)

/-- 'laws.FnExactColumnWords', WHERE WHAT IT READS IS OF BULK AT MOST 1048576: true; the input reads as it did. -/
def fnExactColumnWordsUptoRow : OpenClaim := { program := "ytblcghefnikmeaa", sum := "2529843e03a8546159ad6ed24563ea0ea76b003a8e136ccf39ff49ee11b0c5d9", func := "loop.example/g01354/laws.FnExactColumnWords", spec := "fnExactColumnWords", unfollowed := true, recurses := true, plainKeys := false, apart := false, narrowed := true }
def FnExactColumnWordsUptoSaid : Prop := fnExactColumnWordsUptoRow.holds Try.pinned (OpenSpec.upto fnExactColumnWordsSpec)

/-- 'laws.FnExactColumnTable', WHERE WHAT IT READS IS OF BULK AT MOST 1048576: true; the input reads as it did. -/
def fnExactColumnTableUptoRow : OpenClaim := { program := "ytblcghefnikmeaa", sum := "2529843e03a8546159ad6ed24563ea0ea76b003a8e136ccf39ff49ee11b0c5d9", func := "loop.example/g01354/laws.FnExactColumnTable", spec := "fnExactColumnTable", recurses := true, plainKeys := false, apart := false, narrowed := true }
def FnExactColumnTableUptoSaid : Prop := fnExactColumnTableUptoRow.holds Try.pinned (OpenSpec.upto fnExactColumnTableSpec)

/-- 'laws.FnExactStrongParts', WHERE WHAT IT READS IS OF BULK AT MOST 1048576: true; the input reads as it did. -/
def fnExactStrongPartsUptoRow : OpenClaim := { program := "ytblcghefnikmeaa", sum := "2529843e03a8546159ad6ed24563ea0ea76b003a8e136ccf39ff49ee11b0c5d9", func := "loop.example/g01354/laws.FnExactStrongParts", spec := "fnExactStrongParts", recurses := true, plainKeys := false, apart := false, narrowed := true }
def FnExactStrongPartsUptoSaid : Prop := fnExactStrongPartsUptoRow.holds Try.pinned (OpenSpec.upto fnExactStrongPartsSpec)

/-- 'laws.FnExactPeriodOfHeight', WHERE WHAT IT READS IS OF BULK AT MOST 1048576: true; the input reads as it did. -/
def fnExactPeriodOfHeightUptoRow : OpenClaim := { program := "ytblcghefnikmeaa", sum := "2529843e03a8546159ad6ed24563ea0ea76b003a8e136ccf39ff49ee11b0c5d9", func := "loop.example/g01354/laws.FnExactPeriodOfHeight", spec := "fnExactPeriodOfHeight", recurses := true, plainKeys := false, apart := false, narrowed := true }
def FnExactPeriodOfHeightUptoSaid : Prop := fnExactPeriodOfHeightUptoRow.holds Try.pinned (OpenSpec.upto fnExactPeriodOfHeightSpec)

/-- 'laws.FnExactIsMixing', WHERE WHAT IT READS IS OF BULK AT MOST 1048576: true; the input reads as it did. -/
def fnExactIsMixingUptoRow : OpenClaim := { program := "ytblcghefnikmeaa", sum := "2529843e03a8546159ad6ed24563ea0ea76b003a8e136ccf39ff49ee11b0c5d9", func := "loop.example/g01354/laws.FnExactIsMixing", spec := "fnExactIsMixing", recurses := true, plainKeys := false, apart := false, narrowed := true }
def FnExactIsMixingUptoSaid : Prop := fnExactIsMixingUptoRow.holds Try.pinned (OpenSpec.upto fnExactIsMixingSpec)

/-- 'laws.FnExactPutTile', WHERE WHAT IT READS IS OF BULK AT MOST 1048576: true; the input reads as it did. -/
def fnExactPutTileUptoRow : OpenClaim := { program := "ytblcghefnikmeaa", sum := "2529843e03a8546159ad6ed24563ea0ea76b003a8e136ccf39ff49ee11b0c5d9", func := "loop.example/g01354/laws.FnExactPutTile", spec := "fnExactPutTile", unfollowed := true, recurses := true, plainKeys := false, apart := false, narrowed := true }
def FnExactPutTileUptoSaid : Prop := fnExactPutTileUptoRow.holds Try.pinned (OpenSpec.upto fnExactPutTileSpec)

/-- 'laws.FnExactFailingHeight', WHERE WHAT IT READS IS OF BULK AT MOST 1048576: true; the input reads as it did. -/
def fnExactFailingHeightUptoRow : OpenClaim := { program := "ytblcghefnikmeaa", sum := "2529843e03a8546159ad6ed24563ea0ea76b003a8e136ccf39ff49ee11b0c5d9", func := "loop.example/g01354/laws.FnExactFailingHeight", spec := "fnExactFailingHeight", unfollowed := true, recurses := true, plainKeys := false, apart := false, narrowed := true }
def FnExactFailingHeightUptoSaid : Prop := fnExactFailingHeightUptoRow.holds Try.pinned (OpenSpec.upto fnExactFailingHeightSpec)

/-- 'laws.FnExactFailingWidth', WHERE WHAT IT READS IS OF BULK AT MOST 1048576: true; the input reads as it did. -/
def fnExactFailingWidthUptoRow : OpenClaim := { program := "ytblcghefnikmeaa", sum := "2529843e03a8546159ad6ed24563ea0ea76b003a8e136ccf39ff49ee11b0c5d9", func := "loop.example/g01354/laws.FnExactFailingWidth", spec := "fnExactFailingWidth", unfollowed := true, recurses := true, plainKeys := false, apart := false, narrowed := true }
def FnExactFailingWidthUptoSaid : Prop := fnExactFailingWidthUptoRow.holds Try.pinned (OpenSpec.upto fnExactFailingWidthSpec)

/-- 'laws.FnExactSouthRounds', WHERE WHAT IT READS IS OF BULK AT MOST 1048576: true; the input reads as it did. -/
def fnExactSouthRoundsUptoRow : OpenClaim := { program := "ytblcghefnikmeaa", sum := "2529843e03a8546159ad6ed24563ea0ea76b003a8e136ccf39ff49ee11b0c5d9", func := "loop.example/g01354/laws.FnExactSouthRounds", spec := "fnExactSouthRounds", unfollowed := true, recurses := true, plainKeys := false, apart := false, narrowed := true }
def FnExactSouthRoundsUptoSaid : Prop := fnExactSouthRoundsUptoRow.holds Try.pinned (OpenSpec.upto fnExactSouthRoundsSpec)

end Rows
end Go.Proofs.Ytblcghefnikmeaa
