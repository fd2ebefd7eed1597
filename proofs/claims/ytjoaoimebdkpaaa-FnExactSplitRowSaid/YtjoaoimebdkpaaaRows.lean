/-
  No cell of these rows narrows 'for every input' (looked for: loops, veiled, ifaces, maps, wideKeys, modest, calm, conditions, laid).
  DERIVED. THE GIVEN ROWS OF THIS SEAT. 12 by the template 'for every input the law returns true; each argument reads behind the call as it read before'; 0 by the template 'total and deterministic' (their statements: YtjoaoimebdkpaaaTotals.lean).
  GIVEN WITH THE SEED: the statements are not yours to turn. If you find one false, say at which input.
  Laid BY PROGRAM, IN A SANDBOX (cutbox-rows.mjs): the forced cells as the released guide's own fill.sh prints them over the translation cee8f3017e9eaf58… (all of the seat's roots in one cut). By AI agents, Wed Nov 11 2026. No macro, syntax, notation, axiom, sorry.
-/
import Derived.Test.YtjoaoimebdkpaaaChecked
import GoSem.Claim
import GoSem.ClaimJoined
import GoSem.ClaimMapViews
import Derived.JoinedTies
import Derived.KernelRfl
namespace Go.Proofs.Ytjoaoimebdkpaaa
/- THE CELL 'sum', in the pinned program and in every row, IS THE sha256 OF THE DUMP (.gsa) THAT YtjoaoimebdkpaaaProg.lean LOADS. Nothing in Lean hashes anything: it is a label: what it is worth is what the hold of that sum in a sandbox is worth. -/
noncomputable def Try.pinned : Pinned := { name := "ytjoaoimebdkpaaa", sum := "cee8f3017e9eaf58429642713e1f4427e57eb4ed6632cab3ea35b8d8ffcc0a2e", checked := Try.checked }
namespace Rows
def none {H : Type} : Left H := { results := [], args := [] }

/-- 'laws.FnExactIsTorus': WHATEVER THE INPUT: true; the input reads as it did. -/
def fnExactIsTorusSpec : ChangeSpec := { name := "fnExactIsTorus", fn := fun _ => fun
  | [d1, d2] => { results := [.lit (.bool true)], args := [d1, d2] }
  | _ => none }
def fnExactIsTorusRow : OpenClaim := { program := "ytjoaoimebdkpaaa", sum := "cee8f3017e9eaf58429642713e1f4427e57eb4ed6632cab3ea35b8d8ffcc0a2e", func := "loop.example/g01354/laws.FnExactIsTorus", spec := "fnExactIsTorus", plainKeys := false, apart := false }
def FnExactIsTorusSaid : Prop := fnExactIsTorusRow.holds Try.pinned (OpenSpec.ofChange fnExactIsTorusSpec)

/-- ITS FALSE NEIGHBOUR: 'it returns false'. Refute it at one input. -/
def fnExactIsTorusWrong : ChangeSpec := { name := "fnExactIsTorus", fn := fun _ => fun
  | [d1, d2] => { results := [.lit (.bool false)], args := [d1, d2] }
  | _ => none }
def FnExactIsTorusWrongFalsely : Prop := fnExactIsTorusRow.holds Try.pinned (OpenSpec.ofChange fnExactIsTorusWrong)

/-- 'laws.FnExactIsCylinder': WHATEVER THE INPUT: true; the input reads as it did. -/
def fnExactIsCylinderSpec : ChangeSpec := { name := "fnExactIsCylinder", fn := fun _ => fun
  | [d1, d2] => { results := [.lit (.bool true)], args := [d1, d2] }
  | _ => none }
def fnExactIsCylinderRow : OpenClaim := { program := "ytjoaoimebdkpaaa", sum := "cee8f3017e9eaf58429642713e1f4427e57eb4ed6632cab3ea35b8d8ffcc0a2e", func := "loop.example/g01354/laws.FnExactIsCylinder", spec := "fnExactIsCylinder", plainKeys := false, apart := false }
def FnExactIsCylinderSaid : Prop := fnExactIsCylinderRow.holds Try.pinned (OpenSpec.ofChange fnExactIsCylinderSpec)

/-- ITS FALSE NEIGHBOUR: 'it returns false'. Refute it at one input. -/
def fnExactIsCylinderWrong : ChangeSpec := { name := "fnExactIsCylinder", fn := fun _ => fun
  | [d1, d2] => { results := [.lit (.bool false)], args := [d1, d2] }
  | _ => none }
def FnExactIsCylinderWrongFalsely : Prop := fnExactIsCylinderRow.holds Try.pinned (OpenSpec.ofChange fnExactIsCylinderWrong)

/-- 'laws.FnExactShiftTorus': WHATEVER THE INPUT: true; the input reads as it did. -/
def fnExactShiftTorusSpec : ChangeSpec := { name := "fnExactShiftTorus", fn := fun _ => fun
  | [d1, d2, d3, d4] => { results := [.lit (.bool true)], args := [d1, d2, d3, d4] }
  | _ => none }
def fnExactShiftTorusRow : OpenClaim := { program := "ytjoaoimebdkpaaa", sum := "cee8f3017e9eaf58429642713e1f4427e57eb4ed6632cab3ea35b8d8ffcc0a2e", func := "loop.example/g01354/laws.FnExactShiftTorus", spec := "fnExactShiftTorus", unfollowed := true, recurses := true, plainKeys := false, apart := false }
def FnExactShiftTorusSaid : Prop := fnExactShiftTorusRow.holds Try.pinned (OpenSpec.ofChange fnExactShiftTorusSpec)

/-- ITS FALSE NEIGHBOUR: 'it returns false'. Refute it at one input. -/
def fnExactShiftTorusWrong : ChangeSpec := { name := "fnExactShiftTorus", fn := fun _ => fun
  | [d1, d2, d3, d4] => { results := [.lit (.bool false)], args := [d1, d2, d3, d4] }
  | _ => none }
def FnExactShiftTorusWrongFalsely : Prop := fnExactShiftTorusRow.holds Try.pinned (OpenSpec.ofChange fnExactShiftTorusWrong)

/-- 'laws.FnExactLeastForm': WHATEVER THE INPUT: true; the input reads as it did. -/
def fnExactLeastFormSpec : ChangeSpec := { name := "fnExactLeastForm", fn := fun _ => fun
  | [d1, d2] => { results := [.lit (.bool true)], args := [d1, d2] }
  | _ => none }
def fnExactLeastFormRow : OpenClaim := { program := "ytjoaoimebdkpaaa", sum := "cee8f3017e9eaf58429642713e1f4427e57eb4ed6632cab3ea35b8d8ffcc0a2e", func := "loop.example/g01354/laws.FnExactLeastForm", spec := "fnExactLeastForm", unfollowed := true, recurses := true, plainKeys := false, apart := false }
def FnExactLeastFormSaid : Prop := fnExactLeastFormRow.holds Try.pinned (OpenSpec.ofChange fnExactLeastFormSpec)

/-- ITS FALSE NEIGHBOUR: 'it returns false'. Refute it at one input. -/
def fnExactLeastFormWrong : ChangeSpec := { name := "fnExactLeastForm", fn := fun _ => fun
  | [d1, d2] => { results := [.lit (.bool false)], args := [d1, d2] }
  | _ => none }
def FnExactLeastFormWrongFalsely : Prop := fnExactLeastFormRow.holds Try.pinned (OpenSpec.ofChange fnExactLeastFormWrong)

/-- 'laws.FnExactShiftsKept': WHATEVER THE INPUT: true; the input reads as it did. -/
def fnExactShiftsKeptSpec : ChangeSpec := { name := "fnExactShiftsKept", fn := fun _ => fun
  | [d1, d2] => { results := [.lit (.bool true)], args := [d1, d2] }
  | _ => none }
def fnExactShiftsKeptRow : OpenClaim := { program := "ytjoaoimebdkpaaa", sum := "cee8f3017e9eaf58429642713e1f4427e57eb4ed6632cab3ea35b8d8ffcc0a2e", func := "loop.example/g01354/laws.FnExactShiftsKept", spec := "fnExactShiftsKept", unfollowed := true, recurses := true, plainKeys := false, apart := false }
def FnExactShiftsKeptSaid : Prop := fnExactShiftsKeptRow.holds Try.pinned (OpenSpec.ofChange fnExactShiftsKeptSpec)

/-- ITS FALSE NEIGHBOUR: 'it returns false'. Refute it at one input. -/
def fnExactShiftsKeptWrong : ChangeSpec := { name := "fnExactShiftsKept", fn := fun _ => fun
  | [d1, d2] => { results := [.lit (.bool false)], args := [d1, d2] }
  | _ => none }
def FnExactShiftsKeptWrongFalsely : Prop := fnExactShiftsKeptRow.holds Try.pinned (OpenSpec.ofChange fnExactShiftsKeptWrong)

/-- 'laws.FnExactShiftNumber': WHATEVER THE INPUT: true; the input reads as it did. -/
def fnExactShiftNumberSpec : ChangeSpec := { name := "fnExactShiftNumber", fn := fun _ => fun
  | [d1, d2] => { results := [.lit (.bool true)], args := [d1, d2] }
  | _ => none }
def fnExactShiftNumberRow : OpenClaim := { program := "ytjoaoimebdkpaaa", sum := "cee8f3017e9eaf58429642713e1f4427e57eb4ed6632cab3ea35b8d8ffcc0a2e", func := "loop.example/g01354/laws.FnExactShiftNumber", spec := "fnExactShiftNumber", unfollowed := true, recurses := true, plainKeys := false, apart := false }
def FnExactShiftNumberSaid : Prop := fnExactShiftNumberRow.holds Try.pinned (OpenSpec.ofChange fnExactShiftNumberSpec)

/-- ITS FALSE NEIGHBOUR: 'it returns false'. Refute it at one input. -/
def fnExactShiftNumberWrong : ChangeSpec := { name := "fnExactShiftNumber", fn := fun _ => fun
  | [d1, d2] => { results := [.lit (.bool false)], args := [d1, d2] }
  | _ => none }
def FnExactShiftNumberWrongFalsely : Prop := fnExactShiftNumberRow.holds Try.pinned (OpenSpec.ofChange fnExactShiftNumberWrong)

/-- 'laws.FnExactPutTile': WHATEVER THE INPUT: true; the input reads as it did. -/
def fnExactPutTileSpec : ChangeSpec := { name := "fnExactPutTile", fn := fun _ => fun
  | [d1, d2] => { results := [.lit (.bool true)], args := [d1, d2] }
  | _ => none }
def fnExactPutTileRow : OpenClaim := { program := "ytjoaoimebdkpaaa", sum := "cee8f3017e9eaf58429642713e1f4427e57eb4ed6632cab3ea35b8d8ffcc0a2e", func := "loop.example/g01354/laws.FnExactPutTile", spec := "fnExactPutTile", unfollowed := true, recurses := true, plainKeys := false, apart := false }
def FnExactPutTileSaid : Prop := fnExactPutTileRow.holds Try.pinned (OpenSpec.ofChange fnExactPutTileSpec)

/-- ITS FALSE NEIGHBOUR: 'it returns false'. Refute it at one input. -/
def fnExactPutTileWrong : ChangeSpec := { name := "fnExactPutTile", fn := fun _ => fun
  | [d1, d2] => { results := [.lit (.bool false)], args := [d1, d2] }
  | _ => none }
def FnExactPutTileWrongFalsely : Prop := fnExactPutTileRow.holds Try.pinned (OpenSpec.ofChange fnExactPutTileWrong)

/-- 'laws.FnExactSplitRow': WHATEVER THE INPUT: true; the input reads as it did. -/
def fnExactSplitRowSpec : ChangeSpec := { name := "fnExactSplitRow", fn := fun _ => fun
  | [d1, d2, d3] => { results := [.lit (.bool true)], args := [d1, d2, d3] }
  | _ => none }
def fnExactSplitRowRow : OpenClaim := { program := "ytjoaoimebdkpaaa", sum := "cee8f3017e9eaf58429642713e1f4427e57eb4ed6632cab3ea35b8d8ffcc0a2e", func := "loop.example/g01354/laws.FnExactSplitRow", spec := "fnExactSplitRow", unfollowed := true, recurses := true, plainKeys := false, apart := false }
def FnExactSplitRowSaid : Prop := fnExactSplitRowRow.holds Try.pinned (OpenSpec.ofChange fnExactSplitRowSpec)

/-- ITS FALSE NEIGHBOUR: 'it returns false'. Refute it at one input. -/
def fnExactSplitRowWrong : ChangeSpec := { name := "fnExactSplitRow", fn := fun _ => fun
  | [d1, d2, d3] => { results := [.lit (.bool false)], args := [d1, d2, d3] }
  | _ => none }
def FnExactSplitRowWrongFalsely : Prop := fnExactSplitRowRow.holds Try.pinned (OpenSpec.ofChange fnExactSplitRowWrong)

/-- 'laws.FnExactFailingHeight': WHATEVER THE INPUT: true; the input reads as it did. -/
def fnExactFailingHeightSpec : ChangeSpec := { name := "fnExactFailingHeight", fn := fun _ => fun
  | [d1, d2] => { results := [.lit (.bool true)], args := [d1, d2] }
  | _ => none }
def fnExactFailingHeightRow : OpenClaim := { program := "ytjoaoimebdkpaaa", sum := "cee8f3017e9eaf58429642713e1f4427e57eb4ed6632cab3ea35b8d8ffcc0a2e", func := "loop.example/g01354/laws.FnExactFailingHeight", spec := "fnExactFailingHeight", unfollowed := true, recurses := true, plainKeys := false, apart := false }
def FnExactFailingHeightSaid : Prop := fnExactFailingHeightRow.holds Try.pinned (OpenSpec.ofChange fnExactFailingHeightSpec)

/-- ITS FALSE NEIGHBOUR: 'it returns false'. Refute it at one input. -/
def fnExactFailingHeightWrong : ChangeSpec := { name := "fnExactFailingHeight", fn := fun _ => fun
  | [d1, d2] => { results := [.lit (.bool false)], args := [d1, d2] }
  | _ => none }
def FnExactFailingHeightWrongFalsely : Prop := fnExactFailingHeightRow.holds Try.pinned (OpenSpec.ofChange fnExactFailingHeightWrong)

/-- 'laws.FnExactFailingWidth': WHATEVER THE INPUT: true; the input reads as it did. -/
def fnExactFailingWidthSpec : ChangeSpec := { name := "fnExactFailingWidth", fn := fun _ => fun
  | [d1, d2] => { results := [.lit (.bool true)], args := [d1, d2] }
  | _ => none }
def fnExactFailingWidthRow : OpenClaim := { program := "ytjoaoimebdkpaaa", sum := "cee8f3017e9eaf58429642713e1f4427e57eb4ed6632cab3ea35b8d8ffcc0a2e", func := "loop.example/g01354/laws.FnExactFailingWidth", spec := "fnExactFailingWidth", unfollowed := true, recurses := true, plainKeys := false, apart := false }
def FnExactFailingWidthSaid : Prop := fnExactFailingWidthRow.holds Try.pinned (OpenSpec.ofChange fnExactFailingWidthSpec)

/-- ITS FALSE NEIGHBOUR: 'it returns false'. Refute it at one input. -/
def fnExactFailingWidthWrong : ChangeSpec := { name := "fnExactFailingWidth", fn := fun _ => fun
  | [d1, d2] => { results := [.lit (.bool false)], args := [d1, d2] }
  | _ => none }
def FnExactFailingWidthWrongFalsely : Prop := fnExactFailingWidthRow.holds Try.pinned (OpenSpec.ofChange fnExactFailingWidthWrong)

/-- 'laws.FnExactSouthRounds': WHATEVER THE INPUT: true; the input reads as it did. -/
def fnExactSouthRoundsSpec : ChangeSpec := { name := "fnExactSouthRounds", fn := fun _ => fun
  | [d1, d2] => { results := [.lit (.bool true)], args := [d1, d2] }
  | _ => none }
def fnExactSouthRoundsRow : OpenClaim := { program := "ytjoaoimebdkpaaa", sum := "cee8f3017e9eaf58429642713e1f4427e57eb4ed6632cab3ea35b8d8ffcc0a2e", func := "loop.example/g01354/laws.FnExactSouthRounds", spec := "fnExactSouthRounds", unfollowed := true, recurses := true, plainKeys := false, apart := false }
def FnExactSouthRoundsSaid : Prop := fnExactSouthRoundsRow.holds Try.pinned (OpenSpec.ofChange fnExactSouthRoundsSpec)

/-- ITS FALSE NEIGHBOUR: 'it returns false'. Refute it at one input. -/
def fnExactSouthRoundsWrong : ChangeSpec := { name := "fnExactSouthRounds", fn := fun _ => fun
  | [d1, d2] => { results := [.lit (.bool false)], args := [d1, d2] }
  | _ => none }
def FnExactSouthRoundsWrongFalsely : Prop := fnExactSouthRoundsRow.holds Try.pinned (OpenSpec.ofChange fnExactSouthRoundsWrong)

/-- 'laws.FnExactFirstRow': WHATEVER THE INPUT: true; the input reads as it did. -/
def fnExactFirstRowSpec : ChangeSpec := { name := "fnExactFirstRow", fn := fun _ => fun
  | [d1, d2] => { results := [.lit (.bool true)], args := [d1, d2] }
  | _ => none }
def fnExactFirstRowRow : OpenClaim := { program := "ytjoaoimebdkpaaa", sum := "cee8f3017e9eaf58429642713e1f4427e57eb4ed6632cab3ea35b8d8ffcc0a2e", func := "loop.example/g01354/laws.FnExactFirstRow", spec := "fnExactFirstRow", unfollowed := true, recurses := true, plainKeys := false, apart := false }
def FnExactFirstRowSaid : Prop := fnExactFirstRowRow.holds Try.pinned (OpenSpec.ofChange fnExactFirstRowSpec)

/-- ITS FALSE NEIGHBOUR: 'it returns false'. Refute it at one input. -/
def fnExactFirstRowWrong : ChangeSpec := { name := "fnExactFirstRow", fn := fun _ => fun
  | [d1, d2] => { results := [.lit (.bool false)], args := [d1, d2] }
  | _ => none }
def FnExactFirstRowWrongFalsely : Prop := fnExactFirstRowRow.holds Try.pinned (OpenSpec.ofChange fnExactFirstRowWrong)

/- THE SECOND FORM. 'bulk': how many values and letters a reading holds, each counted each time it is reached (what is shared counts as often as it is met; a slice's spare places count too). A statement '..UptoSaid' is the law's where the arguments, and the package variables that the reading takes, are together of bulk at most 1048576: NARROWER than '..Said'. Prove '..Said' where nothing that the law and all that it calls make is longer than what came in: it says more and counts as full. Else prove '..UptoSaid'. A law counts once. -/
mutual
def uptoBulk {H : Type} : DataW H → Nat
  | .lit (.string bytes) => bytes.length + 1
  | .lit _ => 1
  | .nil => 1
  | .ptr d => uptoBulk d + 1
  | .slice elems spare => uptoBulkAll elems + uptoBulkAll spare + 1
  | .agg parts => uptoBulkAll parts + 1
  | .iface _ d => uptoBulk d + 1
  | .map entries => uptoBulkEntries entries + 1
  | .held _ => 1
def uptoBulkAll {H : Type} : List (DataW H) → Nat
  | [] => 0
  | d :: r => uptoBulk d + uptoBulkAll r
def uptoBulkEntries {H : Type} : List (Lit × DataW H) → Nat
  | [] => 0
  | x :: r => uptoBulkEntry x + uptoBulkEntries r
def uptoBulkEntry {H : Type} : Lit × DataW H → Nat
  | (.string bytes, d) => bytes.length + uptoBulk d + 1
  | (_, d) => uptoBulk d + 1
 end
def uptoSmall : (H : Type) → List (DataW H) → Bool := fun _ ds => decide (uptoBulkAll ds ≤ 1048576)
def OpenSpec.upto (s : _root_.Go.ChangeSpec) : _root_.Go.OpenSpec := { _root_.Go.OpenSpec.ofChange s with cond := some uptoSmall }

/-- 'laws.FnExactIsTorus', WHERE WHAT IT READS IS OF BULK AT MOST 1048576: true; the input reads as it did. -/
def fnExactIsTorusUptoRow : OpenClaim := { program := "ytjoaoimebdkpaaa", sum := "cee8f3017e9eaf58429642713e1f4427e57eb4ed6632cab3ea35b8d8ffcc0a2e", func := "loop.example/g01354/laws.FnExactIsTorus", spec := "fnExactIsTorus", plainKeys := false, apart := false, narrowed := true }
def FnExactIsTorusUptoSaid : Prop := fnExactIsTorusUptoRow.holds Try.pinned (OpenSpec.upto fnExactIsTorusSpec)

/-- 'laws.FnExactIsCylinder', WHERE WHAT IT READS IS OF BULK AT MOST 1048576: true; the input reads as it did. -/
def fnExactIsCylinderUptoRow : OpenClaim := { program := "ytjoaoimebdkpaaa", sum := "cee8f3017e9eaf58429642713e1f4427e57eb4ed6632cab3ea35b8d8ffcc0a2e", func := "loop.example/g01354/laws.FnExactIsCylinder", spec := "fnExactIsCylinder", plainKeys := false, apart := false, narrowed := true }
def FnExactIsCylinderUptoSaid : Prop := fnExactIsCylinderUptoRow.holds Try.pinned (OpenSpec.upto fnExactIsCylinderSpec)

/-- 'laws.FnExactShiftTorus', WHERE WHAT IT READS IS OF BULK AT MOST 1048576: true; the input reads as it did. -/
def fnExactShiftTorusUptoRow : OpenClaim := { program := "ytjoaoimebdkpaaa", sum := "cee8f3017e9eaf58429642713e1f4427e57eb4ed6632cab3ea35b8d8ffcc0a2e", func := "loop.example/g01354/laws.FnExactShiftTorus", spec := "fnExactShiftTorus", unfollowed := true, recurses := true, plainKeys := false, apart := false, narrowed := true }
def FnExactShiftTorusUptoSaid : Prop := fnExactShiftTorusUptoRow.holds Try.pinned (OpenSpec.upto fnExactShiftTorusSpec)

/-- 'laws.FnExactLeastForm', WHERE WHAT IT READS IS OF BULK AT MOST 1048576: true; the input reads as it did. -/
def fnExactLeastFormUptoRow : OpenClaim := { program := "ytjoaoimebdkpaaa", sum := "cee8f3017e9eaf58429642713e1f4427e57eb4ed6632cab3ea35b8d8ffcc0a2e", func := "loop.example/g01354/laws.FnExactLeastForm", spec := "fnExactLeastForm", unfollowed := true, recurses := true, plainKeys := false, apart := false, narrowed := true }
def FnExactLeastFormUptoSaid : Prop := fnExactLeastFormUptoRow.holds Try.pinned (OpenSpec.upto fnExactLeastFormSpec)

/-- 'laws.FnExactShiftsKept', WHERE WHAT IT READS IS OF BULK AT MOST 1048576: true; the input reads as it did. -/
def fnExactShiftsKeptUptoRow : OpenClaim := { program := "ytjoaoimebdkpaaa", sum := "cee8f3017e9eaf58429642713e1f4427e57eb4ed6632cab3ea35b8d8ffcc0a2e", func := "loop.example/g01354/laws.FnExactShiftsKept", spec := "fnExactShiftsKept", unfollowed := true, recurses := true, plainKeys := false, apart := false, narrowed := true }
def FnExactShiftsKeptUptoSaid : Prop := fnExactShiftsKeptUptoRow.holds Try.pinned (OpenSpec.upto fnExactShiftsKeptSpec)

/-- 'laws.FnExactShiftNumber', WHERE WHAT IT READS IS OF BULK AT MOST 1048576: true; the input reads as it did. -/
def fnExactShiftNumberUptoRow : OpenClaim := { program := "ytjoaoimebdkpaaa", sum := "cee8f3017e9eaf58429642713e1f4427e57eb4ed6632cab3ea35b8d8ffcc0a2e", func := "loop.example/g01354/laws.FnExactShiftNumber", spec := "fnExactShiftNumber", unfollowed := true, recurses := true, plainKeys := false, apart := false, narrowed := true }
def FnExactShiftNumberUptoSaid : Prop := fnExactShiftNumberUptoRow.holds Try.pinned (OpenSpec.upto fnExactShiftNumberSpec)

/-- 'laws.FnExactPutTile', WHERE WHAT IT READS IS OF BULK AT MOST 1048576: true; the input reads as it did. -/
def fnExactPutTileUptoRow : OpenClaim := { program := "ytjoaoimebdkpaaa", sum := "cee8f3017e9eaf58429642713e1f4427e57eb4ed6632cab3ea35b8d8ffcc0a2e", func := "loop.example/g01354/laws.FnExactPutTile", spec := "fnExactPutTile", unfollowed := true, recurses := true, plainKeys := false, apart := false, narrowed := true }
def FnExactPutTileUptoSaid : Prop := fnExactPutTileUptoRow.holds Try.pinned (OpenSpec.upto fnExactPutTileSpec)

/-- 'laws.FnExactSplitRow', WHERE WHAT IT READS IS OF BULK AT MOST 1048576: true; the input reads as it did. -/
def fnExactSplitRowUptoRow : OpenClaim := { program := "ytjoaoimebdkpaaa", sum := "cee8f3017e9eaf58429642713e1f4427e57eb4ed6632cab3ea35b8d8ffcc0a2e", func := "loop.example/g01354/laws.FnExactSplitRow", spec := "fnExactSplitRow", unfollowed := true, recurses := true, plainKeys := false, apart := false, narrowed := true }
def FnExactSplitRowUptoSaid : Prop := fnExactSplitRowUptoRow.holds Try.pinned (OpenSpec.upto fnExactSplitRowSpec)

/-- 'laws.FnExactFailingHeight', WHERE WHAT IT READS IS OF BULK AT MOST 1048576: true; the input reads as it did. -/
def fnExactFailingHeightUptoRow : OpenClaim := { program := "ytjoaoimebdkpaaa", sum := "cee8f3017e9eaf58429642713e1f4427e57eb4ed6632cab3ea35b8d8ffcc0a2e", func := "loop.example/g01354/laws.FnExactFailingHeight", spec := "fnExactFailingHeight", unfollowed := true, recurses := true, plainKeys := false, apart := false, narrowed := true }
def FnExactFailingHeightUptoSaid : Prop := fnExactFailingHeightUptoRow.holds Try.pinned (OpenSpec.upto fnExactFailingHeightSpec)

/-- 'laws.FnExactFailingWidth', WHERE WHAT IT READS IS OF BULK AT MOST 1048576: true; the input reads as it did. -/
def fnExactFailingWidthUptoRow : OpenClaim := { program := "ytjoaoimebdkpaaa", sum := "cee8f3017e9eaf58429642713e1f4427e57eb4ed6632cab3ea35b8d8ffcc0a2e", func := "loop.example/g01354/laws.FnExactFailingWidth", spec := "fnExactFailingWidth", unfollowed := true, recurses := true, plainKeys := false, apart := false, narrowed := true }
def FnExactFailingWidthUptoSaid : Prop := fnExactFailingWidthUptoRow.holds Try.pinned (OpenSpec.upto fnExactFailingWidthSpec)

/-- 'laws.FnExactSouthRounds', WHERE WHAT IT READS IS OF BULK AT MOST 1048576: true; the input reads as it did. -/
def fnExactSouthRoundsUptoRow : OpenClaim := { program := "ytjoaoimebdkpaaa", sum := "cee8f3017e9eaf58429642713e1f4427e57eb4ed6632cab3ea35b8d8ffcc0a2e", func := "loop.example/g01354/laws.FnExactSouthRounds", spec := "fnExactSouthRounds", unfollowed := true, recurses := true, plainKeys := false, apart := false, narrowed := true }
def FnExactSouthRoundsUptoSaid : Prop := fnExactSouthRoundsUptoRow.holds Try.pinned (OpenSpec.upto fnExactSouthRoundsSpec)

/-- 'laws.FnExactFirstRow', WHERE WHAT IT READS IS OF BULK AT MOST 1048576: true; the input reads as it did. -/
def fnExactFirstRowUptoRow : OpenClaim := { program := "ytjoaoimebdkpaaa", sum := "cee8f3017e9eaf58429642713e1f4427e57eb4ed6632cab3ea35b8d8ffcc0a2e", func := "loop.example/g01354/laws.FnExactFirstRow", spec := "fnExactFirstRow", unfollowed := true, recurses := true, plainKeys := false, apart := false, narrowed := true }
def FnExactFirstRowUptoSaid : Prop := fnExactFirstRowUptoRow.holds Try.pinned (OpenSpec.upto fnExactFirstRowSpec)

end Rows
end Go.Proofs.Ytjoaoimebdkpaaa
