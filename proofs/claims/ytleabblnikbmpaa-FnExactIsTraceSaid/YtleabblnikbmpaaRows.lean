/-
  No cell of these rows narrows 'for every input' (looked for: loops, veiled, ifaces, maps, wideKeys, modest, calm, conditions, laid).
  DERIVED. THE GIVEN ROWS OF THIS SEAT. 13 by the template 'for every input the law returns true; each argument reads behind the call as it read before'; 0 by the template 'total and deterministic' (their statements: YtleabblnikbmpaaTotals.lean).
  GIVEN WITH THE SEED: the statements are not yours to turn. If you find one false, say at which input.
  Laid BY PROGRAM, IN A SANDBOX (cutbox-rows.mjs): the forced cells as the released guide's own fill.sh prints them over the translation 87e6fe674e958339… (all of the seat's roots in one cut). By AI agents, Wed Nov 11 2026. No macro, syntax, notation, axiom, sorry.
-/
import Derived.Test.YtleabblnikbmpaaChecked
import GoSem.Claim
import GoSem.ClaimJoined
import GoSem.ClaimMapViews
import Derived.JoinedTies
import Derived.KernelRfl
namespace Go.Proofs.Ytleabblnikbmpaa
/- THE CELL 'sum', in the pinned program and in every row, IS THE sha256 OF THE DUMP (.gsa) THAT YtleabblnikbmpaaProg.lean LOADS. Nothing in Lean hashes anything: it is a label: what it is worth is what the hold of that sum in a sandbox is worth. -/
noncomputable def Try.pinned : Pinned := { name := "ytleabblnikbmpaa", sum := "87e6fe674e95833950c5ce40aff520e75c673e95d07e9136db2e8d4f8e15c829", checked := Try.checked }
namespace Rows
def none {H : Type} : Left H := { results := [], args := [] }

/-- 'laws.FnExactCountColumns': WHATEVER THE INPUT: true; the input reads as it did. -/
def fnExactCountColumnsSpec : ChangeSpec := { name := "fnExactCountColumns", fn := fun _ => fun
  | [d1, d2] => { results := [.lit (.bool true)], args := [d1, d2] }
  | _ => none }
def fnExactCountColumnsRow : OpenClaim := { program := "ytleabblnikbmpaa", sum := "87e6fe674e95833950c5ce40aff520e75c673e95d07e9136db2e8d4f8e15c829", func := "loop.example/g01354/laws.FnExactCountColumns", spec := "fnExactCountColumns", apart := false }
def FnExactCountColumnsSaid : Prop := fnExactCountColumnsRow.holds Try.pinned (OpenSpec.ofChange fnExactCountColumnsSpec)

/-- ITS FALSE NEIGHBOUR: 'it returns false'. Refute it at one input. -/
def fnExactCountColumnsWrong : ChangeSpec := { name := "fnExactCountColumns", fn := fun _ => fun
  | [d1, d2] => { results := [.lit (.bool false)], args := [d1, d2] }
  | _ => none }
def FnExactCountColumnsWrongFalsely : Prop := fnExactCountColumnsRow.holds Try.pinned (OpenSpec.ofChange fnExactCountColumnsWrong)

/-- 'laws.FnExactColumnWords': WHATEVER THE INPUT: true; the input reads as it did. -/
def fnExactColumnWordsSpec : ChangeSpec := { name := "fnExactColumnWords", fn := fun _ => fun
  | [d1, d2] => { results := [.lit (.bool true)], args := [d1, d2] }
  | _ => none }
def fnExactColumnWordsRow : OpenClaim := { program := "ytleabblnikbmpaa", sum := "87e6fe674e95833950c5ce40aff520e75c673e95d07e9136db2e8d4f8e15c829", func := "loop.example/g01354/laws.FnExactColumnWords", spec := "fnExactColumnWords", unfollowed := true, recurses := true, apart := false }
def FnExactColumnWordsSaid : Prop := fnExactColumnWordsRow.holds Try.pinned (OpenSpec.ofChange fnExactColumnWordsSpec)

/-- ITS FALSE NEIGHBOUR: 'it returns false'. Refute it at one input. -/
def fnExactColumnWordsWrong : ChangeSpec := { name := "fnExactColumnWords", fn := fun _ => fun
  | [d1, d2] => { results := [.lit (.bool false)], args := [d1, d2] }
  | _ => none }
def FnExactColumnWordsWrongFalsely : Prop := fnExactColumnWordsRow.holds Try.pinned (OpenSpec.ofChange fnExactColumnWordsWrong)

/-- 'laws.FnExactColumnTable': WHATEVER THE INPUT: true; the input reads as it did. -/
def fnExactColumnTableSpec : ChangeSpec := { name := "fnExactColumnTable", fn := fun _ => fun
  | [d1, d2] => { results := [.lit (.bool true)], args := [d1, d2] }
  | _ => none }
def fnExactColumnTableRow : OpenClaim := { program := "ytleabblnikbmpaa", sum := "87e6fe674e95833950c5ce40aff520e75c673e95d07e9136db2e8d4f8e15c829", func := "loop.example/g01354/laws.FnExactColumnTable", spec := "fnExactColumnTable", recurses := true, apart := false }
def FnExactColumnTableSaid : Prop := fnExactColumnTableRow.holds Try.pinned (OpenSpec.ofChange fnExactColumnTableSpec)

/-- ITS FALSE NEIGHBOUR: 'it returns false'. Refute it at one input. -/
def fnExactColumnTableWrong : ChangeSpec := { name := "fnExactColumnTable", fn := fun _ => fun
  | [d1, d2] => { results := [.lit (.bool false)], args := [d1, d2] }
  | _ => none }
def FnExactColumnTableWrongFalsely : Prop := fnExactColumnTableRow.holds Try.pinned (OpenSpec.ofChange fnExactColumnTableWrong)

/-- 'laws.FnExactStrongParts': WHATEVER THE INPUT: true; the input reads as it did. -/
def fnExactStrongPartsSpec : ChangeSpec := { name := "fnExactStrongParts", fn := fun _ => fun
  | [d1, d2] => { results := [.lit (.bool true)], args := [d1, d2] }
  | _ => none }
def fnExactStrongPartsRow : OpenClaim := { program := "ytleabblnikbmpaa", sum := "87e6fe674e95833950c5ce40aff520e75c673e95d07e9136db2e8d4f8e15c829", func := "loop.example/g01354/laws.FnExactStrongParts", spec := "fnExactStrongParts", recurses := true, apart := false }
def FnExactStrongPartsSaid : Prop := fnExactStrongPartsRow.holds Try.pinned (OpenSpec.ofChange fnExactStrongPartsSpec)

/-- ITS FALSE NEIGHBOUR: 'it returns false'. Refute it at one input. -/
def fnExactStrongPartsWrong : ChangeSpec := { name := "fnExactStrongParts", fn := fun _ => fun
  | [d1, d2] => { results := [.lit (.bool false)], args := [d1, d2] }
  | _ => none }
def FnExactStrongPartsWrongFalsely : Prop := fnExactStrongPartsRow.holds Try.pinned (OpenSpec.ofChange fnExactStrongPartsWrong)

/-- 'laws.FnExactPeriodOfHeight': WHATEVER THE INPUT: true; the input reads as it did. -/
def fnExactPeriodOfHeightSpec : ChangeSpec := { name := "fnExactPeriodOfHeight", fn := fun _ => fun
  | [d1, d2] => { results := [.lit (.bool true)], args := [d1, d2] }
  | _ => none }
def fnExactPeriodOfHeightRow : OpenClaim := { program := "ytleabblnikbmpaa", sum := "87e6fe674e95833950c5ce40aff520e75c673e95d07e9136db2e8d4f8e15c829", func := "loop.example/g01354/laws.FnExactPeriodOfHeight", spec := "fnExactPeriodOfHeight", recurses := true, apart := false }
def FnExactPeriodOfHeightSaid : Prop := fnExactPeriodOfHeightRow.holds Try.pinned (OpenSpec.ofChange fnExactPeriodOfHeightSpec)

/-- ITS FALSE NEIGHBOUR: 'it returns false'. Refute it at one input. -/
def fnExactPeriodOfHeightWrong : ChangeSpec := { name := "fnExactPeriodOfHeight", fn := fun _ => fun
  | [d1, d2] => { results := [.lit (.bool false)], args := [d1, d2] }
  | _ => none }
def FnExactPeriodOfHeightWrongFalsely : Prop := fnExactPeriodOfHeightRow.holds Try.pinned (OpenSpec.ofChange fnExactPeriodOfHeightWrong)

/-- 'laws.FnExactIsMixing': WHATEVER THE INPUT: true; the input reads as it did. -/
def fnExactIsMixingSpec : ChangeSpec := { name := "fnExactIsMixing", fn := fun _ => fun
  | [d1, d2] => { results := [.lit (.bool true)], args := [d1, d2] }
  | _ => none }
def fnExactIsMixingRow : OpenClaim := { program := "ytleabblnikbmpaa", sum := "87e6fe674e95833950c5ce40aff520e75c673e95d07e9136db2e8d4f8e15c829", func := "loop.example/g01354/laws.FnExactIsMixing", spec := "fnExactIsMixing", recurses := true, apart := false }
def FnExactIsMixingSaid : Prop := fnExactIsMixingRow.holds Try.pinned (OpenSpec.ofChange fnExactIsMixingSpec)

/-- ITS FALSE NEIGHBOUR: 'it returns false'. Refute it at one input. -/
def fnExactIsMixingWrong : ChangeSpec := { name := "fnExactIsMixing", fn := fun _ => fun
  | [d1, d2] => { results := [.lit (.bool false)], args := [d1, d2] }
  | _ => none }
def FnExactIsMixingWrongFalsely : Prop := fnExactIsMixingRow.holds Try.pinned (OpenSpec.ofChange fnExactIsMixingWrong)

/-- 'laws.FnExactIsTrace': WHATEVER THE INPUT: true; the input reads as it did. -/
def fnExactIsTraceSpec : ChangeSpec := { name := "fnExactIsTrace", fn := fun _ => fun
  | [d1, d2, d3] => { results := [.lit (.bool true)], args := [d1, d2, d3] }
  | _ => none }
def fnExactIsTraceRow : OpenClaim := { program := "ytleabblnikbmpaa", sum := "87e6fe674e95833950c5ce40aff520e75c673e95d07e9136db2e8d4f8e15c829", func := "loop.example/g01354/laws.FnExactIsTrace", spec := "fnExactIsTrace", apart := false }
def FnExactIsTraceSaid : Prop := fnExactIsTraceRow.holds Try.pinned (OpenSpec.ofChange fnExactIsTraceSpec)

/-- ITS FALSE NEIGHBOUR: 'it returns false'. Refute it at one input. -/
def fnExactIsTraceWrong : ChangeSpec := { name := "fnExactIsTrace", fn := fun _ => fun
  | [d1, d2, d3] => { results := [.lit (.bool false)], args := [d1, d2, d3] }
  | _ => none }
def FnExactIsTraceWrongFalsely : Prop := fnExactIsTraceRow.holds Try.pinned (OpenSpec.ofChange fnExactIsTraceWrong)

/-- 'laws.FnExactTraceWords': WHATEVER THE INPUT: true; the input reads as it did. -/
def fnExactTraceWordsSpec : ChangeSpec := { name := "fnExactTraceWords", fn := fun _ => fun
  | [d1, d2, d3] => { results := [.lit (.bool true)], args := [d1, d2, d3] }
  | _ => none }
def fnExactTraceWordsRow : OpenClaim := { program := "ytleabblnikbmpaa", sum := "87e6fe674e95833950c5ce40aff520e75c673e95d07e9136db2e8d4f8e15c829", func := "loop.example/g01354/laws.FnExactTraceWords", spec := "fnExactTraceWords", unfollowed := true, recurses := true, apart := false }
def FnExactTraceWordsSaid : Prop := fnExactTraceWordsRow.holds Try.pinned (OpenSpec.ofChange fnExactTraceWordsSpec)

/-- ITS FALSE NEIGHBOUR: 'it returns false'. Refute it at one input. -/
def fnExactTraceWordsWrong : ChangeSpec := { name := "fnExactTraceWords", fn := fun _ => fun
  | [d1, d2, d3] => { results := [.lit (.bool false)], args := [d1, d2, d3] }
  | _ => none }
def FnExactTraceWordsWrongFalsely : Prop := fnExactTraceWordsRow.holds Try.pinned (OpenSpec.ofChange fnExactTraceWordsWrong)

/-- 'laws.FnExactCountTraces': WHATEVER THE INPUT: true; the input reads as it did. -/
def fnExactCountTracesSpec : ChangeSpec := { name := "fnExactCountTraces", fn := fun _ => fun
  | [d1, d2, d3] => { results := [.lit (.bool true)], args := [d1, d2, d3] }
  | _ => none }
def fnExactCountTracesRow : OpenClaim := { program := "ytleabblnikbmpaa", sum := "87e6fe674e95833950c5ce40aff520e75c673e95d07e9136db2e8d4f8e15c829", func := "loop.example/g01354/laws.FnExactCountTraces", spec := "fnExactCountTraces", unfollowed := true, recurses := true, apart := false }
def FnExactCountTracesSaid : Prop := fnExactCountTracesRow.holds Try.pinned (OpenSpec.ofChange fnExactCountTracesSpec)

/-- ITS FALSE NEIGHBOUR: 'it returns false'. Refute it at one input. -/
def fnExactCountTracesWrong : ChangeSpec := { name := "fnExactCountTraces", fn := fun _ => fun
  | [d1, d2, d3] => { results := [.lit (.bool false)], args := [d1, d2, d3] }
  | _ => none }
def FnExactCountTracesWrongFalsely : Prop := fnExactCountTracesRow.holds Try.pinned (OpenSpec.ofChange fnExactCountTracesWrong)

/-- 'laws.FnExactSameTraces': WHATEVER THE INPUT: true; the input reads as it did. -/
def fnExactSameTracesSpec : ChangeSpec := { name := "fnExactSameTraces", fn := fun _ => fun
  | [d1, d2, d3, d4] => { results := [.lit (.bool true)], args := [d1, d2, d3, d4] }
  | _ => none }
def fnExactSameTracesRow : OpenClaim := { program := "ytleabblnikbmpaa", sum := "87e6fe674e95833950c5ce40aff520e75c673e95d07e9136db2e8d4f8e15c829", func := "loop.example/g01354/laws.FnExactSameTraces", spec := "fnExactSameTraces", unfollowed := true, recurses := true, apart := false }
def FnExactSameTracesSaid : Prop := fnExactSameTracesRow.holds Try.pinned (OpenSpec.ofChange fnExactSameTracesSpec)

/-- ITS FALSE NEIGHBOUR: 'it returns false'. Refute it at one input. -/
def fnExactSameTracesWrong : ChangeSpec := { name := "fnExactSameTraces", fn := fun _ => fun
  | [d1, d2, d3, d4] => { results := [.lit (.bool false)], args := [d1, d2, d3, d4] }
  | _ => none }
def FnExactSameTracesWrongFalsely : Prop := fnExactSameTracesRow.holds Try.pinned (OpenSpec.ofChange fnExactSameTracesWrong)

/-- 'laws.FnExactStableHeight': WHATEVER THE INPUT: true; the input reads as it did. -/
def fnExactStableHeightSpec : ChangeSpec := { name := "fnExactStableHeight", fn := fun _ => fun
  | [d1, d2] => { results := [.lit (.bool true)], args := [d1, d2] }
  | _ => none }
def fnExactStableHeightRow : OpenClaim := { program := "ytleabblnikbmpaa", sum := "87e6fe674e95833950c5ce40aff520e75c673e95d07e9136db2e8d4f8e15c829", func := "loop.example/g01354/laws.FnExactStableHeight", spec := "fnExactStableHeight", unfollowed := true, recurses := true, apart := false }
def FnExactStableHeightSaid : Prop := fnExactStableHeightRow.holds Try.pinned (OpenSpec.ofChange fnExactStableHeightSpec)

/-- ITS FALSE NEIGHBOUR: 'it returns false'. Refute it at one input. -/
def fnExactStableHeightWrong : ChangeSpec := { name := "fnExactStableHeight", fn := fun _ => fun
  | [d1, d2] => { results := [.lit (.bool false)], args := [d1, d2] }
  | _ => none }
def FnExactStableHeightWrongFalsely : Prop := fnExactStableHeightRow.holds Try.pinned (OpenSpec.ofChange fnExactStableHeightWrong)

/-- 'laws.FnExactLeastForbidden': WHATEVER THE INPUT: true; the input reads as it did. -/
def fnExactLeastForbiddenSpec : ChangeSpec := { name := "fnExactLeastForbidden", fn := fun _ => fun
  | [d1, d2, d3] => { results := [.lit (.bool true)], args := [d1, d2, d3] }
  | _ => none }
def fnExactLeastForbiddenRow : OpenClaim := { program := "ytleabblnikbmpaa", sum := "87e6fe674e95833950c5ce40aff520e75c673e95d07e9136db2e8d4f8e15c829", func := "loop.example/g01354/laws.FnExactLeastForbidden", spec := "fnExactLeastForbidden", unfollowed := true, recurses := true, apart := false }
def FnExactLeastForbiddenSaid : Prop := fnExactLeastForbiddenRow.holds Try.pinned (OpenSpec.ofChange fnExactLeastForbiddenSpec)

/-- ITS FALSE NEIGHBOUR: 'it returns false'. Refute it at one input. -/
def fnExactLeastForbiddenWrong : ChangeSpec := { name := "fnExactLeastForbidden", fn := fun _ => fun
  | [d1, d2, d3] => { results := [.lit (.bool false)], args := [d1, d2, d3] }
  | _ => none }
def FnExactLeastForbiddenWrongFalsely : Prop := fnExactLeastForbiddenRow.holds Try.pinned (OpenSpec.ofChange fnExactLeastForbiddenWrong)

/-- 'laws.FnExactWidestFilling': WHATEVER THE INPUT: true; the input reads as it did. -/
def fnExactWidestFillingSpec : ChangeSpec := { name := "fnExactWidestFilling", fn := fun _ => fun
  | [d1, d2] => { results := [.lit (.bool true)], args := [d1, d2] }
  | _ => none }
def fnExactWidestFillingRow : OpenClaim := { program := "ytleabblnikbmpaa", sum := "87e6fe674e95833950c5ce40aff520e75c673e95d07e9136db2e8d4f8e15c829", func := "loop.example/g01354/laws.FnExactWidestFilling", spec := "fnExactWidestFilling", unfollowed := true, recurses := true, apart := false }
def FnExactWidestFillingSaid : Prop := fnExactWidestFillingRow.holds Try.pinned (OpenSpec.ofChange fnExactWidestFillingSpec)

/-- ITS FALSE NEIGHBOUR: 'it returns false'. Refute it at one input. -/
def fnExactWidestFillingWrong : ChangeSpec := { name := "fnExactWidestFilling", fn := fun _ => fun
  | [d1, d2] => { results := [.lit (.bool false)], args := [d1, d2] }
  | _ => none }
def FnExactWidestFillingWrongFalsely : Prop := fnExactWidestFillingRow.holds Try.pinned (OpenSpec.ofChange fnExactWidestFillingWrong)

/- THE SECOND FORM. 'bulk': how many values and letters a reading holds, each counted each time it is reached (what is shared counts as often as it is met; a slice's spare places count too). A statement '..UptoSaid' is the law's where the arguments, and the package variables that the reading takes, are together of bulk at most 1048576: NARROWER than '..Said'. Prove '..Said' where nothing that the law and all that it calls make is longer than what came in: it says more and counts as full. Else prove '..UptoSaid'. A law counts once. -/
mutual
def uptoBulk {H : Type} : DataW H → Nat
  | .lit (.string bytes) => bytes.length + 1
  | .lit _ => 1
  | .nil => 1
  | .ptr d => uptoBulk d + 1
  | .slice elems spare => uptoBulkAll elems + uptoBulkAll spare + 1
  | .agg parts => uptoBulkAll parts + 1
  | .iface _ d => uptoBulk d + 1
  | .map entries => uptoBulkEntries entries + 1
  | .held _ => 1
def uptoBulkAll {H : Type} : List (DataW H) → Nat
  | [] => 0
  | d :: r => uptoBulk d + uptoBulkAll r
def uptoBulkEntries {H : Type} : List (Lit × DataW H) → Nat
  | [] => 0
  | x :: r => uptoBulkEntry x + uptoBulkEntries r
def uptoBulkEntry {H : Type} : Lit × DataW H → Nat
  | (.string bytes, d) => bytes.length + uptoBulk d + 1
  | (_, d) => uptoBulk d + 1
 end
def uptoSmall : (H : Type) → List (DataW H) → Bool := fun _ ds => decide (uptoBulkAll ds ≤ 1048576)
def OpenSpec.upto (s : _root_.Go.ChangeSpec) : _root_.Go.OpenSpec := { _root_.Go.OpenSpec.ofChange s with cond := some uptoSmall }

/-- 'laws.FnExactCountColumns', WHERE WHAT IT READS IS OF BULK AT MOST 1048576: true; the input reads as it did. -/
def fnExactCountColumnsUptoRow : OpenClaim := { program := "ytleabblnikbmpaa", sum := "87e6fe674e95833950c5ce40aff520e75c673e95d07e9136db2e8d4f8e15c829", func := "loop.example/g01354/laws.FnExactCountColumns", spec := "fnExactCountColumns", apart := false, narrowed := true }
def FnExactCountColumnsUptoSaid : Prop := fnExactCountColumnsUptoRow.holds Try.pinned (OpenSpec.upto fnExactCountColumnsSpec)

/-- 'laws.FnExactColumnWords', WHERE WHAT IT READS IS OF BULK AT MOST 1048576: true; the input reads as it did. -/
def fnExactColumnWordsUptoRow : OpenClaim := { program := "ytleabblnikbmpaa", sum := "87e6fe674e95833950c5ce40aff520e75c673e95d07e9136db2e8d4f8e15c829", func := "loop.example/g01354/laws.FnExactColumnWords", spec := "fnExactColumnWords", unfollowed := true, recurses := true, apart := false, narrowed := true }
def FnExactColumnWordsUptoSaid : Prop := fnExactColumnWordsUptoRow.holds Try.pinned (OpenSpec.upto fnExactColumnWordsSpec)

/-- 'laws.FnExactColumnTable', WHERE WHAT IT READS IS OF BULK AT MOST 1048576: true; the input reads as it did. -/
def fnExactColumnTableUptoRow : OpenClaim := { program := "ytleabblnikbmpaa", sum := "87e6fe674e95833950c5ce40aff520e75c673e95d07e9136db2e8d4f8e15c829", func := "loop.example/g01354/laws.FnExactColumnTable", spec := "fnExactColumnTable", recurses := true, apart := false, narrowed := true }
def FnExactColumnTableUptoSaid : Prop := fnExactColumnTableUptoRow.holds Try.pinned (OpenSpec.upto fnExactColumnTableSpec)

/-- 'laws.FnExactStrongParts', WHERE WHAT IT READS IS OF BULK AT MOST 1048576: true; the input reads as it did. -/
def fnExactStrongPartsUptoRow : OpenClaim := { program := "ytleabblnikbmpaa", sum := "87e6fe674e95833950c5ce40aff520e75c673e95d07e9136db2e8d4f8e15c829", func := "loop.example/g01354/laws.FnExactStrongParts", spec := "fnExactStrongParts", recurses := true, apart := false, narrowed := true }
def FnExactStrongPartsUptoSaid : Prop := fnExactStrongPartsUptoRow.holds Try.pinned (OpenSpec.upto fnExactStrongPartsSpec)

/-- 'laws.FnExactPeriodOfHeight', WHERE WHAT IT READS IS OF BULK AT MOST 1048576: true; the input reads as it did. -/
def fnExactPeriodOfHeightUptoRow : OpenClaim := { program := "ytleabblnikbmpaa", sum := "87e6fe674e95833950c5ce40aff520e75c673e95d07e9136db2e8d4f8e15c829", func := "loop.example/g01354/laws.FnExactPeriodOfHeight", spec := "fnExactPeriodOfHeight", recurses := true, apart := false, narrowed := true }
def FnExactPeriodOfHeightUptoSaid : Prop := fnExactPeriodOfHeightUptoRow.holds Try.pinned (OpenSpec.upto fnExactPeriodOfHeightSpec)

/-- 'laws.FnExactIsMixing', WHERE WHAT IT READS IS OF BULK AT MOST 1048576: true; the input reads as it did. -/
def fnExactIsMixingUptoRow : OpenClaim := { program := "ytleabblnikbmpaa", sum := "87e6fe674e95833950c5ce40aff520e75c673e95d07e9136db2e8d4f8e15c829", func := "loop.example/g01354/laws.FnExactIsMixing", spec := "fnExactIsMixing", recurses := true, apart := false, narrowed := true }
def FnExactIsMixingUptoSaid : Prop := fnExactIsMixingUptoRow.holds Try.pinned (OpenSpec.upto fnExactIsMixingSpec)

/-- 'laws.FnExactIsTrace', WHERE WHAT IT READS IS OF BULK AT MOST 1048576: true; the input reads as it did. -/
def fnExactIsTraceUptoRow : OpenClaim := { program := "ytleabblnikbmpaa", sum := "87e6fe674e95833950c5ce40aff520e75c673e95d07e9136db2e8d4f8e15c829", func := "loop.example/g01354/laws.FnExactIsTrace", spec := "fnExactIsTrace", apart := false, narrowed := true }
def FnExactIsTraceUptoSaid : Prop := fnExactIsTraceUptoRow.holds Try.pinned (OpenSpec.upto fnExactIsTraceSpec)

/-- 'laws.FnExactTraceWords', WHERE WHAT IT READS IS OF BULK AT MOST 1048576: true; the input reads as it did. -/
def fnExactTraceWordsUptoRow : OpenClaim := { program := "ytleabblnikbmpaa", sum := "87e6fe674e95833950c5ce40aff520e75c673e95d07e9136db2e8d4f8e15c829", func := "loop.example/g01354/laws.FnExactTraceWords", spec := "fnExactTraceWords", unfollowed := true, recurses := true, apart := false, narrowed := true }
def FnExactTraceWordsUptoSaid : Prop := fnExactTraceWordsUptoRow.holds Try.pinned (OpenSpec.upto fnExactTraceWordsSpec)

/-- 'laws.FnExactCountTraces', WHERE WHAT IT READS IS OF BULK AT MOST 1048576: true; the input reads as it did. -/
def fnExactCountTracesUptoRow : OpenClaim := { program := "ytleabblnikbmpaa", sum := "87e6fe674e95833950c5ce40aff520e75c673e95d07e9136db2e8d4f8e15c829", func := "loop.example/g01354/laws.FnExactCountTraces", spec := "fnExactCountTraces", unfollowed := true, recurses := true, apart := false, narrowed := true }
def FnExactCountTracesUptoSaid : Prop := fnExactCountTracesUptoRow.holds Try.pinned (OpenSpec.upto fnExactCountTracesSpec)

/-- 'laws.FnExactSameTraces', WHERE WHAT IT READS IS OF BULK AT MOST 1048576: true; the input reads as it did. -/
def fnExactSameTracesUptoRow : OpenClaim := { program := "ytleabblnikbmpaa", sum := "87e6fe674e95833950c5ce40aff520e75c673e95d07e9136db2e8d4f8e15c829", func := "loop.example/g01354/laws.FnExactSameTraces", spec := "fnExactSameTraces", unfollowed := true, recurses := true, apart := false, narrowed := true }
def FnExactSameTracesUptoSaid : Prop := fnExactSameTracesUptoRow.holds Try.pinned (OpenSpec.upto fnExactSameTracesSpec)

/-- 'laws.FnExactStableHeight', WHERE WHAT IT READS IS OF BULK AT MOST 1048576: true; the input reads as it did. -/
def fnExactStableHeightUptoRow : OpenClaim := { program := "ytleabblnikbmpaa", sum := "87e6fe674e95833950c5ce40aff520e75c673e95d07e9136db2e8d4f8e15c829", func := "loop.example/g01354/laws.FnExactStableHeight", spec := "fnExactStableHeight", unfollowed := true, recurses := true, apart := false, narrowed := true }
def FnExactStableHeightUptoSaid : Prop := fnExactStableHeightUptoRow.holds Try.pinned (OpenSpec.upto fnExactStableHeightSpec)

/-- 'laws.FnExactLeastForbidden', WHERE WHAT IT READS IS OF BULK AT MOST 1048576: true; the input reads as it did. -/
def fnExactLeastForbiddenUptoRow : OpenClaim := { program := "ytleabblnikbmpaa", sum := "87e6fe674e95833950c5ce40aff520e75c673e95d07e9136db2e8d4f8e15c829", func := "loop.example/g01354/laws.FnExactLeastForbidden", spec := "fnExactLeastForbidden", unfollowed := true, recurses := true, apart := false, narrowed := true }
def FnExactLeastForbiddenUptoSaid : Prop := fnExactLeastForbiddenUptoRow.holds Try.pinned (OpenSpec.upto fnExactLeastForbiddenSpec)

/-- 'laws.FnExactWidestFilling', WHERE WHAT IT READS IS OF BULK AT MOST 1048576: true; the input reads as it did. -/
def fnExactWidestFillingUptoRow : OpenClaim := { program := "ytleabblnikbmpaa", sum := "87e6fe674e95833950c5ce40aff520e75c673e95d07e9136db2e8d4f8e15c829", func := "loop.example/g01354/laws.FnExactWidestFilling", spec := "fnExactWidestFilling", unfollowed := true, recurses := true, apart := false, narrowed := true }
def FnExactWidestFillingUptoSaid : Prop := fnExactWidestFillingUptoRow.holds Try.pinned (OpenSpec.upto fnExactWidestFillingSpec)

end Rows
end Go.Proofs.Ytleabblnikbmpaa
