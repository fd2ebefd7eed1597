/-
  NARROWER THAN 'FOR EVERY INPUT', by the rows' own cells (each row's printed sentence says how): FnExactDigitsOf: ifaces, laid · FnExactCarriesOf: ifaces, laid · FnExactNumberRow: ifaces, laid.
  DERIVED. THE GIVEN ROWS OF THIS SEAT. 3 by the template 'for every input the law returns true; each argument reads behind the call as it read before'; 0 by the template 'total and deterministic' (their statements: YtnagpndclagfaaaDoorTotals.lean).
  GIVEN WITH THE SEED: the statements are not yours to turn. If you find one false, say at which input.
  Laid BY PROGRAM, IN A SANDBOX (cutbox-rows.mjs): the forced cells as the released guide's own fill.sh prints them over the translation 947f0dafd675062b… (all of the seat's roots in one cut). By AI agents, Wed Nov 11 2026. No macro, syntax, notation, axiom, sorry.
-/
import Derived.Test.YtnagpndclagfaaaDoorChecked
import GoSem.Claim
import GoSem.ClaimJoined
import GoSem.ClaimMapViews
import Derived.JoinedTies
import Derived.KernelRfl
namespace Go.Proofs.YtnagpndclagfaaaDoor
/- THE CELL 'sum', in the pinned program and in every row, IS THE sha256 OF THE DUMP (.gsa) THAT YtnagpndclagfaaaDoorProg.lean LOADS. Nothing in Lean hashes anything: it is a label: what it is worth is what the hold of that sum in a sandbox is worth. -/
noncomputable def Tryd.pinned : Pinned := { name := "ytnagpndclagfaaadoor", sum := "947f0dafd675062b8df7897b922cd086cf332be21b82bd5682722d9559bad6c9", checked := Tryd.checked }
namespace Rows
def none {H : Type} : Left H := { results := [], args := [] }

/- WHAT THE LISTED PACKAGE-LEVEL VARIABLES READ AS WHEN THE CALL BEGINS. Each datum BY PROGRAM (the guide's laid-datum.mjs) off the statement by which the dump's own 'gosem.cut.vars' lays the variable. In a bare row this is a premise. The card (YtnagpndclagfaaaDoorCards.lean) ties it to the program's text. -/
def laid_loop_example_g01354_impl_errNoFraction {H : Type} : DataW H := .iface "*errors.errorString" (.ptr (.agg [.lit (.string [110, 111, 32, 102, 114, 97, 99, 116, 105, 111, 110])]))
def laid_loop_example_g01354_impl_errNoPlaces {H : Type} : DataW H := .iface "*errors.errorString" (.ptr (.agg [.lit (.string [110, 111, 32, 112, 108, 97, 99, 101, 115, 32, 111, 102, 32, 97, 32, 102, 114, 97, 99, 116, 105, 111, 110])]))

/-- 'laws.FnExactDigitsOf': WHATEVER THE INPUT: true; the input reads as it did. -/
def fnExactDigitsOfSpec : ChangeSpec := { name := "fnExactDigitsOf", vars := ["loop.example/g01354/impl.errNoFraction", "loop.example/g01354/impl.errNoPlaces"], fn := fun _ => fun
  | [d1, d2, d3, d4, g1, g2] => { results := [.lit (.bool true)], args := [d1, d2, d3, d4], vars := [g1, g2] }
  | _ => none }
def fnExactDigitsOfRow : OpenClaim := { program := "ytnagpndclagfaaadoor", sum := "947f0dafd675062b8df7897b922cd086cf332be21b82bd5682722d9559bad6c9", func := "loop.example/g01354/laws.FnExactDigitsOf", spec := "fnExactDigitsOf", unfollowed := true, recurses := true, named := ["loop.example/g01354/impl.errNoFraction", "loop.example/g01354/impl.errNoPlaces"], ifaces := true, apart := false, laid := [("loop.example/g01354/impl.errNoFraction", laid_loop_example_g01354_impl_errNoFraction), ("loop.example/g01354/impl.errNoPlaces", laid_loop_example_g01354_impl_errNoPlaces)] }
def FnExactDigitsOfSaid : Prop := fnExactDigitsOfRow.holds Tryd.pinned (OpenSpec.ofChange fnExactDigitsOfSpec)

/-- ITS FALSE NEIGHBOUR: 'it returns false'. Refute it at one input. -/
def fnExactDigitsOfWrong : ChangeSpec := { name := "fnExactDigitsOf", vars := ["loop.example/g01354/impl.errNoFraction", "loop.example/g01354/impl.errNoPlaces"], fn := fun _ => fun
  | [d1, d2, d3, d4, g1, g2] => { results := [.lit (.bool false)], args := [d1, d2, d3, d4], vars := [g1, g2] }
  | _ => none }
def FnExactDigitsOfWrongFalsely : Prop := fnExactDigitsOfRow.holds Tryd.pinned (OpenSpec.ofChange fnExactDigitsOfWrong)

/-- 'laws.FnExactCarriesOf': WHATEVER THE INPUT: true; the input reads as it did. -/
def fnExactCarriesOfSpec : ChangeSpec := { name := "fnExactCarriesOf", vars := ["loop.example/g01354/impl.errNoFraction", "loop.example/g01354/impl.errNoPlaces"], fn := fun _ => fun
  | [d1, d2, d3, d4, d5, d6, g1, g2] => { results := [.lit (.bool true)], args := [d1, d2, d3, d4, d5, d6], vars := [g1, g2] }
  | _ => none }
def fnExactCarriesOfRow : OpenClaim := { program := "ytnagpndclagfaaadoor", sum := "947f0dafd675062b8df7897b922cd086cf332be21b82bd5682722d9559bad6c9", func := "loop.example/g01354/laws.FnExactCarriesOf", spec := "fnExactCarriesOf", unfollowed := true, recurses := true, named := ["loop.example/g01354/impl.errNoFraction", "loop.example/g01354/impl.errNoPlaces"], ifaces := true, apart := false, laid := [("loop.example/g01354/impl.errNoFraction", laid_loop_example_g01354_impl_errNoFraction), ("loop.example/g01354/impl.errNoPlaces", laid_loop_example_g01354_impl_errNoPlaces)] }
def FnExactCarriesOfSaid : Prop := fnExactCarriesOfRow.holds Tryd.pinned (OpenSpec.ofChange fnExactCarriesOfSpec)

/-- ITS FALSE NEIGHBOUR: 'it returns false'. Refute it at one input. -/
def fnExactCarriesOfWrong : ChangeSpec := { name := "fnExactCarriesOf", vars := ["loop.example/g01354/impl.errNoFraction", "loop.example/g01354/impl.errNoPlaces"], fn := fun _ => fun
  | [d1, d2, d3, d4, d5, d6, g1, g2] => { results := [.lit (.bool false)], args := [d1, d2, d3, d4, d5, d6], vars := [g1, g2] }
  | _ => none }
def FnExactCarriesOfWrongFalsely : Prop := fnExactCarriesOfRow.holds Tryd.pinned (OpenSpec.ofChange fnExactCarriesOfWrong)

/-- 'laws.FnExactNumberRow': WHATEVER THE INPUT: true; the input reads as it did. -/
def fnExactNumberRowSpec : ChangeSpec := { name := "fnExactNumberRow", vars := ["loop.example/g01354/impl.errNoFraction", "loop.example/g01354/impl.errNoPlaces"], fn := fun _ => fun
  | [d1, d2, d3, d4, d5, d6, g1, g2] => { results := [.lit (.bool true)], args := [d1, d2, d3, d4, d5, d6], vars := [g1, g2] }
  | _ => none }
def fnExactNumberRowRow : OpenClaim := { program := "ytnagpndclagfaaadoor", sum := "947f0dafd675062b8df7897b922cd086cf332be21b82bd5682722d9559bad6c9", func := "loop.example/g01354/laws.FnExactNumberRow", spec := "fnExactNumberRow", unfollowed := true, recurses := true, named := ["loop.example/g01354/impl.errNoFraction", "loop.example/g01354/impl.errNoPlaces"], ifaces := true, apart := false, laid := [("loop.example/g01354/impl.errNoFraction", laid_loop_example_g01354_impl_errNoFraction), ("loop.example/g01354/impl.errNoPlaces", laid_loop_example_g01354_impl_errNoPlaces)] }
def FnExactNumberRowSaid : Prop := fnExactNumberRowRow.holds Tryd.pinned (OpenSpec.ofChange fnExactNumberRowSpec)

/-- ITS FALSE NEIGHBOUR: 'it returns false'. Refute it at one input. -/
def fnExactNumberRowWrong : ChangeSpec := { name := "fnExactNumberRow", vars := ["loop.example/g01354/impl.errNoFraction", "loop.example/g01354/impl.errNoPlaces"], fn := fun _ => fun
  | [d1, d2, d3, d4, d5, d6, g1, g2] => { results := [.lit (.bool false)], args := [d1, d2, d3, d4, d5, d6], vars := [g1, g2] }
  | _ => none }
def FnExactNumberRowWrongFalsely : Prop := fnExactNumberRowRow.holds Tryd.pinned (OpenSpec.ofChange fnExactNumberRowWrong)

/- THE SECOND FORM. 'bulk': how many values and letters a reading holds, each counted each time it is reached (what is shared counts as often as it is met; a slice's spare places count too). A statement '..UptoSaid' is the law's where the arguments, and the package variables that the reading takes, are together of bulk at most 1048576: NARROWER than '..Said'. Prove '..Said' where nothing that the law and all that it calls make is longer than what came in: it says more and counts as full. Else prove '..UptoSaid'. A law counts once. -/
mutual
def uptoBulk {H : Type} : DataW H → Nat
  | .lit (.string bytes) => bytes.length + 1
  | .lit _ => 1
  | .nil => 1
  | .ptr d => uptoBulk d + 1
  | .slice elems spare => uptoBulkAll elems + uptoBulkAll spare + 1
  | .agg parts => uptoBulkAll parts + 1
  | .iface _ d => uptoBulk d + 1
  | .map entries => uptoBulkEntries entries + 1
  | .held _ => 1
def uptoBulkAll {H : Type} : List (DataW H) → Nat
  | [] => 0
  | d :: r => uptoBulk d + uptoBulkAll r
def uptoBulkEntries {H : Type} : List (Lit × DataW H) → Nat
  | [] => 0
  | x :: r => uptoBulkEntry x + uptoBulkEntries r
def uptoBulkEntry {H : Type} : Lit × DataW H → Nat
  | (.string bytes, d) => bytes.length + uptoBulk d + 1
  | (_, d) => uptoBulk d + 1
 end
def uptoSmall : (H : Type) → List (DataW H) → Bool := fun _ ds => decide (uptoBulkAll ds ≤ 1048576)
def OpenSpec.upto (s : _root_.Go.ChangeSpec) : _root_.Go.OpenSpec := { _root_.Go.OpenSpec.ofChange s with cond := some uptoSmall }

/-- 'laws.FnExactDigitsOf', WHERE WHAT IT READS IS OF BULK AT MOST 1048576: true; the input reads as it did. -/
def fnExactDigitsOfUptoRow : OpenClaim := { program := "ytnagpndclagfaaadoor", sum := "947f0dafd675062b8df7897b922cd086cf332be21b82bd5682722d9559bad6c9", func := "loop.example/g01354/laws.FnExactDigitsOf", spec := "fnExactDigitsOf", unfollowed := true, recurses := true, named := ["loop.example/g01354/impl.errNoFraction", "loop.example/g01354/impl.errNoPlaces"], ifaces := true, apart := false, laid := [("loop.example/g01354/impl.errNoFraction", laid_loop_example_g01354_impl_errNoFraction), ("loop.example/g01354/impl.errNoPlaces", laid_loop_example_g01354_impl_errNoPlaces)], narrowed := true }
def FnExactDigitsOfUptoSaid : Prop := fnExactDigitsOfUptoRow.holds Tryd.pinned (OpenSpec.upto fnExactDigitsOfSpec)

/-- 'laws.FnExactCarriesOf', WHERE WHAT IT READS IS OF BULK AT MOST 1048576: true; the input reads as it did. -/
def fnExactCarriesOfUptoRow : OpenClaim := { program := "ytnagpndclagfaaadoor", sum := "947f0dafd675062b8df7897b922cd086cf332be21b82bd5682722d9559bad6c9", func := "loop.example/g01354/laws.FnExactCarriesOf", spec := "fnExactCarriesOf", unfollowed := true, recurses := true, named := ["loop.example/g01354/impl.errNoFraction", "loop.example/g01354/impl.errNoPlaces"], ifaces := true, apart := false, laid := [("loop.example/g01354/impl.errNoFraction", laid_loop_example_g01354_impl_errNoFraction), ("loop.example/g01354/impl.errNoPlaces", laid_loop_example_g01354_impl_errNoPlaces)], narrowed := true }
def FnExactCarriesOfUptoSaid : Prop := fnExactCarriesOfUptoRow.holds Tryd.pinned (OpenSpec.upto fnExactCarriesOfSpec)

/-- 'laws.FnExactNumberRow', WHERE WHAT IT READS IS OF BULK AT MOST 1048576: true; the input reads as it did. -/
def fnExactNumberRowUptoRow : OpenClaim := { program := "ytnagpndclagfaaadoor", sum := "947f0dafd675062b8df7897b922cd086cf332be21b82bd5682722d9559bad6c9", func := "loop.example/g01354/laws.FnExactNumberRow", spec := "fnExactNumberRow", unfollowed := true, recurses := true, named := ["loop.example/g01354/impl.errNoFraction", "loop.example/g01354/impl.errNoPlaces"], ifaces := true, apart := false, laid := [("loop.example/g01354/impl.errNoFraction", laid_loop_example_g01354_impl_errNoFraction), ("loop.example/g01354/impl.errNoPlaces", laid_loop_example_g01354_impl_errNoPlaces)], narrowed := true }
def FnExactNumberRowUptoSaid : Prop := fnExactNumberRowUptoRow.holds Tryd.pinned (OpenSpec.upto fnExactNumberRowSpec)

end Rows
end Go.Proofs.YtnagpndclagfaaaDoor
