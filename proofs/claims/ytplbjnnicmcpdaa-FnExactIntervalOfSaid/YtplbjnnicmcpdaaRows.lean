/-
  No cell of these rows narrows 'for every input' (looked for: loops, veiled, ifaces, maps, wideKeys, modest, calm, conditions, laid).
  DERIVED. THE GIVEN ROWS OF THIS SEAT. 5 by the template 'for every input the law returns true; each argument reads behind the call as it read before'; 0 by the template 'total and deterministic' (their statements: YtplbjnnicmcpdaaTotals.lean).
  GIVEN WITH THE SEED: the statements are not yours to turn. If you find one false, say at which input.
  Laid BY PROGRAM, IN A SANDBOX (cutbox-rows.mjs): the forced cells as the released guide's own fill.sh prints them over the translation 6afa774d90ac6e63… (all of the seat's roots in one cut). By AI agents, Wed Nov 11 2026. No macro, syntax, notation, axiom, sorry.
-/
import Derived.Test.YtplbjnnicmcpdaaChecked
import GoSem.Claim
import GoSem.ClaimJoined
import GoSem.ClaimMapViews
import Derived.JoinedTies
import Derived.KernelRfl
namespace Go.Proofs.Ytplbjnnicmcpdaa
/- THE CELL 'sum', in the pinned program and in every row, IS THE sha256 OF THE DUMP (.gsa) THAT YtplbjnnicmcpdaaProg.lean LOADS. Nothing in Lean hashes anything: it is a label: what it is worth is what the hold of that sum in a sandbox is worth. -/
noncomputable def Try.pinned : Pinned := { name := "ytplbjnnicmcpdaa", sum := "6afa774d90ac6e63b7079194d97a1d56b8c38146261b9c1083a3ed2cbe569fcb", checked := Try.checked }
namespace Rows
def none {H : Type} : Left H := { results := [], args := [] }

/-- 'laws.FnExactIntervalOf': WHATEVER THE INPUT: true; the input reads as it did. -/
def fnExactIntervalOfSpec : ChangeSpec := { name := "fnExactIntervalOf", fn := fun _ => fun
  | [d] => { results := [.lit (.bool true)], args := [d] }
  | _ => none }
def fnExactIntervalOfRow : OpenClaim := { program := "ytplbjnnicmcpdaa", sum := "6afa774d90ac6e63b7079194d97a1d56b8c38146261b9c1083a3ed2cbe569fcb", func := "loop.example/g01354/laws.FnExactIntervalOf", spec := "fnExactIntervalOf", unfollowed := true, recurses := true, apart := false }
def FnExactIntervalOfSaid : Prop := fnExactIntervalOfRow.holds Try.pinned (OpenSpec.ofChange fnExactIntervalOfSpec)

/-- ITS FALSE NEIGHBOUR: 'it returns false'. Refute it at one input. -/
def fnExactIntervalOfWrong : ChangeSpec := { name := "fnExactIntervalOf", fn := fun _ => fun
  | [d] => { results := [.lit (.bool false)], args := [d] }
  | _ => none }
def FnExactIntervalOfWrongFalsely : Prop := fnExactIntervalOfRow.holds Try.pinned (OpenSpec.ofChange fnExactIntervalOfWrong)

/-- 'laws.FnExactMultiplyingSet': WHATEVER THE INPUT: true; the input reads as it did. -/
def fnExactMultiplyingSetSpec : ChangeSpec := { name := "fnExactMultiplyingSet", fn := fun _ => fun
  | [d1, d2, d3, d4, d5, d6] => { results := [.lit (.bool true)], args := [d1, d2, d3, d4, d5, d6] }
  | _ => none }
def fnExactMultiplyingSetRow : OpenClaim := { program := "ytplbjnnicmcpdaa", sum := "6afa774d90ac6e63b7079194d97a1d56b8c38146261b9c1083a3ed2cbe569fcb", func := "loop.example/g01354/laws.FnExactMultiplyingSet", spec := "fnExactMultiplyingSet", unfollowed := true, recurses := true, apart := false }
def FnExactMultiplyingSetSaid : Prop := fnExactMultiplyingSetRow.holds Try.pinned (OpenSpec.ofChange fnExactMultiplyingSetSpec)

/-- ITS FALSE NEIGHBOUR: 'it returns false'. Refute it at one input. -/
def fnExactMultiplyingSetWrong : ChangeSpec := { name := "fnExactMultiplyingSet", fn := fun _ => fun
  | [d1, d2, d3, d4, d5, d6] => { results := [.lit (.bool false)], args := [d1, d2, d3, d4, d5, d6] }
  | _ => none }
def FnExactMultiplyingSetWrongFalsely : Prop := fnExactMultiplyingSetRow.holds Try.pinned (OpenSpec.ofChange fnExactMultiplyingSetWrong)

/-- 'laws.FnExactBalanceOfRow': WHATEVER THE INPUT: true; the input reads as it did. -/
def fnExactBalanceOfRowSpec : ChangeSpec := { name := "fnExactBalanceOfRow", fn := fun _ => fun
  | [d1, d2, d3, d4] => { results := [.lit (.bool true)], args := [d1, d2, d3, d4] }
  | _ => none }
def fnExactBalanceOfRowRow : OpenClaim := { program := "ytplbjnnicmcpdaa", sum := "6afa774d90ac6e63b7079194d97a1d56b8c38146261b9c1083a3ed2cbe569fcb", func := "loop.example/g01354/laws.FnExactBalanceOfRow", spec := "fnExactBalanceOfRow", apart := false }
def FnExactBalanceOfRowSaid : Prop := fnExactBalanceOfRowRow.holds Try.pinned (OpenSpec.ofChange fnExactBalanceOfRowSpec)

/-- ITS FALSE NEIGHBOUR: 'it returns false'. Refute it at one input. -/
def fnExactBalanceOfRowWrong : ChangeSpec := { name := "fnExactBalanceOfRow", fn := fun _ => fun
  | [d1, d2, d3, d4] => { results := [.lit (.bool false)], args := [d1, d2, d3, d4] }
  | _ => none }
def FnExactBalanceOfRowWrongFalsely : Prop := fnExactBalanceOfRowRow.holds Try.pinned (OpenSpec.ofChange fnExactBalanceOfRowWrong)

/-- 'laws.FnExactIsBalanced': WHATEVER THE INPUT: true; the input reads as it did. -/
def fnExactIsBalancedSpec : ChangeSpec := { name := "fnExactIsBalanced", fn := fun _ => fun
  | [d1, d2, d3] => { results := [.lit (.bool true)], args := [d1, d2, d3] }
  | _ => none }
def fnExactIsBalancedRow : OpenClaim := { program := "ytplbjnnicmcpdaa", sum := "6afa774d90ac6e63b7079194d97a1d56b8c38146261b9c1083a3ed2cbe569fcb", func := "loop.example/g01354/laws.FnExactIsBalanced", spec := "fnExactIsBalanced", apart := false }
def FnExactIsBalancedSaid : Prop := fnExactIsBalancedRow.holds Try.pinned (OpenSpec.ofChange fnExactIsBalancedSpec)

/-- ITS FALSE NEIGHBOUR: 'it returns false'. Refute it at one input. -/
def fnExactIsBalancedWrong : ChangeSpec := { name := "fnExactIsBalanced", fn := fun _ => fun
  | [d1, d2, d3] => { results := [.lit (.bool false)], args := [d1, d2, d3] }
  | _ => none }
def FnExactIsBalancedWrongFalsely : Prop := fnExactIsBalancedRow.holds Try.pinned (OpenSpec.ofChange fnExactIsBalancedWrong)

/-- 'laws.FnExactFactorsOf': WHATEVER THE INPUT: true; the input reads as it did. -/
def fnExactFactorsOfSpec : ChangeSpec := { name := "fnExactFactorsOf", fn := fun _ => fun
  | [d] => { results := [.lit (.bool true)], args := [d] }
  | _ => none }
def fnExactFactorsOfRow : OpenClaim := { program := "ytplbjnnicmcpdaa", sum := "6afa774d90ac6e63b7079194d97a1d56b8c38146261b9c1083a3ed2cbe569fcb", func := "loop.example/g01354/laws.FnExactFactorsOf", spec := "fnExactFactorsOf", apart := false }
def FnExactFactorsOfSaid : Prop := fnExactFactorsOfRow.holds Try.pinned (OpenSpec.ofChange fnExactFactorsOfSpec)

/-- ITS FALSE NEIGHBOUR: 'it returns false'. Refute it at one input. -/
def fnExactFactorsOfWrong : ChangeSpec := { name := "fnExactFactorsOf", fn := fun _ => fun
  | [d] => { results := [.lit (.bool false)], args := [d] }
  | _ => none }
def FnExactFactorsOfWrongFalsely : Prop := fnExactFactorsOfRow.holds Try.pinned (OpenSpec.ofChange fnExactFactorsOfWrong)

/- THE SECOND FORM. 'bulk': how many values and letters a reading holds, each counted each time it is reached (what is shared counts as often as it is met; a slice's spare places count too). A statement '..UptoSaid' is the law's where the arguments, and the package variables that the reading takes, are together of bulk at most 1048576: NARROWER than '..Said'. Prove '..Said' where nothing that the law and all that it calls make is longer than what came in: it says more and counts as full. Else prove '..UptoSaid'. A law counts once. -/
mutual
def uptoBulk {H : Type} : DataW H → Nat
  | .lit (.string bytes) => bytes.length + 1
  | .lit _ => 1
  | .nil => 1
  | .ptr d => uptoBulk d + 1
  | .slice elems spare => uptoBulkAll elems + uptoBulkAll spare + 1
  | .agg parts => uptoBulkAll parts + 1
  | .iface _ d => uptoBulk d + 1
  | .map entries => uptoBulkEntries entries + 1
  | .held _ => 1
def uptoBulkAll {H : Type} : List (DataW H) → Nat
  | [] => 0
  | d :: r => uptoBulk d + uptoBulkAll r
def uptoBulkEntries {H : Type} : List (Lit × DataW H) → Nat
  | [] => 0
  | x :: r => uptoBulkEntry x + uptoBulkEntries r
def uptoBulkEntry {H : Type} : Lit × DataW H → Nat
  | (.string bytes, d) => bytes.length + uptoBulk d + 1
  | (_, d) => uptoBulk d + 1
 end
def uptoSmall : (H : Type) → List (DataW H) → Bool := fun _ ds => decide (uptoBulkAll ds ≤ 1048576)
def OpenSpec.upto (s : _root_.Go.ChangeSpec) : _root_.Go.OpenSpec := { _root_.Go.OpenSpec.ofChange s with cond := some uptoSmall }

/-- 'laws.FnExactIntervalOf', WHERE WHAT IT READS IS OF BULK AT MOST 1048576: true; the input reads as it did. -/
def fnExactIntervalOfUptoRow : OpenClaim := { program := "ytplbjnnicmcpdaa", sum := "6afa774d90ac6e63b7079194d97a1d56b8c38146261b9c1083a3ed2cbe569fcb", func := "loop.example/g01354/laws.FnExactIntervalOf", spec := "fnExactIntervalOf", unfollowed := true, recurses := true, apart := false, narrowed := true }
def FnExactIntervalOfUptoSaid : Prop := fnExactIntervalOfUptoRow.holds Try.pinned (OpenSpec.upto fnExactIntervalOfSpec)

/-- 'laws.FnExactMultiplyingSet', WHERE WHAT IT READS IS OF BULK AT MOST 1048576: true; the input reads as it did. -/
def fnExactMultiplyingSetUptoRow : OpenClaim := { program := "ytplbjnnicmcpdaa", sum := "6afa774d90ac6e63b7079194d97a1d56b8c38146261b9c1083a3ed2cbe569fcb", func := "loop.example/g01354/laws.FnExactMultiplyingSet", spec := "fnExactMultiplyingSet", unfollowed := true, recurses := true, apart := false, narrowed := true }
def FnExactMultiplyingSetUptoSaid : Prop := fnExactMultiplyingSetUptoRow.holds Try.pinned (OpenSpec.upto fnExactMultiplyingSetSpec)

/-- 'laws.FnExactBalanceOfRow', WHERE WHAT IT READS IS OF BULK AT MOST 1048576: true; the input reads as it did. -/
def fnExactBalanceOfRowUptoRow : OpenClaim := { program := "ytplbjnnicmcpdaa", sum := "6afa774d90ac6e63b7079194d97a1d56b8c38146261b9c1083a3ed2cbe569fcb", func := "loop.example/g01354/laws.FnExactBalanceOfRow", spec := "fnExactBalanceOfRow", apart := false, narrowed := true }
def FnExactBalanceOfRowUptoSaid : Prop := fnExactBalanceOfRowUptoRow.holds Try.pinned (OpenSpec.upto fnExactBalanceOfRowSpec)

/-- 'laws.FnExactIsBalanced', WHERE WHAT IT READS IS OF BULK AT MOST 1048576: true; the input reads as it did. -/
def fnExactIsBalancedUptoRow : OpenClaim := { program := "ytplbjnnicmcpdaa", sum := "6afa774d90ac6e63b7079194d97a1d56b8c38146261b9c1083a3ed2cbe569fcb", func := "loop.example/g01354/laws.FnExactIsBalanced", spec := "fnExactIsBalanced", apart := false, narrowed := true }
def FnExactIsBalancedUptoSaid : Prop := fnExactIsBalancedUptoRow.holds Try.pinned (OpenSpec.upto fnExactIsBalancedSpec)

/-- 'laws.FnExactFactorsOf', WHERE WHAT IT READS IS OF BULK AT MOST 1048576: true; the input reads as it did. -/
def fnExactFactorsOfUptoRow : OpenClaim := { program := "ytplbjnnicmcpdaa", sum := "6afa774d90ac6e63b7079194d97a1d56b8c38146261b9c1083a3ed2cbe569fcb", func := "loop.example/g01354/laws.FnExactFactorsOf", spec := "fnExactFactorsOf", apart := false, narrowed := true }
def FnExactFactorsOfUptoSaid : Prop := fnExactFactorsOfUptoRow.holds Try.pinned (OpenSpec.upto fnExactFactorsOfSpec)

end Rows
end Go.Proofs.Ytplbjnnicmcpdaa
