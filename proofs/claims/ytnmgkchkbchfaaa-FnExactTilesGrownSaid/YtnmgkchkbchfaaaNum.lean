/- What a function on sets hands back; the numbers of tiles. -/
import Derived.Test.YtnmgkchkbchfaaaMark
import Derived.Test.YtnmgkchkbchfaaaGrow
namespace Go.Proofs.Ytnmgkchkbchfaaa
set_option linter.unusedVariables false
set_option linter.unusedSimpArgs false
open Go.RowKit Go.Sort

/-- A function on sets has handed back this set, in new memory, and this code; what was there is as it was. -/
def SetRes (w : World) (c : Int) (us : List Tl) (code : Int) (e : Ending) (w' : World) : Prop :=
  ∃ A cap, e = .returned (.tuple #[.agg #[.int .i64 c, .slice A us.length cap], .int .i64 code]) ∧ Below w.heap.size w w' ∧ TW w' w.heap.size A us

theorem isSet_len {c : Int} {ts : List Tl} (h : isSet c ts = true) : ts.length ≤ 16 := by
  simp only [isSet, Bool.and_eq_true, decide_eq_true_eq] at h
  exact h.1.2
theorem isSet_col {c : Int} {ts : List Tl} (h : isSet c ts = true) : 1 ≤ c ∧ c ≤ 6 := by
  simp only [isSet, Bool.and_eq_true, decide_eq_true_eq] at h
  exact h.1.1
theorem isTileNumber_any (c0 : Int) (A : Option Addr) (n c : Nat) (i : Int) (w : World) (hn : n ≤ 9223372036854775807) :
    Calls Try.prog 109 #[.agg #[.int .i64 c0, .slice A n c], .int .i64 i] w fun e w' => e = .returned (.bool (decide (0 ≤ i ∧ i < n))) ∧ Ext w w' := by
  go_enter Try.func109, Try.ntmps109
  by_cases h1 : 0 ≤ i <;> by_cases h2 : i < n <;> go_wp2 <;> go_ret <;> exact ⟨ret_b (by simp [h1, h2]), by repeat (first | exact Ext.refl _ | refine Ext.drewN ?_ _ | refine Ext.alloc ?_ _ | refine Ext.drew ?_ | refine Ext.grow ?_ _)⟩

/-- The code of a set and the number of a tile. -/
def numCode (c0 : Int) (ts : List Tl) (i : Int) : Int := if isSet c0 ts = true then (if 0 ≤ i ∧ i < ts.length then 0 else 2) else 1
end Go.Proofs.Ytnmgkchkbchfaaa
