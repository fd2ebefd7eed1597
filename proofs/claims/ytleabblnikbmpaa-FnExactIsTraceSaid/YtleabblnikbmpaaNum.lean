/- What a function on sets hands back; the numbers of tiles. -/
import Derived.Test.YtleabblnikbmpaaMark
import Derived.Test.YtleabblnikbmpaaGrow
namespace Go.Proofs.Ytleabblnikbmpaa
set_option linter.unusedVariables false
set_option linter.unusedSimpArgs false
open Go.RowKit Go.Sort

/-- A function on sets has handed back this set, in new memory, and this code; what was there is as it was. -/
def SetRes (w : World) (c : Int) (us : List Tl) (code : Int) (e : Ending) (w' : World) : Prop :=
  ∃ A cap, e = .returned (.tuple #[.agg #[.int .i64 c, .slice A us.length cap], .int .i64 code]) ∧ Below w.heap.size w w' ∧ TW w' w.heap.size A us

theorem isSet_len {c : Int} {ts : List Tl} (h : isSet c ts = true) : ts.length ≤ 16 := by
  simp only [isSet, Bool.and_eq_true, decide_eq_true_eq] at h
  exact h.1.2
theorem isSet_col {c : Int} {ts : List Tl} (h : isSet c ts = true) : 1 ≤ c ∧ c ≤ 6 := by
  simp only [isSet, Bool.and_eq_true, decide_eq_true_eq] at h
  exact h.1.1
/-- The code of a set and the number of a tile. -/
def numCode (c0 : Int) (ts : List Tl) (i : Int) : Int := if isSet c0 ts = true then (if 0 ≤ i ∧ i < ts.length then 0 else 2) else 1
end Go.Proofs.Ytleabblnikbmpaa
