/- The program's CountRows. -/
import Derived.Test.YtleabblnikbmpaaCnt2
namespace Go.Proofs.Ytleabblnikbmpaa
set_option linter.unusedVariables false
set_option linter.unusedSimpArgs false
open Go.RowKit Go.Sort

theorem cap_one : Cap (fun _ => 1) := fun _ => ⟨by show (0 : Int) ≤ 1; omega, by show (1 : Int) ≤ _; omega⟩
def rowsCount (c0 : Int) (ts : List Tl) (i : Int) : Int := if lenCode c0 ts i = 0 then cnt (tot6 (wpow ts (fun _ => 1) i.toNat)) else 0
def rowsCode (c0 : Int) (ts : List Tl) (i : Int) : Int := if lenCode c0 ts i = 0 then cntCode (tot6 (wpow ts (fun _ => 1) i.toNat)) else lenCode c0 ts i
theorem lenCode_ok {c0 : Int} {ts : List Tl} {i : Int} (h : lenCode c0 ts i = 0) : isSet c0 ts = true ∧ 1 ≤ i ∧ i ≤ 40 := by
  unfold lenCode at h
  split at h
  · split at h
    · exact ⟨by assumption, by omega, by omega⟩
    · omega
  · omega

end Go.Proofs.Ytleabblnikbmpaa
