/- Neighbours: the model's side. -/
import Derived.Test.YtpjlapialjjcdaaNumM
import Derived.Test.YtpjlapialjjcdaaInts
import Derived.Test.YtpjlapialjjcdaaAppI
import Derived.Lib.Hide
namespace Go.Proofs.Ytpjlapialjjcdaa
set_option linter.unusedVariables false
set_option linter.unusedSimpArgs false
open Go.RowKit Go.Sort

/-- Those of the first k numbers for which fb holds. -/
def nbl (fb : Nat → Bool) (k : Nat) : List Int := ((List.range k).filter fb).map fun (j : Nat) => (j : Int)
theorem nbl_yes {fb : Nat → Bool} {k : Nat} (h : fb k = true) : nbl fb (k + 1) = nbl fb k ++ [(k : Int)] := by simp [nbl, List.range_succ, List.filter_append, h]
theorem nbl_no {fb : Nat → Bool} {k : Nat} (h : fb k = false) : nbl fb (k + 1) = nbl fb k := by simp [nbl, List.range_succ, List.filter_append, h]
theorem nbl_le (fb : Nat → Bool) (k : Nat) : (nbl fb k).length ≤ k := by
  have := List.length_filter_le fb (List.range k)
  simpa [nbl] using this
def fitE (ts : List Tl) (i k : Nat) : Bool := decide ((ts.getD i T0).2.2.1 = (ts.getD k T0).1)
def fitS (ts : List Tl) (i k : Nat) : Bool := decide ((ts.getD i T0).2.2.2 = (ts.getD k T0).2.1)
theorem numCode_ok {c0 : Int} {ts : List Tl} {i : Int} (h : numCode c0 ts i = 0) : isSet c0 ts = true ∧ 0 ≤ i ∧ i < ts.length := by
  unfold numCode at h
  split at h
  · rename_i hs
    split at h
    · rename_i hi
      exact ⟨hs, hi⟩
    · cases h
  · cases h

end Go.Proofs.Ytpjlapialjjcdaa
