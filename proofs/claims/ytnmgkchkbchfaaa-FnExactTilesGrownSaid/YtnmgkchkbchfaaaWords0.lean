/- The words of a row, on both sides. -/
import Derived.Test.YtnmgkchkbchfaaaRow2
import Derived.Test.YtnmgkchkbchfaaaAppI
import Derived.Outline
namespace Go.Proofs.Ytnmgkchkbchfaaa
set_option linter.unusedVariables false
set_option linter.unusedSimpArgs false
open Go.RowKit Go.Sort

/-- The north colours of the tiles with these numbers. -/
def colN (ts : List Tl) (xs : List Int) : List Int := xs.map fun x => (ts.getD x.toNat T0).2.1
theorem colN_len (ts : List Tl) (xs : List Int) : (colN ts xs).length = xs.length := by simp [colN]
theorem colN_at (ts : List Tl) {xs : List Int} {k : Nat} (hk : k < xs.length) : (colN ts xs).getD k 0 = (ts.getD (xs.getD k 0).toNat T0).2.1 := by simp [colN, List.getD, hk]
/-- The south colours of the tiles with these numbers. -/
def colS (ts : List Tl) (xs : List Int) : List Int := xs.map fun x => (ts.getD x.toNat T0).2.2.2
theorem colS_len (ts : List Tl) (xs : List Int) : (colS ts xs).length = xs.length := by simp [colS]
theorem colS_at (ts : List Tl) {xs : List Int} {k : Nat} (hk : k < xs.length) : (colS ts xs).getD k 0 = (ts.getD (xs.getD k 0).toNat T0).2.2.2 := by simp [colS, List.getD, hk]
end Go.Proofs.Ytnmgkchkbchfaaa
