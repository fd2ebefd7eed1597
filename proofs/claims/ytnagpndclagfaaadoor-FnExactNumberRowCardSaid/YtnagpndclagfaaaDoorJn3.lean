/- Joins of sets: the program's side. -/
import Derived.Test.YtnagpndclagfaaaDoorJnA
import Derived.Test.YtnagpndclagfaaaDoorSortF
import Derived.Deep.RegionLaw
import Derived.Lib.Hide
namespace Go.Proofs.YtnagpndclagfaaaDoor
set_option linter.unusedVariables false
set_option linter.unusedSimpArgs false
open Go.RowKit Go.Sort

theorem own_below {w w' : World} {base n : Nat} {v : Value} {xs : List Value} (h : w.ownsRow base 56 4 v n xs) (hx : Below w.heap.size w w') : w'.ownsRow base 56 4 v n xs := by
  refine ⟨h.1, ?_⟩
  rcases h.2 with h0 | ⟨g, cap, cur, hv, hb, hg, r⟩
  · exact .inl h0
  · have hlt : g < w.heap.size := by
      rcases Nat.lt_or_ge g w.heap.size with hlt | hge
      · exact hlt
      · rw [Array.getElem?_eq_none hge] at hg; cases hg
    exact .inr ⟨g, cap, cur, hv, hb, (hx.block g hlt).trans hg, r⟩

end Go.Proofs.YtnagpndclagfaaaDoor
