/- Does a set have a tile? Both sides. -/
import Derived.Test.YtfhdgilddnndcaaSChanged
import Derived.Test.YtfhdgilddnndcaaEq
import Derived.Deep.RegionHeld3
namespace Go.Proofs.Ytfhdgilddnndcaa
set_option linter.unusedVariables false
set_option linter.unusedSimpArgs false
open Go.RowKit Go.Sort

theorem eqT_iff (a b : Tl) : eqT a b = true ↔ a = b := by
  obtain ⟨a0, a1, a2, a3⟩ := a
  obtain ⟨b0, b1, b2, b3⟩ := b
  simp [eqT]
theorem has_at {ts : List Tl} {y : Tl} {k : Nat} (hk : k < ts.length) (h : eqT (ts.getD k T0) y = true) : decide (y ∈ ts) = true := by
  rw [decide_eq_true_eq, ← (eqT_iff _ _).1 h]
  simp [List.getD, hk]
theorem has_not {ts : List Tl} {y : Tl} (h : ∀ j, j < ts.length → eqT (ts.getD j T0) y = false) : decide (y ∈ ts) = false := by
  rw [decide_eq_false_iff_not]
  intro hm
  obtain ⟨j, hj, e⟩ := List.getElem_of_mem hm
  have := h j hj
  rw [show ts.getD j T0 = y by simp [List.getD, hj, e], (eqT_iff y y).2 rfl] at this
  cases this

end Go.Proofs.Ytfhdgilddnndcaa
