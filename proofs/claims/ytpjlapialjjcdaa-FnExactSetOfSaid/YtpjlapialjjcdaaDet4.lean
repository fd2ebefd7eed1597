/- Whether a set is determined at a corner: the program's side. -/
import Derived.Test.YtpjlapialjjcdaaDet3
import Derived.Test.YtpjlapialjjcdaaIs2
import Derived.Test.YtpjlapialjjcdaaMem
namespace Go.Proofs.Ytpjlapialjjcdaa
set_option linter.unusedVariables false
set_option linter.unusedSimpArgs false
open Go.RowKit Go.Sort

theorem keptT_eq (s t : Tl) (i : Nat) (hi : i < 4) : keptT s i = keptT t i ↔ (colT s i = colT t i ∧ colT s ((i + 1) % 4) = colT t ((i + 1) % 4)) := by
  obtain ⟨a, b, c, d⟩ := s
  obtain ⟨a', b', c', d'⟩ := t
  obtain rfl | rfl | rfl | rfl : i = 0 ∨ i = 1 ∨ i = 2 ∨ i = 3 := by omega
  all_goals simp [keptT, colT]
  all_goals first | done | exact And.comm | (constructor <;> intro h <;> exact ⟨h.2, h.1⟩)
theorem detB_iff (ts : List Tl) (i : Nat) (hi : i < 4) : detB ts i ((i + 1) % 4) = true ↔ ∀ y, y < ts.length → ∀ x, x < y → keptT (ts.getD x T0) i ≠ keptT (ts.getD y T0) i := by
  constructor
  · intro h y hy x hx e
    have := (keptT_eq _ _ i hi).1 e
    rw [detB_at hy hx (by unfold sameAt; rw [decide_eq_true this.1.symm, decide_eq_true this.2.symm]; rfl)] at h
    exact absurd h (by decide)
  · intro h
    refine detB_all fun y x hy hx => ?_
    cases hs : sameAt ts i ((i + 1) % 4) y x with
    | false => rfl
    | true =>
      simp only [sameAt, Bool.and_eq_true, decide_eq_true_eq] at hs
      exact absurd ((keptT_eq _ _ i hi).2 ⟨hs.1.symm, hs.2.symm⟩) (h y hy x hx)
theorem wf64 {x : Int} (h0 : 0 ≤ x) (h1 : x < 1000) : (Lit.int .i64 x).wf = true := by
  show (decide (IntKind.i64.min ≤ x) && decide (x ≤ IntKind.i64.max)) = true
  rw [Bool.and_eq_true, decide_eq_true_eq, decide_eq_true_eq]
  have h2 : IntKind.i64.min = -9223372036854775808 := by decide
  have h3 : IntKind.i64.max = 9223372036854775807 := by decide
  omega
theorem kept_key {c : Int} {ts : List Tl} (hs : isSet c ts = true) {k i : Nat} (hk : k < ts.length) (hi : i < 4) : ∃ l, keyOf Try.prog 51 (tv (keptT (ts.getD k T0) i)) = some l := by
  have hc := (isSet_col hs).2
  have hg : good c ts k = true := by
    simp only [isSet, Bool.and_eq_true] at hs
    exact List.all_eq_true.1 hs.2 k (List.mem_range.2 hk)
  simp only [good, Bool.and_eq_true] at hg
  have ht := hg.1
  simp only [tileOk, decide_eq_true_eq] at ht
  generalize ts.getD k T0 = t at ht
  have w0 : (Lit.int .i64 0).wf = true := wf64 (by omega) (by omega)
  have wa := wf64 ht.1 (by omega)
  have wb := wf64 ht.2.2.1 (by omega)
  have wc := wf64 ht.2.2.2.2.1 (by omega)
  have wd := wf64 ht.2.2.2.2.2.2.1 (by omega)
  obtain rfl | rfl | rfl | rfl : i = 0 ∨ i = 1 ∨ i = 2 ∨ i = 3 := by omega
  · exact key_tile _ wa wb w0 w0
  · exact key_tile _ w0 wb wc w0
  · exact key_tile _ w0 w0 wc wd
  · exact key_tile _ wa w0 w0 wd
theorem ownsMap_ext {w w' : World} {P : Program} {k : TypeId} {R : Value → Option (DataW Unit × List MemPlace)} {b n : Nat} {D : DataW Unit} (h : w.ownsMap P k R b n D) (hx : Ext w w') : w'.ownsMap P k R b n D := by
  have hlt := h.lt
  obtain ⟨es, clock, hb, r⟩ := h
  exact ⟨es, clock, ((hx.below (Nat.le_refl _)).block b hlt).trans hb, r⟩

end Go.Proofs.Ytpjlapialjjcdaa
