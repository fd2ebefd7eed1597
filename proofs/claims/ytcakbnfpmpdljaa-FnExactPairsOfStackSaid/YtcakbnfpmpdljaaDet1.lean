/- Whether a set is determined at a corner: the model's side. -/
import Derived.Test.YtcakbnfpmpdljaaNum
import Derived.Test.YtcakbnfpmpdljaaIs
import Derived.BigRegion
import Derived.Lib.Hide
namespace Go.Proofs.Ytcakbnfpmpdljaa
set_option linter.unusedVariables false
set_option linter.unusedSimpArgs false
open Go.RowKit Go.Sort

/-- The colour of a side. -/
def colT (t : Tl) (a : Nat) : Int := match a with | 0 => t.1 | 1 => t.2.1 | 2 => t.2.2.1 | _ => t.2.2.2
theorem Cell4.at {w : World} {b o : Nat} {t : Tl} (h : Cell4 w b o t) {a : Nat} (ha : a < 4) : w.cell? ⟨b, o + a, none⟩ = some (.int .i64 (colT t a)) := by
  obtain rfl | rfl | rfl | rfl : a = 0 ∨ a = 1 ∨ a = 2 ∨ a = 3 := by omega
  · exact h.1
  · exact h.2.1
  · exact h.2.2.1
  · exact h.2.2.2
theorem ret_bi {a b : Bool} {k k' : Int} (h : a = b) (h2 : k = k') : Ending.returned (.tuple #[.bool a, .int .i64 k]) = .returned (.tuple #[.bool b, .int .i64 k']) := by rw [h, h2]
def sameAt (ts : List Tl) (a b i k : Nat) : Bool := decide (colT (ts.getD i T0) a = colT (ts.getD k T0) a) && decide (colT (ts.getD i T0) b = colT (ts.getD k T0) b)
/-- No two tiles have the same colours at a and b. -/
def detB (ts : List Tl) (a b : Nat) : Bool := (List.range ts.length).all fun i => (List.range i).all fun k => !sameAt ts a b i k
theorem detB_at {ts : List Tl} {a b i k : Nat} (hi : i < ts.length) (hk : k < i) (h : sameAt ts a b i k = true) : detB ts a b = false := by
  unfold detB
  rw [List.all_eq_false]
  refine ⟨i, List.mem_range.2 hi, ?_⟩
  rw [Bool.not_eq_true, List.all_eq_false]
  exact ⟨k, List.mem_range.2 hk, by simp [h]⟩
theorem detB_all {ts : List Tl} {a b : Nat} (h : ∀ i k, i < ts.length → k < i → sameAt ts a b i k = false) : detB ts a b = true :=
  List.all_eq_true.2 fun i hi => List.all_eq_true.2 fun k hk => by rw [h i k (List.mem_range.1 hi) (List.mem_range.1 hk)]; rfl

theorem det_step {ts : List Tl} {i j k x : Nat} (h : ∀ x', x' < x → sameAt ts i j k x' = false) (h2 : sameAt ts i j k x = false) : ∀ x', x' < x + 1 → sameAt ts i j k x' = false := fun x' hx => by
  by_cases e : x' = x
  · rw [e]; exact h2
  · exact h x' (by omega)
theorem det_row {ts : List Tl} {i j k : Nat} (h : ∀ y, y < k → ∀ x, x < y → sameAt ts i j y x = false) (h2 : ∀ x', x' < k → sameAt ts i j k x' = false) : ∀ y, y < k + 1 → ∀ x, x < y → sameAt ts i j y x = false := fun y hy => by
  by_cases e : y = k
  · rw [e]; exact h2
  · exact h y (by omega)
end Go.Proofs.Ytcakbnfpmpdljaa
