/- Whether a set is one: the model's word and the program's word are the same plain test. -/
import Derived.Test.YtnagpndclagfaaaDoorTA
namespace Go.Proofs.YtnagpndclagfaaaDoor
section
set_option linter.unusedVariables false
set_option linter.unusedSimpArgs false
open Go.RowKit Go.Sort

/-- What a round of the loop over the tiles asks of place k. -/
def good (c : Int) (ts : List Tl) (k : Nat) : Bool := tileOk c (ts.getD k T0) && (decide (k = 0) || before (ts.getD (k - 1) T0) (ts.getD k T0))
theorem good_zero {c : Int} {ts : List Tl} (h : tileOk c (ts.getD 0 T0) = true) : good c ts 0 = true := by unfold good; rw [h]; rfl
theorem good_bad {c : Int} {ts : List Tl} {k : Nat} (h : tileOk c (ts.getD k T0) = false) : good c ts k = false := by unfold good; rw [h]; rfl
theorem good_suc {c : Int} {ts : List Tl} {k : Nat} {r : Bool} (h : tileOk c (ts.getD (k + 1) T0) = true) (h2 : before (ts.getD k T0) (ts.getD (k + 1) T0) = r) : good c ts (k + 1) = r := by
  unfold good
  rw [h, Nat.add_sub_cancel, h2]
  simp
/-- Is it a set? -/
def isSet (c : Int) (ts : List Tl) : Bool := decide (1 ≤ c ∧ c ≤ 6) && decide (ts.length ≤ 16) && (List.range ts.length).all (good c ts)
theorem isSet_bad {c : Int} {ts : List Tl} (h : ¬ (1 ≤ c ∧ c ≤ 6)) : isSet c ts = false := by simp [isSet, h]
theorem isSet_long {c : Int} {ts : List Tl} (h : ¬ ts.length ≤ 16) : isSet c ts = false := by simp [isSet, h]
theorem isSet_at {c : Int} {ts : List Tl} {k : Nat} (hk : k < ts.length) (h : good c ts k = false) : isSet c ts = false := by
  have : (List.range ts.length).all (good c ts) = false := by
    rw [List.all_eq_false]
    exact ⟨k, List.mem_range.2 hk, by simp [h]⟩
  simp [isSet, this]
theorem isSet_all {c : Int} {ts : List Tl} (hc : 1 ≤ c ∧ c ≤ 6) (hl : ts.length ≤ 16) (h : ∀ j, j < ts.length → good c ts j = true) : isSet c ts = true := by
  have : (List.range ts.length).all (good c ts) = true := List.all_eq_true.2 fun k hk => h k (List.mem_range.1 hk)
  simp [isSet, hc, hl, this]

/-- A box's cells, in whatever world has grown. -/
theorem Blk.grown {w : World} {g : Nat} {t : TypeId} {cs : Array Value} (h : Blk w g t cs) (q : Nat) (os : Array Obj) (i : Nat) {v : Value} (hv : cs[i]? = some v) : (grow (w.drewN q) os).cell? ⟨g, i, none⟩ = some v :=
  ((h.ext (⟨q, os, rfl⟩ : Ext w (grow (w.drewN q) os))).cell i).trans hv
/-- The tile at a place, in whatever world has grown. -/
theorem TR.at2 {w wr : World} {A : Option Addr} {ts : List Tl} (h : TR w w.heap.size A ts) (hx : Ext w wr) {k : Nat} (hk : k < ts.length) : ∃ b off, A = some ⟨b, off, none⟩ ∧ (∀ j, j < ts.length → ∀ q os, Cell4 (grow (wr.drewN q) os) b (off + j * 4) (ts.getD j T0)) := by
  obtain ⟨b, off, e, hb, hc⟩ := (h.ext hx (Nat.le_refl _)) (by omega)
  exact ⟨b, off, e, fun j hj q os => (hc j hj).keep fun i => cell?_grow _ _ _ (by show b < (wr.drewN q).heap.size; exact Nat.lt_of_lt_of_le hb (hx.below (Nat.le_refl _)).size)⟩

end

section
set_option linter.unusedVariables false
set_option linter.unusedSimpArgs false
open Go.RowKit Go.Sort

theorem cmpT_before {a b : Tl} : (decide (0 ≤ cmpT a b)) = !before a b := by
  unfold cmpT
  by_cases h : before a b = true
  · simp [h]
  · have h' : before a b = false := by simpa using h
    by_cases g : before b a = true <;> simp [h', g]

end
end Go.Proofs.YtnagpndclagfaaaDoor
