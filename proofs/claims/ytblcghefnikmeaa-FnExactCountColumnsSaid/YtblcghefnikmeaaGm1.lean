/- Columns as the model tells them: two words as numbers, and a colour. -/
import Derived.Test.YtblcghefnikmeaaGc2
namespace Go.Proofs.Ytblcghefnikmeaa
set_option linter.unusedVariables false
set_option linter.unusedSimpArgs false
open Go.RowKit Go.Sort

/-- The colour at the south of a column, or -1. -/
def southOf (ts : List Tl) (col : List Int) : Int := if col.length = 0 then -1 else (tnum ts col (col.length - 1)).2.2.2
def code3 (c : Int) (ts : List Tl) (col : List Int) : List Int := [wnum c (colW ts col), wnum c (colE ts col), southOf ts col]
def rows3 (c : Int) (ts : List Tl) (cols : List (List Int)) : List (List Int) := cols.map (code3 c ts)
theorem rows3_len (c : Int) (ts : List Tl) (cols : List (List Int)) : (rows3 c ts cols).length = cols.length := by simp [rows3]
theorem rows3_at (c : Int) (ts : List Tl) (cols : List (List Int)) {k : Nat} (hk : k < cols.length) : (rows3 c ts cols).getD k [] = code3 c ts (cols.getD k []) := by simp [rows3, List.getD, hk]
theorem rows3_snoc (c : Int) (ts : List Tl) (cols : List (List Int)) (r : List Int) : rows3 c ts (cols ++ [r]) = rows3 c ts cols ++ [code3 c ts r] := by simp [rows3]
theorem code3_len (c : Int) (ts : List Tl) (col : List Int) : (code3 c ts col).length = 3 := rfl
theorem southOf_snoc (ts : List Tl) (col : List Int) (j : Nat) : southOf ts (col ++ [(j : Int)]) = (ts.getD j T0).2.2.2 := by
  simp [southOf, tnum, List.getD]
theorem code3_snoc (c : Int) (ts : List Tl) (col : List Int) (j : Nat) : code3 c ts (col ++ [(j : Int)]) = [wnum c (colW ts col) * c + (ts.getD j T0).1, wnum c (colE ts col) * c + (ts.getD j T0).2.2.1, (ts.getD j T0).2.2.2] := by
  unfold code3
  rw [southOf_snoc]
  simp [colW, colE, wnum_snoc]
/-- All south colours of tiles are at least 0. -/
def southOk (ts : List Tl) : Prop := ∀ k, k < ts.length → 0 ≤ (ts.getD k T0).2.2.2
theorem southOf_in {ts : List Tl} {col : List Int} (hs : southOk ts) (hal : allT ts col = true) : (col.length = 0 ∧ southOf ts col = -1) ∨ (¬ col.length = 0 ∧ 0 ≤ southOf ts col) := by
  unfold southOf
  by_cases h : col.length = 0
  · left; exact ⟨h, if_pos h⟩
  · right
    refine ⟨h, ?_⟩
    rw [if_neg h]
    have := allT_in hal (k := col.length - 1) (by omega)
    simp only [inT, decide_eq_true_eq] at this
    exact hs _ (by omega)
theorem okBelow_is {ts : List Tl} {col : List Int} (hs : southOk ts) (hal : allT ts col = true) (k : Nat) : okBelow ts col k = (!decide (0 ≤ southOf ts col) || decide (southOf ts col = (ts.getD k T0).2.1)) := by
  unfold okBelow
  rcases southOf_in hs hal with ⟨h1, h2⟩ | ⟨h1, h2⟩
  · rw [h2]; simp [h1]
  · have e : southOf ts col = (tnum ts col (col.length - 1)).2.2.2 := by unfold southOf; rw [if_neg h1]
    rw [decide_eq_false h1, decide_eq_true h2, ← e]; rfl
theorem longerL_split (ts : List Tl) (l : List (List Int)) {i : Nat} (hi : i < l.length) (k : Nat) (hk : k ≤ ts.length) : (longerL ts (l.take i)).length + (extC ts (l.getD i []) k).length ≤ (longerL ts l).length := by
  have h1 : longerL ts l = longerL ts (l.take i) ++ longerL ts (l.drop i) := by
    unfold longerL
    rw [← List.flatMap_append, List.take_append_drop]
  have h2 : (extC ts (l.getD i []) ts.length).length ≤ (longerL ts (l.drop i)).length := by
    rw [List.drop_eq_getElem_cons hi]
    simp only [longerL, List.flatMap_cons, List.length_append]
    rw [show l.getD i [] = l[i] by simp [List.getD, hi]]
    omega
  have h3 : (extC ts (l.getD i []) k).length ≤ (extC ts (l.getD i []) ts.length).length := by
    unfold extC
    rw [List.length_map, List.length_map, show ts.length = k + (ts.length - k) by omega, List.range_add, List.filter_append, List.length_append]
    omega
  rw [h1, List.length_append]
  omega
/-- Only columns of the height 4 can be too many. -/
theorem cols_few {ts : List Tl} (h16 : ts.length ≤ 16) {h : Nat} (hh : h ≤ 3) : (colsL ts h).length ≤ 5000 := by
  refine Nat.le_trans (colsL_16 h16 h) (Nat.le_trans (Nat.pow_le_pow_right (by omega) hh) (by decide))
theorem cols_cap {ts : List Tl} (h16 : ts.length ≤ 16) {h : Nat} (hh : h ≤ 4) : (colsL ts h).length ≤ 65536 := by
  refine Nat.le_trans (colsL_16 h16 h) (Nat.le_trans (Nat.pow_le_pow_right (by omega) hh) (by decide))
end Go.Proofs.Ytblcghefnikmeaa
