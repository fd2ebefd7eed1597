/- Columns of tiles: lists, words as numbers. -/
import Derived.Test.YtblcghefnikmeaaRow2
import Derived.Test.YtblcghefnikmeaaAppR
import Derived.Test.YtblcghefnikmeaaLastA
namespace Go.Proofs.Ytblcghefnikmeaa
set_option linter.unusedVariables false
set_option linter.unusedSimpArgs false
open Go.RowKit Go.Sort

/-- Whether the tile k may stand below a column. -/
def okBelow (ts : List Tl) (col : List Int) (k : Nat) : Bool := decide (col.length = 0) || decide ((tnum ts col (col.length - 1)).2.2.2 = (ts.getD k T0).2.1)
/-- The columns that a column grows into, by the first k tiles. -/
def extC (ts : List Tl) (col : List Int) (k : Nat) : List (List Int) := ((List.range k).filter (okBelow ts col)).map fun j : Nat => col ++ [(j : Int)]
/-- The columns that are a tile longer. -/
def longerL (ts : List Tl) (cols : List (List Int)) : List (List Int) := cols.flatMap fun col => extC ts col ts.length
/-- All columns of a height. -/
def colsL (ts : List Tl) : Nat → List (List Int)
  | 0 => [[]]
  | h + 1 => longerL ts (colsL ts h)
theorem extC_zero (ts : List Tl) (col : List Int) : extC ts col 0 = [] := rfl
theorem extC_yes {ts : List Tl} {col : List Int} {k : Nat} (h : okBelow ts col k = true) : extC ts col (k + 1) = extC ts col k ++ [col ++ [(k : Int)]] := by
  simp [extC, List.range_succ, List.filter_append, h]
theorem extC_no {ts : List Tl} {col : List Int} {k : Nat} (h : okBelow ts col k = false) : extC ts col (k + 1) = extC ts col k := by
  simp [extC, List.range_succ, List.filter_append, h]
theorem extC_len (ts : List Tl) (col : List Int) (k : Nat) : (extC ts col k).length ≤ k := by
  unfold extC
  rw [List.length_map]
  exact Nat.le_trans (List.length_filter_le _ _) (by rw [List.length_range]; omega)
theorem rtake_snoc (l : List (List Int)) {k : Nat} (hk : k < l.length) : l.take (k + 1) = l.take k ++ [l.getD k []] := by
  rw [List.take_add_one]; simp [List.getD, hk]
theorem longerL_succ (ts : List Tl) (l : List (List Int)) {i : Nat} (hi : i < l.length) : longerL ts (l.take (i + 1)) = longerL ts (l.take i) ++ extC ts (l.getD i []) ts.length := by
  rw [rtake_snoc l hi]; simp [longerL]
theorem longerL_len (ts : List Tl) (l : List (List Int)) : (longerL ts l).length ≤ l.length * ts.length := by
  induction l with
  | nil => simp [longerL]
  | cons c l ih =>
    have := extC_len ts c ts.length
    simp only [longerL, List.flatMap_cons, List.length_append, List.length_cons] at ih ⊢
    rw [Nat.add_mul]
    omega
theorem longerL_pre_len (ts : List Tl) (l : List (List Int)) (i : Nat) : (longerL ts (l.take i)).length ≤ i * ts.length := by
  refine Nat.le_trans (longerL_len ts _) (Nat.mul_le_mul_right _ ?_)
  rw [List.length_take]; omega
theorem colsL_len (ts : List Tl) (h : Nat) : (colsL ts h).length ≤ ts.length ^ h := by
  induction h with
  | zero => simp [colsL]
  | succ h ih => exact Nat.le_trans (longerL_len ts _) (Nat.mul_le_mul_right _ ih)
theorem colsL_16 {ts : List Tl} (h16 : ts.length ≤ 16) (h : Nat) : (colsL ts h).length ≤ 16 ^ h :=
  Nat.le_trans (colsL_len ts h) (Nat.pow_le_pow_left h16 h)
theorem mem_extC {ts : List Tl} {col r : List Int} {k : Nat} : r ∈ extC ts col k ↔ ∃ j : Nat, j < k ∧ okBelow ts col j = true ∧ r = col ++ [(j : Int)] := by
  simp only [extC, List.mem_map, List.mem_filter, List.mem_range]
  constructor
  · rintro ⟨j, ⟨h1, h2⟩, rfl⟩; exact ⟨j, h1, h2, rfl⟩
  · rintro ⟨j, h1, h2, rfl⟩; exact ⟨j, ⟨h1, h2⟩, rfl⟩
/-- What is true of each column of a height: its length, and that it has numbers of tiles. -/
theorem colsL_all (ts : List Tl) : ∀ (h : Nat), ∀ r ∈ colsL ts h, r.length = h ∧ ∀ k, k < r.length → inT ts (r.getD k 0) = true := by
  intro h
  induction h with
  | zero => intro r hr; simp [colsL] at hr; subst hr; exact ⟨rfl, fun k hk => by simp at hk⟩
  | succ h ih =>
    intro r hr
    simp only [colsL, longerL, List.mem_flatMap] at hr
    obtain ⟨col, hc, hr⟩ := hr
    obtain ⟨j, hj, -, rfl⟩ := mem_extC.1 hr
    obtain ⟨hl, hin⟩ := ih col hc
    refine ⟨by simp [hl], fun k hk => ?_⟩
    by_cases hk2 : k < col.length
    · rw [show (col ++ [(j : Int)]).getD k 0 = col.getD k 0 by simp [List.getD, List.getElem?_append_left hk2]]
      exact hin k hk2
    · have : k = col.length := by simp at hk; omega
      subst this
      simp [inT]; omega
theorem colsL_at (ts : List Tl) (h : Nat) {k : Nat} (hk : k < (colsL ts h).length) : ((colsL ts h).getD k []).length = h ∧ allT ts ((colsL ts h).getD k []) = true := by
  have hm : (colsL ts h).getD k [] ∈ colsL ts h := by simp [List.getD, hk]
  obtain ⟨h1, h2⟩ := colsL_all ts h _ hm
  exact ⟨h1, allT_all h2⟩

/-- The number whose digits, to the base c, are those of a word. -/
def wnum (c : Int) (xs : List Int) : Int := xs.foldl (fun a x => a * c + x) 0
theorem wnum_nil (c : Int) : wnum c [] = 0 := rfl
theorem wnum_snoc (c : Int) (xs : List Int) (x : Int) : wnum c (xs ++ [x]) = wnum c xs * c + x := by simp [wnum]
theorem wnum_take (c : Int) (xs : List Int) {k : Nat} (hk : k < xs.length) : wnum c (xs.take (k + 1)) = wnum c (xs.take k) * c + xs.getD k 0 := by
  rw [itake_snoc xs hk, wnum_snoc]
theorem wfold {c : Nat} (hc : 0 < c) : ∀ (xs : List Int) (a : Nat), (∀ x ∈ xs, 0 ≤ x ∧ x < (c : Int)) → ∃ m : Nat, xs.foldl (fun a x => a * (c : Int) + x) (a : Int) = (m : Int) ∧ m < (a + 1) * c ^ xs.length
  | [], a, _ => ⟨a, rfl, by simp⟩
  | x :: xs, a, h => by
    obtain ⟨h0, h1⟩ := h x (by simp)
    obtain ⟨y, rfl⟩ : ∃ y : Nat, x = (y : Int) := ⟨x.toNat, by omega⟩
    obtain ⟨m, e, hm⟩ := wfold hc xs (a * c + y) fun z hz => h z (by simp [hz])
    refine ⟨m, by rw [List.foldl_cons, ← e]; congr 1, Nat.lt_of_lt_of_le hm ?_⟩
    rw [List.length_cons, Nat.pow_succ, Nat.mul_comm (c ^ xs.length) c, ← Nat.mul_assoc]
    refine Nat.mul_le_mul_right _ ?_
    rw [Nat.add_mul]
    omega
/-- Words of colours are less than the number of all words. -/
theorem wnum_lt {c : Nat} (hc : 0 < c) {xs : List Int} (h : ∀ x ∈ xs, 0 ≤ x ∧ x < (c : Int)) : ∃ m : Nat, wnum (c : Int) xs = (m : Int) ∧ m < c ^ xs.length := by
  obtain ⟨m, e, hm⟩ := wfold hc xs 0 h
  exact ⟨m, e, by simpa using hm⟩
end Go.Proofs.Ytblcghefnikmeaa
