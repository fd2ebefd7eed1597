/- Numbers within bounds; balances of rows: plain words. -/
import Derived.Test.YtnmgkchkbchfaaaRow2
import Derived.Test.YtnmgkchkbchfaaaWords0
namespace Go.Proofs.Ytnmgkchkbchfaaa
set_option linter.unusedVariables false
set_option linter.unusedSimpArgs false
open Go.RowKit Go.Sort

/-- Are all numbers within these bounds? -/
def withinB (lo hi : Int) (xs : List Int) : Bool := xs.all fun x => decide (lo ≤ x ∧ x ≤ hi)
theorem withinB_at {lo hi : Int} {xs : List Int} {k : Nat} (hk : k < xs.length) (h : ¬ (lo ≤ xs.getD k 0 ∧ xs.getD k 0 ≤ hi)) : withinB lo hi xs = false := by
  unfold withinB
  rw [List.all_eq_false]
  exact ⟨xs.getD k 0, by simp [List.getD, hk], by simpa using h⟩
theorem withinB_all {lo hi : Int} {xs : List Int} (h : ∀ j, j < xs.length → lo ≤ xs.getD j 0 ∧ xs.getD j 0 ≤ hi) : withinB lo hi xs = true := by
  unfold withinB
  rw [List.all_eq_true]
  intro x hx
  obtain ⟨i, hi, rfl⟩ := List.mem_iff_getElem.1 hx
  have := h i hi
  rw [decide_eq_true_eq]
  simpa [List.getD, hi] using this
theorem withinB_get {lo hi : Int} {xs : List Int} (h : withinB lo hi xs = true) {k : Nat} (hk : k < xs.length) : lo ≤ xs.getD k 0 ∧ xs.getD k 0 ≤ hi := by
  have := List.all_eq_true.1 h (xs.getD k 0) (by simp [List.getD, hk])
  simpa using this
theorem withinB_2 (lo hi p q : Int) : withinB lo hi [p, q] = decide (lo ≤ p ∧ p ≤ hi ∧ lo ≤ q ∧ q ≤ hi) := by
  rw [Bool.eq_iff_iff]
  simp [withinB]
  omega
theorem withinB_1 (lo hi p : Int) : withinB lo hi [p] = decide (lo ≤ p ∧ p ≤ hi) := by
  rw [Bool.eq_iff_iff]
  simp [withinB]

/-- All colours are in 0..5. -/
def small (ts : List Tl) : Prop := ∀ k, k < ts.length → (0 ≤ (ts.getD k T0).1 ∧ (ts.getD k T0).1 ≤ 5) ∧ (0 ≤ (ts.getD k T0).2.1 ∧ (ts.getD k T0).2.1 ≤ 5) ∧ (0 ≤ (ts.getD k T0).2.2.1 ∧ (ts.getD k T0).2.2.1 ≤ 5) ∧ (0 ≤ (ts.getD k T0).2.2.2 ∧ (ts.getD k T0).2.2.2 ≤ 5)
theorem small_set {c : Int} {ts : List Tl} (hs : isSet c ts = true) : small ts := by
  intro k hk
  have hc := (isSet_col hs).2
  have hg : good c ts k = true := by
    simp only [isSet, Bool.and_eq_true] at hs
    exact List.all_eq_true.1 hs.2 k (List.mem_range.2 hk)
  simp only [good, Bool.and_eq_true] at hg
  have ht := hg.1
  simp only [tileOk, decide_eq_true_eq] at ht
  omega
/-- The balances of the first k tiles, without the ends. -/
def bsum (ts : List Tl) (xs : List Int) (p q : Int) : Nat → Int
  | 0 => 0
  | k + 1 => bsum ts xs p q k + (p * (tnum ts xs k).2.1 - q * (tnum ts xs k).2.2.2)
/-- The balance of a row. -/
def balR (ts : List Tl) (xs : List Int) (p q : Int) : Int := (tnum ts xs 0).1 - (tnum ts xs (xs.length - 1)).2.2.1 + bsum ts xs p q xs.length
theorem tnum_in {ts : List Tl} {xs : List Int} (h : allT ts xs = true) {k : Nat} (hk : k < xs.length) : (xs.getD k 0).toNat < ts.length := by
  have := allT_in h hk
  simp only [inT, decide_eq_true_eq] at this
  omega
theorem mul5 {p y : Int} (hp : 1 ≤ p ∧ p ≤ 5) (hy : 0 ≤ y ∧ y ≤ 5) : 0 ≤ p * y ∧ p * y ≤ 25 := by
  constructor
  · exact Int.mul_nonneg (by omega) hy.1
  · calc p * y ≤ 5 * 5 := Int.mul_le_mul hp.2 hy.2 hy.1 (by omega)
      _ = 25 := rfl
theorem bsum_bound {ts : List Tl} {xs : List Int} {p q : Int} (hal : allT ts xs = true) (hs : small ts) (hp : 1 ≤ p ∧ p ≤ 5) (hq : 1 ≤ q ∧ q ≤ 5) : ∀ k : Nat, k ≤ xs.length → -(25 * (k : Int)) ≤ bsum ts xs p q k ∧ bsum ts xs p q k ≤ 25 * (k : Int)
  | 0, _ => by simp [bsum]
  | k + 1, hk => by
    have ih := bsum_bound hal hs hp hq k (by omega)
    have ht := hs _ (tnum_in hal (k := k) (by omega))
    have h1 := mul5 hp ht.2.1
    have h2 := mul5 hq ht.2.2.2
    simp only [bsum]
    unfold tnum
    push_cast
    omega
/-- The sum of the first k numbers. -/
def psum (xs : List Int) : Nat → Int
  | 0 => 0
  | k + 1 => psum xs k + xs.getD k 0
theorem psum_bound {xs : List Int} (h : ∀ k, k < xs.length → 0 ≤ xs.getD k 0 ∧ xs.getD k 0 ≤ 5) : ∀ k : Nat, k ≤ xs.length → 0 ≤ psum xs k ∧ psum xs k ≤ 5 * (k : Int)
  | 0, _ => by simp [psum]
  | k + 1, hk => by
    have ih := psum_bound h k (by omega)
    have := h k (by omega)
    simp only [psum]
    push_cast
    omega
theorem bsum_eq (ts : List Tl) (xs : List Int) (p q : Int) : ∀ k : Nat, k ≤ xs.length → bsum ts xs p q k = p * psum (colN ts xs) k - q * psum (colS ts xs) k
  | 0, _ => by simp [bsum, psum]
  | k + 1, hk => by
    have ih := bsum_eq ts xs p q k (by omega)
    simp only [bsum, psum, ih, colN_at ts (xs := xs) (k := k) (by omega), colS_at ts (xs := xs) (k := k) (by omega), tnum, Int.mul_add]
    omega
theorem balR_eq (ts : List Tl) (xs : List Int) (p q : Int) : p * psum (colN ts xs) xs.length + (tnum ts xs 0).1 - q * psum (colS ts xs) xs.length - (tnum ts xs (xs.length - 1)).2.2.1 = balR ts xs p q := by
  unfold balR
  rw [bsum_eq ts xs p q _ (Nat.le_refl _)]
  omega
end Go.Proofs.Ytnmgkchkbchfaaa
