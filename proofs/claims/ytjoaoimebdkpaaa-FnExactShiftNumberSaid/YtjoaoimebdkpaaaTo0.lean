/- Tori: shifted rows, and the order of lists of rows. -/
import Derived.Test.YtjoaoimebdkpaaaStA
namespace Go.Proofs.Ytjoaoimebdkpaaa
set_option linter.unusedVariables false
set_option linter.unusedSimpArgs false

/-- A list that begins at its k-th member and goes around. -/
def rot {α : Type} (k : Nat) (l : List α) : List α := l.drop k ++ l.take k
theorem rot_len {α : Type} (k : Nat) (l : List α) : (rot k l).length = l.length := by simp [rot]; omega
theorem rot_zero {α : Type} (l : List α) : rot 0 l = l := by simp [rot]
theorem rot_at {α : Type} {k : Nat} {l : List α} (d : α) {i : Nat} (hk : k < l.length) (hi : i < l.length) : (rot k l).getD i d = l.getD ((i + k) % l.length) d := by
  unfold rot
  simp only [List.getD, List.getElem?_append, List.length_drop, List.getElem?_drop, List.getElem?_take]
  by_cases h : i < l.length - k
  · rw [if_pos h, Nat.mod_eq_of_lt (by omega), Nat.add_comm k i]
  · rw [if_neg h, if_pos (by omega), Nat.mod_eq_sub_mod (by omega), Nat.mod_eq_of_lt (by omega), show i + k - l.length = i - (l.length - k) by omega]
/-- Rows that begin at row a and column b and go around. -/
def shR (a b : Nat) (rs : List (List Int)) : List (List Int) := (rot a rs).map (rot b)
theorem shR_len (a b : Nat) (rs : List (List Int)) : (shR a b rs).length = rs.length := by simp [shR, rot_len]
theorem shR_row {a y : Nat} (b : Nat) {rs : List (List Int)} (ha : a < rs.length) (hy : y < rs.length) : (shR a b rs).getD y [] = rot b (rs.getD ((y + a) % rs.length) []) := by
  have h := rot_at (α := List Int) [] ha hy
  have hl := rot_len a rs
  rw [← h]
  simp [shR, List.getD, show y < (rot a rs).length by omega]
theorem shR_zero (rs : List (List Int)) : shR 0 0 rs = rs := by
  unfold shR
  rw [rot_zero]
  have : (rot 0 : List Int → List Int) = id := by funext l; exact rot_zero l
  rw [this, List.map_id]

def cmpLL : List (List Int) → List (List Int) → Int
  | [], [] => 0
  | [], _ :: _ => -1
  | _ :: _, [] => 1
  | x :: r, y :: s => if cmpL x y = 0 then cmpLL r s else cmpL x y
theorem cmpLL_zero : ∀ {r s : List (List Int)}, cmpLL r s = 0 ↔ r = s
  | [], [] => by simp [cmpLL]
  | [], _ :: _ => by simp [cmpLL]
  | _ :: _, [] => by simp [cmpLL]
  | x :: r, y :: s => by
    unfold cmpLL
    by_cases h : cmpL x y = 0
    · rw [if_pos h, cmpLL_zero, cmpL_zero.1 h]; simp
    · rw [if_neg h]
      constructor
      · intro e; exact absurd e h
      · intro e; exact absurd (cmpL_zero.2 (List.cons.inj e).1) h
theorem cmpLL_drop {r s : List (List Int)} {k : Nat} (hr : k ≤ r.length) (hs : k ≤ s.length) (h : ∀ j, j < k → r.getD j [] = s.getD j []) : cmpLL r s = cmpLL (r.drop k) (s.drop k) := by
  induction k generalizing r s with
  | zero => simp
  | succ k ih =>
    cases r with
    | nil => simp at hr
    | cons x r =>
      cases s with
      | nil => simp at hs
      | cons y s =>
        have h0 := h 0 (by omega)
        simp at h0
        subst h0
        simp only [cmpLL, show cmpL x x = 0 from cmpL_zero.2 rfl, if_true, List.drop_succ_cons]
        exact ih (by simpa using hr) (by simpa using hs) fun j hj => by simpa using h (j + 1) (by omega)
theorem rdrop_cons {r : List (List Int)} {k : Nat} (hk : k < r.length) : r.drop k = r.getD k [] :: r.drop (k + 1) := by
  rw [List.drop_eq_getElem_cons hk]
  simp [List.getD, hk]
theorem cmpLL_at {r s : List (List Int)} {k : Nat} (hr : k < r.length) (hs : k < s.length) (h : ∀ j, j < k → r.getD j [] = s.getD j []) (hne : cmpL (r.getD k []) (s.getD k []) ≠ 0) : cmpLL r s = cmpL (r.getD k []) (s.getD k []) := by
  rw [cmpLL_drop (Nat.le_of_lt hr) (Nat.le_of_lt hs) h, rdrop_cons hr, rdrop_cons hs]
  unfold cmpLL
  rw [if_neg hne]
theorem idrop_cons {r : List Int} {k : Nat} (hk : k < r.length) : r.drop k = r.getD k 0 :: r.drop (k + 1) := by
  rw [List.drop_eq_getElem_cons hk]
  simp [List.getD, hk]
theorem cmpL_at {r s : List Int} {k : Nat} (hr : k < r.length) (hs : k < s.length) (h : ∀ j, j < k → r.getD j 0 = s.getD j 0) (hne : r.getD k 0 ≠ s.getD k 0) : cmpL r s = if r.getD k 0 < s.getD k 0 then -1 else 1 := by
  rw [cmpL_drop (Nat.le_of_lt hr) (Nat.le_of_lt hs) h, idrop_cons hr, idrop_cons hs]
  split
  · exact cmpL_cons_lt (by assumption) _ _
  · exact cmpL_cons_gt (by omega) _ _
/-- Whether rows come ahead of others. -/
def lessLL (r s : List (List Int)) : Bool := decide (cmpLL r s < 0)
theorem lessLL_at {r s : List (List Int)} {y x : Nat} (hr : y < r.length) (hs : y < s.length) (h : ∀ j, j < y → r.getD j [] = s.getD j []) (hxr : x < (r.getD y []).length) (hxs : x < (s.getD y []).length) (hx : ∀ j, j < x → (r.getD y []).getD j 0 = (s.getD y []).getD j 0) (hne : (r.getD y []).getD x 0 ≠ (s.getD y []).getD x 0) :
    lessLL r s = decide ((r.getD y []).getD x 0 < (s.getD y []).getD x 0) := by
  have h1 := cmpL_at hxr hxs hx hne
  have h2 : cmpL (r.getD y []) (s.getD y []) ≠ 0 := by rw [h1]; split <;> omega
  unfold lessLL
  rw [cmpLL_at hr hs h h2, h1]
  by_cases h3 : (r.getD y []).getD x 0 < (s.getD y []).getD x 0
  · rw [if_pos h3, decide_eq_true h3]; rfl
  · rw [if_neg h3, decide_eq_false h3]; rfl
theorem lessLL_self (r : List (List Int)) : lessLL r r = false := by simp [lessLL, show cmpLL r r = 0 from cmpLL_zero.2 rfl]
theorem row_ext {r s : List Int} (hl : r.length = s.length) (h : ∀ j, j < r.length → r.getD j 0 = s.getD j 0) : r = s := by
  apply List.ext_getElem hl
  intro i h1 h2
  have := h i h1
  simpa [List.getD, h1, h2] using this
theorem rows_ext {r s : List (List Int)} (hl : r.length = s.length) (h : ∀ j, j < r.length → r.getD j [] = s.getD j []) : r = s := by
  apply List.ext_getElem hl
  intro i h1 h2
  have := h i h1
  simpa [List.getD, h1, h2] using this
theorem cmpL_neg (a b : List Int) : cmpL b a = - cmpL a b := by
  unfold cmpL
  cases h1 : ltL a b with
  | true => simp [ltL_asym h1]
  | false => cases h2 : ltL b a <;> simp
theorem cmpLL_neg : ∀ (r s : List (List Int)), cmpLL s r = - cmpLL r s
  | [], [] => rfl
  | [], _ :: _ => rfl
  | _ :: _, [] => rfl
  | x :: r, y :: s => by
    unfold cmpLL
    rw [cmpL_neg x y, cmpLL_neg r s]
    by_cases h : cmpL x y = 0
    · rw [if_pos (by omega), if_pos h]
    · rw [if_neg (by omega), if_neg h]
/-- Neither comes ahead of the other just where they are the same. -/
theorem less_both (r s : List (List Int)) : (!lessLL r s && !lessLL s r) = decide (r = s) := by
  unfold lessLL
  rw [cmpLL_neg r s]
  by_cases h : r = s
  · subst h; simp [show cmpLL r r = 0 from cmpLL_zero.2 rfl]
  · have h0 : cmpLL r s ≠ 0 := fun e => h (cmpLL_zero.1 e)
    simp [h]
    omega

/-- Row a and column b of the shift with number k, among w columns. -/
def shK (k : Nat) (rs : List (List Int)) : List (List Int) := shR (k / (rs.getD 0 []).length) (k % (rs.getD 0 []).length) rs
theorem shK_at {a b : Nat} {rs : List (List Int)} (hb : b < (rs.getD 0 []).length) : shK (a * (rs.getD 0 []).length + b) rs = shR a b rs := by
  have h1 : (a * (rs.getD 0 []).length + b) / (rs.getD 0 []).length = a := by
    rw [Nat.mul_comm, Nat.mul_add_div (by omega), Nat.div_eq_of_lt hb]; rfl
  have h2 : (a * (rs.getD 0 []).length + b) % (rs.getD 0 []).length = b := by
    rw [Nat.mul_comm, Nat.mul_add_mod, Nat.mod_eq_of_lt hb]
  unfold shK
  rw [h1, h2]
/-- The least of the first k shifts, and of the rows. -/
def leastUp (rs : List (List Int)) : Nat → List (List Int)
  | 0 => rs
  | k + 1 => if lessLL (shK k rs) (leastUp rs k) = true then shK k rs else leastUp rs k
/-- Those of the first k shifts that keep the rows, as rows of two numbers. -/
def keptUp (rs : List (List Int)) : Nat → List (List Int)
  | 0 => []
  | k + 1 => if shK k rs = rs then keptUp rs k ++ [[((k / (rs.getD 0 []).length : Nat) : Int), ((k % (rs.getD 0 []).length : Nat) : Int)]] else keptUp rs k
theorem shK_zero {rs : List (List Int)} (h : 0 < (rs.getD 0 []).length) : shK 0 rs = rs := by
  have := shK_at (a := 0) (b := 0) (rs := rs) h
  rw [shR_zero] at this
  simpa using this
theorem keptUp_le (rs : List (List Int)) : ∀ k, (keptUp rs k).length ≤ k
  | 0 => Nat.le_refl _
  | k + 1 => by
    have := keptUp_le rs k
    unfold keptUp
    split
    · simp; omega
    · omega
theorem keptUp_pos {rs : List (List Int)} (h : 0 < (rs.getD 0 []).length) : ∀ k, 0 < k → 0 < (keptUp rs k).length
  | 0, h0 => absurd h0 (Nat.lt_irrefl _)
  | 1, _ => by
    unfold keptUp
    rw [if_pos (shK_zero h)]
    simp
  | k + 2, _ => by
    have := keptUp_pos h (k + 1) (Nat.succ_pos _)
    unfold keptUp
    split
    · simp
    · exact this
theorem keptUp_two (rs : List (List Int)) : ∀ k j, j < (keptUp rs k).length → ((keptUp rs k).getD j []).length = 2
  | 0, j, h => by simp [keptUp] at h
  | k + 1, j, h => by
    unfold keptUp at h ⊢
    split at h
    · rename_i he
      rw [if_pos he]
      by_cases hj : j < (keptUp rs k).length
      · rw [show (keptUp rs k ++ [[((k / (rs.getD 0 []).length : Nat) : Int), ((k % (rs.getD 0 []).length : Nat) : Int)]]).getD j [] = (keptUp rs k).getD j [] by simp only [List.getD]; rw [List.getElem?_append_left hj]]
        exact keptUp_two rs k j hj
      · have : j = (keptUp rs k).length := by simp at h; omega
        subst this
        simp [List.getD]
    · rename_i he
      rw [if_neg he]
      exact keptUp_two rs k j h
end Go.Proofs.Ytjoaoimebdkpaaa
