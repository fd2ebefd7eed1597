/- Ways between words, stage by stage; strong parts. -/
import Derived.Test.YtleabblnikbmpaaAppR
namespace Go.Proofs.Ytleabblnikbmpaa
set_option linter.unusedVariables false
set_option linter.unusedSimpArgs false

abbrev Rel := Nat → Nat → Bool
/-- One stage: ways over m, too. -/
def stg (R : Rel) (m : Nat) : Rel := fun i k => R i k || (R i m && R m k)
/-- A stage that has come to the place (i, k). -/
def mixR (R : Rel) (m i k : Nat) : Rel := fun a b => if a < i ∨ (a = i ∧ b < k) then stg R m a b else R a b
/-- The first m stages. -/
def fwR (R : Rel) : Nat → Rel
  | 0 => R
  | m + 1 => stg (fwR R m) m
theorem stg_to (R : Rel) (m i : Nat) : stg R m i m = R i m := by
  unfold stg; cases R i m <;> simp
theorem stg_from (R : Rel) (m k : Nat) : stg R m m k = R m k := by
  unfold stg; cases R m k <;> simp
theorem mixR_to (R : Rel) (m i k a : Nat) : mixR R m i k a m = R a m := by
  unfold mixR; split
  · exact stg_to R m a
  · rfl
theorem mixR_from (R : Rel) (m i k b : Nat) : mixR R m i k m b = R m b := by
  unfold mixR; split
  · exact stg_from R m b
  · rfl
theorem mixR_here (R : Rel) (m i k : Nat) : mixR R m i k i k = R i k := by
  unfold mixR; rw [if_neg (by omega)]
theorem mixR_yes {R : Rel} {m i k : Nat} (h1 : R i m = true) (h2 : R m k = true) (a b : Nat) : mixR R m i (k + 1) a b = if a = i ∧ b = k then true else mixR R m i k a b := by
  by_cases h : a = i ∧ b = k
  · obtain ⟨rfl, rfl⟩ := h
    rw [if_pos ⟨rfl, rfl⟩]
    unfold mixR
    rw [if_pos (by omega)]
    simp [stg, h1, h2]
  · rw [if_neg h]
    unfold mixR
    by_cases h3 : a < i ∨ (a = i ∧ b < k)
    · rw [if_pos h3, if_pos (by omega)]
    · rw [if_neg h3, if_neg (by omega)]
theorem mixR_no {R : Rel} {m i k : Nat} (h : (R i m && R m k) = false) (a b : Nat) : mixR R m i (k + 1) a b = mixR R m i k a b := by
  by_cases h2 : a = i ∧ b = k
  · obtain ⟨rfl, rfl⟩ := h2
    unfold mixR
    rw [if_pos (by omega), if_neg (by omega)]
    simp [stg, h]
  · unfold mixR
    by_cases h3 : a < i ∨ (a = i ∧ b < k)
    · rw [if_pos h3, if_pos (by omega)]
    · rw [if_neg h3, if_neg (by omega)]
theorem mixR_zero (R : Rel) (m : Nat) : mixR R m 0 0 = R := by
  funext a b; unfold mixR; rw [if_neg (by omega)]
theorem mixR_row {R : Rel} {m i n : Nat} {a b : Nat} (hb : b < n) : mixR R m i n a b = mixR R m (i + 1) 0 a b := by
  unfold mixR
  by_cases h3 : a < i ∨ (a = i ∧ b < n)
  · rw [if_pos h3, if_pos (by omega)]
  · rw [if_neg h3, if_neg (by omega)]
theorem mixR_rest {R : Rel} {m i k : Nat} (h : R i m = false) (a b : Nat) : mixR R m i k a b = mixR R m (i + 1) 0 a b := by
  unfold mixR
  by_cases h3 : a < i ∨ (a = i ∧ b < k)
  · rw [if_pos h3, if_pos (by omega)]
  · rw [if_neg h3]
    by_cases h4 : a < i + 1
    · rw [if_pos (by omega)]
      have : a = i := by omega
      subst this
      simp [stg, h]
    · rw [if_neg (by omega)]
theorem mixR_done {R : Rel} {m n : Nat} {a b : Nat} (ha : a < n) : mixR R m n 0 a b = stg R m a b := by
  unfold mixR; rw [if_pos (by omega)]

/-- What has gone through m stages is closed under ways over the words below m. -/
theorem fw_closed (R : Rel) (m : Nat) : ∀ b, b < m → ∀ i k, fwR R m i b = true → fwR R m b k = true → fwR R m i k = true := by
  induction m with
  | zero => intro b hb; omega
  | succ m ih =>
    intro b hb i k h1 h2
    simp only [fwR] at h1 h2 ⊢
    by_cases hbm : b = m
    · subst hbm
      rw [stg_to] at h1; rw [stg_from] at h2
      simp [stg, h1, h2]
    · have hlt : b < m := by omega
      simp only [stg, Bool.or_eq_true, Bool.and_eq_true] at h1 h2 ⊢
      rcases h1 with h1 | ⟨h1, h3⟩
      · rcases h2 with h2 | ⟨h2, h4⟩
        · exact Or.inl (ih b hlt i k h1 h2)
        · exact Or.inr ⟨ih b hlt i m h1 h2, h4⟩
      · rcases h2 with h2 | ⟨h2, h4⟩
        · exact Or.inr ⟨h1, ih b hlt m k h3 h2⟩
        · exact Or.inr ⟨h1, h4⟩
/-- What is closed under the edges is closed under the ways. -/
theorem fw_into {R : Rel} {S : Nat → Prop} (h : ∀ i k, R i k = true → S i → S k) (m : Nat) : ∀ i k, fwR R m i k = true → S i → S k := by
  induction m with
  | zero => exact h
  | succ m ih =>
    intro i k h1 hi
    simp only [fwR, stg, Bool.or_eq_true, Bool.and_eq_true] at h1
    rcases h1 with h1 | ⟨h1, h2⟩
    · exact ih i k h1 hi
    · exact ih m k h2 (ih i m h1 hi)

/-- The words that are in a strong part with i. -/
def partOf (Q : Rel) (n i : Nat) : List Nat := (List.range n).filter fun k => Q i k && Q k i
/-- Whether i is the first word of a strong part. -/
def isFirst (Q : Rel) (i : Nat) : Bool := Q i i && (List.range i).all fun k => !(Q i k && Q k i)
/-- The strong parts whose first words are less than m. -/
def partsL (Q : Rel) (n m : Nat) : List (List Int) := ((List.range m).filter (isFirst Q)).map fun i => (partOf Q n i).map fun k : Nat => (k : Int)
theorem partsL_yes {Q : Rel} {n m : Nat} (h : isFirst Q m = true) : partsL Q n (m + 1) = partsL Q n m ++ [(partOf Q n m).map fun k : Nat => (k : Int)] := by
  simp [partsL, List.range_succ, List.filter_append, h]
theorem partsL_no {Q : Rel} {n m : Nat} (h : isFirst Q m = false) : partsL Q n (m + 1) = partsL Q n m := by
  simp [partsL, List.range_succ, List.filter_append, h]
theorem head_mem {l : List Nat} (h : 0 < l.length) : l.getD 0 0 ∈ l := by cases l with | nil => simp at h | cons a l => simp
/-- A part is as it is told by its own words alone. -/
theorem head_first {Q : Rel} {n i : Nat} (hi : i < n) : (decide (0 < (partOf Q n i).length) && decide ((partOf Q n i).getD 0 0 = i)) = isFirst Q i := by
  unfold isFirst partOf
  rw [show n = i + (n - i) by omega, List.range_add, List.filter_append]
  by_cases h : ∀ k, k < i → (Q i k && Q k i) = false
  · have e1 : (List.range i).filter (fun k => Q i k && Q k i) = [] := List.filter_eq_nil_iff.2 fun k hk => by simp only [List.mem_range] at hk; rw [h k hk]; simp
    have e2 : (List.range i).all (fun k => !(Q i k && Q k i)) = true := List.all_eq_true.2 fun k hk => by simp only [List.mem_range] at hk; rw [h k hk]; rfl
    rw [e1, e2, List.nil_append, Bool.and_true]
    obtain ⟨d, hd⟩ : ∃ d, n - i = d + 1 := ⟨n - i - 1, by omega⟩
    rw [hd, List.range_succ_eq_map, List.map_cons, List.filter_cons]
    simp only [Nat.add_zero]
    cases hq : Q i i with
    | true => simp
    | false =>
      simp only [Bool.and_self, Bool.false_eq_true, if_false]
      rw [Bool.and_eq_false_iff]
      rcases Nat.eq_zero_or_pos (List.filter (fun k => Q i k && Q k i) (List.map (fun x => i + x) (List.map Nat.succ (List.range d)))).length with h0 | h0
      · left; simpa using h0
      · right
        rw [decide_eq_false_iff_not]
        intro h5
        have hm := head_mem h0
        rw [h5, List.mem_filter] at hm
        simp [hq] at hm
  · have h' : ∃ k, k < i ∧ (Q i k && Q k i) = true := by
      refine Classical.byContradiction fun hno => h fun k hk => ?_
      cases hq : (Q i k && Q k i) with
      | false => rfl
      | true => exact absurd ⟨k, hk, hq⟩ hno
    obtain ⟨k, hk, hq⟩ := h'
    have e2 : (List.range i).all (fun k => !(Q i k && Q k i)) = false := by
      rw [Bool.eq_false_iff]; intro h5
      have := List.all_eq_true.1 h5 k (List.mem_range.2 hk)
      rw [hq] at this; cases this
    rw [e2, Bool.and_false, Bool.and_eq_false_iff]
    right
    rw [decide_eq_false_iff_not]
    have hmem : k ∈ (List.range i).filter (fun k => Q i k && Q k i) := List.mem_filter.2 ⟨List.mem_range.2 hk, hq⟩
    have h0 : 0 < ((List.range i).filter (fun k => Q i k && Q k i)).length := List.length_pos_of_mem hmem
    intro h5
    have hm : (((List.range i).filter (fun k => Q i k && Q k i)) ++ List.filter (fun k => Q i k && Q k i) (List.map (fun x => i + x) (List.range (n - i)))).getD 0 0 ∈ (List.range i).filter (fun k => Q i k && Q k i) := by
      rw [List.getD, List.getElem?_append_left h0]; simp [h0]
    rw [h5, List.mem_filter, List.mem_range] at hm
    omega
/-- The words from i on are all of the part whose first word is i. -/
theorem partOf_from {Q : Rel} {n i : Nat} (hi : i < n) (h : isFirst Q i = true) : partOf Q n i = ((List.range (n - i)).filter fun k => Q i (i + k) && Q (i + k) i).map fun k => i + k := by
  unfold partOf isFirst at *
  rw [Bool.and_eq_true] at h
  conv => lhs; rw [show n = i + (n - i) by omega]
  rw [List.range_add, List.filter_append, List.filter_eq_nil_iff.2 fun k hk => by have := List.all_eq_true.1 h.2 k hk; revert this; cases Q i k <;> cases Q k i <;> simp, List.nil_append, List.filter_map]
  rfl
/-- Which words have been met when the parts with first words below m are told. -/
def metB (Q : Rel) (m k : Nat) : Bool := (List.range m).any fun i => isFirst Q i && (Q i k && Q k i)
theorem metB_zero (Q : Rel) (k : Nat) : metB Q 0 k = false := rfl
theorem metB_yes {Q : Rel} {m k : Nat} (h : isFirst Q m = true) : metB Q (m + 1) k = (metB Q m k || (Q m k && Q k m)) := by
  simp [metB, List.range_succ, h]
theorem metB_no {Q : Rel} {m k : Nat} (h : isFirst Q m = false) : metB Q (m + 1) k = metB Q m k := by
  simp [metB, List.range_succ, h]
/-- In a transitive relation a word that is not met and comes back to itself is the first of a part. -/
theorem met_first {Q : Rel} {n m : Nat} (hm : m < n) (ht : ∀ a b c, b < n → Q a b = true → Q b c = true → Q a c = true) : isFirst Q m = (!metB Q m m && Q m m) := by
  cases hq : Q m m with
  | false => simp [isFirst, hq]
  | true =>
    rw [Bool.and_true, isFirst, hq, Bool.true_and]
    cases hmet : metB Q m m with
    | true =>
      simp only [metB, List.any_eq_true, List.mem_range, Bool.and_eq_true] at hmet
      obtain ⟨i, hi, -, h1, h2⟩ := hmet
      rw [Bool.not_true, Bool.eq_false_iff]
      intro h5
      have := List.all_eq_true.1 h5 i (List.mem_range.2 hi)
      rw [h1, h2] at this
      cases this
    | false =>
      rw [Bool.not_false]
      refine List.all_eq_true.2 fun k hk => ?_
      simp only [List.mem_range] at hk
      cases hb : (Q m k && Q k m) with
      | false => rfl
      | true =>
        exfalso
        rw [Bool.and_eq_true] at hb
        -- the least such word is the first of its part
        have key : ∀ j, j ≤ k → Q m j = true → Q j m = true → False := by
          intro j
          induction j using Nat.strongRecOn with
          | _ j ih =>
            intro hj h1 h2
            have hfirst : isFirst Q j = true := by
              unfold isFirst
              rw [Bool.and_eq_true]
              refine ⟨ht j m j hm h2 h1, List.all_eq_true.2 fun l hl => ?_⟩
              simp only [List.mem_range] at hl
              cases hc : (Q j l && Q l j) with
              | false => rfl
              | true =>
                rw [Bool.and_eq_true] at hc
                exact absurd (ih l hl (by omega) (ht m j l (by omega) h1 hc.1) (ht l j m (by omega) hc.2 h2)) id
            have : metB Q m m = true := by
              simp only [metB, List.any_eq_true, List.mem_range, Bool.and_eq_true]
              exact ⟨j, by omega, hfirst, h2, h1⟩
            rw [this] at hmet
            cases hmet
        exact key k (Nat.le_refl _) hb.1 hb.2
end Go.Proofs.Ytleabblnikbmpaa
