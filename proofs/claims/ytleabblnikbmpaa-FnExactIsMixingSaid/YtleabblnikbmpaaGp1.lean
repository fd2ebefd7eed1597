/- Distances from the first word, and the period. -/
import Derived.Test.YtleabblnikbmpaaGw1
namespace Go.Proofs.Ytleabblnikbmpaa
set_option linter.unusedVariables false
set_option linter.unusedSimpArgs false

/-- The words that are reached, in order, and their distances. -/
structure BSt where
  q : List Nat
  d : Nat → Nat
def bPut (E : Rel) (a to : Nat) (s : BSt) : BSt := if (E a to && !decide (to ∈ s.q)) = true then ⟨s.q ++ [to], fun x => if x = to then s.d a + 1 else s.d x⟩ else s
def bRow (E : Rel) (a : Nat) : Nat → BSt → BSt
  | 0, s => s
  | k + 1, s => bPut E a k (bRow E a k s)
def bAll (E : Rel) (n : Nat) : Nat → BSt
  | 0 => ⟨[0], fun _ => 0⟩
  | k + 1 => if k < (bAll E n k).q.length then bRow E ((bAll E n k).q.getD k 0) n (bAll E n k) else bAll E n k
structure BOk (E : Rel) (n k : Nat) (s : BSt) : Prop where
  zero : 0 ∈ s.q
  nodup : s.q.Nodup
  lt : ∀ x ∈ s.q, x < n
  mono : s.q.Pairwise fun x y => s.d x ≤ s.d y
  band : ∀ x ∈ s.q, ∀ y ∈ s.q.drop k, s.d x ≤ s.d y + 1
  closed : ∀ x ∈ s.q.take k, ∀ to, to < n → E x to = true → to ∈ s.q ∧ s.d to ≤ s.d x + 1
theorem nodup_len : ∀ (n : Nat) (l : List Nat), l.Nodup → (∀ x ∈ l, x < n) → l.length ≤ n
  | 0, l, _, h => by cases l with | nil => simp | cons a l => exact absurd (h a (by simp)) (by omega)
  | n + 1, l, hd, h => by
    by_cases hm : n ∈ l
    · have h1 := nodup_len n (l.erase n) (hd.erase n) fun x hx => by
        have := (List.Nodup.mem_erase_iff hd).1 hx
        have := h x this.2
        omega
      rw [List.length_erase_of_mem hm] at h1
      omega
    · have := nodup_len n l hd fun x hx => by
        have := h x hx
        have : x ≠ n := fun e => hm (e ▸ hx)
        omega
      omega
theorem BOk.len {E : Rel} {n k : Nat} {s : BSt} (h : BOk E n k s) : s.q.length ≤ n := nodup_len n s.q h.nodup h.lt
theorem getD_in {l : List Nat} {k : Nat} (h : k < l.length) : l.getD k 0 ∈ l := by rw [List.getD, List.getElem?_eq_getElem h]; exact List.getElem_mem h
theorem bok_zero {E : Rel} {n : Nat} (hn : 0 < n) : BOk E n 0 (bAll E n 0) := by
  refine ⟨by simp [bAll], by simp [bAll], ?_, by simp [bAll], ?_, by simp⟩
  · intro x hx; simp [bAll] at hx; omega
  · intro x hx y hy; simp [bAll]
theorem bok_put {E : Rel} {n k to a : Nat} {s : BSt} (h : BOk E n k s) (hk : k < s.q.length) (ha : a = s.q.getD k 0) (hto : to < n) :
    BOk E n k (bPut E a to s) ∧ (∀ i, i < s.q.length → (bPut E a to s).q.getD i 0 = s.q.getD i 0) ∧ s.q.length ≤ (bPut E a to s).q.length ∧ (∀ x ∈ s.q, x ∈ (bPut E a to s).q ∧ (bPut E a to s).d x = s.d x) ∧ (E a to = true → to ∈ (bPut E a to s).q ∧ (bPut E a to s).d to ≤ (bPut E a to s).d a + 1) := by
  have had : a ∈ s.q.drop k := by
    rw [ha, List.drop_eq_getElem_cons hk, show s.q.getD k 0 = s.q[k] by simp [List.getD, hk]]; exact List.mem_cons_self
  have haq : a ∈ s.q := List.mem_of_mem_drop had
  have hay : ∀ y ∈ s.q.drop k, s.d a ≤ s.d y := by
    intro y hy
    have hp := List.Pairwise.sublist (List.drop_sublist k s.q) h.mono
    rw [List.drop_eq_getElem_cons hk] at hp hy
    have e : a = s.q[k] := by rw [ha]; simp [List.getD, hk]
    rw [← e] at hp hy
    rcases List.mem_cons.1 hy with rfl | hy
    · exact Nat.le_refl _
    · exact (List.pairwise_cons.1 hp).1 y hy
  unfold bPut
  by_cases hc : (E a to && !decide (to ∈ s.q)) = true
  · rw [if_pos hc]
    rw [Bool.and_eq_true] at hc
    have hnot : to ∉ s.q := by have := hc.2; simpa using this
    have hne : ∀ x ∈ s.q, x ≠ to := fun x hx e => hnot (e ▸ hx)
    have hd : ∀ x ∈ s.q, (if x = to then s.d a + 1 else s.d x) = s.d x := fun x hx => if_neg (hne x hx)
    refine ⟨⟨by simp [h.zero], ?_, ?_, ?_, ?_, ?_⟩, ?_, by simp, ?_, ?_⟩
    · exact List.nodup_append.2 ⟨h.nodup, by simp, fun x hx y hy => by simp at hy; subst hy; exact hne x hx⟩
    · intro x hx
      rcases List.mem_append.1 hx with hx | hx
      · exact h.lt x hx
      · simp at hx; omega
    · refine List.pairwise_append.2 ⟨?_, by simp, ?_⟩
      · refine List.Pairwise.imp_of_mem ?_ h.mono
        intro x y hx hy hxy
        show (if x = to then s.d a + 1 else s.d x) ≤ (if y = to then s.d a + 1 else s.d y)
        rw [hd x hx, hd y hy]; exact hxy
      · intro x hx y hy
        simp at hy; subst hy
        show (if x = y then s.d a + 1 else s.d x) ≤ (if y = y then s.d a + 1 else s.d y)
        rw [hd x hx, if_pos rfl]
        exact h.band x hx a had
    · intro x hx y hy
      show (if x = to then s.d a + 1 else s.d x) ≤ (if y = to then s.d a + 1 else s.d y) + 1
      rw [List.drop_append_of_le_length (by omega)] at hy
      rcases List.mem_append.1 hx with hx2 | hx
      · rw [hd x hx2]
        rcases List.mem_append.1 hy with hy | hy
        · rw [hd y (List.mem_of_mem_drop hy)]; exact h.band x hx2 y hy
        · simp at hy; subst hy; rw [if_pos rfl]; have := h.band x hx2 a had; omega
      · simp at hx; subst hx
        rw [if_pos rfl]
        rcases List.mem_append.1 hy with hy | hy
        · rw [hd y (List.mem_of_mem_drop hy)]; have := hay y hy; omega
        · simp at hy; subst hy; rw [if_pos rfl]; omega
    · intro x hx t ht he
      rw [List.take_append_of_le_length (by omega)] at hx
      obtain ⟨h1, h2⟩ := h.closed x hx t ht he
      refine ⟨by simp [h1], ?_⟩
      show (if t = to then s.d a + 1 else s.d t) ≤ (if x = to then s.d a + 1 else s.d x) + 1
      rw [hd t h1, hd x (List.mem_of_mem_take hx)]; exact h2
    · intro i hi; simp [List.getD, List.getElem?_append_left hi]
    · intro x hx; exact ⟨by simp [hx], hd x hx⟩
    · intro _
      refine ⟨by simp, ?_⟩
      show (if to = to then s.d a + 1 else s.d to) ≤ (if a = to then s.d a + 1 else s.d a) + 1
      rw [if_pos rfl, hd a haq]; exact Nat.le_refl _
  · rw [if_neg hc]
    refine ⟨h, fun _ _ => rfl, Nat.le_refl _, fun x hx => ⟨hx, rfl⟩, fun he => ?_⟩
    have hm : to ∈ s.q := by
      rw [he, Bool.true_and] at hc
      simpa using hc
    exact ⟨hm, h.band to hm a had⟩
theorem bok_row {E : Rel} {n k a : Nat} {s : BSt} (h : BOk E n k s) (hk : k < s.q.length) (ha : a = s.q.getD k 0) : ∀ j, j ≤ n →
    BOk E n k (bRow E a j s) ∧ (∀ i, i < s.q.length → (bRow E a j s).q.getD i 0 = s.q.getD i 0) ∧ s.q.length ≤ (bRow E a j s).q.length ∧ (∀ to, to < j → E a to = true → to ∈ (bRow E a j s).q ∧ (bRow E a j s).d to ≤ (bRow E a j s).d a + 1)
  | 0, _ => ⟨h, fun _ _ => rfl, Nat.le_refl _, fun to ht => absurd ht (by omega)⟩
  | j + 1, hj => by
    obtain ⟨h1, h2, h3, h4⟩ := bok_row h hk ha j (by omega)
    have ha2 : a = (bRow E a j s).q.getD k 0 := by rw [h2 k hk]; exact ha
    obtain ⟨k1, k2, k3, k4, k5⟩ := bok_put (to := j) h1 (by omega) ha2 (by omega)
    have haq : a ∈ (bRow E a j s).q := by
      have := getD_in (l := (bRow E a j s).q) (k := k) (by omega)
      rwa [← ha2] at this
    refine ⟨k1, fun i hi => (k2 i (by omega)).trans (h2 i hi), by show s.q.length ≤ (bPut E a j (bRow E a j s)).q.length; omega, fun to ht he => ?_⟩
    by_cases e : to = j
    · subst e; exact k5 he
    · obtain ⟨m1, m2⟩ := h4 to (by omega) he
      obtain ⟨p1, p2⟩ := k4 to m1
      obtain ⟨-, p3⟩ := k4 a haq
      refine ⟨p1, ?_⟩
      show (bPut E a j (bRow E a j s)).d to ≤ (bPut E a j (bRow E a j s)).d a + 1
      rw [p2, p3]; exact m2
theorem bok_next {E : Rel} {n k a : Nat} {s : BSt} (h : BOk E n k s) (hk : k < s.q.length) (ha : a = s.q.getD k 0) : BOk E n (k + 1) (bRow E a n s) := by
  obtain ⟨h1, h2, h3, h4⟩ := bok_row h hk ha n (Nat.le_refl _)
  refine ⟨h1.zero, h1.nodup, h1.lt, h1.mono, fun x hx y hy => h1.band x hx y ?_, fun x hx to ht he => ?_⟩
  · rw [← List.drop_drop] at hy
    exact List.mem_of_mem_drop hy
  · rw [List.take_add_one] at hx
    rcases List.mem_append.1 hx with hx | hx
    · exact h1.closed x hx to ht he
    · have : x = a := by
        have e2 : (bRow E a n s).q.getD k 0 = a := by rw [h2 k hk]; exact ha.symm
        rw [List.getElem?_eq_getElem (by omega)] at hx
        simp only [Option.toList_some, List.mem_singleton] at hx
        rw [hx]
        refine Eq.trans ?_ e2
        rw [List.getD, List.getElem?_eq_getElem (by omega)]; rfl
      subst this
      exact h4 to ht he
theorem bok_all {E : Rel} {n : Nat} (hn : 0 < n) : ∀ k, k ≤ (bAll E n k).q.length → BOk E n k (bAll E n k)
  | 0, _ => bok_zero hn
  | k + 1, hk => by
    by_cases h : k < (bAll E n k).q.length
    · have ih := bok_all (E := E) hn k (by omega)
      simp only [bAll, if_pos h]
      exact bok_next ih h rfl
    · simp only [bAll, if_neg h] at hk
      omega
theorem bAll_stays {E : Rel} {n k : Nat} (h : k = (bAll E n k).q.length) : ∀ j, bAll E n (k + j) = bAll E n k
  | 0 => rfl
  | j + 1 => by
    have ih := bAll_stays h j
    show bAll E n (k + j + 1) = _
    simp only [bAll]
    rw [ih, if_neg (by omega)]
/-- The end of the search, from whichever number of rounds it is told. -/
theorem bAll_end {E : Rel} {n k : Nat} (hn : 0 < n) (h : k = (bAll E n k).q.length) : bAll E n n = bAll E n k ∧ k ≤ n := by
  have hk : k ≤ n := by
    have := (bok_all (E := E) hn k (by omega)).len
    omega
  obtain ⟨j, rfl⟩ : ∃ j, n = k + j := ⟨n - k, by omega⟩
  exact ⟨bAll_stays h j, hk⟩
/-- At its end the search has all that is reached, and edges go at most one further. -/
theorem bAll_facts {E : Rel} {n k : Nat} (hn : 0 < n) (h : k = (bAll E n k).q.length) : 0 ∈ (bAll E n k).q ∧ (∀ x ∈ (bAll E n k).q, ∀ to, to < n → E x to = true → to ∈ (bAll E n k).q ∧ (bAll E n k).d to ≤ (bAll E n k).d x + 1) := by
  have hb := bok_all (E := E) hn k (by omega)
  refine ⟨hb.zero, fun x hx => hb.closed x ?_⟩
  rw [List.take_of_length_le (by omega)]; exact hx
end Go.Proofs.Ytleabblnikbmpaa
