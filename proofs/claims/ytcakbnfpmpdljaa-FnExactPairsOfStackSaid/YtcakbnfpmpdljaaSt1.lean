/- Lists of numbers in lexicographic order; equal neighbours struck. -/
import Derived.Test.YtcakbnfpmpdljaaSt0
import Derived.Sort.Statements
namespace Go.Proofs.Ytcakbnfpmpdljaa
set_option linter.unusedVariables false
set_option linter.unusedSimpArgs false
open Go.Sort

/-- The first list comes before the second one. -/
def ltL : List Int → List Int → Bool
  | _, [] => false
  | [], _ :: _ => true
  | x :: r, y :: s => decide (x < y) || (decide (x = y) && ltL r s)
def cmpL (a b : List Int) : Int := if ltL a b = true then -1 else if ltL b a = true then 1 else 0
theorem ltL_irrefl : ∀ a, ltL a a = false
  | [] => rfl
  | x :: r => by simp [ltL, ltL_irrefl r]
theorem ltL_trans : ∀ a b c, ltL a b = true → ltL b c = true → ltL a c = true
  | _, [], _, h, _ => by simp [ltL] at h
  | _, _ :: _, [], _, h => by simp [ltL] at h
  | [], _ :: _, _ :: _, _, _ => rfl
  | x :: r, y :: s, z :: t, h, k => by
    simp only [ltL, Bool.or_eq_true, Bool.and_eq_true, decide_eq_true_eq] at *
    rcases h with h | ⟨rfl, h⟩
    · rcases k with k | ⟨rfl, k⟩
      · exact .inl (by omega)
      · exact .inl h
    · rcases k with k | ⟨rfl, k⟩
      · exact .inl k
      · exact .inr ⟨rfl, ltL_trans r s t h k⟩
theorem ltL_tri : ∀ a b, ltL a b = false → ltL b a = false → a = b
  | [], [], _, _ => rfl
  | [], _ :: _, h, _ => by simp [ltL] at h
  | _ :: _, [], _, h => by simp [ltL] at h
  | x :: r, y :: s, h, k => by
    simp only [ltL, Bool.or_eq_false_iff, Bool.and_eq_false_iff, decide_eq_false_iff_not] at h k
    have e : x = y := by omega
    subst e
    rw [ltL_tri r s (by rcases h.2 with h | h; exact absurd rfl h; exact h) (by rcases k.2 with h | h; exact absurd rfl h; exact h)]
theorem ltL_asym {a b : List Int} (h : ltL a b = true) : ltL b a = false := by
  cases k : ltL b a with
  | false => rfl
  | true => have := ltL_trans a b a h k; rw [ltL_irrefl] at this; cases this
theorem lt_cmpL (a b : List Int) : decide (cmpL a b < 0) = ltL a b := by
  unfold cmpL
  by_cases h : ltL a b = true
  · simp [h]
  · have h' : ltL a b = false := by simpa using h
    by_cases g : ltL b a = true <;> simp [h', g]
theorem cmpL_zero {a b : List Int} : cmpL a b = 0 ↔ a = b := by
  constructor
  · intro h
    unfold cmpL at h
    by_cases h1 : ltL a b = true
    · simp [h1] at h
    · by_cases h2 : ltL b a = true
      · simp [h1, h2] at h
      · exact ltL_tri a b (by simpa using h1) (by simpa using h2)
  · rintro rfl
    simp [cmpL, ltL_irrefl]
theorem cmpL_cons_lt {x y : Int} (h : x < y) (r s : List Int) : cmpL (x :: r) (y :: s) = -1 := by simp [cmpL, ltL, h]
theorem cmpL_cons_gt {x y : Int} (h : y < x) (r s : List Int) : cmpL (x :: r) (y :: s) = 1 := by
  have h1 : ¬ x < y := by omega
  have h2 : ¬ x = y := by omega
  simp [cmpL, ltL, h, h1, h2]
theorem cmpL_cons_eq (x : Int) (r s : List Int) : cmpL (x :: r) (x :: s) = cmpL r s := by simp [cmpL, ltL]
theorem cmpL_drop {xs ys : List Int} {k : Nat} (hx : k ≤ xs.length) (hy : k ≤ ys.length) (h : ∀ j, j < k → xs.getD j 0 = ys.getD j 0) : cmpL xs ys = cmpL (xs.drop k) (ys.drop k) := by
  induction k generalizing xs ys with
  | zero => simp
  | succ k ih =>
    cases xs with
    | nil => simp at hx
    | cons x r =>
      cases ys with
      | nil => simp at hy
      | cons y s =>
        have h0 := h 0 (by omega)
        simp only [List.getD_cons_zero] at h0
        subst h0
        rw [cmpL_cons_eq, List.drop_succ_cons, List.drop_succ_cons]
        exact ih (by simpa using hx) (by simpa using hy) fun j hj => by simpa using h (j + 1) (by omega)
theorem drop_cons {xs : List Int} {k : Nat} (h : k < xs.length) : xs.drop k = xs.getD k 0 :: xs.drop (k + 1) := by
  rw [List.drop_eq_getElem_cons h]
  simp [List.getD, h]

/-- A row in memory: where it lies, how much room it has, and its numbers. -/
structure El where
  A : Option Addr
  q : Nat
  xs : List Int
instance : Inhabited El := ⟨⟨none, 0, []⟩⟩
def El.v (e : El) : Value := .slice e.A e.xs.length e.q
def E0 : El := ⟨none, 0, []⟩
theorem el_get {d : List El} {k : Nat} (h : k < d.length) : d.getD k E0 = d[k] := by simp [List.getD, h]

/-- The first of each run of equal neighbours among the first so many rows. -/
def cpt (d : List El) : Nat → List El
  | 0 => []
  | j + 1 => if 0 < j ∧ (d.getD j E0).xs = (d.getD (j - 1) E0).xs then cpt d j else cpt d j ++ [d.getD j E0]
theorem cpt_zero (d : List El) : cpt d 0 = [] := rfl
theorem cpt_skip {d : List El} {j : Nat} (hj : 0 < j) (h : (d.getD j E0).xs = (d.getD (j - 1) E0).xs) : cpt d (j + 1) = cpt d j := by
  show (if _ then _ else _) = _
  rw [if_pos ⟨hj, h⟩]
theorem cpt_take {d : List El} {j : Nat} (h : j = 0 ∨ ¬ (d.getD j E0).xs = (d.getD (j - 1) E0).xs) : cpt d (j + 1) = cpt d j ++ [d.getD j E0] := by
  show (if _ then _ else _) = _
  rw [if_neg (fun h2 => by rcases h with h | h; exact absurd h2.1 (by omega); exact h h2.2)]
theorem cpt_len (d : List El) : ∀ j, (cpt d j).length ≤ j
  | 0 => Nat.le_refl _
  | j + 1 => by
    have := cpt_len d j
    show (if _ then _ else _ : List El).length ≤ _
    split
    · omega
    · simp; omega
theorem cpt_pos (d : List El) : ∀ j, 0 < j → 0 < (cpt d j).length
  | 0, h => absurd h (by omega)
  | 1, _ => by rw [cpt_take (.inl rfl)]; simp
  | j + 2, _ => by
    have := cpt_pos d (j + 1) (by omega)
    by_cases h : (d.getD (j + 1) E0).xs = (d.getD (j + 1 - 1) E0).xs
    · rw [cpt_skip (by omega) h]; exact this
    · rw [cpt_take (.inr h)]; simp
/-- No two equal neighbours: all stand. -/
theorem cpt_id {d : List El} : ∀ {j}, j ≤ d.length → (∀ i, 0 < i → i < j → ¬ (d.getD i E0).xs = (d.getD (i - 1) E0).xs) → cpt d j = d.take j
  | 0, _, _ => rfl
  | j + 1, hj, h => by
    rw [cpt_take (by rcases Nat.eq_zero_or_pos j with e | e; exact .inl e; exact .inr (h j e (by omega))), cpt_id (by omega) (fun i h1 h2 => h i h1 (by omega)), List.take_succ_eq_append_getElem (by omega), el_get (by omega)]
theorem cpt_sub (d : List El) : ∀ {j}, j ≤ d.length → (cpt d j).Sublist (d.take j)
  | 0, _ => List.Sublist.refl _
  | j + 1, hj => by
    have ih := cpt_sub d (j := j) (by omega)
    rw [List.take_succ_eq_append_getElem (show j < d.length by omega)]
    show (if _ then _ else _ : List El).Sublist _
    split
    · exact ih.trans (List.sublist_append_left _ _)
    · rw [el_get (by omega)]
      exact ih.append (List.Sublist.refl _)
theorem cpt_last (d : List El) : ∀ j, 0 < j → ∃ l e, cpt d j = l ++ [e] ∧ e.xs = (d.getD (j - 1) E0).xs
  | 0, h => absurd h (by omega)
  | 1, _ => ⟨[], d.getD 0 E0, cpt_take (.inl rfl), rfl⟩
  | j + 2, _ => by
    by_cases h : (d.getD (j + 1) E0).xs = (d.getD (j + 1 - 1) E0).xs
    · obtain ⟨l, e, h1, h2⟩ := cpt_last d (j + 1) (by omega)
      exact ⟨l, e, by rw [cpt_skip (by omega) h, h1], by rw [h2]; exact h.symm⟩
    · exact ⟨cpt d (j + 1), d.getD (j + 1) E0, cpt_take (.inr h), rfl⟩
theorem cpt_mem {d : List El} : ∀ {j}, j ≤ d.length → ∀ i, i < j → ∃ e ∈ cpt d j, e.xs = (d.getD i E0).xs
  | 0, _, i, hi => absurd hi (by omega)
  | j + 1, hj, i, hi => by
    by_cases hij : i < j
    · obtain ⟨e, he, hx⟩ := cpt_mem (d := d) (j := j) (by omega) i hij
      refine ⟨e, ?_, hx⟩
      show e ∈ (if _ then _ else _ : List El)
      split
      · exact he
      · exact List.mem_append_left _ he
    · obtain rfl : i = j := by omega
      obtain ⟨l, e, h1, h2⟩ := cpt_last d (i + 1) (by omega)
      exact ⟨e, by rw [h1]; simp, h2⟩
/-- Out of rows in order, rows in order, no two equal. -/
theorem cpt_asc {d : List El} (hs : ∀ i j, i < j → j < d.length → ltL (d.getD j E0).xs (d.getD i E0).xs = false) : ∀ {j}, j ≤ d.length → (cpt d j).Pairwise (fun a b => ltL a.xs b.xs = true) ∧ ∀ e ∈ cpt d j, ∃ i, i < j ∧ e = d.getD i E0
  | 0, _ => ⟨List.Pairwise.nil, fun e he => by simp [cpt] at he⟩
  | j + 1, hj => by
    obtain ⟨h1, h2⟩ := cpt_asc hs (j := j) (by omega)
    by_cases h : j = 0 ∨ ¬ (d.getD j E0).xs = (d.getD (j - 1) E0).xs
    · rw [cpt_take h]
      refine ⟨List.pairwise_append.2 ⟨h1, by simp, fun a ha b hb => ?_⟩, fun e he => ?_⟩
      · simp only [List.mem_singleton] at hb
        subst hb
        obtain ⟨i, hi, rfl⟩ := h2 a ha
        have h3 := hs i j hi (by omega)
        cases h4 : ltL (d.getD i E0).xs (d.getD j E0).xs with
        | true => rfl
        | false =>
          exfalso
          have e1 := ltL_tri _ _ h4 h3
          rcases h with h | h
          · omega
          · rcases Nat.lt_or_ge i (j - 1) with hlt | hge
            · have h5 := hs i (j - 1) hlt (by omega)
              have h6 := hs (j - 1) j (by omega) (by omega)
              rw [e1] at h5
              exact h (ltL_tri _ _ h6 h5)
            · obtain rfl : i = j - 1 := by omega
              exact h e1.symm
      · rcases List.mem_append.1 he with he | he
        · obtain ⟨i, hi, e1⟩ := h2 e he
          exact ⟨i, by omega, e1⟩
        · simp only [List.mem_singleton] at he
          exact ⟨j, by omega, he⟩
    · have h5 : 0 < j ∧ (d.getD j E0).xs = (d.getD (j - 1) E0).xs := by
        refine ⟨by omega, ?_⟩
        by_cases e : (d.getD j E0).xs = (d.getD (j - 1) E0).xs
        · exact e
        · exact absurd (.inr e) h
      rw [cpt_skip h5.1 h5.2]
      exact ⟨h1, fun e he => by obtain ⟨i, hi, e1⟩ := h2 e he; exact ⟨i, by omega, e1⟩⟩
/-- Two such lists of the same rows are one. -/
theorem ascL_eq {l m : List (List Int)} (hl : l.Pairwise fun a b => ltL a b = true) (hm : m.Pairwise fun a b => ltL a b = true) (h : ∀ y, y ∈ l ↔ y ∈ m) : l = m := by
  induction l generalizing m with
  | nil =>
    cases m with
    | nil => rfl
    | cons y r => have := (h y).2 (by simp); cases this
  | cons x r ih =>
    cases m with
    | nil => have := (h x).1 (by simp); cases this
    | cons y s =>
      obtain ⟨hx, hr⟩ := List.pairwise_cons.1 hl
      obtain ⟨hy, hs⟩ := List.pairwise_cons.1 hm
      have hxy : x = y := by
        rcases List.mem_cons.1 ((h x).1 (by simp)) with e | e
        · exact e
        · rcases List.mem_cons.1 ((h y).2 (by simp)) with e' | e'
          · exact e'.symm
          · have h1 := hy x e
            have h2 := hx y e'
            rw [ltL_asym h1] at h2
            cases h2
      subst hxy
      congr 1
      refine ih hr hs fun z => ⟨fun hz => ?_, fun hz => ?_⟩
      · rcases List.mem_cons.1 ((h z).1 (by simp [hz])) with e | e
        · subst e
          have := hx z hz
          rw [ltL_irrefl] at this
          cases this
        · exact e
      · rcases List.mem_cons.1 ((h z).2 (by simp [hz])) with e | e
        · subst e
          have := hy z hz
          rw [ltL_irrefl] at this
          cases this
        · exact e
/-- A pair of colours, told by one number. -/
def dec (c : Int) : List Int := [c / 16, c % 16]
theorem dec_lt {a b : Int} (h : a < b) : ltL (dec a) (dec b) = true := by
  simp only [dec, ltL, Bool.or_eq_true, Bool.and_eq_true, decide_eq_true_eq]
  omega
theorem dec_of {x y : Int} (hy : 0 ≤ y ∧ y < 16) : dec (16 * x + y) = [x, y] := by
  simp only [dec]
  congr 1
  · omega
  · congr 1; omega
theorem ltL_dec (a b : Int) : ltL (dec a) (dec b) = decide (a < b) := by
  by_cases h : a < b
  · rw [dec_lt h]; simp [h]
  · by_cases e : a = b
    · subst e; simp [ltL_irrefl]
    · rw [ltL_asym (dec_lt (show b < a by omega))]; simp [h]
/-- Rows in order, no two equal, of the codes of a list: the decoded codes in order. -/
theorem rows_codes {l : List (List Int)} {cs : List Int} (hl : l.Pairwise fun a b => ltL a b = true) (h : ∀ y, y ∈ l ↔ ∃ c ∈ cs, y = dec c) : l = (sortI cs).map dec := by
  refine ascL_eq hl ?_ fun y => ?_
  · rw [List.pairwise_map]
    exact (sortI_asc cs).imp fun h => dec_lt h
  · rw [h, List.mem_map]
    exact ⟨fun ⟨c, hc, e⟩ => ⟨c, sortI_mem.2 hc, e.symm⟩, fun ⟨c, hc, e⟩ => ⟨c, sortI_mem.1 hc, e.symm⟩⟩
end Go.Proofs.Ytcakbnfpmpdljaa
