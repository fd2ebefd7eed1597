/- Stacks of two sets of tiles, and numbers in ascending order: plain lists. -/
import Derived.Test.YtleabblnikbmpaaSort
import Derived.Test.YtleabblnikbmpaaAppI
import Derived.Lib.Hide
import Derived.Sort.Statements
import Derived.Test.YtleabblnikbmpaaAppT
import Derived.Test.YtleabblnikbmpaaAppR
import Derived.Test.YtleabblnikbmpaaCut2
namespace Go.Proofs.Ytleabblnikbmpaa
section
set_option linter.unusedVariables false
set_option linter.unusedSimpArgs false

/-- x put into an ascending list, once. -/
def insI (x : Int) : List Int → List Int
  | [] => [x]
  | y :: r => if x < y then x :: y :: r else if y < x then y :: insI x r else y :: r
/-- The different numbers of a list, ascending. -/
def sortI (xs : List Int) : List Int := xs.foldr insI []
def AscI (l : List Int) : Prop := l.Pairwise fun a b => a < b
theorem insI_mem {x y : Int} {l : List Int} : y ∈ insI x l ↔ y = x ∨ y ∈ l := by
  induction l with
  | nil => simp [insI]
  | cons z r ih =>
    unfold insI
    split
    · simp
    · split
      · simp only [List.mem_cons, ih]
        exact ⟨fun h => by rcases h with h | h | h <;> simp [h], fun h => by rcases h with h | h | h <;> simp [h]⟩
      · have : x = z := by omega
        subst this
        simp
theorem insI_asc {x : Int} {l : List Int} (h : AscI l) : AscI (insI x l) := by
  induction l with
  | nil => simp [insI, AscI]
  | cons z r ih =>
    obtain ⟨h1, h2⟩ := List.pairwise_cons.1 h
    unfold insI
    split
    · rename_i hb
      exact List.pairwise_cons.2 ⟨fun y hy => by
        rcases List.mem_cons.1 hy with rfl | hy
        · exact hb
        · have := h1 y hy; omega, h⟩
    · split
      · rename_i hb
        refine List.pairwise_cons.2 ⟨fun y hy => ?_, ih h2⟩
        rcases insI_mem.1 hy with rfl | hy
        · exact hb
        · exact h1 y hy
      · exact h
theorem sortI_mem {xs : List Int} {y : Int} : y ∈ sortI xs ↔ y ∈ xs := by
  induction xs with
  | nil => simp [sortI]
  | cons x r ih => show y ∈ insI x (sortI r) ↔ _; rw [insI_mem, ih, List.mem_cons]
theorem sortI_asc (xs : List Int) : AscI (sortI xs) := by
  induction xs with
  | nil => exact List.Pairwise.nil
  | cons x r ih => exact insI_asc ih
/-- Two ascending lists of the same numbers are one. -/
theorem ascI_eq {l m : List Int} (hl : AscI l) (hm : AscI m) (h : ∀ y, y ∈ l ↔ y ∈ m) : l = m := by
  induction l generalizing m with
  | nil =>
    cases m with
    | nil => rfl
    | cons y r => have := (h y).2 (by simp); cases this
  | cons x r ih =>
    cases m with
    | nil => have := (h x).1 (by simp); cases this
    | cons y s =>
      obtain ⟨hx, hr⟩ := List.pairwise_cons.1 hl
      obtain ⟨hy, hs⟩ := List.pairwise_cons.1 hm
      have hxy : x = y := by
        rcases List.mem_cons.1 ((h x).1 (by simp)) with e | e
        · exact e
        · rcases List.mem_cons.1 ((h y).2 (by simp)) with e' | e'
          · exact e'.symm
          · have h1 := hy x e
            have h2 := hx y e'
            omega
      subst hxy
      congr 1
      refine ih hr hs fun z => ⟨fun hz => ?_, fun hz => ?_⟩
      · rcases List.mem_cons.1 ((h z).1 (by simp [hz])) with e | e
        · subst e
          have := hx z hz
          omega
        · exact e
      · rcases List.mem_cons.1 ((h z).2 (by simp [hz])) with e | e
        · subst e
          have := hy z hz
          omega
        · exact e
theorem sortI_eq {xs l : List Int} (h : AscI l) (hm : ∀ y, y ∈ l ↔ y ∈ xs) : l = sortI xs := ascI_eq h (sortI_asc xs) fun y => by rw [hm, sortI_mem]
theorem sortI_short {xs : List Int} (h : xs.length < 2) : sortI xs = xs := by
  match xs, h with
  | [], _ => rfl
  | [x], _ => rfl
theorem insI_len (x : Int) (l : List Int) : (insI x l).length ≤ l.length + 1 := by
  induction l with
  | nil => simp [insI]
  | cons z r ih =>
    unfold insI
    split
    · simp
    · split
      · simp only [List.length_cons]; omega
      · simp
theorem sortI_len (xs : List Int) : (sortI xs).length ≤ xs.length := by
  induction xs with
  | nil => simp [sortI]
  | cons x r ih => show (insI x (sortI r)).length ≤ _; have := insI_len x (sortI r); simp only [List.length_cons]; omega

/-- How many numbers of a list are less than n: its place there. -/
def rk (xs : List Int) (n : Int) : Nat := xs.countP fun x => decide (x < n)
theorem asc_lt {xs : List Int} (h : AscI xs) {i j : Nat} (hij : i < j) (hj : j < xs.length) : xs.getD i 0 < xs.getD j 0 := by
  have := List.pairwise_iff_getElem.1 h i j (by omega) hj hij
  simpa [List.getD, hj, show i < xs.length by omega] using this
/-- Where the search stops. -/
theorem rk_at {xs : List Int} {n : Int} {p : Nat} (hp : p ≤ xs.length) (hlo : ∀ j, j < p → xs.getD j 0 < n) (hhi : ∀ j, p ≤ j → j < xs.length → n ≤ xs.getD j 0) : rk xs n = p := by
  unfold rk
  induction xs generalizing p with
  | nil => simp at hp; simp [hp]
  | cons x r ih =>
    cases p with
    | zero =>
      rw [List.countP_eq_zero]
      intro y hy
      obtain ⟨t, ht, rfl⟩ := List.getElem_of_mem hy
      have := hhi t (Nat.zero_le _) ht
      rw [List.getD_eq_getElem?_getD, List.getElem?_eq_getElem ht, Option.getD_some] at this
      rw [decide_eq_true_eq]
      omega
    | succ p =>
      have h0 := hlo 0 (by omega)
      simp only [List.getD_cons_zero] at h0
      rw [List.countP_cons_of_pos (by simpa using h0), ih (p := p) (by simpa using hp) (fun j hj => by simpa using hlo (j + 1) (by omega)) (fun j h1 h2 => by simpa using hhi (j + 1) (by omega) (by simpa using h2))]
theorem mem_getD {xs : List Int} {n : Int} (h : n ∈ xs) : ∃ i, i < xs.length ∧ xs.getD i 0 = n := by
  obtain ⟨i, hi, rfl⟩ := List.getElem_of_mem h
  exact ⟨i, hi, by simp [List.getD, hi]⟩
theorem getD_mem {xs : List Int} {i : Nat} (h : i < xs.length) : xs.getD i 0 ∈ xs := by simp [List.getD, h]
theorem rk_lt {xs : List Int} {n : Int} (h : n ∈ xs) : rk xs n < xs.length := by
  unfold rk
  rw [List.countP_eq_length_filter]
  have : (xs.filter fun x => decide (x < n)).length < xs.length := by
    refine Nat.lt_of_le_of_ne (List.length_filter_le _ _) fun e => ?_
    have := List.length_filter_eq_length_iff.1 e n h
    simp at this
  exact this

/-- The stacked pairs of s above t, by the tile of s, and then by that of t. -/
def stk (ss ts : List Tl) : List (Tl × Tl) := ss.flatMap fun a => (ts.filter fun b => decide (a.2.2.2 = b.2.1)).map fun b => (a, b)
/-- The pairs of colours of a stacked pair at its west and its east, each as one number. -/
def cw (p : Tl × Tl) : Int := 16 * p.1.1 + p.2.1
def ce (p : Tl × Tl) : Int := 16 * p.1.2.2.1 + p.2.2.2.1
def codes (l : List (Tl × Tl)) : List Int := l.flatMap fun p => [cw p, ce p]
/-- The tile of a stacked pair. -/
def stT (ps : List Int) (p : Tl × Tl) : Tl := ((rk ps (cw p) : Int), p.1.2.1, (rk ps (ce p) : Int), p.2.2.2.2)
/-- The pairs of colours of a stack, in order. -/
def prs (ss ts : List Tl) : List Int := sortI (codes (stk ss ts))
def stkC (c d : Int) (ss ts : List Tl) : Int := max (max ((prs ss ts).length : Int) c) d
def stkT (ss ts : List Tl) : List Tl := sortT ((stk ss ts).map (stT (prs ss ts)))
theorem stk_len (ss ts : List Tl) : (stk ss ts).length ≤ ss.length * ts.length := by
  induction ss with
  | nil => simp [stk]
  | cons a r ih =>
    have : stk (a :: r) ts = ((ts.filter fun b => decide (a.2.2.2 = b.2.1)).map fun b => (a, b)) ++ stk r ts := by simp [stk]
    rw [this, List.length_append, List.length_map, List.length_cons, Nat.succ_mul]
    have := List.length_filter_le (fun b : Tl => decide (a.2.2.2 = b.2.1)) ts
    omega
theorem stk_mem {ss ts : List Tl} {p : Tl × Tl} (h : p ∈ stk ss ts) : p.1 ∈ ss ∧ p.2 ∈ ts ∧ p.1.2.2.2 = p.2.2.1 := by
  simp only [stk, List.mem_flatMap, List.mem_map, List.mem_filter] at h
  obtain ⟨a, ha, b, ⟨hb, e⟩, rfl⟩ := h
  exact ⟨ha, hb, by simpa using e⟩
theorem codes_len (l : List (Tl × Tl)) : (codes l).length = 2 * l.length := by
  induction l with
  | nil => rfl
  | cons p r ih => simp only [codes, List.flatMap_cons, List.length_append, List.length_cons, List.length_nil] at *; omega
theorem codes_snoc (l : List (Tl × Tl)) (p : Tl × Tl) : codes (l ++ [p]) = codes l ++ [cw p, ce p] := by simp [codes]
theorem cw_mem {l : List (Tl × Tl)} {p : Tl × Tl} (h : p ∈ l) : cw p ∈ codes l := by simp only [codes, List.mem_flatMap]; exact ⟨p, h, by simp⟩
theorem ce_mem {l : List (Tl × Tl)} {p : Tl × Tl} (h : p ∈ l) : ce p ∈ codes l := by simp only [codes, List.mem_flatMap]; exact ⟨p, h, by simp⟩
end

section
set_option linter.unusedVariables false
set_option linter.unusedSimpArgs false
open Go.Sort

/-- The first list comes before the second one. -/
def ltL : List Int → List Int → Bool
  | _, [] => false
  | [], _ :: _ => true
  | x :: r, y :: s => decide (x < y) || (decide (x = y) && ltL r s)
def cmpL (a b : List Int) : Int := if ltL a b = true then -1 else if ltL b a = true then 1 else 0
theorem ltL_irrefl : ∀ a, ltL a a = false
  | [] => rfl
  | x :: r => by simp [ltL, ltL_irrefl r]
theorem ltL_trans : ∀ a b c, ltL a b = true → ltL b c = true → ltL a c = true
  | _, [], _, h, _ => by simp [ltL] at h
  | _, _ :: _, [], _, h => by simp [ltL] at h
  | [], _ :: _, _ :: _, _, _ => rfl
  | x :: r, y :: s, z :: t, h, k => by
    simp only [ltL, Bool.or_eq_true, Bool.and_eq_true, decide_eq_true_eq] at *
    rcases h with h | ⟨rfl, h⟩
    · rcases k with k | ⟨rfl, k⟩
      · exact .inl (by omega)
      · exact .inl h
    · rcases k with k | ⟨rfl, k⟩
      · exact .inl k
      · exact .inr ⟨rfl, ltL_trans r s t h k⟩
theorem ltL_tri : ∀ a b, ltL a b = false → ltL b a = false → a = b
  | [], [], _, _ => rfl
  | [], _ :: _, h, _ => by simp [ltL] at h
  | _ :: _, [], _, h => by simp [ltL] at h
  | x :: r, y :: s, h, k => by
    simp only [ltL, Bool.or_eq_false_iff, Bool.and_eq_false_iff, decide_eq_false_iff_not] at h k
    have e : x = y := by omega
    subst e
    rw [ltL_tri r s (by rcases h.2 with h | h; exact absurd rfl h; exact h) (by rcases k.2 with h | h; exact absurd rfl h; exact h)]
theorem ltL_asym {a b : List Int} (h : ltL a b = true) : ltL b a = false := by
  cases k : ltL b a with
  | false => rfl
  | true => have := ltL_trans a b a h k; rw [ltL_irrefl] at this; cases this
theorem lt_cmpL (a b : List Int) : decide (cmpL a b < 0) = ltL a b := by
  unfold cmpL
  by_cases h : ltL a b = true
  · simp [h]
  · have h' : ltL a b = false := by simpa using h
    by_cases g : ltL b a = true <;> simp [h', g]
theorem cmpL_zero {a b : List Int} : cmpL a b = 0 ↔ a = b := by
  constructor
  · intro h
    unfold cmpL at h
    by_cases h1 : ltL a b = true
    · simp [h1] at h
    · by_cases h2 : ltL b a = true
      · simp [h1, h2] at h
      · exact ltL_tri a b (by simpa using h1) (by simpa using h2)
  · rintro rfl
    simp [cmpL, ltL_irrefl]
theorem cmpL_cons_lt {x y : Int} (h : x < y) (r s : List Int) : cmpL (x :: r) (y :: s) = -1 := by simp [cmpL, ltL, h]
theorem cmpL_cons_gt {x y : Int} (h : y < x) (r s : List Int) : cmpL (x :: r) (y :: s) = 1 := by
  have h1 : ¬ x < y := by omega
  have h2 : ¬ x = y := by omega
  simp [cmpL, ltL, h, h1, h2]
theorem cmpL_cons_eq (x : Int) (r s : List Int) : cmpL (x :: r) (x :: s) = cmpL r s := by simp [cmpL, ltL]
theorem cmpL_drop {xs ys : List Int} {k : Nat} (hx : k ≤ xs.length) (hy : k ≤ ys.length) (h : ∀ j, j < k → xs.getD j 0 = ys.getD j 0) : cmpL xs ys = cmpL (xs.drop k) (ys.drop k) := by
  induction k generalizing xs ys with
  | zero => simp
  | succ k ih =>
    cases xs with
    | nil => simp at hx
    | cons x r =>
      cases ys with
      | nil => simp at hy
      | cons y s =>
        have h0 := h 0 (by omega)
        simp only [List.getD_cons_zero] at h0
        subst h0
        rw [cmpL_cons_eq, List.drop_succ_cons, List.drop_succ_cons]
        exact ih (by simpa using hx) (by simpa using hy) fun j hj => by simpa using h (j + 1) (by omega)
theorem drop_cons {xs : List Int} {k : Nat} (h : k < xs.length) : xs.drop k = xs.getD k 0 :: xs.drop (k + 1) := by
  rw [List.drop_eq_getElem_cons h]
  simp [List.getD, h]

/-- A row in memory: where it lies, how much room it has, and its numbers. -/
structure El where
  A : Option Addr
  q : Nat
  xs : List Int
instance : Inhabited El := ⟨⟨none, 0, []⟩⟩
def El.v (e : El) : Value := .slice e.A e.xs.length e.q
def E0 : El := ⟨none, 0, []⟩
theorem el_get {d : List El} {k : Nat} (h : k < d.length) : d.getD k E0 = d[k] := by simp [List.getD, h]

/-- The first of each run of equal neighbours among the first so many rows. -/
def cpt (d : List El) : Nat → List El
  | 0 => []
  | j + 1 => if 0 < j ∧ (d.getD j E0).xs = (d.getD (j - 1) E0).xs then cpt d j else cpt d j ++ [d.getD j E0]
theorem cpt_zero (d : List El) : cpt d 0 = [] := rfl
theorem cpt_skip {d : List El} {j : Nat} (hj : 0 < j) (h : (d.getD j E0).xs = (d.getD (j - 1) E0).xs) : cpt d (j + 1) = cpt d j := by
  show (if _ then _ else _) = _
  rw [if_pos ⟨hj, h⟩]
theorem cpt_take {d : List El} {j : Nat} (h : j = 0 ∨ ¬ (d.getD j E0).xs = (d.getD (j - 1) E0).xs) : cpt d (j + 1) = cpt d j ++ [d.getD j E0] := by
  show (if _ then _ else _) = _
  rw [if_neg (fun h2 => by rcases h with h | h; exact absurd h2.1 (by omega); exact h h2.2)]
theorem cpt_len (d : List El) : ∀ j, (cpt d j).length ≤ j
  | 0 => Nat.le_refl _
  | j + 1 => by
    have := cpt_len d j
    show (if _ then _ else _ : List El).length ≤ _
    split
    · omega
    · simp; omega
theorem cpt_pos (d : List El) : ∀ j, 0 < j → 0 < (cpt d j).length
  | 0, h => absurd h (by omega)
  | 1, _ => by rw [cpt_take (.inl rfl)]; simp
  | j + 2, _ => by
    have := cpt_pos d (j + 1) (by omega)
    by_cases h : (d.getD (j + 1) E0).xs = (d.getD (j + 1 - 1) E0).xs
    · rw [cpt_skip (by omega) h]; exact this
    · rw [cpt_take (.inr h)]; simp
/-- No two equal neighbours: all stand. -/
theorem cpt_id {d : List El} : ∀ {j}, j ≤ d.length → (∀ i, 0 < i → i < j → ¬ (d.getD i E0).xs = (d.getD (i - 1) E0).xs) → cpt d j = d.take j
  | 0, _, _ => rfl
  | j + 1, hj, h => by
    rw [cpt_take (by rcases Nat.eq_zero_or_pos j with e | e; exact .inl e; exact .inr (h j e (by omega))), cpt_id (by omega) (fun i h1 h2 => h i h1 (by omega)), List.take_succ_eq_append_getElem (by omega), el_get (by omega)]
theorem cpt_sub (d : List El) : ∀ {j}, j ≤ d.length → (cpt d j).Sublist (d.take j)
  | 0, _ => List.Sublist.refl _
  | j + 1, hj => by
    have ih := cpt_sub d (j := j) (by omega)
    rw [List.take_succ_eq_append_getElem (show j < d.length by omega)]
    show (if _ then _ else _ : List El).Sublist _
    split
    · exact ih.trans (List.sublist_append_left _ _)
    · rw [el_get (by omega)]
      exact ih.append (List.Sublist.refl _)
theorem cpt_last (d : List El) : ∀ j, 0 < j → ∃ l e, cpt d j = l ++ [e] ∧ e.xs = (d.getD (j - 1) E0).xs
  | 0, h => absurd h (by omega)
  | 1, _ => ⟨[], d.getD 0 E0, cpt_take (.inl rfl), rfl⟩
  | j + 2, _ => by
    by_cases h : (d.getD (j + 1) E0).xs = (d.getD (j + 1 - 1) E0).xs
    · obtain ⟨l, e, h1, h2⟩ := cpt_last d (j + 1) (by omega)
      exact ⟨l, e, by rw [cpt_skip (by omega) h, h1], by rw [h2]; exact h.symm⟩
    · exact ⟨cpt d (j + 1), d.getD (j + 1) E0, cpt_take (.inr h), rfl⟩
theorem cpt_mem {d : List El} : ∀ {j}, j ≤ d.length → ∀ i, i < j → ∃ e ∈ cpt d j, e.xs = (d.getD i E0).xs
  | 0, _, i, hi => absurd hi (by omega)
  | j + 1, hj, i, hi => by
    by_cases hij : i < j
    · obtain ⟨e, he, hx⟩ := cpt_mem (d := d) (j := j) (by omega) i hij
      refine ⟨e, ?_, hx⟩
      show e ∈ (if _ then _ else _ : List El)
      split
      · exact he
      · exact List.mem_append_left _ he
    · obtain rfl : i = j := by omega
      obtain ⟨l, e, h1, h2⟩ := cpt_last d (i + 1) (by omega)
      exact ⟨e, by rw [h1]; simp, h2⟩
/-- Out of rows in order, rows in order, no two equal. -/
theorem cpt_asc {d : List El} (hs : ∀ i j, i < j → j < d.length → ltL (d.getD j E0).xs (d.getD i E0).xs = false) : ∀ {j}, j ≤ d.length → (cpt d j).Pairwise (fun a b => ltL a.xs b.xs = true) ∧ ∀ e ∈ cpt d j, ∃ i, i < j ∧ e = d.getD i E0
  | 0, _ => ⟨List.Pairwise.nil, fun e he => by simp [cpt] at he⟩
  | j + 1, hj => by
    obtain ⟨h1, h2⟩ := cpt_asc hs (j := j) (by omega)
    by_cases h : j = 0 ∨ ¬ (d.getD j E0).xs = (d.getD (j - 1) E0).xs
    · rw [cpt_take h]
      refine ⟨List.pairwise_append.2 ⟨h1, by simp, fun a ha b hb => ?_⟩, fun e he => ?_⟩
      · simp only [List.mem_singleton] at hb
        subst hb
        obtain ⟨i, hi, rfl⟩ := h2 a ha
        have h3 := hs i j hi (by omega)
        cases h4 : ltL (d.getD i E0).xs (d.getD j E0).xs with
        | true => rfl
        | false =>
          exfalso
          have e1 := ltL_tri _ _ h4 h3
          rcases h with h | h
          · omega
          · rcases Nat.lt_or_ge i (j - 1) with hlt | hge
            · have h5 := hs i (j - 1) hlt (by omega)
              have h6 := hs (j - 1) j (by omega) (by omega)
              rw [e1] at h5
              exact h (ltL_tri _ _ h6 h5)
            · obtain rfl : i = j - 1 := by omega
              exact h e1.symm
      · rcases List.mem_append.1 he with he | he
        · obtain ⟨i, hi, e1⟩ := h2 e he
          exact ⟨i, by omega, e1⟩
        · simp only [List.mem_singleton] at he
          exact ⟨j, by omega, he⟩
    · have h5 : 0 < j ∧ (d.getD j E0).xs = (d.getD (j - 1) E0).xs := by
        refine ⟨by omega, ?_⟩
        by_cases e : (d.getD j E0).xs = (d.getD (j - 1) E0).xs
        · exact e
        · exact absurd (.inr e) h
      rw [cpt_skip h5.1 h5.2]
      exact ⟨h1, fun e he => by obtain ⟨i, hi, e1⟩ := h2 e he; exact ⟨i, by omega, e1⟩⟩
/-- Two such lists of the same rows are one. -/
theorem ascL_eq {l m : List (List Int)} (hl : l.Pairwise fun a b => ltL a b = true) (hm : m.Pairwise fun a b => ltL a b = true) (h : ∀ y, y ∈ l ↔ y ∈ m) : l = m := by
  induction l generalizing m with
  | nil =>
    cases m with
    | nil => rfl
    | cons y r => have := (h y).2 (by simp); cases this
  | cons x r ih =>
    cases m with
    | nil => have := (h x).1 (by simp); cases this
    | cons y s =>
      obtain ⟨hx, hr⟩ := List.pairwise_cons.1 hl
      obtain ⟨hy, hs⟩ := List.pairwise_cons.1 hm
      have hxy : x = y := by
        rcases List.mem_cons.1 ((h x).1 (by simp)) with e | e
        · exact e
        · rcases List.mem_cons.1 ((h y).2 (by simp)) with e' | e'
          · exact e'.symm
          · have h1 := hy x e
            have h2 := hx y e'
            rw [ltL_asym h1] at h2
            cases h2
      subst hxy
      congr 1
      refine ih hr hs fun z => ⟨fun hz => ?_, fun hz => ?_⟩
      · rcases List.mem_cons.1 ((h z).1 (by simp [hz])) with e | e
        · subst e
          have := hx z hz
          rw [ltL_irrefl] at this
          cases this
        · exact e
      · rcases List.mem_cons.1 ((h z).2 (by simp [hz])) with e | e
        · subst e
          have := hy z hz
          rw [ltL_irrefl] at this
          cases this
        · exact e
/-- A pair of colours, told by one number. -/
def dec (c : Int) : List Int := [c / 16, c % 16]
theorem dec_lt {a b : Int} (h : a < b) : ltL (dec a) (dec b) = true := by
  simp only [dec, ltL, Bool.or_eq_true, Bool.and_eq_true, decide_eq_true_eq]
  omega
theorem dec_of {x y : Int} (hy : 0 ≤ y ∧ y < 16) : dec (16 * x + y) = [x, y] := by
  simp only [dec]
  congr 1
  · omega
  · congr 1; omega
theorem ltL_dec (a b : Int) : ltL (dec a) (dec b) = decide (a < b) := by
  by_cases h : a < b
  · rw [dec_lt h]; simp [h]
  · by_cases e : a = b
    · subst e; simp [ltL_irrefl]
    · rw [ltL_asym (dec_lt (show b < a by omega))]; simp [h]
/-- Rows in order, no two equal, of the codes of a list: the decoded codes in order. -/
theorem rows_codes {l : List (List Int)} {cs : List Int} (hl : l.Pairwise fun a b => ltL a b = true) (h : ∀ y, y ∈ l ↔ ∃ c ∈ cs, y = dec c) : l = (sortI cs).map dec := by
  refine ascL_eq hl ?_ fun y => ?_
  · rw [List.pairwise_map]
    exact (sortI_asc cs).imp fun h => dec_lt h
  · rw [h, List.mem_map]
    exact ⟨fun ⟨c, hc, e⟩ => ⟨c, sortI_mem.2 hc, e.symm⟩, fun ⟨c, hc, e⟩ => ⟨c, sortI_mem.1 hc, e.symm⟩⟩
end

section
set_option linter.unusedVariables false
set_option linter.unusedSimpArgs false
open Go.RowKit Go.Sort

def enc8 (p : Tl × Tl) : List Value := enc p.1 ++ enc p.2
def encA8 (p : Tl × Tl) : Array Value := #[.int .i64 p.1.1, .int .i64 p.1.2.1, .int .i64 p.1.2.2.1, .int .i64 p.1.2.2.2, .int .i64 p.2.1, .int .i64 p.2.2.1, .int .i64 p.2.2.2.1, .int .i64 p.2.2.2.2]
def flat8 (l : List (Tl × Tl)) : List Value := l.flatMap enc8
theorem flat8_snoc (l : List (Tl × Tl)) (p : Tl × Tl) : flat8 (l ++ [p]) = flat8 l ++ enc8 p := by simp [flat8]
theorem flat8_len (l : List (Tl × Tl)) : (flat8 l).length = l.length * 8 := by
  induction l with
  | nil => rfl
  | cons x r ih => simp only [flat8, List.flatMap_cons, List.length_append] at *; rw [ih]; simp [enc8, enc]; omega
theorem enc8_one (p : Tl × Tl) : ∀ u ∈ enc8 p, u.oneCell' = true := by
  intro u hu
  rcases List.mem_append.1 hu with h | h
  · exact enc_one _ u h
  · exact enc_one _ u h
theorem own_low {W : World} {base base' : Nat} {e : TypeId} {size : Nat} {v : Value} {k : Nat} {xs : List Value} (h : W.ownsRow base e size v k xs) (hb : base' ≤ base) : W.ownsRow base' e size v k xs := by
  refine ⟨h.1, ?_⟩
  rcases h.2 with hn | ⟨g, cap, cur, hv, hbg, rest⟩
  · exact .inl hn
  · exact .inr ⟨g, cap, cur, hv, Nat.le_trans hb hbg, rest⟩
def P0 : Tl × Tl := (T0, T0)
theorem flat8_get (l : List (Tl × Tl)) {k j : Nat} (hk : k < l.length) (hj : j < 8) : (flat8 l)[k * 8 + j]? = (enc8 (l.getD k P0))[j]? := by
  induction l generalizing k with
  | nil => simp at hk
  | cons x r ih =>
    have he : (enc8 x).length = 8 := rfl
    cases k with
    | zero => simp only [flat8, List.flatMap_cons, Nat.zero_mul, Nat.zero_add]; rw [List.getElem?_append_left (by omega)]; rfl
    | succ k =>
      have h := ih (k := k) (by simpa using hk)
      have e1 : (k + 1) * 8 + j - (enc8 x).length = k * 8 + j := by rw [he]; omega
      simp only [flat8, List.flatMap_cons]
      rw [List.getElem?_append_right (by rw [he]; omega), e1]
      simpa [flat8, List.getD] using h
/-- The pairs of one tile with the first k others. -/
def stkI (ts : List Tl) (a : Tl) (k : Nat) : List (Tl × Tl) := ((ts.take k).filter fun b => decide (a.2.2.2 = b.2.1)).map fun b => (a, b)
theorem stkO_succ {ss ts : List Tl} {i : Nat} (hi : i < ss.length) : stk (ss.take (i + 1)) ts = stk (ss.take i) ts ++ stkI ts (ss.getD i T0) ts.length := by
  unfold stk stkI
  rw [take_snoc ss hi, List.flatMap_append, List.take_length, List.flatMap_cons, List.flatMap_nil, List.append_nil]
theorem stkI_yes {ts : List Tl} {a : Tl} {k : Nat} (hk : k < ts.length) (h : a.2.2.2 = (ts.getD k T0).2.1) : stkI ts a (k + 1) = stkI ts a k ++ [(a, ts.getD k T0)] := by
  unfold stkI
  rw [take_snoc ts hk, List.filter_append, List.map_append]
  simp [h]
theorem stkI_no {ts : List Tl} {a : Tl} {k : Nat} (hk : k < ts.length) (h : ¬ a.2.2.2 = (ts.getD k T0).2.1) : stkI ts a (k + 1) = stkI ts a k := by
  unfold stkI
  rw [take_snoc ts hk, List.filter_append, List.map_append, List.filter_cons_of_neg (by rw [decide_eq_true_eq]; exact h)]
  simp
theorem stkI_len (ts : List Tl) (a : Tl) (k : Nat) : (stkI ts a k).length ≤ k := by
  unfold stkI
  rw [List.length_map]
  exact Nat.le_trans (List.length_filter_le _ _) (by rw [List.length_take]; omega)

end

section
set_option linter.unusedVariables false
set_option linter.unusedSimpArgs false
open Go.RowKit Go.Sort

set_option maxHeartbeats 1000000 in
theorem compareR_any (A A' : Option Addr) (n n' c c' : Nat) (xs ys : List Int) (w : World) (hn : n ≤ 1152921504606846976) (hn' : n' ≤ 1152921504606846976) (hl : xs.length = n) (hl' : ys.length = n') (hA : IR w w.heap.size A xs) (hA' : IR w w.heap.size A' ys) :
   Calls Try.prog 127 #[.slice A n c, .slice A' n' c'] w fun e w' => e = .returned (.int .i64 (cmpL xs ys)) ∧ w' = w := by
  generalize hr : cmpL xs ys = r
  have HR := Lib.hid hr
  clear hr
  go_enter Try.func127, Try.ntmps127
  go_wp2_with fail
  go_loop [11] (fun i => ∃ k : Nat, k ≤ n ∧ k ≤ n' ∧ i = .int .i64 k ∧ (∀ j, j < k → xs.getD j 0 = ys.getD j 0)) (fun i => n - (intOf i).toNat)
  case atStart => exact ⟨0, Nat.zero_le _, Nat.zero_le _, rfl, fun j hj => absurd hj (Nat.not_lt_zero _)⟩
  case round =>
    obtain ⟨k, hk, hk', rfl, heq⟩ := hrel
    have HD := Lib.hid (cmpL_drop (xs := xs) (ys := ys) (by omega) (by omega) heq)
    have H := Lib.hid heq
    clear heq
    by_cases hlt : k < n
    · by_cases hlt' : k < n'
      · obtain ⟨b, off, rfl, -, hc⟩ := hA (by omega)
        obtain ⟨b', off', rfl, -, hc'⟩ := hA' (by omega)
        replace hc := hc k (by omega)
        replace hc' := hc' k (by omega)
        clear hA hA'
        have hg : decide ((n' : Int) ≤ (k : Int)) = false := by simp; omega
        obtain ⟨x, hX⟩ : ∃ x, x = xs.getD k 0 := ⟨_, rfl⟩
        obtain ⟨y, hY⟩ : ∃ x, x = ys.getD k 0 := ⟨_, rfl⟩
        rw [← hX] at hc
        rw [← hY] at hc'
        have hc1 := HD.out
        rw [drop_cons (by omega), drop_cons (show k < ys.length by omega), ← hX, ← hY, HR.out] at hc1
        have HC := Lib.hid hc1
        clear hc1
        have EX := Lib.hid hX
        have EY := Lib.hid hY
        clear hX hY
        have hcon := fun W => compare_any x y W
        by_cases h1 : x < y
        · have e : cmpI x y = -1 := by simp [cmpI, h1]
          rw [e] at hcon
          have HCON := Lib.hid hcon
          clear hcon e
          go_wp2_with fail
          refine (HCON.out _).mono ?_
          rintro e w' ⟨rfl, rfl⟩
          go_wp2_with fail
          go_ret
          exact ⟨ret_i (by rw [HC.out]; exact (cmpL_cons_lt h1 _ _).symm), rfl⟩
        · by_cases h2 : y < x
          · have e : cmpI x y = 1 := by simp [cmpI, h1, h2]
            rw [e] at hcon
            have HCON := Lib.hid hcon
            clear hcon e
            go_wp2_with fail
            refine (HCON.out _).mono ?_
            rintro e w' ⟨rfl, rfl⟩
            go_wp2_with fail
            go_ret
            exact ⟨ret_i (by rw [HC.out]; exact (cmpL_cons_gt h2 _ _).symm), rfl⟩
          · have e : cmpI x y = 0 := by simp [cmpI, h1, h2]
            rw [e] at hcon
            have HCON := Lib.hid hcon
            have hxy : x = y := by omega
            have HXY := Lib.hid hxy
            clear hcon e hxy
            go_wp2_with fail
            refine (HCON.out _).mono ?_
            rintro e w' ⟨rfl, rfl⟩
            go_wp2_with fail
            go_round
            case rel =>
              refine ⟨k + 1, by omega, by omega, by go_num, ?_⟩
              intro j hj
              by_cases hjk : j = k
              · subst hjk
                rw [← EX.out, ← EY.out]
                exact HXY.out
              · exact H.out j (by omega)
            case measure => simp [intOf]; omega
      · have hg : decide ((n' : Int) ≤ (k : Int)) = true := by simp; omega
        obtain ⟨b, off, rfl, -, hc⟩ := hA (by omega)
        replace hc := hc k (by omega)
        clear hA hA'
        have hc1 := HD.out
        rw [drop_cons (by omega), show ys.drop k = [] by rw [List.drop_eq_nil_iff]; omega, HR.out] at hc1
        have HC := Lib.hid hc1
        clear hc1
        go_wp2_with fail
        go_ret
        exact ⟨ret_i (by rw [HC.out]; simp [cmpL, ltL]), rfl⟩
    · obtain rfl : k = n := by omega
      clear hA hA'
      have hc1 := HD.out
      rw [show xs.drop k = [] by rw [List.drop_eq_nil_iff]; omega, HR.out] at hc1
      by_cases hlt' : k < n'
      · rw [drop_cons (show k < ys.length by omega)] at hc1
        have HC := Lib.hid hc1
        clear hc1
        go_wp2_with fail
        go_ret
        exact ⟨ret_i (by rw [HC.out]; simp [cmpL, ltL]), rfl⟩
      · rw [show ys.drop k = [] by rw [List.drop_eq_nil_iff]; omega] at hc1
        have HC := Lib.hid hc1
        clear hc1
        go_wp2_with fail
        go_ret
        exact ⟨ret_i (by rw [HC.out]; simp [cmpL, ltL]), rfl⟩
end
end Go.Proofs.Ytleabblnikbmpaa
