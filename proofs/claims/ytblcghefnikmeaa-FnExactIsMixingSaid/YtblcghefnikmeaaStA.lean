/- Stacks of two sets of tiles, and numbers in ascending order: plain lists. -/
import Derived.Test.YtblcghefnikmeaaSort
import Derived.Test.YtblcghefnikmeaaAppI
import Derived.Lib.Hide
import Derived.Sort.Statements
import Derived.Test.YtblcghefnikmeaaAppT
import Derived.Test.YtblcghefnikmeaaAppR
import Derived.Test.YtblcghefnikmeaaCut2
namespace Go.Proofs.Ytblcghefnikmeaa
section
set_option linter.unusedVariables false
set_option linter.unusedSimpArgs false

/-- x put into an ascending list, once. -/
def insI (x : Int) : List Int → List Int
  | [] => [x]
  | y :: r => if x < y then x :: y :: r else if y < x then y :: insI x r else y :: r
/-- The different numbers of a list, ascending. -/
def sortI (xs : List Int) : List Int := xs.foldr insI []
def AscI (l : List Int) : Prop := l.Pairwise fun a b => a < b
theorem insI_mem {x y : Int} {l : List Int} : y ∈ insI x l ↔ y = x ∨ y ∈ l := by
  induction l with
  | nil => simp [insI]
  | cons z r ih =>
    unfold insI
    split
    · simp
    · split
      · simp only [List.mem_cons, ih]
        exact ⟨fun h => by rcases h with h | h | h <;> simp [h], fun h => by rcases h with h | h | h <;> simp [h]⟩
      · have : x = z := by omega
        subst this
        simp
theorem insI_asc {x : Int} {l : List Int} (h : AscI l) : AscI (insI x l) := by
  induction l with
  | nil => simp [insI, AscI]
  | cons z r ih =>
    obtain ⟨h1, h2⟩ := List.pairwise_cons.1 h
    unfold insI
    split
    · rename_i hb
      exact List.pairwise_cons.2 ⟨fun y hy => by
        rcases List.mem_cons.1 hy with rfl | hy
        · exact hb
        · have := h1 y hy; omega, h⟩
    · split
      · rename_i hb
        refine List.pairwise_cons.2 ⟨fun y hy => ?_, ih h2⟩
        rcases insI_mem.1 hy with rfl | hy
        · exact hb
        · exact h1 y hy
      · exact h
theorem sortI_mem {xs : List Int} {y : Int} : y ∈ sortI xs ↔ y ∈ xs := by
  induction xs with
  | nil => simp [sortI]
  | cons x r ih => show y ∈ insI x (sortI r) ↔ _; rw [insI_mem, ih, List.mem_cons]
theorem sortI_asc (xs : List Int) : AscI (sortI xs) := by
  induction xs with
  | nil => exact List.Pairwise.nil
  | cons x r ih => exact insI_asc ih
/-- Two ascending lists of the same numbers are one. -/
theorem ascI_eq {l m : List Int} (hl : AscI l) (hm : AscI m) (h : ∀ y, y ∈ l ↔ y ∈ m) : l = m := by
  induction l generalizing m with
  | nil =>
    cases m with
    | nil => rfl
    | cons y r => have := (h y).2 (by simp); cases this
  | cons x r ih =>
    cases m with
    | nil => have := (h x).1 (by simp); cases this
    | cons y s =>
      obtain ⟨hx, hr⟩ := List.pairwise_cons.1 hl
      obtain ⟨hy, hs⟩ := List.pairwise_cons.1 hm
      have hxy : x = y := by
        rcases List.mem_cons.1 ((h x).1 (by simp)) with e | e
        · exact e
        · rcases List.mem_cons.1 ((h y).2 (by simp)) with e' | e'
          · exact e'.symm
          · have h1 := hy x e
            have h2 := hx y e'
            omega
      subst hxy
      congr 1
      refine ih hr hs fun z => ⟨fun hz => ?_, fun hz => ?_⟩
      · rcases List.mem_cons.1 ((h z).1 (by simp [hz])) with e | e
        · subst e
          have := hx z hz
          omega
        · exact e
      · rcases List.mem_cons.1 ((h z).2 (by simp [hz])) with e | e
        · subst e
          have := hy z hz
          omega
        · exact e
theorem sortI_eq {xs l : List Int} (h : AscI l) (hm : ∀ y, y ∈ l ↔ y ∈ xs) : l = sortI xs := ascI_eq h (sortI_asc xs) fun y => by rw [hm, sortI_mem]
theorem sortI_short {xs : List Int} (h : xs.length < 2) : sortI xs = xs := by
  match xs, h with
  | [], _ => rfl
  | [x], _ => rfl
theorem insI_len (x : Int) (l : List Int) : (insI x l).length ≤ l.length + 1 := by
  induction l with
  | nil => simp [insI]
  | cons z r ih =>
    unfold insI
    split
    · simp
    · split
      · simp only [List.length_cons]; omega
      · simp
theorem sortI_len (xs : List Int) : (sortI xs).length ≤ xs.length := by
  induction xs with
  | nil => simp [sortI]
  | cons x r ih => show (insI x (sortI r)).length ≤ _; have := insI_len x (sortI r); simp only [List.length_cons]; omega

/-- How many numbers of a list are less than n: its place there. -/
def rk (xs : List Int) (n : Int) : Nat := xs.countP fun x => decide (x < n)
theorem asc_lt {xs : List Int} (h : AscI xs) {i j : Nat} (hij : i < j) (hj : j < xs.length) : xs.getD i 0 < xs.getD j 0 := by
  have := List.pairwise_iff_getElem.1 h i j (by omega) hj hij
  simpa [List.getD, hj, show i < xs.length by omega] using this
/-- Where the search stops. -/
theorem rk_at {xs : List Int} {n : Int} {p : Nat} (hp : p ≤ xs.length) (hlo : ∀ j, j < p → xs.getD j 0 < n) (hhi : ∀ j, p ≤ j → j < xs.length → n ≤ xs.getD j 0) : rk xs n = p := by
  unfold rk
  induction xs generalizing p with
  | nil => simp at hp; simp [hp]
  | cons x r ih =>
    cases p with
    | zero =>
      rw [List.countP_eq_zero]
      intro y hy
      obtain ⟨t, ht, rfl⟩ := List.getElem_of_mem hy
      have := hhi t (Nat.zero_le _) ht
      rw [List.getD_eq_getElem?_getD, List.getElem?_eq_getElem ht, Option.getD_some] at this
      rw [decide_eq_true_eq]
      omega
    | succ p =>
      have h0 := hlo 0 (by omega)
      simp only [List.getD_cons_zero] at h0
      rw [List.countP_cons_of_pos (by simpa using h0), ih (p := p) (by simpa using hp) (fun j hj => by simpa using hlo (j + 1) (by omega)) (fun j h1 h2 => by simpa using hhi (j + 1) (by omega) (by simpa using h2))]
theorem mem_getD {xs : List Int} {n : Int} (h : n ∈ xs) : ∃ i, i < xs.length ∧ xs.getD i 0 = n := by
  obtain ⟨i, hi, rfl⟩ := List.getElem_of_mem h
  exact ⟨i, hi, by simp [List.getD, hi]⟩
theorem getD_mem {xs : List Int} {i : Nat} (h : i < xs.length) : xs.getD i 0 ∈ xs := by simp [List.getD, h]
theorem rk_lt {xs : List Int} {n : Int} (h : n ∈ xs) : rk xs n < xs.length := by
  unfold rk
  rw [List.countP_eq_length_filter]
  have : (xs.filter fun x => decide (x < n)).length < xs.length := by
    refine Nat.lt_of_le_of_ne (List.length_filter_le _ _) fun e => ?_
    have := List.length_filter_eq_length_iff.1 e n h
    simp at this
  exact this

/-- The stacked pairs of s above t, by the tile of s, and then by that of t. -/
def stk (ss ts : List Tl) : List (Tl × Tl) := ss.flatMap fun a => (ts.filter fun b => decide (a.2.2.2 = b.2.1)).map fun b => (a, b)
/-- The pairs of colours of a stacked pair at its west and its east, each as one number. -/
def cw (p : Tl × Tl) : Int := 16 * p.1.1 + p.2.1
def ce (p : Tl × Tl) : Int := 16 * p.1.2.2.1 + p.2.2.2.1
def codes (l : List (Tl × Tl)) : List Int := l.flatMap fun p => [cw p, ce p]
/-- The tile of a stacked pair. -/
def stT (ps : List Int) (p : Tl × Tl) : Tl := ((rk ps (cw p) : Int), p.1.2.1, (rk ps (ce p) : Int), p.2.2.2.2)
/-- The pairs of colours of a stack, in order. -/
def prs (ss ts : List Tl) : List Int := sortI (codes (stk ss ts))
def stkC (c d : Int) (ss ts : List Tl) : Int := max (max ((prs ss ts).length : Int) c) d
def stkT (ss ts : List Tl) : List Tl := sortT ((stk ss ts).map (stT (prs ss ts)))
theorem stk_len (ss ts : List Tl) : (stk ss ts).length ≤ ss.length * ts.length := by
  induction ss with
  | nil => simp [stk]
  | cons a r ih =>
    have : stk (a :: r) ts = ((ts.filter fun b => decide (a.2.2.2 = b.2.1)).map fun b => (a, b)) ++ stk r ts := by simp [stk]
    rw [this, List.length_append, List.length_map, List.length_cons, Nat.succ_mul]
    have := List.length_filter_le (fun b : Tl => decide (a.2.2.2 = b.2.1)) ts
    omega
theorem stk_mem {ss ts : List Tl} {p : Tl × Tl} (h : p ∈ stk ss ts) : p.1 ∈ ss ∧ p.2 ∈ ts ∧ p.1.2.2.2 = p.2.2.1 := by
  simp only [stk, List.mem_flatMap, List.mem_map, List.mem_filter] at h
  obtain ⟨a, ha, b, ⟨hb, e⟩, rfl⟩ := h
  exact ⟨ha, hb, by simpa using e⟩
theorem codes_len (l : List (Tl × Tl)) : (codes l).length = 2 * l.length := by
  induction l with
  | nil => rfl
  | cons p r ih => simp only [codes, List.flatMap_cons, List.length_append, List.length_cons, List.length_nil] at *; omega
theorem codes_snoc (l : List (Tl × Tl)) (p : Tl × Tl) : codes (l ++ [p]) = codes l ++ [cw p, ce p] := by simp [codes]
theorem cw_mem {l : List (Tl × Tl)} {p : Tl × Tl} (h : p ∈ l) : cw p ∈ codes l := by simp only [codes, List.mem_flatMap]; exact ⟨p, h, by simp⟩
theorem ce_mem {l : List (Tl × Tl)} {p : Tl × Tl} (h : p ∈ l) : ce p ∈ codes l := by simp only [codes, List.mem_flatMap]; exact ⟨p, h, by simp⟩
end

section
set_option linter.unusedVariables false
set_option linter.unusedSimpArgs false
open Go.Sort

/-- The first list comes before the second one. -/
def ltL : List Int → List Int → Bool
  | _, [] => false
  | [], _ :: _ => true
  | x :: r, y :: s => decide (x < y) || (decide (x = y) && ltL r s)
def cmpL (a b : List Int) : Int := if ltL a b = true then -1 else if ltL b a = true then 1 else 0
theorem ltL_irrefl : ∀ a, ltL a a = false
  | [] => rfl
  | x :: r => by simp [ltL, ltL_irrefl r]
theorem ltL_trans : ∀ a b c, ltL a b = true → ltL b c = true → ltL a c = true
  | _, [], _, h, _ => by simp [ltL] at h
  | _, _ :: _, [], _, h => by simp [ltL] at h
  | [], _ :: _, _ :: _, _, _ => rfl
  | x :: r, y :: s, z :: t, h, k => by
    simp only [ltL, Bool.or_eq_true, Bool.and_eq_true, decide_eq_true_eq] at *
    rcases h with h | ⟨rfl, h⟩
    · rcases k with k | ⟨rfl, k⟩
      · exact .inl (by omega)
      · exact .inl h
    · rcases k with k | ⟨rfl, k⟩
      · exact .inl k
      · exact .inr ⟨rfl, ltL_trans r s t h k⟩
theorem ltL_tri : ∀ a b, ltL a b = false → ltL b a = false → a = b
  | [], [], _, _ => rfl
  | [], _ :: _, h, _ => by simp [ltL] at h
  | _ :: _, [], _, h => by simp [ltL] at h
  | x :: r, y :: s, h, k => by
    simp only [ltL, Bool.or_eq_false_iff, Bool.and_eq_false_iff, decide_eq_false_iff_not] at h k
    have e : x = y := by omega
    subst e
    rw [ltL_tri r s (by rcases h.2 with h | h; exact absurd rfl h; exact h) (by rcases k.2 with h | h; exact absurd rfl h; exact h)]
theorem ltL_asym {a b : List Int} (h : ltL a b = true) : ltL b a = false := by
  cases k : ltL b a with
  | false => rfl
  | true => have := ltL_trans a b a h k; rw [ltL_irrefl] at this; cases this
theorem lt_cmpL (a b : List Int) : decide (cmpL a b < 0) = ltL a b := by
  unfold cmpL
  by_cases h : ltL a b = true
  · simp [h]
  · have h' : ltL a b = false := by simpa using h
    by_cases g : ltL b a = true <;> simp [h', g]
theorem cmpL_zero {a b : List Int} : cmpL a b = 0 ↔ a = b := by
  constructor
  · intro h
    unfold cmpL at h
    by_cases h1 : ltL a b = true
    · simp [h1] at h
    · by_cases h2 : ltL b a = true
      · simp [h1, h2] at h
      · exact ltL_tri a b (by simpa using h1) (by simpa using h2)
  · rintro rfl
    simp [cmpL, ltL_irrefl]
theorem cmpL_cons_lt {x y : Int} (h : x < y) (r s : List Int) : cmpL (x :: r) (y :: s) = -1 := by simp [cmpL, ltL, h]
theorem cmpL_cons_gt {x y : Int} (h : y < x) (r s : List Int) : cmpL (x :: r) (y :: s) = 1 := by
  have h1 : ¬ x < y := by omega
  have h2 : ¬ x = y := by omega
  simp [cmpL, ltL, h, h1, h2]
theorem cmpL_cons_eq (x : Int) (r s : List Int) : cmpL (x :: r) (x :: s) = cmpL r s := by simp [cmpL, ltL]
theorem cmpL_drop {xs ys : List Int} {k : Nat} (hx : k ≤ xs.length) (hy : k ≤ ys.length) (h : ∀ j, j < k → xs.getD j 0 = ys.getD j 0) : cmpL xs ys = cmpL (xs.drop k) (ys.drop k) := by
  induction k generalizing xs ys with
  | zero => simp
  | succ k ih =>
    cases xs with
    | nil => simp at hx
    | cons x r =>
      cases ys with
      | nil => simp at hy
      | cons y s =>
        have h0 := h 0 (by omega)
        simp only [List.getD_cons_zero] at h0
        subst h0
        rw [cmpL_cons_eq, List.drop_succ_cons, List.drop_succ_cons]
        exact ih (by simpa using hx) (by simpa using hy) fun j hj => by simpa using h (j + 1) (by omega)
theorem drop_cons {xs : List Int} {k : Nat} (h : k < xs.length) : xs.drop k = xs.getD k 0 :: xs.drop (k + 1) := by
  rw [List.drop_eq_getElem_cons h]
  simp [List.getD, h]

/-- A row in memory: where it lies, how much room it has, and its numbers. -/
structure El where
  A : Option Addr
  q : Nat
  xs : List Int
instance : Inhabited El := ⟨⟨none, 0, []⟩⟩
def El.v (e : El) : Value := .slice e.A e.xs.length e.q
def E0 : El := ⟨none, 0, []⟩
theorem el_get {d : List El} {k : Nat} (h : k < d.length) : d.getD k E0 = d[k] := by simp [List.getD, h]

/-- The first of each run of equal neighbours among the first so many rows. -/
def cpt (d : List El) : Nat → List El
  | 0 => []
  | j + 1 => if 0 < j ∧ (d.getD j E0).xs = (d.getD (j - 1) E0).xs then cpt d j else cpt d j ++ [d.getD j E0]
theorem cpt_zero (d : List El) : cpt d 0 = [] := rfl
theorem cpt_skip {d : List El} {j : Nat} (hj : 0 < j) (h : (d.getD j E0).xs = (d.getD (j - 1) E0).xs) : cpt d (j + 1) = cpt d j := by
  show (if _ then _ else _) = _
  rw [if_pos ⟨hj, h⟩]
theorem cpt_take {d : List El} {j : Nat} (h : j = 0 ∨ ¬ (d.getD j E0).xs = (d.getD (j - 1) E0).xs) : cpt d (j + 1) = cpt d j ++ [d.getD j E0] := by
  show (if _ then _ else _) = _
  rw [if_neg (fun h2 => by rcases h with h | h; exact absurd h2.1 (by omega); exact h h2.2)]
theorem cpt_len (d : List El) : ∀ j, (cpt d j).length ≤ j
  | 0 => Nat.le_refl _
  | j + 1 => by
    have := cpt_len d j
    show (if _ then _ else _ : List El).length ≤ _
    split
    · omega
    · simp; omega
theorem cpt_pos (d : List El) : ∀ j, 0 < j → 0 < (cpt d j).length
  | 0, h => absurd h (by omega)
  | 1, _ => by rw [cpt_take (.inl rfl)]; simp
  | j + 2, _ => by
    have := cpt_pos d (j + 1) (by omega)
    by_cases h : (d.getD (j + 1) E0).xs = (d.getD (j + 1 - 1) E0).xs
    · rw [cpt_skip (by omega) h]; exact this
    · rw [cpt_take (.inr h)]; simp
/-- No two equal neighbours: all stand. -/
theorem cpt_id {d : List El} : ∀ {j}, j ≤ d.length → (∀ i, 0 < i → i < j → ¬ (d.getD i E0).xs = (d.getD (i - 1) E0).xs) → cpt d j = d.take j
  | 0, _, _ => rfl
  | j + 1, hj, h => by
    rw [cpt_take (by rcases Nat.eq_zero_or_pos j with e | e; exact .inl e; exact .inr (h j e (by omega))), cpt_id (by omega) (fun i h1 h2 => h i h1 (by omega)), List.take_succ_eq_append_getElem (by omega), el_get (by omega)]
theorem cpt_sub (d : List El) : ∀ {j}, j ≤ d.length → (cpt d j).Sublist (d.take j)
  | 0, _ => List.Sublist.refl _
  | j + 1, hj => by
    have ih := cpt_sub d (j := j) (by omega)
    rw [List.take_succ_eq_append_getElem (show j < d.length by omega)]
    show (if _ then _ else _ : List El).Sublist _
    split
    · exact ih.trans (List.sublist_append_left _ _)
    · rw [el_get (by omega)]
      exact ih.append (List.Sublist.refl _)
theorem cpt_last (d : List El) : ∀ j, 0 < j → ∃ l e, cpt d j = l ++ [e] ∧ e.xs = (d.getD (j - 1) E0).xs
  | 0, h => absurd h (by omega)
  | 1, _ => ⟨[], d.getD 0 E0, cpt_take (.inl rfl), rfl⟩
  | j + 2, _ => by
    by_cases h : (d.getD (j + 1) E0).xs = (d.getD (j + 1 - 1) E0).xs
    · obtain ⟨l, e, h1, h2⟩ := cpt_last d (j + 1) (by omega)
      exact ⟨l, e, by rw [cpt_skip (by omega) h, h1], by rw [h2]; exact h.symm⟩
    · exact ⟨cpt d (j + 1), d.getD (j + 1) E0, cpt_take (.inr h), rfl⟩
theorem cpt_mem {d : List El} : ∀ {j}, j ≤ d.length → ∀ i, i < j → ∃ e ∈ cpt d j, e.xs = (d.getD i E0).xs
  | 0, _, i, hi => absurd hi (by omega)
  | j + 1, hj, i, hi => by
    by_cases hij : i < j
    · obtain ⟨e, he, hx⟩ := cpt_mem (d := d) (j := j) (by omega) i hij
      refine ⟨e, ?_, hx⟩
      show e ∈ (if _ then _ else _ : List El)
      split
      · exact he
      · exact List.mem_append_left _ he
    · obtain rfl : i = j := by omega
      obtain ⟨l, e, h1, h2⟩ := cpt_last d (i + 1) (by omega)
      exact ⟨e, by rw [h1]; simp, h2⟩
/-- Out of rows in order, rows in order, no two equal. -/
theorem cpt_asc {d : List El} (hs : ∀ i j, i < j → j < d.length → ltL (d.getD j E0).xs (d.getD i E0).xs = false) : ∀ {j}, j ≤ d.length → (cpt d j).Pairwise (fun a b => ltL a.xs b.xs = true) ∧ ∀ e ∈ cpt d j, ∃ i, i < j ∧ e = d.getD i E0
  | 0, _ => ⟨List.Pairwise.nil, fun e he => by simp [cpt] at he⟩
  | j + 1, hj => by
    obtain ⟨h1, h2⟩ := cpt_asc hs (j := j) (by omega)
    by_cases h : j = 0 ∨ ¬ (d.getD j E0).xs = (d.getD (j - 1) E0).xs
    · rw [cpt_take h]
      refine ⟨List.pairwise_append.2 ⟨h1, by simp, fun a ha b hb => ?_⟩, fun e he => ?_⟩
      · simp only [List.mem_singleton] at hb
        subst hb
        obtain ⟨i, hi, rfl⟩ := h2 a ha
        have h3 := hs i j hi (by omega)
        cases h4 : ltL (d.getD i E0).xs (d.getD j E0).xs with
        | true => rfl
        | false =>
          exfalso
          have e1 := ltL_tri _ _ h4 h3
          rcases h with h | h
          · omega
          · rcases Nat.lt_or_ge i (j - 1) with hlt | hge
            · have h5 := hs i (j - 1) hlt (by omega)
              have h6 := hs (j - 1) j (by omega) (by omega)
              rw [e1] at h5
              exact h (ltL_tri _ _ h6 h5)
            · obtain rfl : i = j - 1 := by omega
              exact h e1.symm
      · rcases List.mem_append.1 he with he | he
        · obtain ⟨i, hi, e1⟩ := h2 e he
          exact ⟨i, by omega, e1⟩
        · simp only [List.mem_singleton] at he
          exact ⟨j, by omega, he⟩
    · have h5 : 0 < j ∧ (d.getD j E0).xs = (d.getD (j - 1) E0).xs := by
        refine ⟨by omega, ?_⟩
        by_cases e : (d.getD j E0).xs = (d.getD (j - 1) E0).xs
        · exact e
        · exact absurd (.inr e) h
      rw [cpt_skip h5.1 h5.2]
      exact ⟨h1, fun e he => by obtain ⟨i, hi, e1⟩ := h2 e he; exact ⟨i, by omega, e1⟩⟩
/-- Two such lists of the same rows are one. -/
theorem ascL_eq {l m : List (List Int)} (hl : l.Pairwise fun a b => ltL a b = true) (hm : m.Pairwise fun a b => ltL a b = true) (h : ∀ y, y ∈ l ↔ y ∈ m) : l = m := by
  induction l generalizing m with
  | nil =>
    cases m with
    | nil => rfl
    | cons y r => have := (h y).2 (by simp); cases this
  | cons x r ih =>
    cases m with
    | nil => have := (h x).1 (by simp); cases this
    | cons y s =>
      obtain ⟨hx, hr⟩ := List.pairwise_cons.1 hl
      obtain ⟨hy, hs⟩ := List.pairwise_cons.1 hm
      have hxy : x = y := by
        rcases List.mem_cons.1 ((h x).1 (by simp)) with e | e
        · exact e
        · rcases List.mem_cons.1 ((h y).2 (by simp)) with e' | e'
          · exact e'.symm
          · have h1 := hy x e
            have h2 := hx y e'
            rw [ltL_asym h1] at h2
            cases h2
      subst hxy
      congr 1
      refine ih hr hs fun z => ⟨fun hz => ?_, fun hz => ?_⟩
      · rcases List.mem_cons.1 ((h z).1 (by simp [hz])) with e | e
        · subst e
          have := hx z hz
          rw [ltL_irrefl] at this
          cases this
        · exact e
      · rcases List.mem_cons.1 ((h z).2 (by simp [hz])) with e | e
        · subst e
          have := hy z hz
          rw [ltL_irrefl] at this
          cases this
        · exact e
/-- A pair of colours, told by one number. -/
def dec (c : Int) : List Int := [c / 16, c % 16]
theorem dec_lt {a b : Int} (h : a < b) : ltL (dec a) (dec b) = true := by
  simp only [dec, ltL, Bool.or_eq_true, Bool.and_eq_true, decide_eq_true_eq]
  omega
theorem dec_of {x y : Int} (hy : 0 ≤ y ∧ y < 16) : dec (16 * x + y) = [x, y] := by
  simp only [dec]
  congr 1
  · omega
  · congr 1; omega
theorem ltL_dec (a b : Int) : ltL (dec a) (dec b) = decide (a < b) := by
  by_cases h : a < b
  · rw [dec_lt h]; simp [h]
  · by_cases e : a = b
    · subst e; simp [ltL_irrefl]
    · rw [ltL_asym (dec_lt (show b < a by omega))]; simp [h]
/-- Rows in order, no two equal, of the codes of a list: the decoded codes in order. -/
theorem rows_codes {l : List (List Int)} {cs : List Int} (hl : l.Pairwise fun a b => ltL a b = true) (h : ∀ y, y ∈ l ↔ ∃ c ∈ cs, y = dec c) : l = (sortI cs).map dec := by
  refine ascL_eq hl ?_ fun y => ?_
  · rw [List.pairwise_map]
    exact (sortI_asc cs).imp fun h => dec_lt h
  · rw [h, List.mem_map]
    exact ⟨fun ⟨c, hc, e⟩ => ⟨c, sortI_mem.2 hc, e.symm⟩, fun ⟨c, hc, e⟩ => ⟨c, sortI_mem.1 hc, e.symm⟩⟩
end

section
set_option linter.unusedVariables false
set_option linter.unusedSimpArgs false
open Go.RowKit Go.Sort

theorem info_sp : (Try.prog.info? 128).map (fun i => (i.zero, i.size, i.bytes)) = some (some (.agg #[.int .i64 0, .int .i64 0, .int .i64 0, .int .i64 0, .int .i64 0, .int .i64 0, .int .i64 0, .int .i64 0]), 8, 64) := by kernel_rfl
def enc8 (p : Tl × Tl) : List Value := enc p.1 ++ enc p.2
def encA8 (p : Tl × Tl) : Array Value := #[.int .i64 p.1.1, .int .i64 p.1.2.1, .int .i64 p.1.2.2.1, .int .i64 p.1.2.2.2, .int .i64 p.2.1, .int .i64 p.2.2.1, .int .i64 p.2.2.2.1, .int .i64 p.2.2.2.2]
def flat8 (l : List (Tl × Tl)) : List Value := l.flatMap enc8
theorem flat8_snoc (l : List (Tl × Tl)) (p : Tl × Tl) : flat8 (l ++ [p]) = flat8 l ++ enc8 p := by simp [flat8]
theorem flat8_len (l : List (Tl × Tl)) : (flat8 l).length = l.length * 8 := by
  induction l with
  | nil => rfl
  | cons x r ih => simp only [flat8, List.flatMap_cons, List.length_append] at *; rw [ih]; simp [enc8, enc]; omega
theorem enc8_one (p : Tl × Tl) : ∀ u ∈ enc8 p, u.oneCell' = true := by
  intro u hu
  rcases List.mem_append.1 hu with h | h
  · exact enc_one _ u h
  · exact enc_one _ u h
theorem own_low {W : World} {base base' : Nat} {e : TypeId} {size : Nat} {v : Value} {k : Nat} {xs : List Value} (h : W.ownsRow base e size v k xs) (hb : base' ≤ base) : W.ownsRow base' e size v k xs := by
  refine ⟨h.1, ?_⟩
  rcases h.2 with hn | ⟨g, cap, cur, hv, hbg, rest⟩
  · exact .inl hn
  · exact .inr ⟨g, cap, cur, hv, Nat.le_trans hb hbg, rest⟩
def P0 : Tl × Tl := (T0, T0)
theorem flat8_get (l : List (Tl × Tl)) {k j : Nat} (hk : k < l.length) (hj : j < 8) : (flat8 l)[k * 8 + j]? = (enc8 (l.getD k P0))[j]? := by
  induction l generalizing k with
  | nil => simp at hk
  | cons x r ih =>
    have he : (enc8 x).length = 8 := rfl
    cases k with
    | zero => simp only [flat8, List.flatMap_cons, Nat.zero_mul, Nat.zero_add]; rw [List.getElem?_append_left (by omega)]; rfl
    | succ k =>
      have h := ih (k := k) (by simpa using hk)
      have e1 : (k + 1) * 8 + j - (enc8 x).length = k * 8 + j := by rw [he]; omega
      simp only [flat8, List.flatMap_cons]
      rw [List.getElem?_append_right (by rw [he]; omega), e1]
      simpa [flat8, List.getD] using h
theorem reads_new8 {w : World} {g : Nat} {p : Tl × Tl} (hb : w.heap[g]? = some (.cells (encA8 p) 128 (0, 0))) : Reads w w.heap.size 8 (some ⟨g, 0, none⟩) 1 (enc8 p) := by
  have hlt : g < w.heap.size := by
    rcases Nat.lt_or_ge g w.heap.size with hlt | hge
    · exact hlt
    · rw [Array.getElem?_eq_none hge] at hb; cases hb
  refine ⟨rfl, fun _ => ⟨_, rfl, hlt, fun j u hu => ?_⟩⟩
  have := cell_of_row w g j (encA8 p) 128 (0, 0) hb
  rw [Go.WideShapes.add_plain]
  simp only [Nat.zero_add]
  rw [this]
  rw [← hu]
  simp [encA8, enc8, enc]
/-- 'append(s, p)' onto a row of stacked pairs that the call owns: p lies in a new block of its own. -/
theorem wpList_push8 {w : World} {ops : Array Oper} {rest : List Oper} {o : Oper} {a : Act} {Q : Exit → Act → World → Prop} (hgd : o.guard = none) (s x : Operand)
    (ho : o.op = .call { callee := .builtin .append, args := #[s, x], argTypes := #[84, 84] })
    (base : Nat) (v : Value) (n : Nat) (xs : List Value) (hs : a.eval s = v) (hown : w.ownsRow base 128 8 v n xs)
    (g : Nat) (p : Tl × Tl) (hx : a.eval x = .slice (some ⟨g, 0, none⟩) 1 1) (hb : w.heap[g]? = some (.cells (encA8 p) 128 (0, 0)))
    (h63 : n + 1 ≤ maxLen) (hbytes : (n + 1) * 64 ≤ 140737488355328) (hbase : base ≤ w.heap.size)
    (h : ∀ v' w', w'.ownsRow base 128 8 v' (n + 1) (xs ++ enc8 p) → w.grownBy w' v.ownBlock → (v'.ownBlock = v.ownBlock ∨ v'.ownBlock = some w.heap.size) → wpList Try.prog ops Q rest (a.put o.dst v') w') :
    wpList Try.prog ops Q (o :: rest) a w := by
  obtain ⟨i0, hi, hz0, hz1, hz2⟩ := info_parts info_sp
  exact wpList_append_any w hgd s x _ ho base 128 i0 _ 8 64 Try.underlying84 hi hz0 hz1 hz2 rfl (by decide) v n xs hs hown w.heap.size _ 1 _ (enc8 p) hx (reads_new8 hb) (enc8_one p) h63 hbytes hbase h

/-- The pairs of one tile with the first k others. -/
def stkI (ts : List Tl) (a : Tl) (k : Nat) : List (Tl × Tl) := ((ts.take k).filter fun b => decide (a.2.2.2 = b.2.1)).map fun b => (a, b)
theorem stkO_succ {ss ts : List Tl} {i : Nat} (hi : i < ss.length) : stk (ss.take (i + 1)) ts = stk (ss.take i) ts ++ stkI ts (ss.getD i T0) ts.length := by
  unfold stk stkI
  rw [take_snoc ss hi, List.flatMap_append, List.take_length, List.flatMap_cons, List.flatMap_nil, List.append_nil]
theorem stkI_yes {ts : List Tl} {a : Tl} {k : Nat} (hk : k < ts.length) (h : a.2.2.2 = (ts.getD k T0).2.1) : stkI ts a (k + 1) = stkI ts a k ++ [(a, ts.getD k T0)] := by
  unfold stkI
  rw [take_snoc ts hk, List.filter_append, List.map_append]
  simp [h]
theorem stkI_no {ts : List Tl} {a : Tl} {k : Nat} (hk : k < ts.length) (h : ¬ a.2.2.2 = (ts.getD k T0).2.1) : stkI ts a (k + 1) = stkI ts a k := by
  unfold stkI
  rw [take_snoc ts hk, List.filter_append, List.map_append, List.filter_cons_of_neg (by rw [decide_eq_true_eq]; exact h)]
  simp
theorem stkI_len (ts : List Tl) (a : Tl) (k : Nat) : (stkI ts a k).length ≤ k := by
  unfold stkI
  rw [List.length_map]
  exact Nat.le_trans (List.length_filter_le _ _) (by rw [List.length_take]; omega)

set_option maxRecDepth 100000 in
set_option maxHeartbeats 4000000 in
theorem stackedPairs_any (c0 : Int) (A0 : Option Addr) (n0 q0 : Nat) (ts : List Tl) (c1 : Int) (A1 : Option Addr) (n1 q1 : Nat) (us : List Tl) (w : World) (hn0 : n0 ≤ 4096) (hl0 : ts.length = n0) (hA0 : TR w w.heap.size A0 ts) (hn1 : n1 ≤ 16) (hl1 : us.length = n1) (hA1 : TR w w.heap.size A1 us) :
    Calls Try.prog 76 #[.agg #[.int .i64 c0, .slice A0 n0 q0], .agg #[.int .i64 c1, .slice A1 n1 q1]] w fun e w' => ∃ v, e = .returned v ∧ w'.ownsRow w.heap.size 128 8 v (stk ts us).length (flat8 (stk ts us)) ∧ Below w.heap.size w w' := by
  have HA0 := Lib.hid hA0
  have HA1 := Lib.hid hA1
  clear hA0 hA1
  have hmul : n0 * n1 ≤ 4096 * 16 := Nat.mul_le_mul hn0 hn1
  go_enter Try.func76, Try.ntmps76
  go_wp2_with fail
  have hx0 : Ext w ((w.alloc (Obj.cells #[.int .i64 c0, .slice A0 n0 q0] 30)).alloc (Obj.cells #[.int .i64 c1, .slice A1 n1 q1] 30)) := ((Ext.refl w).alloc _).alloc _
  have hb1 : Blk ((w.alloc (Obj.cells #[.int .i64 c0, .slice A0 n0 q0] 30)).alloc (Obj.cells #[.int .i64 c1, .slice A1 n1 q1] 30)) (w.heap.size + 1) 30 #[.int .i64 c1, .slice A1 n1 q1] := by have := (Blk.new (w.alloc (Obj.cells #[.int .i64 c0, .slice A0 n0 q0] 30)) 30 #[.int .i64 c1, .slice A1 n1 q1]); simpa using this
  have HK := Lib.hid (hx0.below (Nat.le_refl _))
  have hL2 : w.heap.size + 2 ≤ ((w.alloc (Obj.cells #[.int .i64 c0, .slice A0 n0 q0] 30)).alloc (Obj.cells #[.int .i64 c1, .slice A1 n1 q1] 30)).heap.size := by simp
  have HB1 := Lib.hid hb1
  clear hx0 hb1
  generalize ((w.alloc (Obj.cells #[.int .i64 c0, .slice A0 n0 q0] 30)).alloc (Obj.cells #[.int .i64 c1, .slice A1 n1 q1] 30)) = w2 at *
  go_loopw [5, 13] (fun v ii wr => ∃ i : Nat, i ≤ n0 ∧ ii = .int .i64 i ∧ wr.ownsRow w2.heap.size 128 8 v (stk (ts.take i) us).length (flat8 (stk (ts.take i) us)) ∧ Below w2.heap.size w2 wr) (fun _ ii _ => n0 - (intOf ii).toNat)
  case atStart => exact ⟨0, Nat.zero_le _, rfl, by simpa [stk, flat8] using World.ownsRow_nil _ _ _ _, Below.refl _ _⟩
  case round =>
    obtain ⟨i, hi, rfl, hown, hb⟩ := hrel
    have HO := Lib.hid hown
    have HBW := Lib.hid hb
    have hszw := hb.size
    clear hown hb
    have hbw := HK.out.trans (HBW.out.mono HK.out.size)
    have r1 := (HB1.out.below HBW.out (by omega)).rd 1 rfl
    by_cases hlt : i < n0
    · obtain ⟨b0, o, rfl, hbb, ht⟩ := (HA0.out.below hbw (Nat.le_refl _)) (by omega)
      replace ht := ht i (by omega)
      have hsu := stkO_succ (ss := ts) (ts := us) (i := i) (by omega)
      have hpl := stk_len (ts.take i) us
      rw [List.length_take, hl1, Nat.min_eq_left (by omega)] at hpl
      have hpb : i * n1 ≤ 4096 * 16 := Nat.mul_le_mul (by omega) (by omega)
      generalize ts.getD i T0 = a at *
      have HSU := Lib.hid hsu
      obtain ⟨a0, a1, a2, a3⟩ := a
      obtain ⟨c0', c1', c2, c3⟩ := ht
      simp only at c0' c1' c2 c3
      have b3 : (i : Int) < (n0 : Int) := by omega
      clear hsu
      generalize hP : stk (ts.take i) us = ps at *
      have HP := Lib.hid hP
      have hpl2 : ps.length ≤ 65536 := by omega
      clear hP hpl
      have q1 := fun ob => ((HB1.out.below HBW.out (by omega)).ext ((Ext.refl wr).alloc ob)).rd 1 rfl
      go_wp2_with fail
      obtain ⟨W4, hW4⟩ : ∃ W4, wr.alloc (Obj.cells #[.int .i64 a0, .int .i64 a1, .int .i64 a2, .int .i64 a3] 45) = W4 := ⟨_, rfl⟩
      have hb4 : Blk W4 wr.heap.size 45 (encA (a0, a1, a2, a3)) := by rw [← hW4]; exact Blk.new wr _ _
      have hx4 : Ext wr W4 := by rw [← hW4]; exact (Ext.refl wr).alloc _
      have hsz4 : wr.heap.size + 1 ≤ W4.heap.size := by rw [← hW4]; simp
      rw [hW4]
      have HB4 := Lib.hid hb4
      have HX4 := Lib.hid hx4
      clear hb4 hx4 hW4 c0' c1' c2 c3 q1 r1
      obtain ⟨WR, hWR⟩ : ∃ WR, WR = wr := ⟨_, rfl⟩
      subst hWR
      go_loopw [5, 20] (fun v kk wr => ∃ k : Nat, k ≤ n1 ∧ kk = .int .i64 k ∧ wr.ownsRow w2.heap.size 128 8 v (ps ++ stkI us (a0, a1, a2, a3) k).length (flat8 (ps ++ stkI us (a0, a1, a2, a3) k)) ∧ Blk wr WR.heap.size 45 (encA (a0, a1, a2, a3)) ∧ v.ownBlock ≠ some WR.heap.size ∧ Below w2.heap.size W4 wr) (fun _ kk _ => n1 - (intOf kk).toNat)
      case atStart => exact ⟨0, Nat.zero_le _, rfl, by simpa [stkI] using own_belowA HO.out (HX4.out.below (Nat.le_refl _)), HB4.out, fun e9 => Nat.lt_irrefl _ (HO.out.lt _ e9).2, Below.refl _ _⟩
      case round =>
        obtain ⟨k, hk, rfl, hown, hbk, hne, hb⟩ := hrel
        have HO2 := Lib.hid hown
        have HBK := Lib.hid hbk
        have HNE := Lib.hid hne
        have HB5 := Lib.hid hb
        have hglt := hbk.lt
        have hb6 := HBW.out.trans ((HX4.out.below (B := w2.heap.size) (by omega)).trans hb)
        have HB6 := Lib.hid hb6
        have hsz6 := hb6.size
        have hszb := hb.size
        have hbw6 := HK.out.trans (hb6.mono HK.out.size)
        by_cases hltk : k < n1
        · obtain ⟨b0', o', rfl, hbb', ht⟩ := (HA1.out.below hbw6 (Nat.le_refl _)) (by omega)
          replace ht := ht k (by omega)
          have hyes := fun h => stkI_yes (ts := us) (a := (a0, a1, a2, a3)) (k := k) (by omega) h
          have hno := fun h => stkI_no (ts := us) (a := (a0, a1, a2, a3)) (k := k) (by omega) h
          have hil := stkI_len us (a0, a1, a2, a3) k
          generalize us.getD k T0 = b at *
          obtain ⟨x0, x1, x2, x3⟩ := b
          obtain ⟨c0', c1', c2, c3⟩ := ht
          simp only at c0' c1' c2 c3 hyes hno
          have b4 : (k : Int) < (n1 : Int) := by omega
          have HY := Lib.hid hyes
          have HN := Lib.hid hno
          have y0 := (hbk.ext ((Ext.refl wr).alloc (Obj.cells #[.int .i64 x0, .int .i64 x1, .int .i64 x2, .int .i64 x3] 45))).rd 0 (v := .int .i64 a0) rfl
          have y1 := (hbk.ext ((Ext.refl wr).alloc (Obj.cells #[.int .i64 x0, .int .i64 x1, .int .i64 x2, .int .i64 x3] 45))).rd 1 (v := .int .i64 a1) rfl
          have y2 := (hbk.ext ((Ext.refl wr).alloc (Obj.cells #[.int .i64 x0, .int .i64 x1, .int .i64 x2, .int .i64 x3] 45))).rd 2 (v := .int .i64 a2) rfl
          have y3 := (hbk.ext ((Ext.refl wr).alloc (Obj.cells #[.int .i64 x0, .int .i64 x1, .int .i64 x2, .int .i64 x3] 45))).rd 3 (v := .int .i64 a3) rfl
          have hx7 := (Ext.refl wr).alloc (Obj.cells #[.int .i64 x0, .int .i64 x1, .int .i64 x2, .int .i64 x3] 45)
          have hall := hx7.below (B := wr.heap.size) (Nat.le_refl _)
          have HO3 := Lib.hid (own_belowA hown hall)
          have HBK3 := Lib.hid (hbk.ext hx7)
          have HB8 := Lib.hid (hb.trans (hall.mono (by omega)))
          generalize hL : ps ++ stkI us (a0, a1, a2, a3) k = l at *
          have HLEN := Lib.hid (show l.length ≤ 65536 + 16 by rw [← hL, List.length_append]; omega)
          have HL := Lib.hid hL
          clear hown hbk hne hb hb6 hbw6 hyes hno hx7 hall hL hil
          by_cases heq : a3 = x1
          · subst heq
            have HAPP := Lib.hid (show ps ++ stkI us (a0, a1, a2, a3) (k + 1) = l ++ [((a0, a1, a2, a3), (x0, a3, x2, x3))] by rw [HY.out rfl, ← List.append_assoc, HL.out])
            have hlen := HLEN.out
            clear HY HN
            go_wp2_with (at_builtin; refine wpList_push8 rfl _ _ rfl w2.heap.size _ l.length _ rfl (HO3.out.alloc _) (wr.heap.size + 1) ((a0, a1, a2, a3), (x0, a3, x2, x3)) (by go_simp) (by have := heap_alloc_new (wr.alloc (Obj.cells #[.int .i64 x0, .int .i64 a3, .int .i64 x2, .int .i64 x3] 45)) (.cells (encA8 ((a0, a1, a2, a3), (x0, a3, x2, x3))) 128); simpa [encA8] using this) ?c1 ?c2 ?c3 ?_)
            case c1 => unfold maxLen; omega
            case c2 => omega
            case c3 => simp; omega
            intro v' w6 hown' hgrow hat
            rw [← flat8_snoc, ← HAPP.out] at hown'
            have HBG := Lib.hid (show Blk w6 WR.heap.size 45 (encA (a0, a1, a2, a3)) from (hgrow.block WR.heap.size (by simp; omega) (fun e => HNE.out e.symm)).trans (HBK3.out.ext ((Ext.refl _).alloc _)))
            have hne' : v'.ownBlock ≠ some WR.heap.size := by
              rcases hat with h | h
              · rw [h]; exact HNE.out
              · rw [h]; intro e9; simp at e9; omega
            have hlen2 : l.length + 1 = (ps ++ stkI us (a0, a1, a2, a3) (k + 1)).length := by rw [HAPP.out]; simp
            rw [hlen2] at hown'
            have O4 := Lib.hid (And.intro hown' hne')
            have B9 := Lib.hid ((HB8.out.alloc (by simp; omega) (Obj.cells (encA8 ((a0, a1, a2, a3), (x0, a3, x2, x3))) 128)).grown hgrow (by simp; omega) (fun j hj => (HO3.out.lt j hj).1))
            clear hown' hgrow hat hne' hlen2 y0 y1 y2 y3 c0' c1' c2 c3
            go_wp2_with fail
            go_roundw
            case rel => first | exact ⟨k + 1, by omega, by go_num, O4.out.1, HBG.out, O4.out.2, B9.out⟩ | ((repeat apply Exists.intro); exact ⟨⟨k + 1, by omega, by go_num, O4.out.1, HBG.out, O4.out.2, B9.out⟩, rfl⟩)
            case measure => simp [intOf]; omega
          · have HAPP := Lib.hid (show l = ps ++ stkI us (a0, a1, a2, a3) (k + 1) by rw [HN.out heq, HL.out])
            have hq : (a3 == x1) = false := by simpa using heq
            clear HY HN
            go_wp2_with fail
            go_roundw
            case rel => first | exact ⟨k + 1, by omega, by go_num, by rw [← HAPP.out]; exact HO3.out, HBK3.out, HNE.out, HB8.out⟩ | ((repeat apply Exists.intro); exact ⟨⟨k + 1, by omega, by go_num, by rw [← HAPP.out]; exact HO3.out, HBK3.out, HNE.out, HB8.out⟩, rfl⟩)
            case measure => simp [intOf]; omega
        · obtain rfl : k = n1 := by omega
          have HUS := Lib.hid (show stk (ts.take (i + 1)) us = ps ++ stkI us (a0, a1, a2, a3) k by rw [HSU.out, ← hl1])
          rw [← HUS.out] at hown
          have HO5 := Lib.hid hown
          clear hown hbk hne hb hb6 hbw6 HO2
          go_wp2_with fail
          go_roundw
          case rel => first | exact ⟨i + 1, by omega, by go_num, HO5.out, HB6.out⟩ | ((repeat apply Exists.intro); exact ⟨⟨i + 1, by omega, by go_num, HO5.out, HB6.out⟩, rfl⟩)
          case measure => simp [intOf]; omega
    · obtain rfl : i = n0 := by omega
      have hown := HO.out
      rw [← hl0, List.take_length] at hown
      have HO9 := Lib.hid hown
      have HR := Lib.hid hbw
      have hs2 := HK.out.size
      clear hown hbw r1
      go_wp2_with fail
      go_ret
      exact ⟨_, rfl, own_low HO9.out hs2, HR.out⟩
end

section
set_option linter.unusedVariables false
set_option linter.unusedSimpArgs false
open Go.RowKit Go.Sort

set_option maxHeartbeats 1000000 in
theorem equalR_any (A A' : Option Addr) (n n' c c' : Nat) (xs ys : List Int) (w : World) (hn : n ≤ 1152921504606846976) (hl : xs.length = n) (hl' : ys.length = n') (hA : IR w w.heap.size A xs) (hA' : IR w w.heap.size A' ys) :
   Calls Try.prog 86 #[.slice A n c, .slice A' n' c'] w fun e w' => e = .returned (.bool (decide (xs = ys))) ∧ Ext w w' := by
  by_cases hne : n = n'
  · subst hne
    have hq : ((n : Int) != (n : Int)) = false := by simp
    go_enter Try.func86, Try.ntmps86
    go_wp2_with fail
    go_loopw [13] (fun i wr => ∃ k : Nat, k ≤ n ∧ i = .int .i64 k ∧ (∀ j, j < k → xs.getD j 0 = ys.getD j 0) ∧ Ext w wr) (fun i _ => n - (intOf i).toNat)
    case atStart => exact ⟨0, Nat.zero_le _, rfl, fun j hj => absurd hj (Nat.not_lt_zero _), Ext.refl _⟩
    case round =>
      obtain ⟨k, hk, rfl, heq, hx⟩ := hrel
      have H := Lib.hid heq
      have HX := Lib.hid hx
      clear heq
      by_cases hlt : k < n
      · obtain ⟨b, off, rfl, -, hc⟩ := (hA.ext hx (Nat.le_refl _)) (by omega)
        obtain ⟨b', off', rfl, -, hc'⟩ := (hA'.ext hx (Nat.le_refl _)) (by omega)
        replace hc := hc k (by omega)
        replace hc' := hc' k (by omega)
        clear hx hA hA'
        obtain ⟨x, hX⟩ : ∃ x, x = xs.getD k 0 := ⟨_, rfl⟩
        obtain ⟨y, hY⟩ : ∃ x, x = ys.getD k 0 := ⟨_, rfl⟩
        rw [← hX] at hc
        rw [← hY] at hc'
        have EX := Lib.hid hX
        have EY := Lib.hid hY
        clear hX hY
        go_wp2_with fail
        go_quiet (fail)
        clear hc hc'
        go_wp2_with fail
        · go_ret
          refine ⟨ret_b ?_, HX.out.trans ((Ext.refl _).drewN _)⟩
          have hd : x ≠ y := by simp_all
          rw [EX.out, EY.out] at hd
          exact (decide_eq_false (fun e => hd (by rw [e]))).symm
        · have hd : x = y := by simp_all
          refine ⟨⟨k + 1, by omega, by go_num, ?_, HX.out.trans ((Ext.refl _).drewN _)⟩, by simp [intOf]; omega⟩
          intro j hj
          by_cases hjk : j = k
          · subst hjk
            rw [EX.out, EY.out] at hd
            exact hd
          · exact H.out j (by omega)
      · clear hx hA hA'
        go_wp2_with fail
        go_ret
        refine ⟨ret_b ?_, HX.out⟩
        have hkn : k = n := by omega
        subst hkn
        exact (decide_eq_true (ints_eq_of (by omega) (fun j hj => H.out j (by omega)))).symm
  · go_enter Try.func86, Try.ntmps86
    have hq : ((n : Int) != (n' : Int)) = true := by simp; omega
    go_wp2_with fail
    all_goals go_ret
    all_goals exact ⟨ret_b (decide_eq_false (fun e => hne (by rw [← hl, ← hl', e]))).symm, Ext.refl _⟩

set_option maxHeartbeats 1000000 in
theorem compareR_any (A A' : Option Addr) (n n' c c' : Nat) (xs ys : List Int) (w : World) (hn : n ≤ 1152921504606846976) (hn' : n' ≤ 1152921504606846976) (hl : xs.length = n) (hl' : ys.length = n') (hA : IR w w.heap.size A xs) (hA' : IR w w.heap.size A' ys) :
   Calls Try.prog 83 #[.slice A n c, .slice A' n' c'] w fun e w' => e = .returned (.int .i64 (cmpL xs ys)) ∧ w' = w := by
  generalize hr : cmpL xs ys = r
  have HR := Lib.hid hr
  clear hr
  go_enter Try.func83, Try.ntmps83
  go_wp2_with fail
  go_loop [11] (fun i => ∃ k : Nat, k ≤ n ∧ k ≤ n' ∧ i = .int .i64 k ∧ (∀ j, j < k → xs.getD j 0 = ys.getD j 0)) (fun i => n - (intOf i).toNat)
  case atStart => exact ⟨0, Nat.zero_le _, Nat.zero_le _, rfl, fun j hj => absurd hj (Nat.not_lt_zero _)⟩
  case round =>
    obtain ⟨k, hk, hk', rfl, heq⟩ := hrel
    have HD := Lib.hid (cmpL_drop (xs := xs) (ys := ys) (by omega) (by omega) heq)
    have H := Lib.hid heq
    clear heq
    by_cases hlt : k < n
    · by_cases hlt' : k < n'
      · obtain ⟨b, off, rfl, -, hc⟩ := hA (by omega)
        obtain ⟨b', off', rfl, -, hc'⟩ := hA' (by omega)
        replace hc := hc k (by omega)
        replace hc' := hc' k (by omega)
        clear hA hA'
        have hg : decide ((n' : Int) ≤ (k : Int)) = false := by simp; omega
        obtain ⟨x, hX⟩ : ∃ x, x = xs.getD k 0 := ⟨_, rfl⟩
        obtain ⟨y, hY⟩ : ∃ x, x = ys.getD k 0 := ⟨_, rfl⟩
        rw [← hX] at hc
        rw [← hY] at hc'
        have hc1 := HD.out
        rw [drop_cons (by omega), drop_cons (show k < ys.length by omega), ← hX, ← hY, HR.out] at hc1
        have HC := Lib.hid hc1
        clear hc1
        have EX := Lib.hid hX
        have EY := Lib.hid hY
        clear hX hY
        have hcon := fun W => compare_any x y W
        by_cases h1 : x < y
        · have e : cmpI x y = -1 := by simp [cmpI, h1]
          rw [e] at hcon
          have HCON := Lib.hid hcon
          clear hcon e
          go_wp2_with fail
          refine (HCON.out _).mono ?_
          rintro e w' ⟨rfl, rfl⟩
          go_wp2_with fail
          go_ret
          exact ⟨ret_i (by rw [HC.out]; exact (cmpL_cons_lt h1 _ _).symm), rfl⟩
        · by_cases h2 : y < x
          · have e : cmpI x y = 1 := by simp [cmpI, h1, h2]
            rw [e] at hcon
            have HCON := Lib.hid hcon
            clear hcon e
            go_wp2_with fail
            refine (HCON.out _).mono ?_
            rintro e w' ⟨rfl, rfl⟩
            go_wp2_with fail
            go_ret
            exact ⟨ret_i (by rw [HC.out]; exact (cmpL_cons_gt h2 _ _).symm), rfl⟩
          · have e : cmpI x y = 0 := by simp [cmpI, h1, h2]
            rw [e] at hcon
            have HCON := Lib.hid hcon
            have hxy : x = y := by omega
            have HXY := Lib.hid hxy
            clear hcon e hxy
            go_wp2_with fail
            refine (HCON.out _).mono ?_
            rintro e w' ⟨rfl, rfl⟩
            go_wp2_with fail
            go_round
            case rel =>
              refine ⟨k + 1, by omega, by omega, by go_num, ?_⟩
              intro j hj
              by_cases hjk : j = k
              · subst hjk
                rw [← EX.out, ← EY.out]
                exact HXY.out
              · exact H.out j (by omega)
            case measure => simp [intOf]; omega
      · have hg : decide ((n' : Int) ≤ (k : Int)) = true := by simp; omega
        obtain ⟨b, off, rfl, -, hc⟩ := hA (by omega)
        replace hc := hc k (by omega)
        clear hA hA'
        have hc1 := HD.out
        rw [drop_cons (by omega), show ys.drop k = [] by rw [List.drop_eq_nil_iff]; omega, HR.out] at hc1
        have HC := Lib.hid hc1
        clear hc1
        go_wp2_with fail
        go_ret
        exact ⟨ret_i (by rw [HC.out]; simp [cmpL, ltL]), rfl⟩
    · obtain rfl : k = n := by omega
      clear hA hA'
      have hc1 := HD.out
      rw [show xs.drop k = [] by rw [List.drop_eq_nil_iff]; omega, HR.out] at hc1
      by_cases hlt' : k < n'
      · rw [drop_cons (show k < ys.length by omega)] at hc1
        have HC := Lib.hid hc1
        clear hc1
        go_wp2_with fail
        go_ret
        exact ⟨ret_i (by rw [HC.out]; simp [cmpL, ltL]), rfl⟩
      · rw [show ys.drop k = [] by rw [List.drop_eq_nil_iff]; omega] at hc1
        have HC := Lib.hid hc1
        clear hc1
        go_wp2_with fail
        go_ret
        exact ⟨ret_i (by rw [HC.out]; simp [cmpL, ltL]), rfl⟩
end
end Go.Proofs.Ytblcghefnikmeaa
