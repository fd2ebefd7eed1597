/- Stacks of two sets of tiles, and numbers in ascending order: plain lists. -/
import Derived.Test.YtcakbnfpmpdljaaSort
import Derived.Test.YtcakbnfpmpdljaaAppI
import Derived.Lib.Hide
namespace Go.Proofs.Ytcakbnfpmpdljaa
set_option linter.unusedVariables false
set_option linter.unusedSimpArgs false

/-- x put into an ascending list, once. -/
def insI (x : Int) : List Int → List Int
  | [] => [x]
  | y :: r => if x < y then x :: y :: r else if y < x then y :: insI x r else y :: r
/-- The different numbers of a list, ascending. -/
def sortI (xs : List Int) : List Int := xs.foldr insI []
def AscI (l : List Int) : Prop := l.Pairwise fun a b => a < b
theorem insI_mem {x y : Int} {l : List Int} : y ∈ insI x l ↔ y = x ∨ y ∈ l := by
  induction l with
  | nil => simp [insI]
  | cons z r ih =>
    unfold insI
    split
    · simp
    · split
      · simp only [List.mem_cons, ih]
        exact ⟨fun h => by rcases h with h | h | h <;> simp [h], fun h => by rcases h with h | h | h <;> simp [h]⟩
      · have : x = z := by omega
        subst this
        simp
theorem insI_asc {x : Int} {l : List Int} (h : AscI l) : AscI (insI x l) := by
  induction l with
  | nil => simp [insI, AscI]
  | cons z r ih =>
    obtain ⟨h1, h2⟩ := List.pairwise_cons.1 h
    unfold insI
    split
    · rename_i hb
      exact List.pairwise_cons.2 ⟨fun y hy => by
        rcases List.mem_cons.1 hy with rfl | hy
        · exact hb
        · have := h1 y hy; omega, h⟩
    · split
      · rename_i hb
        refine List.pairwise_cons.2 ⟨fun y hy => ?_, ih h2⟩
        rcases insI_mem.1 hy with rfl | hy
        · exact hb
        · exact h1 y hy
      · exact h
theorem sortI_mem {xs : List Int} {y : Int} : y ∈ sortI xs ↔ y ∈ xs := by
  induction xs with
  | nil => simp [sortI]
  | cons x r ih => show y ∈ insI x (sortI r) ↔ _; rw [insI_mem, ih, List.mem_cons]
theorem sortI_asc (xs : List Int) : AscI (sortI xs) := by
  induction xs with
  | nil => exact List.Pairwise.nil
  | cons x r ih => exact insI_asc ih
/-- Two ascending lists of the same numbers are one. -/
theorem ascI_eq {l m : List Int} (hl : AscI l) (hm : AscI m) (h : ∀ y, y ∈ l ↔ y ∈ m) : l = m := by
  induction l generalizing m with
  | nil =>
    cases m with
    | nil => rfl
    | cons y r => have := (h y).2 (by simp); cases this
  | cons x r ih =>
    cases m with
    | nil => have := (h x).1 (by simp); cases this
    | cons y s =>
      obtain ⟨hx, hr⟩ := List.pairwise_cons.1 hl
      obtain ⟨hy, hs⟩ := List.pairwise_cons.1 hm
      have hxy : x = y := by
        rcases List.mem_cons.1 ((h x).1 (by simp)) with e | e
        · exact e
        · rcases List.mem_cons.1 ((h y).2 (by simp)) with e' | e'
          · exact e'.symm
          · have h1 := hy x e
            have h2 := hx y e'
            omega
      subst hxy
      congr 1
      refine ih hr hs fun z => ⟨fun hz => ?_, fun hz => ?_⟩
      · rcases List.mem_cons.1 ((h z).1 (by simp [hz])) with e | e
        · subst e
          have := hx z hz
          omega
        · exact e
      · rcases List.mem_cons.1 ((h z).2 (by simp [hz])) with e | e
        · subst e
          have := hy z hz
          omega
        · exact e
theorem sortI_eq {xs l : List Int} (h : AscI l) (hm : ∀ y, y ∈ l ↔ y ∈ xs) : l = sortI xs := ascI_eq h (sortI_asc xs) fun y => by rw [hm, sortI_mem]
theorem sortI_short {xs : List Int} (h : xs.length < 2) : sortI xs = xs := by
  match xs, h with
  | [], _ => rfl
  | [x], _ => rfl
theorem insI_len (x : Int) (l : List Int) : (insI x l).length ≤ l.length + 1 := by
  induction l with
  | nil => simp [insI]
  | cons z r ih =>
    unfold insI
    split
    · simp
    · split
      · simp only [List.length_cons]; omega
      · simp
theorem sortI_len (xs : List Int) : (sortI xs).length ≤ xs.length := by
  induction xs with
  | nil => simp [sortI]
  | cons x r ih => show (insI x (sortI r)).length ≤ _; have := insI_len x (sortI r); simp only [List.length_cons]; omega

/-- How many numbers of a list are less than n: its place there. -/
def rk (xs : List Int) (n : Int) : Nat := xs.countP fun x => decide (x < n)
theorem asc_lt {xs : List Int} (h : AscI xs) {i j : Nat} (hij : i < j) (hj : j < xs.length) : xs.getD i 0 < xs.getD j 0 := by
  have := List.pairwise_iff_getElem.1 h i j (by omega) hj hij
  simpa [List.getD, hj, show i < xs.length by omega] using this
/-- Where the search stops. -/
theorem rk_at {xs : List Int} {n : Int} {p : Nat} (hp : p ≤ xs.length) (hlo : ∀ j, j < p → xs.getD j 0 < n) (hhi : ∀ j, p ≤ j → j < xs.length → n ≤ xs.getD j 0) : rk xs n = p := by
  unfold rk
  induction xs generalizing p with
  | nil => simp at hp; simp [hp]
  | cons x r ih =>
    cases p with
    | zero =>
      rw [List.countP_eq_zero]
      intro y hy
      obtain ⟨t, ht, rfl⟩ := List.getElem_of_mem hy
      have := hhi t (Nat.zero_le _) ht
      rw [List.getD_eq_getElem?_getD, List.getElem?_eq_getElem ht, Option.getD_some] at this
      rw [decide_eq_true_eq]
      omega
    | succ p =>
      have h0 := hlo 0 (by omega)
      simp only [List.getD_cons_zero] at h0
      rw [List.countP_cons_of_pos (by simpa using h0), ih (p := p) (by simpa using hp) (fun j hj => by simpa using hlo (j + 1) (by omega)) (fun j h1 h2 => by simpa using hhi (j + 1) (by omega) (by simpa using h2))]
theorem mem_getD {xs : List Int} {n : Int} (h : n ∈ xs) : ∃ i, i < xs.length ∧ xs.getD i 0 = n := by
  obtain ⟨i, hi, rfl⟩ := List.getElem_of_mem h
  exact ⟨i, hi, by simp [List.getD, hi]⟩
theorem getD_mem {xs : List Int} {i : Nat} (h : i < xs.length) : xs.getD i 0 ∈ xs := by simp [List.getD, h]
theorem rk_lt {xs : List Int} {n : Int} (h : n ∈ xs) : rk xs n < xs.length := by
  unfold rk
  rw [List.countP_eq_length_filter]
  have : (xs.filter fun x => decide (x < n)).length < xs.length := by
    refine Nat.lt_of_le_of_ne (List.length_filter_le _ _) fun e => ?_
    have := List.length_filter_eq_length_iff.1 e n h
    simp at this
  exact this

/-- The stacked pairs of s above t, by the tile of s, and then by that of t. -/
def stk (ss ts : List Tl) : List (Tl × Tl) := ss.flatMap fun a => (ts.filter fun b => decide (a.2.2.2 = b.2.1)).map fun b => (a, b)
/-- The pairs of colours of a stacked pair at its west and its east, each as one number. -/
def cw (p : Tl × Tl) : Int := 16 * p.1.1 + p.2.1
def ce (p : Tl × Tl) : Int := 16 * p.1.2.2.1 + p.2.2.2.1
def codes (l : List (Tl × Tl)) : List Int := l.flatMap fun p => [cw p, ce p]
/-- The tile of a stacked pair. -/
def stT (ps : List Int) (p : Tl × Tl) : Tl := ((rk ps (cw p) : Int), p.1.2.1, (rk ps (ce p) : Int), p.2.2.2.2)
/-- The pairs of colours of a stack, in order. -/
def prs (ss ts : List Tl) : List Int := sortI (codes (stk ss ts))
def stkC (c d : Int) (ss ts : List Tl) : Int := max (max ((prs ss ts).length : Int) c) d
def stkT (ss ts : List Tl) : List Tl := sortT ((stk ss ts).map (stT (prs ss ts)))
theorem stk_len (ss ts : List Tl) : (stk ss ts).length ≤ ss.length * ts.length := by
  induction ss with
  | nil => simp [stk]
  | cons a r ih =>
    have : stk (a :: r) ts = ((ts.filter fun b => decide (a.2.2.2 = b.2.1)).map fun b => (a, b)) ++ stk r ts := by simp [stk]
    rw [this, List.length_append, List.length_map, List.length_cons, Nat.succ_mul]
    have := List.length_filter_le (fun b : Tl => decide (a.2.2.2 = b.2.1)) ts
    omega
theorem stk_mem {ss ts : List Tl} {p : Tl × Tl} (h : p ∈ stk ss ts) : p.1 ∈ ss ∧ p.2 ∈ ts ∧ p.1.2.2.2 = p.2.2.1 := by
  simp only [stk, List.mem_flatMap, List.mem_map, List.mem_filter] at h
  obtain ⟨a, ha, b, ⟨hb, e⟩, rfl⟩ := h
  exact ⟨ha, hb, by simpa using e⟩
theorem codes_len (l : List (Tl × Tl)) : (codes l).length = 2 * l.length := by
  induction l with
  | nil => rfl
  | cons p r ih => simp only [codes, List.flatMap_cons, List.length_append, List.length_cons, List.length_nil] at *; omega
theorem codes_snoc (l : List (Tl × Tl)) (p : Tl × Tl) : codes (l ++ [p]) = codes l ++ [cw p, ce p] := by simp [codes]
theorem cw_mem {l : List (Tl × Tl)} {p : Tl × Tl} (h : p ∈ l) : cw p ∈ codes l := by simp only [codes, List.mem_flatMap]; exact ⟨p, h, by simp⟩
theorem ce_mem {l : List (Tl × Tl)} {p : Tl × Tl} (h : p ∈ l) : ce p ∈ codes l := by simp only [codes, List.mem_flatMap]; exact ⟨p, h, by simp⟩
end Go.Proofs.Ytcakbnfpmpdljaa
