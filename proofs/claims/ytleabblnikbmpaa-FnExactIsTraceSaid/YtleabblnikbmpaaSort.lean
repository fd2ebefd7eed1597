/- Tiles in ascending order: plain lists. -/
import Derived.Test.YtleabblnikbmpaaBase
namespace Go.Proofs.Ytleabblnikbmpaa
set_option linter.unusedVariables false
set_option linter.unusedSimpArgs false

theorem before_irrefl (a : Tl) : before a a = false := by simp [before]
theorem before_trans {a b c : Tl} (h : before a b = true) (k : before b c = true) : before a c = true := by
  simp only [before, decide_eq_true_eq] at *; omega
theorem before_tri {a b : Tl} (h : before a b = false) (k : before b a = false) : a = b := by
  obtain ⟨a0, a1, a2, a3⟩ := a
  obtain ⟨b0, b1, b2, b3⟩ := b
  simp only [before, decide_eq_false_iff_not] at h k
  simp only [Prod.mk.injEq]
  omega
theorem before_asym {a b : Tl} (h : before a b = true) : before b a = false := by
  cases k : before b a with
  | false => rfl
  | true => have := before_trans h k; rw [before_irrefl] at this; cases this

/-- x put into an ascending list, once. -/
def insT (x : Tl) : List Tl → List Tl
  | [] => [x]
  | y :: r => if before x y then x :: y :: r else if before y x then y :: insT x r else y :: r
/-- A list in ascending order, each tile once. -/
def sortT (ts : List Tl) : List Tl := ts.foldl (fun out x => insT x out) []
/-- In ascending order. -/
def Asc (l : List Tl) : Prop := l.Pairwise fun a b => before a b = true
theorem insT_mem {x y : Tl} {l : List Tl} : y ∈ insT x l ↔ y = x ∨ y ∈ l := by
  induction l with
  | nil => simp [insT]
  | cons z r ih =>
    unfold insT
    split
    · simp
    · split
      · simp only [List.mem_cons, ih]
        exact ⟨fun h => by rcases h with h | h | h <;> simp [h], fun h => by rcases h with h | h | h <;> simp [h]⟩
      · rename_i h1 h2
        have : x = z := before_tri (by simpa using h1) (by simpa using h2)
        subst this
        simp
theorem insT_asc {x : Tl} {l : List Tl} (h : Asc l) : Asc (insT x l) := by
  induction l with
  | nil => simp [insT, Asc]
  | cons z r ih =>
    obtain ⟨h1, h2⟩ := List.pairwise_cons.1 h
    unfold insT
    split
    · rename_i hb
      exact List.pairwise_cons.2 ⟨fun y hy => by
        rcases List.mem_cons.1 hy with rfl | hy
        · exact hb
        · exact before_trans hb (h1 y hy), h⟩
    · split
      · rename_i hb
        refine List.pairwise_cons.2 ⟨fun y hy => ?_, ih h2⟩
        rcases insT_mem.1 hy with rfl | hy
        · exact hb
        · exact h1 y hy
      · exact h
theorem insT_len (x : Tl) (l : List Tl) : (insT x l).length ≤ l.length + 1 := by
  induction l with
  | nil => simp [insT]
  | cons z r ih =>
    unfold insT
    split
    · simp
    · split
      · simp only [List.length_cons]; omega
      · simp
/-- Where the loop stops: the tile goes there, or is there already. -/
theorem insT_at {x : Tl} {l : List Tl} (h : Asc l) {p : Nat} (hp : p ≤ l.length) (hafter : ∀ j, p ≤ j → j < l.length → before x (l.getD j (0, 0, 0, 0)) = true)
    (hbef : 0 < p → before x (l.getD (p - 1) (0, 0, 0, 0)) = false) :
    insT x l = if 0 < p ∧ l.getD (p - 1) (0, 0, 0, 0) = x then l else l.take p ++ [x] ++ l.drop p := by
  induction l generalizing p with
  | nil =>
    have : p = 0 := by simpa using hp
    subst this
    simp [insT]
  | cons z r ih =>
    obtain ⟨h1, h2⟩ := List.pairwise_cons.1 h
    cases p with
    | zero =>
      have := hafter 0 (Nat.le_refl _) (by simp)
      simp only [List.getD_cons_zero] at this
      simp [insT, this]
    | succ p =>
      have hz : before x z = false := by
        cases p with
        | zero => simpa using hbef (by omega)
        | succ q =>
          have hb := hbef (by omega)
          simp only [Nat.add_sub_cancel, List.getD_cons_succ] at hb
          have hq : q < r.length := by have := hp; simp at this; omega
          have hm : r.getD q (0, 0, 0, 0) ∈ r := by simp [List.getD, hq]
          have := h1 _ hm
          cases hxz : before x z with
          | false => rfl
          | true => rw [before_trans hxz this] at hb; cases hb
      have ih' := ih h2 (p := p) (by simpa using hp) (fun j hj hl => by have := hafter (j + 1) (by omega) (by simpa using hl); simpa using this) (fun h0 => by
        have := hbef (by omega)
        obtain ⟨q, rfl⟩ : ∃ q, p = q + 1 := ⟨p - 1, by omega⟩
        simpa using this)
      unfold insT
      rw [if_neg (by simp [hz])]
      by_cases hzx : before z x = true
      · rw [if_pos hzx, ih']
        have hne : z ≠ x := by rintro rfl; rw [before_irrefl] at hzx; cases hzx
        cases p with
        | zero => simp [hne]
        | succ q =>
          by_cases hq : r.getD q (0, 0, 0, 0) = x
          · have c1 : 0 < q + 1 ∧ r.getD (q + 1 - 1) (0, 0, 0, 0) = x := ⟨by omega, hq⟩
            have c2 : 0 < q + 1 + 1 ∧ (z :: r).getD (q + 1 + 1 - 1) (0, 0, 0, 0) = x := ⟨by omega, hq⟩
            rw [if_pos c1, if_pos c2]
          · have c1 : ¬ (0 < q + 1 ∧ r.getD (q + 1 - 1) (0, 0, 0, 0) = x) := fun h => hq h.2
            have c2 : ¬ (0 < q + 1 + 1 ∧ (z :: r).getD (q + 1 + 1 - 1) (0, 0, 0, 0) = x) := fun h => hq h.2
            rw [if_neg c1, if_neg c2]
            simp
      · have hzx' : before z x = false := by simpa using hzx
        have hxz : x = z := before_tri hz hzx'
        subst hxz
        rw [if_neg hzx]
        cases p with
        | zero => simp
        | succ q =>
          exfalso
          have hb := hbef (by omega)
          simp only [Nat.add_sub_cancel, List.getD_cons_succ] at hb
          have hq : q < r.length := by have := hp; simp at this; omega
          have hm : r.getD q (0, 0, 0, 0) ∈ r := by simp [List.getD, hq]
          rw [h1 _ hm] at hb
          cases hb
theorem sortT_snoc (ts : List Tl) (x : Tl) : sortT (ts ++ [x]) = insT x (sortT ts) := by simp [sortT]
theorem sortT_asc (ts : List Tl) : Asc (sortT ts) := by
  unfold sortT
  suffices h : ∀ l, Asc l → Asc (ts.foldl (fun out x => insT x out) l) from h [] (by simp [Asc])
  induction ts with
  | nil => exact fun l h => h
  | cons x r ih => exact fun l h => ih _ (insT_asc h)
theorem sortT_mem {ts : List Tl} {y : Tl} : y ∈ sortT ts ↔ y ∈ ts := by
  unfold sortT
  suffices h : ∀ l, y ∈ ts.foldl (fun out x => insT x out) l ↔ y ∈ ts ∨ y ∈ l from by simpa using h []
  induction ts with
  | nil => simp
  | cons x r ih =>
    intro l
    rw [List.foldl_cons, ih, insT_mem, List.mem_cons]
    exact ⟨fun h => by rcases h with h | h | h <;> simp [h], fun h => by rcases h with (h | h) | h <;> simp [h]⟩
theorem sortT_len (ts : List Tl) : (sortT ts).length ≤ ts.length := by
  unfold sortT
  suffices h : ∀ l : List Tl, (ts.foldl (fun out x => insT x out) l).length ≤ ts.length + l.length from by simpa using h []
  induction ts with
  | nil => simp
  | cons x r ih =>
    intro l
    rw [List.foldl_cons]
    have := ih (insT x l)
    have := insT_len x l
    simp only [List.length_cons]
    omega
/-- Two ascending lists of the same tiles are one. -/
theorem asc_eq {l m : List Tl} (hl : Asc l) (hm : Asc m) (h : ∀ y, y ∈ l ↔ y ∈ m) : l = m := by
  induction l generalizing m with
  | nil =>
    cases m with
    | nil => rfl
    | cons y r => have := (h y).2 (by simp); cases this
  | cons x r ih =>
    cases m with
    | nil => have := (h x).1 (by simp); cases this
    | cons y s =>
      obtain ⟨hx, hr⟩ := List.pairwise_cons.1 hl
      obtain ⟨hy, hs⟩ := List.pairwise_cons.1 hm
      have hxy : x = y := by
        rcases List.mem_cons.1 ((h x).1 (by simp)) with e | e
        · exact e
        · rcases List.mem_cons.1 ((h y).2 (by simp)) with e' | e'
          · exact e'.symm
          · have h1 := hy x e
            have h2 := hx y e'
            rw [before_asym h1] at h2
            cases h2
      subst hxy
      congr 1
      refine ih hr hs fun z => ⟨fun hz => ?_, fun hz => ?_⟩
      · rcases List.mem_cons.1 ((h z).1 (by simp [hz])) with e | e
        · subst e
          have := hx z hz
          rw [before_irrefl] at this
          cases this
        · exact e
      · rcases List.mem_cons.1 ((h z).2 (by simp [hz])) with e | e
        · subst e
          have := hy z hz
          rw [before_irrefl] at this
          cases this
        · exact e
theorem sortT_of_asc {ts : List Tl} (h : Asc ts) : sortT ts = ts := asc_eq (sortT_asc ts) h fun _ => sortT_mem
end Go.Proofs.Ytleabblnikbmpaa
