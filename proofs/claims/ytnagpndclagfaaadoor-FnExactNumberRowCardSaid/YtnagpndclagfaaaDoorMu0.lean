/- Multiplying sets: plain words. -/
import Derived.Test.YtnagpndclagfaaaDoorSort
import Derived.Test.YtnagpndclagfaaaDoorKyA
namespace Go.Proofs.YtnagpndclagfaaaDoor
set_option linter.unusedVariables false
set_option linter.unusedSimpArgs false
open Go.RowKit Go.Sort

/-- Whether there is a carry on the right. -/
def mulOk (p q a b l : Int) : Bool := decide (1 - p ≤ p * a + l - q * b ∧ p * a + l - q * b ≤ q - 1)
def mulT (p q a b l : Int) : Tl := (l + (p - 1), a, p * a + l - q * b + (p - 1), b)
/-- The program's order: north, south, west. -/
def lsI (p q a b : Int) : Nat → List Tl
  | 0 => []
  | k + 1 => lsI p q a b k ++ (if mulOk p q a b (1 - p + (k : Int)) = true then [mulT p q a b (1 - p + (k : Int))] else [])
def lsB (p q a u : Int) (K : Nat) : Nat → List Tl
  | 0 => []
  | j + 1 => lsB p q a u K j ++ lsI p q a (u + (j : Int)) K
def lsA (p q m u : Int) (K J : Nat) : Nat → List Tl
  | 0 => []
  | i + 1 => lsA p q m u K J i ++ lsB p q (m + (i : Int)) u K J
/-- The model's order: west, north, south. -/
def lsE (p q d l u : Int) : Nat → List Tl
  | 0 => []
  | j + 1 => lsE p q d l u j ++ (if mulOk p q d (u + (j : Int)) l = true then [mulT p q d (u + (j : Int)) l] else [])
def lsD (p q l m u : Int) (J : Nat) : Nat → List Tl
  | 0 => []
  | i + 1 => lsD p q l m u J i ++ lsE p q (m + (i : Int)) l u J
def lsL (p q m u : Int) (J I : Nat) : Nat → List Tl
  | 0 => []
  | k + 1 => lsL p q m u J I k ++ lsD p q (1 - p + (k : Int)) m u J I

theorem mem_lsI {p q a b : Int} {t : Tl} : ∀ {k : Nat}, t ∈ lsI p q a b k ↔ ∃ x : Nat, x < k ∧ mulOk p q a b (1 - p + (x : Int)) = true ∧ t = mulT p q a b (1 - p + (x : Int))
  | 0 => by simp [lsI]
  | k + 1 => by
    simp only [lsI, List.mem_append, mem_lsI (k := k)]
    constructor
    · rintro (⟨x, hx, h⟩ | h)
      · exact ⟨x, by omega, h⟩
      · split at h
        · rename_i hm
          exact ⟨k, by omega, hm, by simpa using h⟩
        · cases h
    · rintro ⟨x, hx, hm, rfl⟩
      by_cases he : x = k
      · subst he
        exact .inr (by rw [if_pos hm]; exact List.mem_singleton.2 rfl)
      · exact .inl ⟨x, by omega, hm, rfl⟩
theorem mem_lsB {p q a u : Int} {K : Nat} {t : Tl} : ∀ {j : Nat}, t ∈ lsB p q a u K j ↔ ∃ y : Nat, y < j ∧ t ∈ lsI p q a (u + (y : Int)) K
  | 0 => by simp [lsB]
  | j + 1 => by
    simp only [lsB, List.mem_append, mem_lsB (j := j)]
    constructor
    · rintro (⟨x, hx, h⟩ | h)
      · exact ⟨x, by omega, h⟩
      · exact ⟨j, by omega, h⟩
    · rintro ⟨x, hx, h⟩
      by_cases he : x = j
      · subst he; exact .inr h
      · exact .inl ⟨x, by omega, h⟩
theorem mem_lsA {p q m u : Int} {K J : Nat} {t : Tl} : ∀ {i : Nat}, t ∈ lsA p q m u K J i ↔ ∃ z : Nat, z < i ∧ t ∈ lsB p q (m + (z : Int)) u K J
  | 0 => by simp [lsA]
  | i + 1 => by
    simp only [lsA, List.mem_append, mem_lsA (i := i)]
    constructor
    · rintro (⟨x, hx, h⟩ | h)
      · exact ⟨x, by omega, h⟩
      · exact ⟨i, by omega, h⟩
    · rintro ⟨x, hx, h⟩
      by_cases he : x = i
      · subst he; exact .inr h
      · exact .inl ⟨x, by omega, h⟩
theorem mem_lsE {p q d l u : Int} {t : Tl} : ∀ {j : Nat}, t ∈ lsE p q d l u j ↔ ∃ y : Nat, y < j ∧ mulOk p q d (u + (y : Int)) l = true ∧ t = mulT p q d (u + (y : Int)) l
  | 0 => by simp [lsE]
  | j + 1 => by
    simp only [lsE, List.mem_append, mem_lsE (j := j)]
    constructor
    · rintro (⟨x, hx, h⟩ | h)
      · exact ⟨x, by omega, h⟩
      · split at h
        · rename_i hm
          exact ⟨j, by omega, hm, by simpa using h⟩
        · cases h
    · rintro ⟨x, hx, hm, rfl⟩
      by_cases he : x = j
      · subst he
        exact .inr (by rw [if_pos hm]; exact List.mem_singleton.2 rfl)
      · exact .inl ⟨x, by omega, hm, rfl⟩
theorem mem_lsD {p q l m u : Int} {J : Nat} {t : Tl} : ∀ {i : Nat}, t ∈ lsD p q l m u J i ↔ ∃ z : Nat, z < i ∧ t ∈ lsE p q (m + (z : Int)) l u J
  | 0 => by simp [lsD]
  | i + 1 => by
    simp only [lsD, List.mem_append, mem_lsD (i := i)]
    constructor
    · rintro (⟨x, hx, h⟩ | h)
      · exact ⟨x, by omega, h⟩
      · exact ⟨i, by omega, h⟩
    · rintro ⟨x, hx, h⟩
      by_cases he : x = i
      · subst he; exact .inr h
      · exact .inl ⟨x, by omega, h⟩
theorem mem_lsL {p q m u : Int} {J I : Nat} {t : Tl} : ∀ {k : Nat}, t ∈ lsL p q m u J I k ↔ ∃ x : Nat, x < k ∧ t ∈ lsD p q (1 - p + (x : Int)) m u J I
  | 0 => by simp [lsL]
  | k + 1 => by
    simp only [lsL, List.mem_append, mem_lsL (k := k)]
    constructor
    · rintro (⟨x, hx, h⟩ | h)
      · exact ⟨x, by omega, h⟩
      · exact ⟨k, by omega, h⟩
    · rintro ⟨x, hx, h⟩
      by_cases he : x = k
      · subst he; exact .inr h
      · exact .inl ⟨x, by omega, h⟩
theorem mem_same {p q m u : Int} {K J I : Nat} (t : Tl) : t ∈ lsA p q m u K J I ↔ t ∈ lsL p q m u J I K := by
  simp only [mem_lsA, mem_lsB, mem_lsI, mem_lsL, mem_lsD, mem_lsE]
  constructor
  · rintro ⟨z, hz, y, hy, x, hx, h⟩
    exact ⟨x, hx, z, hz, y, hy, h⟩
  · rintro ⟨x, hx, z, hz, y, hy, h⟩
    exact ⟨z, hz, y, hy, x, hx, h⟩
theorem nodup_lsI {p q a b : Int} : ∀ k : Nat, (lsI p q a b k).Nodup
  | 0 => by simp [lsI]
  | k + 1 => by
    simp only [lsI]
    refine List.nodup_append.2 ⟨nodup_lsI k, by split <;> simp, fun s hs t ht e => ?_⟩
    subst e
    obtain ⟨x, hx, -, rfl⟩ := mem_lsI.1 hs
    split at ht
    · have e := congrArg Prod.fst (List.mem_singleton.1 ht)
      simp only [mulT] at e
      omega
    · cases ht
theorem nodup_lsB {p q a u : Int} {K : Nat} : ∀ j : Nat, (lsB p q a u K j).Nodup
  | 0 => by simp [lsB]
  | j + 1 => by
    simp only [lsB]
    refine List.nodup_append.2 ⟨nodup_lsB j, nodup_lsI K, fun s hs t ht e => ?_⟩
    subst e
    obtain ⟨y, hy, h⟩ := mem_lsB.1 hs
    obtain ⟨x, hx, -, e1⟩ := mem_lsI.1 h
    obtain ⟨x', hx', -, e2⟩ := mem_lsI.1 ht
    have e := congrArg (fun t : Tl => t.2.2.2) (e1.symm.trans e2)
    simp only [mulT] at e
    omega
theorem nodup_lsA {p q m u : Int} {K J : Nat} : ∀ i : Nat, (lsA p q m u K J i).Nodup
  | 0 => by simp [lsA]
  | i + 1 => by
    simp only [lsA]
    refine List.nodup_append.2 ⟨nodup_lsA i, nodup_lsB J, fun s hs t ht e => ?_⟩
    subst e
    obtain ⟨z, hz, h⟩ := mem_lsA.1 hs
    obtain ⟨y, hy, h⟩ := mem_lsB.1 h
    obtain ⟨x, hx, -, e1⟩ := mem_lsI.1 h
    obtain ⟨y', hy', h'⟩ := mem_lsB.1 ht
    obtain ⟨x', hx', -, e2⟩ := mem_lsI.1 h'
    have e := congrArg (fun t : Tl => t.2.1) (e1.symm.trans e2)
    simp only [mulT] at e
    omega
theorem nodup_lsE {p q d l u : Int} : ∀ j : Nat, (lsE p q d l u j).Nodup
  | 0 => by simp [lsE]
  | j + 1 => by
    simp only [lsE]
    refine List.nodup_append.2 ⟨nodup_lsE j, by split <;> simp, fun s hs t ht e => ?_⟩
    subst e
    obtain ⟨x, hx, -, rfl⟩ := mem_lsE.1 hs
    split at ht
    · have e := congrArg (fun t : Tl => t.2.2.2) (List.mem_singleton.1 ht)
      simp only [mulT] at e
      omega
    · cases ht
theorem nodup_lsD {p q l m u : Int} {J : Nat} : ∀ i : Nat, (lsD p q l m u J i).Nodup
  | 0 => by simp [lsD]
  | i + 1 => by
    simp only [lsD]
    refine List.nodup_append.2 ⟨nodup_lsD i, nodup_lsE J, fun s hs t ht e => ?_⟩
    subst e
    obtain ⟨y, hy, h⟩ := mem_lsD.1 hs
    obtain ⟨x, hx, -, e1⟩ := mem_lsE.1 h
    obtain ⟨x', hx', -, e2⟩ := mem_lsE.1 ht
    have e := congrArg (fun t : Tl => t.2.1) (e1.symm.trans e2)
    simp only [mulT] at e
    omega
theorem nodup_lsL {p q m u : Int} {J I : Nat} : ∀ k : Nat, (lsL p q m u J I k).Nodup
  | 0 => by simp [lsL]
  | k + 1 => by
    simp only [lsL]
    refine List.nodup_append.2 ⟨nodup_lsL k, nodup_lsD I, fun s hs t ht e => ?_⟩
    subst e
    obtain ⟨z, hz, h⟩ := mem_lsL.1 hs
    obtain ⟨y, hy, h⟩ := mem_lsD.1 h
    obtain ⟨x, hx, -, e1⟩ := mem_lsE.1 h
    obtain ⟨y', hy', h'⟩ := mem_lsD.1 ht
    obtain ⟨x', hx', -, e2⟩ := mem_lsE.1 h'
    have e := congrArg (fun t : Tl => t.1) (e1.symm.trans e2)
    simp only [mulT] at e
    omega
theorem sort_both {p q m u : Int} {K J I : Nat} : sortT (lsA p q m u K J I) = sortT (lsL p q m u J I K) :=
  asc_eq (sortT_asc _) (sortT_asc _) fun y => by rw [sortT_mem, sortT_mem]; exact mem_same y
theorem len_both {p q m u : Int} {K J I : Nat} : (lsA p q m u K J I).length = (lsL p q m u J I K).length := by
  rw [← sortT_nodup_len (nodup_lsA I), ← sortT_nodup_len (nodup_lsL K), sort_both]
theorem lsI_len {p q a b : Int} : ∀ k : Nat, (lsI p q a b k).length ≤ k
  | 0 => by simp [lsI]
  | k + 1 => by
    have := lsI_len (p := p) (q := q) (a := a) (b := b) k
    simp only [lsI, List.length_append]
    split <;> simp <;> omega
theorem lsB_len {p q a u : Int} {K : Nat} : ∀ j : Nat, (lsB p q a u K j).length ≤ j * K
  | 0 => by simp [lsB]
  | j + 1 => by
    have h1 := lsB_len (p := p) (q := q) (a := a) (u := u) (K := K) j
    have h2 := lsI_len (p := p) (q := q) (a := a) (b := u + (j : Int)) K
    simp only [lsB, List.length_append]
    rw [Nat.succ_mul]
    omega
theorem lsA_len {p q m u : Int} {K J : Nat} : ∀ i : Nat, (lsA p q m u K J i).length ≤ i * (J * K)
  | 0 => by simp [lsA]
  | i + 1 => by
    have h1 := lsA_len (p := p) (q := q) (m := m) (u := u) (K := K) (J := J) i
    have h2 := lsB_len (p := p) (q := q) (a := m + (i : Int)) (u := u) (K := K) J
    simp only [lsA, List.length_append]
    rw [Nat.succ_mul]
    omega
theorem lsE_len {p q d l u : Int} : ∀ k : Nat, (lsE p q d l u k).length ≤ k
  | 0 => by simp [lsE]
  | k + 1 => by
    have := lsE_len (p := p) (q := q) (d := d) (l := l) (u := u) k
    simp only [lsE, List.length_append]
    split <;> simp <;> omega
theorem lsD_len {p q l m u : Int} {J : Nat} : ∀ j : Nat, (lsD p q l m u J j).length ≤ j * J
  | 0 => by simp [lsD]
  | j + 1 => by
    have h1 := lsD_len (p := p) (q := q) (l := l) (m := m) (u := u) (J := J) j
    have h2 := lsE_len (p := p) (q := q) (d := m + (j : Int)) (l := l) (u := u) J
    simp only [lsD, List.length_append]
    rw [Nat.succ_mul]
    omega
theorem lsL_len {p q m u : Int} {J I : Nat} : ∀ i : Nat, (lsL p q m u J I i).length ≤ i * (I * J)
  | 0 => by simp [lsL]
  | i + 1 => by
    have h1 := lsL_len (p := p) (q := q) (m := m) (u := u) (J := J) (I := I) i
    have h2 := lsD_len (p := p) (q := q) (l := 1 - p + (i : Int)) (m := m) (u := u) (J := J) I
    simp only [lsL, List.length_append]
    rw [Nat.succ_mul]
    omega
end Go.Proofs.YtnagpndclagfaaaDoor
