/- The widest filling: mathematics. -/
import Derived.Test.YtleabblnikbmpaaTm2
import Derived.Test.YtleabblnikbmpaaTx1
import Derived.Test.YtleabblnikbmpaaCnt2
import Derived.Lib.Hide
namespace Go.Proofs.Ytleabblnikbmpaa
set_option linter.unusedVariables false
set_option linter.unusedSimpArgs false
open Go.RowKit Go.Sort

/-- The edges that stand for the columns. -/
def IsK (K : List Cq) (E : List Tl) : Prop := E.length = K.length ∧ ∀ k, k < K.length → E.getD k T0 = tileK (K.getD k K0)
theorem isK {C : Nat} {ts : List Tl} {h : Nat} (hs : isSet (C : Int) ts = true) (h1 : 1 ≤ h) : IsK (KK C ts h) (edgesL (C : Int) ts h) :=
  ⟨by rw [edgesL_len, KK_len], fun k hk => kk_edge hs h1 (by rw [← KK_len C]; exact hk)⟩
theorem closed_iff {K : List Cq} {E : List Tl} (h : IsK K E) (S : Nat → Prop) : ClosedT E S ↔ ClosedK K S := by
  have key : ∀ x y, x < K.length → y < K.length → (westOf E x y ↔ (K.getD y K0).2.2 = (K.getD x K0).2.1) ∧ (eastOf E x y ↔ (K.getD y K0).2.1 = (K.getD x K0).2.2) := by
    intro x y hx hy
    unfold westOf eastOf
    rw [h.2 x hx, h.2 y hy]
    unfold tileK
    simp only
    omega
  constructor
  · intro hc x hx
    obtain ⟨h1, ⟨y, hy, h2⟩, ⟨z, hz, h3⟩⟩ := hc x hx
    rw [h.1] at h1
    have hy1 := (hc y hy).1
    have hz1 := (hc z hz).1
    rw [h.1] at hy1 hz1
    exact ⟨h1, ⟨y, hy, ((key x y h1 hy1).1).1 h2⟩, ⟨z, hz, ((key x z h1 hz1).2).1 h3⟩⟩
  · intro hc x hx
    obtain ⟨h1, ⟨y, hy, h2⟩, ⟨z, hz, h3⟩⟩ := hc x hx
    exact ⟨by rw [h.1]; exact h1, ⟨y, hy, ((key x y h1 (hc y hy).1).1).2 h2⟩, ⟨z, hz, ((key x z h1 (hc z hz).1).2).2 h3⟩⟩
/-- There is a lasting column just where the ways do not end. -/
theorem last_fwd {K : List Cq} {E : List Tl} (h : IsK K E) : (∃ k, lastT E k) ↔ fwdAny K K.length = true := by
  constructor
  · rintro ⟨k, S, hS, hk⟩
    have hc := (closed_iff h S).1 hS
    exact fwd_any_of (hc k hk).1 (fwd_closed hc _ k hk)
  · intro hf
    obtain ⟨S, hS, x, hx⟩ := closed_of_fwd hf
    exact ⟨x, S, (closed_iff h S).2 hS, hx⟩
theorem last_always {K : List Cq} {E : List Tl} (h : IsK K E) (hk : ∃ k, lastT E k) (n : Nat) : fwdAny K n = true := by
  obtain ⟨k, S, hS, hk⟩ := hk
  have hc := (closed_iff h S).1 hS
  exact fwd_any_of (hc k hk).1 (fwd_closed hc _ k hk)
open Classical in
theorem lastL_nil {E : List Tl} : (lastL E).length = 0 ↔ ¬ ∃ k, lastT E k := by
  unfold lastL
  rw [List.length_map, List.length_eq_zero_iff, List.filter_eq_nil_iff]
  constructor
  · intro h ⟨k, hk⟩
    exact h k (List.mem_range.2 (lastT_lt hk)) (decide_eq_true hk)
  · intro h k _ hk
    exact h ⟨k, of_decide_eq_true hk⟩
/-- Where the ways end. -/
theorem wd_least {K : List Cq} (h : fwdAny K K.length = false) : ∃ r, r ≤ K.length ∧ (∀ j, j < r → fwdAny K j = true) ∧ fwdAny K r = false := by
  have key : ∀ n, fwdAny K n = false → ∃ r, r ≤ n ∧ (∀ j, j < r → fwdAny K j = true) ∧ fwdAny K r = false := by
    intro n
    induction n with
    | zero => intro h; exact ⟨0, Nat.le_refl _, fun j hj => absurd hj (Nat.not_lt_zero _), h⟩
    | succ n ih =>
      intro h
      cases hn : fwdAny K n with
      | false =>
        obtain ⟨r, h1, h2, h3⟩ := ih hn
        exact ⟨r, by omega, h2, h3⟩
      | true =>
        refine ⟨n + 1, Nat.le_refl _, fun j hj => ?_, h⟩
        have : ∀ d, fwdAny K (n - d) = true := by
          intro d
          induction d with
          | zero => exact hn
          | succ d ih2 =>
            rcases Nat.lt_or_ge d n with h9 | h9
            · have e : n - d = n - (d + 1) + 1 := by omega
              rw [e] at ih2
              exact fwdAny_mono ih2
            · rw [show n - (d + 1) = n - d by omega]; exact ih2
        have := this (n - j)
        rwa [show n - (n - j) = j by omega] at this
  exact key _ h
/-- What is counted is more than nothing just where there is a way. -/
theorem addT_pos {f nx : Nat → Int} (hf : Cap f) (hn : Cap nx) (k : Cq) (e : Nat) : 0 < addT f nx (tileK k) e ↔ 0 < nx e ∨ (0 < f k.2.1 ∧ k.2.2 = e) := by
  unfold addT tileK
  simp only [Int.toNat_natCast]
  have h1 := hf k.2.1
  have h2 := hn e
  by_cases h : e = k.2.2
  · rw [if_pos h]
    constructor
    · intro hh
      by_cases h3 : 0 < nx e
      · exact .inl h3
      · exact .inr ⟨by omega, h.symm⟩
    · rintro (hh | ⟨hh, -⟩) <;> omega
  · rw [if_neg h]
    constructor
    · exact .inl
    · rintro (hh | ⟨-, hh⟩)
      · exact hh
      · exact absurd hh.symm h
theorem fold_pos {f : Nat → Int} (hf : Cap f) (e : Nat) : ∀ (K : List Cq) {nx : Nat → Int}, Cap nx → (0 < (K.map tileK).foldl (addT f) nx e ↔ 0 < nx e ∨ ∃ k ∈ K, 0 < f k.2.1 ∧ k.2.2 = e)
  | [], nx, _ => by simp
  | k :: r, nx, hn => by
    rw [List.map_cons, List.foldl_cons, fold_pos hf e r (addT_cap hf hn _), addT_pos hf hn]
    simp only [List.mem_cons, exists_eq_or_imp]
    constructor
    · rintro ((h | h) | h)
      · exact .inl h
      · exact .inr (.inl h)
      · exact .inr (.inr h)
    · rintro (h | h | h)
      · exact .inl (.inl h)
      · exact .inl (.inr h)
      · exact .inr h
theorem wstep_pos {f : Nat → Int} (hf : Cap f) (K : List Cq) (e : Nat) : 0 < wstep (K.map tileK) f e ↔ ∃ k ∈ K, 0 < f k.2.1 ∧ k.2.2 = e := by
  unfold wstep
  rw [fold_pos hf e K (nx := fun _ => 0) (fun _ => ⟨by show (0 : Int) ≤ 0; omega, by show (0 : Int) ≤ _; omega⟩)]
  simp
theorem isK_map {K : List Cq} {E : List Tl} (h : IsK K E) : E = K.map tileK := by
  refine list_eq_of (by simp [h.1]) fun j hj => ?_
  rw [h.1] at hj
  rw [h.2 j hj]
  simp [List.getD, hj]
theorem wpow_pos {K : List Cq} {E : List Tl} (h : IsK K E) : ∀ n e, (0 < wpow E (fun _ => 1) n e ↔ fwdW K n e = true)
  | 0, e => by
    show (0 : Int) < 1 ↔ _
    simp [fwdW]
  | n + 1, e => by
    have hw : wpow E (fun _ => 1) (n + 1) = wstep E (wpow E (fun _ => 1) n) := rfl
    rw [hw, isK_map h, wstep_pos (by rw [← isK_map h]; exact wpow_cap E (fun _ => ⟨by show (0 : Int) ≤ 1; omega, by show (1 : Int) ≤ _; omega⟩) n)]
    rw [← isK_map h]
    show _ ↔ (K.any fun k => fwdW K n k.2.1 && decide (k.2.2 = e)) = true
    rw [List.any_eq_true]
    constructor
    · rintro ⟨k, hk, h1, h2⟩
      exact ⟨k, hk, by rw [(wpow_pos h n _).1 h1, decide_eq_true h2]; rfl⟩
    · rintro ⟨k, hk, h1⟩
      rw [Bool.and_eq_true, decide_eq_true_eq] at h1
      exact ⟨k, hk, (wpow_pos h n _).2 h1.1, h1.2⟩
end Go.Proofs.Ytleabblnikbmpaa
