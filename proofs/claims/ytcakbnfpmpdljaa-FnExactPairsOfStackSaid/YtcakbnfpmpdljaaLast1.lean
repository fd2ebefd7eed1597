/- Lasting tiles: the greatest set of tiles with neighbours in it, and when a smaller and smaller set has come to it. -/
import Derived.Test.YtcakbnfpmpdljaaDet1
namespace Go.Proofs.Ytcakbnfpmpdljaa
set_option linter.unusedVariables false
set_option linter.unusedSimpArgs false
open Go.RowKit Go.Sort

/-- Tile y may stand to the west of tile x. -/
def westOf (ts : List Tl) (x y : Nat) : Prop := (ts.getD y T0).2.2.1 = (ts.getD x T0).1
def eastOf (ts : List Tl) (x y : Nat) : Prop := (ts.getD y T0).1 = (ts.getD x T0).2.2.1
/-- Each tile of S is one of the set and has a western and an eastern neighbour in S. -/
def ClosedT (ts : List Tl) (S : Nat → Prop) : Prop := ∀ x, S x → x < ts.length ∧ (∃ y, S y ∧ westOf ts x y) ∧ (∃ y, S y ∧ eastOf ts x y)
/-- The lasting tiles. -/
def lastT (ts : List Tl) (x : Nat) : Prop := ∃ S, ClosedT ts S ∧ S x
theorem lastT_lt {ts : List Tl} {x : Nat} (h : lastT ts x) : x < ts.length := let ⟨S, hS, hx⟩ := h; (hS x hx).1
theorem lastT_closed (ts : List Tl) : ClosedT ts (lastT ts) := by
  intro x ⟨S, hS, hx⟩
  obtain ⟨h1, ⟨y, hy, hw⟩, z, hz, he⟩ := hS x hx
  exact ⟨h1, ⟨y, ⟨S, hS, hy⟩, hw⟩, z, ⟨S, hS, hz⟩, he⟩
/-- What holds all lasting tiles and is closed is the set of the lasting tiles. -/
theorem lastT_is {ts : List Tl} {P : Nat → Prop} (h : ∀ x, lastT ts x → P x) (hc : ClosedT ts P) (x : Nat) : P x ↔ lastT ts x := ⟨fun hx => ⟨P, hc, hx⟩, h x⟩
/-- A tile of P that lacks a neighbour in P does not last. -/
theorem lastT_not {ts : List Tl} {P : Nat → Prop} (h : ∀ x, lastT ts x → P x) {x : Nat} (hx : ¬ ((∃ y, P y ∧ westOf ts x y) ∧ (∃ y, P y ∧ eastOf ts x y))) : ¬ lastT ts x := by
  intro hl
  obtain ⟨_, ⟨y, hy, hw⟩, z, hz, he⟩ := lastT_closed ts x hl
  exact hx ⟨⟨y, h y hy, hw⟩, z, h z hz, he⟩
open Classical in
/-- Their numbers, in order. -/
noncomputable def lastL (ts : List Tl) : List Int := ((List.range ts.length).filter fun k => decide (lastT ts k)).map fun k : Nat => (k : Int)
open Classical in
theorem lastL_is {ts : List Tl} {p : Nat → Bool} (h : ∀ x, x < ts.length → (p x = true ↔ lastT ts x)) : ((List.range ts.length).filter p).map (fun k : Nat => (k : Int)) = lastL ts := by
  unfold lastL
  congr 1
  refine List.filter_congr fun x hx => ?_
  rw [Bool.eq_iff_iff, decide_eq_true_eq]
  exact h x (List.mem_range.1 hx)
theorem lastL_le (ts : List Tl) : (lastL ts).length ≤ ts.length := by
  unfold lastL
  rw [List.length_map]
  refine Nat.le_trans (List.length_filter_le _ _) ?_
  rw [List.length_range]
  exact Nat.le_refl _
/-- A filter that strikes none leaves a set that is closed. -/
theorem filter_all {α : Type} {p : α → Bool} {l : List α} (h : (l.filter p).length = l.length) : ∀ x ∈ l, p x = true := by
  induction l with
  | nil => intro x hx; cases hx
  | cons a l ih =>
    have h1 := List.length_filter_le p l
    cases hp : p a with
    | false => rw [List.filter_cons_of_neg (by rw [hp]; decide), List.length_cons] at h; omega
    | true =>
      rw [List.filter_cons_of_pos hp, List.length_cons, List.length_cons] at h
      intro x hx
      rcases List.mem_cons.1 hx with rfl | hx
      · exact hp
      · exact ih (by omega) x hx
end Go.Proofs.Ytcakbnfpmpdljaa
