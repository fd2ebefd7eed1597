/- What a map keeps of a tile at a corner. -/
import Derived.Test.YtpjlapialjjcdaaDet2
import Derived.Deep.RegionLaw
import Derived.BigRegion
namespace Go.Proofs.Ytpjlapialjjcdaa
set_option linter.unusedVariables false
set_option linter.unusedSimpArgs false
open Go.RowKit Go.Sort

/-- The tile with zeroes at the sides that are not at the corner. -/
def keptT (t : Tl) (i : Nat) : Tl := match i with | 0 => (t.1, t.2.1, 0, 0) | 1 => (0, t.2.1, t.2.2.1, 0) | 2 => (0, 0, t.2.2.1, t.2.2.2) | _ => (t.1, 0, 0, t.2.2.2)
/-- What the map of the kept tiles knows: which they are, and whether there are as many as there were tiles. -/
def MapInv (w : World) (b : Nat) (f : Nat → Tl) (k : Nat) : Prop :=
  ∃ D : DataW Unit, w.ownsMap Try.prog 51 (plainElem Try.prog 4) b k D ∧ (∀ t l, keyOf Try.prog 51 (tv t) = some l → (Go.Maps.has D l = true ↔ ∃ x, x < k ∧ f x = t)) ∧
    Go.Maps.size D ≤ k ∧ (Go.Maps.size D = k ↔ ∀ y, y < k → ∀ x, x < y → f x ≠ f y)
theorem MapInv.made (w : World) (f : Nat → Tl) : MapInv (w.alloc (.map #[] 0)) w.heap.size f 0 :=
  ⟨.map [], World.ownsMap_made w _ _ _, fun t l _ => ⟨fun h => by simp [Go.Maps.has] at h, fun ⟨x, h, _⟩ => absurd h (Nat.not_lt_zero _)⟩, by simp [Go.Maps.size], ⟨fun _ y h => absurd h (Nat.not_lt_zero _), fun _ => by simp [Go.Maps.size]⟩⟩
theorem tv_inj {a b : Tl} (h : tv a = tv b) : a = b := by
  obtain ⟨a0, a1, a2, a3⟩ := a
  obtain ⟨b0, b1, b2, b3⟩ := b
  simp [tv] at h
  obtain ⟨rfl, rfl, rfl, rfl⟩ := h
  rfl
theorem MapInv.put {w w' : World} {b k : Nat} {f : Nat → Tl} {l : Lit} {D : DataW Unit} (h : w.ownsMap Try.prog 51 (plainElem Try.prog 4) b k D)
    (hhas : ∀ t l, keyOf Try.prog 51 (tv t) = some l → (Go.Maps.has D l = true ↔ ∃ x, x < k ∧ f x = t)) (hle : Go.Maps.size D ≤ k) (hsz : Go.Maps.size D = k ↔ ∀ y, y < k → ∀ x, x < y → f x ≠ f y)
    (hl : keyOf Try.prog 51 (tv (f k)) = some l) {d : DataW Unit} (h' : w'.ownsMap Try.prog 51 (plainElem Try.prog 4) b (k + 1) (D.put l d)) : MapInv w' b f (k + 1) := by
  have hT := h.tidy tile_keyed
  have hput := Go.Maps.size_put (k := l) hT d
  have hk := hhas (f k) l hl
  refine ⟨_, h', fun t l' ht => ?_, ?_, ?_⟩
  · by_cases e : l' = l
    · subst e
      have : t = f k := tv_inj (tile_law.inj ht hl)
      subst this
      rw [Go.Maps.has_put_same h.isMap (tile_keyed.key hl)]
      exact ⟨fun _ => ⟨k, by omega, rfl⟩, fun _ => rfl⟩
    · rw [Go.Maps.has_put_other e, hhas t l' ht]
      constructor
      · rintro ⟨x, hx, h2⟩
        exact ⟨x, by omega, h2⟩
      · rintro ⟨x, hx, h2⟩
        by_cases e2 : x = k
        · subst e2
          rw [h2, ht] at hl
          exact absurd (Option.some.inj hl) e
        · exact ⟨x, by omega, h2⟩
  · rw [hput]
    split <;> omega
  · rw [hput]
    by_cases hh : Go.Maps.has D l = true
    · rw [if_pos hh]
      obtain ⟨x, hx, h2⟩ := hk.1 hh
      exact ⟨fun e => by omega, fun h3 => absurd h2 (h3 k (by omega) x hx)⟩
    · rw [if_neg hh]
      constructor
      · intro e y hy x hx
        by_cases e2 : y = k
        · subst e2
          intro h3
          exact hh (hk.2 ⟨x, hx, h3⟩)
        · exact hsz.1 (by omega) y (by omega) x hx
      · intro h3
        have := hsz.2 (fun y hy x hx => h3 y (by omega) x hx)
        omega
end Go.Proofs.Ytpjlapialjjcdaa
