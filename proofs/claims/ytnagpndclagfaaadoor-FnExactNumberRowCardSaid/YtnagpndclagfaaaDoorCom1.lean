/- The different tiles of a list, as a map of the call's own. -/
import Derived.Test.YtnagpndclagfaaaDoorDetA
import Derived.Test.YtnagpndclagfaaaDoorRen1
import Derived.Lib.Hide
namespace Go.Proofs.YtnagpndclagfaaaDoor
set_option linter.unusedVariables false
set_option linter.unusedSimpArgs false
open Go.RowKit Go.Sort

/-- Numbers that make a key. -/
def smallT (t : Tl) : Prop := (0 ≤ t.1 ∧ t.1 < 1000000) ∧ (0 ≤ t.2.1 ∧ t.2.1 < 1000000) ∧ (0 ≤ t.2.2.1 ∧ t.2.2.1 < 1000000) ∧ (0 ≤ t.2.2.2 ∧ t.2.2.2 < 1000000)
theorem wfS {x : Int} (h0 : 0 ≤ x ∧ x < 1000000) : (Lit.int .i64 x).wf = true := by
  show (decide (IntKind.i64.min ≤ x) && decide (x ≤ IntKind.i64.max)) = true
  rw [Bool.and_eq_true, decide_eq_true_eq, decide_eq_true_eq]
  have h2 : IntKind.i64.min = -9223372036854775808 := by decide
  have h3 : IntKind.i64.max = 9223372036854775807 := by decide
  omega
theorem small_key {t : Tl} (h : smallT t) : ∃ l, keyOf Tryd.prog 56 (tv t) = some l := key_tile t (wfS h.1) (wfS h.2.1) (wfS h.2.2.1) (wfS h.2.2.2)
theorem small_ok {c : Int} {t : Tl} (h : tileOk c t = true) (hc : c ≤ 6) : smallT t := by
  simp only [tileOk, decide_eq_true_eq] at h
  unfold smallT
  omega
/-- Block b is a map that has just the first k tiles of f, each with true. -/
def MapT (w : World) (b : Nat) (f : Nat → Tl) (k : Nat) : Prop :=
  ∃ D : DataW Unit, w.ownsMap Tryd.prog 56 (plainElem Tryd.prog 4) b k D ∧ (∀ t l, keyOf Tryd.prog 56 (tv t) = some l → (Go.Maps.has D l = true ↔ ∃ x, x < k ∧ f x = t)) ∧
    (∀ l, Go.Maps.has D l = true → D.atKey l (.lit (.bool false)) = .lit (.bool true)) ∧ (∀ l, Go.Maps.has D l = true → ∃ t, keyOf Tryd.prog 56 (tv t) = some l)
theorem MapT.made (w : World) (f : Nat → Tl) : MapT (w.alloc (.map #[] 0)) w.heap.size f 0 :=
  ⟨.map [], World.ownsMap_made w _ _ _, fun t l _ => ⟨fun h => by simp [Go.Maps.has] at h, fun ⟨x, h, _⟩ => absurd h (Nat.not_lt_zero _)⟩, fun l h => by simp [Go.Maps.has] at h, fun l h => by simp [Go.Maps.has] at h⟩
theorem MapT.ext {w w' : World} {b k : Nat} {f : Nat → Tl} (h : MapT w b f k) (hx : Ext w w') : MapT w' b f k := by
  obtain ⟨D, ho, r⟩ := h
  exact ⟨D, ownsMap_ext ho hx, r⟩
theorem MapT.below {w w' : World} {b k : Nat} {f : Nat → Tl} (h : MapT w b f k) (hx : Below w.heap.size w w') : MapT w' b f k := by
  obtain ⟨D, ho, r⟩ := h
  have hlt := ho.lt
  obtain ⟨es, clock, hb, r2⟩ := ho
  exact ⟨D, ⟨es, clock, (hx.block b hlt).trans hb, r2⟩, r⟩
theorem MapT.lt {w : World} {b k : Nat} {f : Nat → Tl} (h : MapT w b f k) : b < w.heap.size := by
  obtain ⟨D, ho, r⟩ := h
  exact ho.lt
theorem MapT.put {w w' : World} {b k : Nat} {f : Nat → Tl} {l : Lit} {D : DataW Unit} (h : w.ownsMap Tryd.prog 56 (plainElem Tryd.prog 4) b k D)
    (hhas : ∀ t l, keyOf Tryd.prog 56 (tv t) = some l → (Go.Maps.has D l = true ↔ ∃ x, x < k ∧ f x = t)) (htrue : ∀ l, Go.Maps.has D l = true → D.atKey l (.lit (.bool false)) = .lit (.bool true))
    (hkeys : ∀ l, Go.Maps.has D l = true → ∃ t, keyOf Tryd.prog 56 (tv t) = some l)
    (hl : keyOf Tryd.prog 56 (tv (f k)) = some l) (h' : w'.ownsMap Tryd.prog 56 (plainElem Tryd.prog 4) b (k + 1) (D.put l (.lit (.bool true)))) : MapT w' b f (k + 1) := by
  refine ⟨_, h', fun t l' ht => ?_, fun l' hl' => ?_, fun l' hl' => ?_⟩
  · by_cases e : l' = l
    · subst e
      have : t = f k := tv_inj (tile_law.inj ht hl)
      subst this
      rw [Go.Maps.has_put_same h.isMap (tile_keyed.key hl)]
      exact ⟨fun _ => ⟨k, by omega, rfl⟩, fun _ => rfl⟩
    · rw [Go.Maps.has_put_other e, hhas t l' ht]
      constructor
      · rintro ⟨x, hx, h2⟩
        exact ⟨x, by omega, h2⟩
      · rintro ⟨x, hx, h2⟩
        by_cases e2 : x = k
        · subst e2
          rw [h2, ht] at hl
          exact absurd (Option.some.inj hl) e
        · exact ⟨x, by omega, h2⟩
  · by_cases e : l' = l
    · subst e
      rw [Go.Maps.atKey_put_same h.isMap (tile_keyed.key hl)]
    · rw [Go.Maps.has_put_other e] at hl'
      rw [Go.Maps.atKey_put_other e]
      exact htrue l' hl'
  · by_cases e : l' = l
    · subst e
      exact ⟨_, hl⟩
    · rw [Go.Maps.has_put_other e] at hl'
      exact hkeys l' hl'
theorem zero_bool (w : World) : (zeroValue 4).run Tryd.prog w = .ok (.bool false) w := by
  obtain ⟨i0, hi, hz0, hz1, hz2⟩ := info_parts info_bool
  first | exact run_zeroValue hi hz0 w | simp [zeroValue, typeInfo, hi, hz0] | kernel_rfl
end Go.Proofs.YtnagpndclagfaaaDoor
