/- Whether a set is determined at a corner: the model's side. -/
import Derived.Test.YtleabblnikbmpaaNum
import Derived.Test.YtleabblnikbmpaaIsA
import Derived.BigRegion
import Derived.Lib.Hide
import Derived.DeepKeys4
import Derived.Maps.OwnSet
import Derived.Maps.Views
import Derived.Deep.RegionLaw
import Derived.Test.YtleabblnikbmpaaTA
namespace Go.Proofs.Ytleabblnikbmpaa
section
set_option linter.unusedVariables false
set_option linter.unusedSimpArgs false
open Go.RowKit Go.Sort

/-- The colour of a side. -/
def colT (t : Tl) (a : Nat) : Int := match a with | 0 => t.1 | 1 => t.2.1 | 2 => t.2.2.1 | _ => t.2.2.2
theorem Cell4.at {w : World} {b o : Nat} {t : Tl} (h : Cell4 w b o t) {a : Nat} (ha : a < 4) : w.cell? ⟨b, o + a, none⟩ = some (.int .i64 (colT t a)) := by
  obtain rfl | rfl | rfl | rfl : a = 0 ∨ a = 1 ∨ a = 2 ∨ a = 3 := by omega
  · exact h.1
  · exact h.2.1
  · exact h.2.2.1
  · exact h.2.2.2
theorem ret_bi {a b : Bool} {k k' : Int} (h : a = b) (h2 : k = k') : Ending.returned (.tuple #[.bool a, .int .i64 k]) = .returned (.tuple #[.bool b, .int .i64 k']) := by rw [h, h2]
def sameAt (ts : List Tl) (a b i k : Nat) : Bool := decide (colT (ts.getD i T0) a = colT (ts.getD k T0) a) && decide (colT (ts.getD i T0) b = colT (ts.getD k T0) b)
/-- No two tiles have the same colours at a and b. -/
def detB (ts : List Tl) (a b : Nat) : Bool := (List.range ts.length).all fun i => (List.range i).all fun k => !sameAt ts a b i k
theorem detB_at {ts : List Tl} {a b i k : Nat} (hi : i < ts.length) (hk : k < i) (h : sameAt ts a b i k = true) : detB ts a b = false := by
  unfold detB
  rw [List.all_eq_false]
  refine ⟨i, List.mem_range.2 hi, ?_⟩
  rw [Bool.not_eq_true, List.all_eq_false]
  exact ⟨k, List.mem_range.2 hk, by simp [h]⟩
theorem detB_all {ts : List Tl} {a b : Nat} (h : ∀ i k, i < ts.length → k < i → sameAt ts a b i k = false) : detB ts a b = true :=
  List.all_eq_true.2 fun i hi => List.all_eq_true.2 fun k hk => by rw [h i k (List.mem_range.1 hi) (List.mem_range.1 hk)]; rfl

theorem det_step {ts : List Tl} {i j k x : Nat} (h : ∀ x', x' < x → sameAt ts i j k x' = false) (h2 : sameAt ts i j k x = false) : ∀ x', x' < x + 1 → sameAt ts i j k x' = false := fun x' hx => by
  by_cases e : x' = x
  · rw [e]; exact h2
  · exact h x' (by omega)
theorem det_row {ts : List Tl} {i j k : Nat} (h : ∀ y, y < k → ∀ x, x < y → sameAt ts i j y x = false) (h2 : ∀ x', x' < k → sameAt ts i j k x' = false) : ∀ y, y < k + 1 → ∀ x, x < y → sameAt ts i j y x = false := fun y hy => by
  by_cases e : y = k
  · rw [e]; exact h2
  · exact h y (by omega)
end

section
set_option linter.unusedVariables false
set_option linter.unusedSimpArgs false
open Go.RowKit Go.Sort

theorem tile_wide : (match Try.prog.underlying 69 with | some (.array _ _) | some (.struct _) => true | _ => false) = true := by rw [Try.underlying69]
theorem tile_row : (69 : TypeId) < Try.prog.types.size := of_decide_eq_true (by kernel_rfl)
theorem tile_laid : laidOutB Try.prog = true := by kernel_rfl
theorem tile_deep : Try.prog.keyTypeAt 2 69 = true := by kernel_rfl
set_option maxRecDepth 100000 in
theorem tile_law : Go.WideMaps.KeyLaw Try.prog 69 := deep_law_laid tile_laid (m := 2) (by omega) tile_row tile_deep tile_wide
theorem tile_keyed : Go.Maps.Keyed Try.prog 69 := Go.Maps.Keyed.of_law tile_law
theorem key_tile (t : Tl) (h0 : (Lit.int .i64 t.1).wf = true) (h1 : (Lit.int .i64 t.2.1).wf = true) (h2 : (Lit.int .i64 t.2.2.1).wf = true) (h3 : (Lit.int .i64 t.2.2.2).wf = true) : ∃ l, keyOf Try.prog 69 (tv t) = some l := by
  obtain ⟨a, b, c, d⟩ := t
  simp only at h0 h1 h2 h3
  have hkt : Try.prog.keyType 69 = true := by kernel_rfl
  have hcl : Try.prog.cellsOf 69 = 4 := by kernel_rfl
  have hf : (tv (a, b, c, d)).formed Try.prog 69 = true := by simp [tv, Value.formed, Try.underlying69, hcl]
  unfold keyOf
  rw [Try.underlying69]
  simp only [hkt, hf, Bool.and_self, if_true]
  have h1c : Try.prog.cellsOf 2 = 1 := by kernel_rfl
  obtain ⟨u, hu⟩ : ∃ u, Try.prog.types.size = u + 1 := ⟨Try.prog.types.size - 1, by have : 0 < Try.prog.types.size := of_decide_eq_true (by kernel_rfl); omega⟩
  rw [hu]
  simp only [Program.keyLits, Try.underlying69, Try.underlying2, hcl, h1c]
  simp [tv, Value.cells, List.range, List.range.loop, h0, h1, h2, h3]
end

section
set_option linter.unusedVariables false
set_option linter.unusedSimpArgs false
open Go.RowKit Go.Sort

/-- The tile with zeroes at the sides that are not at the corner. -/
def keptT (t : Tl) (i : Nat) : Tl := match i with | 0 => (t.1, t.2.1, 0, 0) | 1 => (0, t.2.1, t.2.2.1, 0) | 2 => (0, 0, t.2.2.1, t.2.2.2) | _ => (t.1, 0, 0, t.2.2.2)
/-- What the map of the kept tiles knows: which they are, and whether there are as many as there were tiles. -/
def MapInv (w : World) (b : Nat) (f : Nat → Tl) (k : Nat) : Prop :=
  ∃ D : DataW Unit, w.ownsMap Try.prog 69 (plainElem Try.prog 4) b k D ∧ (∀ t l, keyOf Try.prog 69 (tv t) = some l → (Go.Maps.has D l = true ↔ ∃ x, x < k ∧ f x = t)) ∧
    Go.Maps.size D ≤ k ∧ (Go.Maps.size D = k ↔ ∀ y, y < k → ∀ x, x < y → f x ≠ f y)
theorem MapInv.made (w : World) (f : Nat → Tl) : MapInv (w.alloc (.map #[] 0)) w.heap.size f 0 :=
  ⟨.map [], World.ownsMap_made w _ _ _, fun t l _ => ⟨fun h => by simp [Go.Maps.has] at h, fun ⟨x, h, _⟩ => absurd h (Nat.not_lt_zero _)⟩, by simp [Go.Maps.size], ⟨fun _ y h => absurd h (Nat.not_lt_zero _), fun _ => by simp [Go.Maps.size]⟩⟩
theorem tv_inj {a b : Tl} (h : tv a = tv b) : a = b := by
  obtain ⟨a0, a1, a2, a3⟩ := a
  obtain ⟨b0, b1, b2, b3⟩ := b
  simp [tv] at h
  obtain ⟨rfl, rfl, rfl, rfl⟩ := h
  rfl
theorem MapInv.put {w w' : World} {b k : Nat} {f : Nat → Tl} {l : Lit} {D : DataW Unit} (h : w.ownsMap Try.prog 69 (plainElem Try.prog 4) b k D)
    (hhas : ∀ t l, keyOf Try.prog 69 (tv t) = some l → (Go.Maps.has D l = true ↔ ∃ x, x < k ∧ f x = t)) (hle : Go.Maps.size D ≤ k) (hsz : Go.Maps.size D = k ↔ ∀ y, y < k → ∀ x, x < y → f x ≠ f y)
    (hl : keyOf Try.prog 69 (tv (f k)) = some l) {d : DataW Unit} (h' : w'.ownsMap Try.prog 69 (plainElem Try.prog 4) b (k + 1) (D.put l d)) : MapInv w' b f (k + 1) := by
  have hT := h.tidy tile_keyed
  have hput := Go.Maps.size_put (k := l) hT d
  have hk := hhas (f k) l hl
  refine ⟨_, h', fun t l' ht => ?_, ?_, ?_⟩
  · by_cases e : l' = l
    · subst e
      have : t = f k := tv_inj (tile_law.inj ht hl)
      subst this
      rw [Go.Maps.has_put_same h.isMap (tile_keyed.key hl)]
      exact ⟨fun _ => ⟨k, by omega, rfl⟩, fun _ => rfl⟩
    · rw [Go.Maps.has_put_other e, hhas t l' ht]
      constructor
      · rintro ⟨x, hx, h2⟩
        exact ⟨x, by omega, h2⟩
      · rintro ⟨x, hx, h2⟩
        by_cases e2 : x = k
        · subst e2
          rw [h2, ht] at hl
          exact absurd (Option.some.inj hl) e
        · exact ⟨x, by omega, h2⟩
  · rw [hput]
    split <;> omega
  · rw [hput]
    by_cases hh : Go.Maps.has D l = true
    · rw [if_pos hh]
      obtain ⟨x, hx, h2⟩ := hk.1 hh
      exact ⟨fun e => by omega, fun h3 => absurd h2 (h3 k (by omega) x hx)⟩
    · rw [if_neg hh]
      constructor
      · intro e y hy x hx
        by_cases e2 : y = k
        · subst e2
          intro h3
          exact hh (hk.2 ⟨x, hx, h3⟩)
        · exact hsz.1 (by omega) y (by omega) x hx
      · intro h3
        have := hsz.2 (fun y hy x hx => h3 y (by omega) x hx)
        omega
end

section
set_option linter.unusedVariables false
set_option linter.unusedSimpArgs false
open Go.RowKit Go.Sort

theorem keptT_eq (s t : Tl) (i : Nat) (hi : i < 4) : keptT s i = keptT t i ↔ (colT s i = colT t i ∧ colT s ((i + 1) % 4) = colT t ((i + 1) % 4)) := by
  obtain ⟨a, b, c, d⟩ := s
  obtain ⟨a', b', c', d'⟩ := t
  obtain rfl | rfl | rfl | rfl : i = 0 ∨ i = 1 ∨ i = 2 ∨ i = 3 := by omega
  all_goals simp [keptT, colT]
  all_goals first | done | exact And.comm | (constructor <;> intro h <;> exact ⟨h.2, h.1⟩)
theorem detB_iff (ts : List Tl) (i : Nat) (hi : i < 4) : detB ts i ((i + 1) % 4) = true ↔ ∀ y, y < ts.length → ∀ x, x < y → keptT (ts.getD x T0) i ≠ keptT (ts.getD y T0) i := by
  constructor
  · intro h y hy x hx e
    have := (keptT_eq _ _ i hi).1 e
    rw [detB_at hy hx (by unfold sameAt; rw [decide_eq_true this.1.symm, decide_eq_true this.2.symm]; rfl)] at h
    exact absurd h (by decide)
  · intro h
    refine detB_all fun y x hy hx => ?_
    cases hs : sameAt ts i ((i + 1) % 4) y x with
    | false => rfl
    | true =>
      simp only [sameAt, Bool.and_eq_true, decide_eq_true_eq] at hs
      exact absurd ((keptT_eq _ _ i hi).2 ⟨hs.1.symm, hs.2.symm⟩) (h y hy x hx)
theorem wf64 {x : Int} (h0 : 0 ≤ x) (h1 : x < 1000) : (Lit.int .i64 x).wf = true := by
  show (decide (IntKind.i64.min ≤ x) && decide (x ≤ IntKind.i64.max)) = true
  rw [Bool.and_eq_true, decide_eq_true_eq, decide_eq_true_eq]
  have h2 : IntKind.i64.min = -9223372036854775808 := by decide
  have h3 : IntKind.i64.max = 9223372036854775807 := by decide
  omega
theorem kept_key {c : Int} {ts : List Tl} (hs : isSet c ts = true) {k i : Nat} (hk : k < ts.length) (hi : i < 4) : ∃ l, keyOf Try.prog 69 (tv (keptT (ts.getD k T0) i)) = some l := by
  have hc := (isSet_col hs).2
  have hg : good c ts k = true := by
    simp only [isSet, Bool.and_eq_true] at hs
    exact List.all_eq_true.1 hs.2 k (List.mem_range.2 hk)
  simp only [good, Bool.and_eq_true] at hg
  have ht := hg.1
  simp only [tileOk, decide_eq_true_eq] at ht
  generalize ts.getD k T0 = t at ht
  have w0 : (Lit.int .i64 0).wf = true := wf64 (by omega) (by omega)
  have wa := wf64 ht.1 (by omega)
  have wb := wf64 ht.2.2.1 (by omega)
  have wc := wf64 ht.2.2.2.2.1 (by omega)
  have wd := wf64 ht.2.2.2.2.2.2.1 (by omega)
  obtain rfl | rfl | rfl | rfl : i = 0 ∨ i = 1 ∨ i = 2 ∨ i = 3 := by omega
  · exact key_tile _ wa wb w0 w0
  · exact key_tile _ w0 wb wc w0
  · exact key_tile _ w0 w0 wc wd
  · exact key_tile _ wa w0 w0 wd
theorem ownsMap_ext {w w' : World} {P : Program} {k : TypeId} {R : Value → Option (DataW Unit × List MemPlace)} {b n : Nat} {D : DataW Unit} (h : w.ownsMap P k R b n D) (hx : Ext w w') : w'.ownsMap P k R b n D := by
  have hlt := h.lt
  obtain ⟨es, clock, hb, r⟩ := h
  exact ⟨es, clock, ((hx.below (Nat.le_refl _)).block b hlt).trans hb, r⟩

end
end Go.Proofs.Ytleabblnikbmpaa
