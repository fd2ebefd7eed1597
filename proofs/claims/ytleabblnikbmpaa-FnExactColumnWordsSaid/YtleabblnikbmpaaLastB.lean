/- The lasting tiles: the model's side, a table of bools from which tiles are struck. -/
import Derived.Test.YtleabblnikbmpaaLastA
import Derived.Test.YtleabblnikbmpaaIsA
import Derived.BigRegion
import Derived.Deep.DeepCutAuto
import Derived.Lib.Hide
import Derived.Test.YtleabblnikbmpaaTA
import Derived.Test.YtleabblnikbmpaaRen1
namespace Go.Proofs.Ytleabblnikbmpaa
section
set_option linter.unusedVariables false
set_option linter.unusedSimpArgs false
open Go.RowKit Go.Sort

/-- Block g tells p for each number below n. -/
def PB (w : World) (g n : Nat) (p : Nat → Bool) : Prop := ∃ cs, Blk w g 4 cs ∧ cs.size = n ∧ ∀ x, x < n → cs[x]? = some (.bool (p x))
theorem PB.lt {w : World} {g n : Nat} {p : Nat → Bool} (h : PB w g n p) : g < w.heap.size := let ⟨_, hb, _⟩ := h; hb.lt
theorem PB.at_ {w : World} {g n : Nat} {p : Nat → Bool} (h : PB w g n p) {x : Nat} (hx : x < n) : w.cell? ⟨g, x, none⟩ = some (.bool (p x)) ∧ w.frozen? ⟨g, x, none⟩ = false := by
  obtain ⟨cs, hb, hs, hc⟩ := h
  exact ⟨(hb.cell x).trans (hc x hx), hb.frozen x⟩
theorem PB.below {w w' : World} {g n : Nat} {p : Nat → Bool} (h : PB w g n p) (hx : Below w.heap.size w w') : PB w' g n p := by
  obtain ⟨cs, hb, hs, hc⟩ := h
  exact ⟨cs, hb.below hx hb.lt, hs, hc⟩
theorem PB.ext {w w' : World} {g n : Nat} {p : Nat → Bool} (h : PB w g n p) (hx : Ext w w') : PB w' g n p := h.below (hx.below (Nat.le_refl _))
theorem PB.congr {w : World} {g n : Nat} {p q : Nat → Bool} (h : PB w g n p) (he : ∀ x, x < n → p x = q x) : PB w g n q := by
  obtain ⟨cs, hb, hs, hc⟩ := h
  exact ⟨cs, hb, hs, fun x hx => by rw [hc x hx, he x hx]⟩
def setP (p : Nat → Bool) (i : Nat) (b : Bool) (x : Nat) : Bool := if x = i then b else p x
theorem PB.set_ {w : World} {g n : Nat} {p : Nat → Bool} (h : PB w g n p) (i : Nat) (b : Bool) : PB (w.setCell ⟨g, i, none⟩ (.bool b)) g n (setP p i b) := by
  obtain ⟨cs, hb, hs, hc⟩ := h
  refine ⟨cs.setIfInBounds i (.bool b), hb.set_ _ _, by simpa using hs, fun y hy => ?_⟩
  rw [Array.getElem?_setIfInBounds]
  unfold setP
  by_cases e : i = y
  · subst e
    rw [if_pos rfl, if_pos (by omega), if_pos rfl]
  · rw [if_neg e, hc y hy, if_neg (fun h => e h.symm)]
/-- How many are true. -/
def cntP (n : Nat) (p : Nat → Bool) : Nat := ((List.range n).filter p).length
theorem cntP_strike {n i : Nat} {p : Nat → Bool} (hi : i < n) (hp : p i = true) : cntP n (setP p i false) < cntP n p := by
  unfold cntP
  have e : (List.range n).filter (setP p i false) = ((List.range n).filter p).filter (fun x => decide (x ≠ i)) := by
    rw [List.filter_filter]
    refine List.filter_congr fun x _ => ?_
    unfold setP
    by_cases h : x = i <;> simp [h]
  rw [e]
  have hm : i ∈ (List.range n).filter p := List.mem_filter.2 ⟨List.mem_range.2 hi, hp⟩
  refine Nat.lt_of_le_of_ne (List.length_filter_le _ _) fun hc => ?_
  have := filter_all hc i hm
  simp at this
/-- The count, read off the memory. -/
def cntW (w : World) (g n : Nat) : Nat := cntP n fun x => match w.cell? ⟨g, x, none⟩ with | some (.bool true) => true | _ => false
theorem PB.cnt {w : World} {g n : Nat} {p : Nat → Bool} (h : PB w g n p) : cntW w g n = cntP n p := by
  unfold cntW cntP
  congr 1
  refine List.filter_congr fun x hx => ?_
  rw [(h.at_ (List.mem_range.1 hx)).1]
  cases p x <;> rfl
def anyW (ts : List Tl) (p : Nat → Bool) (x k : Nat) : Bool := (List.range k).any (fun y => p y && decide ((ts.getD y T0).2.2.1 = (ts.getD x T0).1))
def anyE (ts : List Tl) (p : Nat → Bool) (x k : Nat) : Bool := (List.range k).any (fun y => p y && decide ((ts.getD y T0).1 = (ts.getD x T0).2.2.1))
theorem anyW_succ (ts : List Tl) (p : Nat → Bool) (x k : Nat) : anyW ts p x (k + 1) = (anyW ts p x k || (p k && decide ((ts.getD k T0).2.2.1 = (ts.getD x T0).1))) := by simp [anyW, List.range_succ]
theorem anyE_succ (ts : List Tl) (p : Nat → Bool) (x k : Nat) : anyE ts p x (k + 1) = (anyE ts p x k || (p k && decide ((ts.getD k T0).1 = (ts.getD x T0).2.2.1))) := by simp [anyE, List.range_succ]
theorem keepP_any (ts : List Tl) (n : Nat) (p : Nat → Bool) (x : Nat) : keepP ts n p x = (anyW ts p x n && anyE ts p x n) := rfl
theorem last_keep {ts : List Tl} {n : Nat} (hl : ts.length = n) {p : Nat → Bool} (h : ∀ x, lastT ts x → p x = true) {x : Nat} (hk : keepP ts n p x = false) : ¬ lastT ts x := fun hx => by
  have := keep_last hl h x hx
  rw [Bool.and_eq_true] at this
  rw [this.2] at hk
  cases hk
theorem set_last {ts : List Tl} {n : Nat} (hl : ts.length = n) {p : Nat → Bool} (h : ∀ x, lastT ts x → p x = true) {i : Nat} (hk : keepP ts n p i = false) : ∀ x, lastT ts x → setP p i false x = true := fun x hx => by
  unfold setP
  by_cases e : x = i
  · subst e
    exact absurd hx (last_keep hl h hk)
  · rw [if_neg e]
    exact h x hx
end

section
set_option linter.unusedVariables false
set_option linter.unusedSimpArgs false
open Go.RowKit Go.Sort

def bitOf : Value → Nat | .bool true => 1 | _ => 0
theorem PB.start {w : World} {g : Nat} {cs : Array Value} {n : Nat} (hb : Blk w g 4 cs) (h : cs.size = n ∧ ∀ x : Nat, x < cs.size → cs[x]? = some (.bool false)) : PB w g n (fun x => decide (x < 0)) := ⟨cs, hb, h.1, fun x hx => by rw [h.2 x (by omega)]; simp⟩
theorem vb {a b : Bool} (h : a = b) : Value.bool a = .bool b := by rw [h]

end

section
set_option linter.unusedVariables false
set_option linter.unusedSimpArgs false
open Go.RowKit Go.Sort

theorem numsOf_congr {n : Nat} {p q : Nat → Bool} (h : ∀ x, x < n → p x = q x) : numsOf n p = numsOf n q := by
  unfold numsOf
  rw [List.filter_congr (fun x hx => h x (List.mem_range.1 hx))]
theorem numsOf_succ (n : Nat) (p : Nat → Bool) : numsOf (n + 1) p = numsOf n p ++ (if p n = true then [(n : Int)] else []) := by
  unfold numsOf
  rw [List.range_succ, List.filter_append, List.map_append]
  congr 1
  by_cases h : p n = true <;> simp [h]
end
end Go.Proofs.Ytleabblnikbmpaa
