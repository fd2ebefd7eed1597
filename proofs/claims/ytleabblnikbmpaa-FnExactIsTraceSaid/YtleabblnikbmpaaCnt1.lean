/- Counts of rows by their east colours: the plain step, and the program's array of six. -/
import Derived.Test.YtleabblnikbmpaaRow
namespace Go.Proofs.Ytleabblnikbmpaa
set_option linter.unusedVariables false
set_option linter.unusedSimpArgs false
open Go.RowKit Go.Sort

def addT (now nx : Nat → Int) (t : Tl) : Nat → Int := fun e => if e = t.2.2.1.toNat then min (nx e + now t.1.toNat) 1000000000000001 else nx e
/-- Rows that are a tile longer, counted by their east colours, at most 10^15 + 1. -/
def wstep (ts : List Tl) (now : Nat → Int) : Nat → Int := ts.foldl (addT now) (fun _ => 0)
def Cap (f : Nat → Int) : Prop := ∀ e, 0 ≤ f e ∧ f e ≤ 1000000000000001
theorem addT_cap {now nx : Nat → Int} (h1 : Cap now) (h2 : Cap nx) (t : Tl) : Cap (addT now nx t) := by
  intro e
  have a := h1 t.1.toNat
  have b := h2 e
  unfold addT
  split <;> omega
theorem fold_cap {now : Nat → Int} (h1 : Cap now) : ∀ (ts : List Tl) {nx : Nat → Int}, Cap nx → Cap (ts.foldl (addT now) nx)
  | [], _, h => h
  | t :: r, _, h => fold_cap h1 r (addT_cap h1 h t)
theorem wstep_cap {now : Nat → Int} (h : Cap now) (ts : List Tl) : Cap (wstep ts now) := fold_cap h ts (fun _ => ⟨by omega, by omega⟩)
theorem wstep_snoc (ts : List Tl) (now : Nat → Int) {k : Nat} (hk : k < ts.length) : wstep (ts.take (k + 1)) now = addT now (wstep (ts.take k) now) (ts.getD k T0) := by
  rw [take_snoc ts hk]
  simp [wstep, List.foldl_append]

/-- The cells are C numbers. -/
def Arr (cs : Array Value) (C : Nat) (g : Nat → Int) : Prop := cs.size = C ∧ ∀ e, e < C → cs[e]? = some (.int .i64 (g e))
theorem Arr.set {cs : Array Value} {C : Nat} {g : Nat → Int} (h : Arr cs C g) {e : Nat} (v : Int) : Arr (cs.setIfInBounds e (.int .i64 v)) C (fun i => if i = e then v else g i) := by
  refine ⟨by simpa using h.1, fun i hi => ?_⟩
  rw [Array.getElem?_setIfInBounds]
  have := h.1
  by_cases he : e = i
  · subst he
    rw [if_pos rfl, if_pos (by omega)]
    simp
  · have hne : ¬ i = e := fun x => he x.symm
    rw [if_neg he, h.2 i hi]
    simp [hne]
theorem Arr.congr {cs : Array Value} {C : Nat} {g g' : Nat → Int} (h : Arr cs C g) (hg : ∀ e, e < C → g e = g' e) : Arr cs C g' := ⟨h.1, fun e he => by rw [h.2 e he, hg e he]⟩
def l6 (g : Nat → Int) : Array Value := #[.int .i64 (g 0), .int .i64 (g 1), .int .i64 (g 2), .int .i64 (g 3), .int .i64 (g 4), .int .i64 (g 5)]
theorem arr6 (g : Nat → Int) : Arr (l6 g) 6 g := by
  refine ⟨rfl, fun e he => ?_⟩
  have : e = 0 ∨ e = 1 ∨ e = 2 ∨ e = 3 ∨ e = 4 ∨ e = 5 := by omega
  rcases this with rfl | rfl | rfl | rfl | rfl | rfl <;> rfl
theorem arr6_eq {cs : Array Value} {g : Nat → Int} (h : Arr cs 6 g) : cs = l6 g := by
  apply Array.ext_getElem?
  intro i
  rcases Nat.lt_or_ge i 6 with hi | hi
  · rw [h.2 i hi, (arr6 g).2 i hi]
  · rw [Array.getElem?_eq_none (by rw [h.1]; exact hi), Array.getElem?_eq_none (by simpa [l6] using hi)]

end Go.Proofs.Ytleabblnikbmpaa
