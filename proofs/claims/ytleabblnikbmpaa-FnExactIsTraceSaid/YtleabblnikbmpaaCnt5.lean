/- The model's ways through a number of tiles. -/
import Derived.Test.YtleabblnikbmpaaCnt4
import Derived.StillTailTactics
namespace Go.Proofs.Ytleabblnikbmpaa
set_option linter.unusedVariables false
set_option linter.unusedSimpArgs false
open Go.RowKit Go.Sort

/-- A tile may stand at place i under a north word (the empty word: any). -/
def under (ns : List Int) (i : Nat) (t : Tl) : Bool := ns.isEmpty || decide (t.2.1 = ns.getD i 0)
def addP (p : Tl → Bool) (now nx : Nat → Int) (t : Tl) : Nat → Int := if p t = true then addT now nx t else nx
def pstep (p : Tl → Bool) (ts : List Tl) (now : Nat → Int) : Nat → Int := ts.foldl (addP p now) (fun _ => 0)
theorem pfold_eq (p : Tl → Bool) (now : Nat → Int) : ∀ (ts : List Tl) (nx : Nat → Int), ts.foldl (addP p now) nx = (ts.filter p).foldl (addT now) nx
  | [], _ => rfl
  | t :: r, nx => by
    by_cases h : p t = true
    · simp only [List.foldl_cons, List.filter_cons, h, if_true, addP]
      exact pfold_eq p now r _
    · simp only [List.foldl_cons, List.filter_cons, h, addP]
      exact pfold_eq p now r _
theorem pstep_eq (p : Tl → Bool) (ts : List Tl) (now : Nat → Int) : pstep p ts now = wstep (ts.filter p) now := pfold_eq p now ts _
theorem pstep_snoc (p : Tl → Bool) (ts : List Tl) (now : Nat → Int) {k : Nat} (hk : k < ts.length) : pstep p (ts.take (k + 1)) now = addP p now (pstep p (ts.take k) now) (ts.getD k T0) := by
  rw [take_snoc ts hk]
  simp [pstep, List.foldl_append]
theorem pstep_cap {p : Tl → Bool} {now : Nat → Int} (h : Cap now) (ts : List Tl) : Cap (pstep p ts now) := by
  rw [pstep_eq]
  exact wstep_cap h _
def npow (ts : List Tl) (ns : List Int) (f : Nat → Int) : Nat → (Nat → Int)
  | 0 => f
  | k + 1 => pstep (under ns k) ts (npow ts ns f k)
theorem npow_cap (ts : List Tl) (ns : List Int) {f : Nat → Int} (h : Cap f) : ∀ k, Cap (npow ts ns f k)
  | 0 => h
  | k + 1 => pstep_cap (npow_cap ts ns h k) ts
theorem npow_nil (ts : List Tl) (f : Nat → Int) : ∀ k, npow ts [] f k = wpow ts f k
  | 0 => rfl
  | k + 1 => by
    show pstep (under [] k) ts (npow ts [] f k) = wstep ts (wpow ts f k)
    rw [pstep_eq, npow_nil ts f k]
    congr 1
    exact List.filter_eq_self.2 fun t _ => rfl

theorem arr_made (C : Nat) : Arr (madeCells (Value.cells (.int .i64 0)) (C * 1)) C (fun _ => 0) := by
  refine ⟨by rw [size_madeCells, Nat.mul_one], fun e he => ?_⟩
  have h := toList_madeCells_one (.int .i64 0) (C * 1)
  have e1 : (Value.cells (.int .i64 0)) = #[.int .i64 0] := rfl
  rw [e1, ← Array.getElem?_toList, h]
  simp [he]

/-- Block g has C numbers. -/
def BArr (w : World) (g C : Nat) (f : Nat → Int) : Prop := ∃ t cs, Blk w g t cs ∧ Arr cs C f
theorem BArr.ext {w w' : World} {g C : Nat} {f : Nat → Int} (h : BArr w g C f) (hx : Ext w w') : BArr w' g C f := by
  obtain ⟨t, cs, hb, ha⟩ := h
  exact ⟨t, cs, hb.ext hx, ha⟩
theorem BArr.cell {w : World} {g C : Nat} {f : Nat → Int} (h : BArr w g C f) {e : Nat} (he : e < C) : w.cell? ⟨g, e, none⟩ = some (.int .i64 (f e)) := by
  obtain ⟨t, cs, hb, ha⟩ := h
  rw [hb.cell]
  exact ha.2 e he
theorem BArr.frozen {w : World} {g C : Nat} {f : Nat → Int} (h : BArr w g C f) (e : Nat) : w.frozen? ⟨g, e, none⟩ = false := by
  obtain ⟨t, cs, hb, ha⟩ := h
  exact hb.frozen e
theorem BArr.lt {w : World} {g C : Nat} {f : Nat → Int} (h : BArr w g C f) : g < w.heap.size := by
  obtain ⟨t, cs, hb, ha⟩ := h
  exact hb.lt
theorem BArr.set_ {w : World} {g C : Nat} {f : Nat → Int} (h : BArr w g C f) (e : Nat) (v : Int) : BArr (w.setCell ⟨g, e, none⟩ (.int .i64 v)) g C (fun i => if i = e then v else f i) := by
  obtain ⟨t, cs, hb, ha⟩ := h
  exact ⟨t, _, hb.set_ e _, ha.set v⟩
theorem BArr.iwr {w : World} {g C lo : Nat} {f : Nat → Int} (h : BArr w g C f) (hl : lo ≤ g) : IWr w lo w.heap.size (some ⟨g, 0, none⟩) (fl C f) := by
  obtain ⟨t, cs, hb, ha⟩ := h
  exact fun _ => ⟨g, 0, t, cs, rfl, hl, hb.lt, hb, fun k hk => by rw [fl_len] at hk; rw [Nat.zero_add, fl_at hk]; exact ha.2 k hk⟩
theorem IWr.hi {w : World} {lo hi hi' : Nat} {A : Option Addr} {xs : List Int} (h : IWr w lo hi A xs) (hh : hi ≤ hi') : IWr w lo hi' A xs := fun h0 => by
  obtain ⟨b, off, t, cs, e, hl', hb, hb2, hc⟩ := h h0
  exact ⟨b, off, t, cs, e, hl', by omega, hb2, hc⟩
theorem IWr.far {w : World} {lo hi : Nat} {A : Option Addr} {xs : List Int} (h : IWr w lo hi A xs) {p : Addr} (hp : hi ≤ p.block) (u : Value) : IWr (w.setCell p u) lo hi A xs := fun h0 => by
  obtain ⟨b, off, t, cs, e, hl', hh, hb, hc⟩ := h h0
  exact ⟨b, off, t, cs, e, hl', hh, hb.far (by omega) u, hc⟩

end Go.Proofs.Ytleabblnikbmpaa
