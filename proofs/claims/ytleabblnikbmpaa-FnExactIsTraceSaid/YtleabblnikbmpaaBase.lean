/- Plain words on tiles, sets of tiles and rows of tiles in memory: no program is named here. -/
import Derived.WalkKit
import Derived.WalkLawsBesides
import Derived.WalkSpells
import Derived.Handy
import Derived.Lib.Hide
import Derived.Deep.QuietTactic
import Derived.BigQuiet
import Derived.Deep.LoopGhost
import Derived.Shelf.SlSortCmp.QuietGrown
import Derived.Test.YtleabblnikbmpaaProg
namespace Go.Proofs.Ytleabblnikbmpaa
set_option linter.unusedVariables false
set_option linter.unusedSimpArgs false
open Go.RowKit Go.Sort

/-- A tile: its four colours. -/
abbrev Tl := Int × Int × Int × Int
def enc (t : Tl) : List Value := [.int .i64 t.1, .int .i64 t.2.1, .int .i64 t.2.2.1, .int .i64 t.2.2.2]
def tv (t : Tl) : Value := .agg #[.int .i64 t.1, .int .i64 t.2.1, .int .i64 t.2.2.1, .int .i64 t.2.2.2]

/-- Nothing that was there has turned: draws, and new blocks. -/
def Ext (w w' : World) : Prop := ∃ q os, w' = grow (w.drewN q) os
theorem Ext.refl (w : World) : Ext w w := ⟨0, #[], by simp [World.drewN]⟩
theorem Ext.trans {a b c : World} (h : Ext a b) (k : Ext b c) : Ext a c := by
  obtain ⟨q, os, rfl⟩ := h
  obtain ⟨q', os', rfl⟩ := k
  exact ⟨q + q', os ++ os', by show grow (grow ((a.drewN q).drewN q') os) os' = _; rw [grow_grow, World.drewN_drewN]⟩
theorem Ext.alloc {a b : World} (h : Ext a b) (o : Obj) : Ext a (b.alloc o) := h.trans ⟨0, #[o], by rw [alloc_eq_grow]; rfl⟩
theorem Ext.drew {a b : World} (h : Ext a b) : Ext a b.drew := h.trans ⟨1, #[], by simp; rfl⟩
theorem Ext.drewN {a b : World} (h : Ext a b) (n : Nat) : Ext a (b.drewN n) := h.trans ⟨n, #[], by simp⟩
theorem Ext.grow {a b : World} (h : Ext a b) (os : Array Obj) : Ext a (grow b os) := h.trans ⟨0, os, rfl⟩
theorem Ext.below {a b : World} (h : Ext a b) {B : Nat} (hB : B ≤ a.heap.size) : Below B a b := by
  obtain ⟨q, os, rfl⟩ := h
  exact ⟨rfl, rfl, rfl, by simp [World.drewN], fun k hk => by rw [heap_grow_old _ _ (by simpa [World.drewN] using Nat.lt_of_lt_of_le hk hB)]; rfl⟩

/-- The first tile lies before the second one. -/
def before (a b : Tl) : Bool := decide (a.1 < b.1 ∨ (a.1 = b.1 ∧ (a.2.1 < b.2.1 ∨ (a.2.1 = b.2.1 ∧ (a.2.2.1 < b.2.2.1 ∨ (a.2.2.1 = b.2.2.1 ∧ a.2.2.2 < b.2.2.2))))))
def tileOk (c : Int) (t : Tl) : Bool := decide (0 ≤ t.1 ∧ t.1 < c ∧ 0 ≤ t.2.1 ∧ t.2.1 < c ∧ 0 ≤ t.2.2.1 ∧ t.2.2.1 < c ∧ 0 ≤ t.2.2.2 ∧ t.2.2.2 < c)
def eqT (a b : Tl) : Bool := decide (a = b)
def cmpT (a b : Tl) : Int := if before a b = true then -1 else if before b a = true then 1 else 0
end Go.Proofs.Ytleabblnikbmpaa
