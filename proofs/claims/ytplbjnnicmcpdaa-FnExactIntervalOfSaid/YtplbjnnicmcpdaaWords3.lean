/- WordsOfRow, on both sides. -/
import Derived.Test.YtplbjnnicmcpdaaWords2
import Derived.Deep.RegionHeld3
namespace Go.Proofs.Ytplbjnnicmcpdaa
set_option linter.unusedVariables false
set_option linter.unusedSimpArgs false
open Go.RowKit Go.Sort

/-- Two lists of numbers and a code have been handed back, to be read; what was there is as it was. -/
def LLRead (w : World) (ys zs : List Int) (code : Int) (e : Ending) (w' : World) : Prop :=
  ∃ R0 p0 R1 p1, e = .returned (.tuple #[.slice R0 ys.length p0, .slice R1 zs.length p1, .int .i64 code]) ∧ Below w.heap.size w w' ∧ IWr w' w.heap.size w'.heap.size R0 ys ∧ IWr w' w.heap.size w'.heap.size R1 zs
/-- Two lists of numbers and a code have been handed back, each list in memory of its own; what was there is as it was. -/
def LLOwn (w : World) (ys zs : List Int) (code : Int) (e : Ending) (w' : World) : Prop :=
  ∃ R0 p0 R1 p1 mid, w.heap.size ≤ mid ∧ mid ≤ w'.heap.size ∧ e = .returned (.tuple #[.slice R0 ys.length p0, .slice R1 zs.length p1, .int .i64 code]) ∧ Below w.heap.size w w' ∧ IWr w' w.heap.size mid R0 ys ∧ IWr w' mid w'.heap.size R1 zs
theorem LLRead.mk {w w' : World} {ys zs : List Int} {code : Int} {e : Ending} (R0 : Option Addr) (p0 : Nat) (R1 : Option Addr) (p1 : Nat) (he : e = .returned (.tuple #[.slice R0 ys.length p0, .slice R1 zs.length p1, .int .i64 code])) (hb : Below w.heap.size w w') (h0 : IWr w' w.heap.size w'.heap.size R0 ys) (h1 : IWr w' w.heap.size w'.heap.size R1 zs) : LLRead w ys zs code e w' := ⟨R0, p0, R1, p1, he, hb, h0, h1⟩
theorem LLOwn.mk {w w' : World} {ys zs : List Int} {code : Int} {e : Ending} (R0 : Option Addr) (p0 : Nat) (R1 : Option Addr) (p1 mid : Nat) (h2 : w.heap.size ≤ mid) (h3 : mid ≤ w'.heap.size) (he : e = .returned (.tuple #[.slice R0 ys.length p0, .slice R1 zs.length p1, .int .i64 code])) (hb : Below w.heap.size w w') (h0 : IWr w' w.heap.size mid R0 ys) (h1 : IWr w' mid w'.heap.size R1 zs) : LLOwn w ys zs code e w' := ⟨R0, p0, R1, p1, mid, h2, h3, he, hb, h0, h1⟩
theorem IWr.nil {w : World} {lo hi : Nat} {A : Option Addr} : IWr w lo hi A [] := fun h => absurd h (Nat.lt_irrefl _)
theorem allT_of_isRow {ts : List Tl} {xs : List Int} (h : isRow ts xs = true) : allT ts xs = true := by
  rw [isRow_impl] at h
  simp only [Bool.and_eq_true] at h
  exact h.1.2

def okRow (c0 : Int) (ts : List Tl) (xs : List Int) : Bool := isSet c0 ts && isRow ts xs
def rowCode (c0 : Int) (ts : List Tl) (xs : List Int) : Int := if isSet c0 ts = true then (if isRow ts xs = true then 0 else 2) else 1
def wordN (c0 : Int) (ts : List Tl) (xs : List Int) : List Int := if okRow c0 ts xs = true then colN ts xs else []
def wordS (c0 : Int) (ts : List Tl) (xs : List Int) : List Int := if okRow c0 ts xs = true then colS ts xs else []

end Go.Proofs.Ytplbjnnicmcpdaa
