/- The program's CountRows. -/
import Derived.Test.YtleabblnikbmpaaCnt1
namespace Go.Proofs.Ytleabblnikbmpaa
set_option linter.unusedVariables false
set_option linter.unusedSimpArgs false
open Go.RowKit Go.Sort

theorem blk_store6 {w : World} {g : Nat} {t : TypeId} {f : Nat → Int} (h : Blk w g t (l6 f)) (a0 a1 a2 a3 a4 a5 : Int) :
    Blk ((((((w.setCell ⟨g, 0, none⟩ (.int .i64 a0)).setCell ⟨g, 1, none⟩ (.int .i64 a1)).setCell ⟨g, 2, none⟩ (.int .i64 a2)).setCell ⟨g, 3, none⟩ (.int .i64 a3)).setCell ⟨g, 4, none⟩ (.int .i64 a4)).setCell ⟨g, 5, none⟩ (.int .i64 a5)) g t #[.int .i64 a0, .int .i64 a1, .int .i64 a2, .int .i64 a3, .int .i64 a4, .int .i64 a5] := by
  have := (((((h.set_ 0 (.int .i64 a0)).set_ 1 (.int .i64 a1)).set_ 2 (.int .i64 a2)).set_ 3 (.int .i64 a3)).set_ 4 (.int .i64 a4)).set_ 5 (.int .i64 a5)
  simpa [l6] using this

def tot6 (f : Nat → Int) : Int := f 0 + f 1 + f 2 + f 3 + f 4 + f 5
def cnt (n : Int) : Int := if 1000000000000000 < n then 0 else n
def cntCode (n : Int) : Int := if 1000000000000000 < n then 3 else 0
/-- The code of a set and a number of tiles. -/
def lenCode (c0 : Int) (ts : List Tl) (i : Int) : Int := if isSet c0 ts = true then (if 1 ≤ i ∧ i ≤ 40 then 0 else 2) else 1
/-- An integer and a code have been handed back; what was there is as it was. -/
def IntRes (w : World) (r code : Int) (e : Ending) (w' : World) : Prop := e = .returned (.tuple #[.int .i64 r, .int .i64 code]) ∧ Below w.heap.size w w'
theorem IntRes.mk {w w' : World} {r code : Int} {e : Ending} (he : e = .returned (.tuple #[.int .i64 r, .int .i64 code])) (hb : Below w.heap.size w w') : IntRes w r code e w' := ⟨he, hb⟩

def wpow (ts : List Tl) (f : Nat → Int) : Nat → (Nat → Int)
  | 0 => f
  | k + 1 => wstep ts (wpow ts f k)
theorem wpow_cap (ts : List Tl) {f : Nat → Int} (h : Cap f) : ∀ k, Cap (wpow ts f k)
  | 0 => h
  | k + 1 => wstep_cap (wpow_cap ts h k) ts
theorem tileOk_mono {c d : Int} (h : c ≤ d) {t : Tl} (ht : tileOk c t = true) : tileOk d t = true := by
  simp only [tileOk, decide_eq_true_eq] at ht ⊢
  omega
theorem ok_of_isSet' {c : Int} {ts : List Tl} (h : isSet c ts = true) : ∀ t ∈ ts, tileOk c t = true := by
  intro t ht
  obtain ⟨i, hi, rfl⟩ := List.mem_iff_getElem.1 ht
  simp only [isSet, Bool.and_eq_true, List.all_eq_true, List.mem_range] at h
  have := h.2 i hi
  simp only [good, Bool.and_eq_true] at this
  simpa [List.getD, hi] using this.1
end Go.Proofs.Ytleabblnikbmpaa
