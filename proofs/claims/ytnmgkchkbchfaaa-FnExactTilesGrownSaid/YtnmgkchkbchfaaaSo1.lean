/- The library's sort of numbers. -/
import Derived.Test.YtnmgkchkbchfaaaAppI
import Derived.Test.YtnmgkchkbchfaaaShelfI
import Derived.Lib.Hide
namespace Go.Proofs.Ytnmgkchkbchfaaa
set_option linter.unusedVariables false
set_option linter.unusedSimpArgs false
open Go.RowKit Go.Sort

theorem own_put64 {w : World} {base g n cap : Nat} {xs : List Value} (h : w.ownsRow base 2 1 (.slice (some ⟨g, 0, none⟩) n cap) n xs) (d' : Array Int) (hd : d'.size = n) (m : Nat) (os : Array Obj) :
    (grow (putRow (Value.int .i64) (Go.Sort.ahead w m) g 0 d') os).ownsRow base 2 1 (.slice (some ⟨g, 0, none⟩) n cap) n (vis d'.toList) ∧ w.grownBy (grow (putRow (Value.int .i64) (Go.Sort.ahead w m) g 0 d') os) (some g) := by
  have hlt := h.lt g rfl
  rcases h.2 with ⟨hv, _⟩ | ⟨g', cap', cur, hv, hb, hh, hn, hm, hs, ht⟩
  · cases hv
  · cases hv
    have hnew : (grow (putRow (Value.int .i64) (Go.Sort.ahead w m) g 0 d') os).heap[g]? = some (.cells (putCells (Value.int .i64) 0 d' cur) 2 (0, 0)) := by
      unfold putRow
      rw [heap_grow_old _ _ (by simp [mapBlock, Go.Sort.ahead]; exact hlt.2)]
      simp [mapBlock, Go.Sort.ahead, Array.getElem?_modify, hh, onCells]
    refine ⟨⟨by simp [vis, hd], .inr ⟨g, cap, _, rfl, hb, hnew, hn, hm, by simp [putCells, hs], ?_⟩⟩, ?_⟩
    · apply List.ext_getElem?
      intro j
      rw [List.getElem?_take]
      by_cases hj : j < n * 1
      · rw [if_pos hj]
        have hjc : j < cur.size := by rw [hs]; exact Nat.lt_of_lt_of_le hj (Nat.mul_le_mul_right 1 hn)
        have hjf : j < d'.size := by rw [hd]; omega
        simp [putCells, hjc, hjf, vis, vi]
      · rw [if_neg hj, List.getElem?_eq_none (by simp [vis, hd]; omega)]
    · refine ⟨rfl, rfl, rfl, by simp [putRow, mapBlock, Go.Sort.ahead], fun k hk hne => ?_⟩
      unfold putRow
      rw [heap_grow_old _ _ (by simp [mapBlock, Go.Sort.ahead]; omega)]
      have : g ≠ k := fun e => hne (by rw [e])
      simp [mapBlock, Go.Sort.ahead, Array.getElem?_modify, this]
theorem holds_own64 {w : World} {base g cap : Nat} {xs : List Int} (h : w.ownsRow base 2 1 (.slice (some ⟨g, 0, none⟩) xs.length cap) xs.length (vis xs)) : Holds (Value.int .i64) w g 0 xs.toArray := by
  intro j hj
  have hj' : j < xs.length := by simpa using hj
  refine ⟨?_, h.frozenAt _⟩
  rw [Nat.zero_add, h.cellAt j (by omega)]
  simp [vis, vi, hj']

/-- slices.Sort at numbers. -/
def srt64 (xs : List Int) : List Int := xs.mergeSort fun x y => decide (x ≤ y)
theorem srt64_len (xs : List Int) : (srt64 xs).length = xs.length := by simp [srt64]
theorem sort64_any (base : Nat) (v : Value) (xs : List Int) (w : World) (hn : xs.length ≤ 1048576) (h : w.ownsRow base 2 1 v xs.length (vis xs)) :
    Calls Try.prog 84 #[v] w fun e w' => e = .returned (.tuple #[]) ∧ w'.ownsRow base 2 1 v (srt64 xs).length (vis (srt64 xs)) ∧ w.grownBy w' v.ownBlock := by
  by_cases h0 : xs.length = 0
  · obtain rfl := List.eq_nil_of_length_eq_zero h0
    obtain ⟨A, cap, rfl, hcap, -⟩ := own_iwr h rfl
    have hcon := AnyG.slices_Sort_int_none Try.sortInts A cap w
    change Calls Try.prog 84 _ _ _ at hcon
    refine hcon.mono ?_
    rintro e w' ⟨rfl, rfl⟩
    exact ⟨rfl, by simpa [srt64] using h, World.grownBy.refl _ _⟩
  · obtain ⟨g, cap, hv, hbg, hlt⟩ := h.form (by omega)
    subst hv
    have hcon := AnyG.slices_Sort_int Try.sortInts g 0 cap xs w (holds_own64 h) hlt (by omega)
    change Calls Try.prog 84 _ _ _ at hcon
    refine hcon.mono ?_
    rintro e w' ⟨rfl, m, os, rfl⟩
    have hoo := own_put64 h (xs.mergeSort fun x y => decide (x ≤ y)).toArray (by simp) m os
    refine ⟨rfl, ?_, hoo.2⟩
    have := hoo.1
    rw [srt64_len]
    exact this
end Go.Proofs.Ytnmgkchkbchfaaa
