/- Rows of numbers of tiles: whether they are rows, on both sides. -/
import Derived.Test.YtleabblnikbmpaaNum
import Derived.Test.YtleabblnikbmpaaInts
namespace Go.Proofs.Ytleabblnikbmpaa
set_option linter.unusedVariables false
set_option linter.unusedSimpArgs false
open Go.RowKit Go.Sort

theorem TR.all {w : World} {B : Nat} {A : Option Addr} {ts : List Tl} (h : TR w B A ts) (h0 : 0 < ts.length) : ∃ b off, A = some ⟨b, off, none⟩ ∧ b < B ∧ ∀ k, k < ts.length → Cell4 w b (off + k * 4) (ts.getD k T0) := h h0
/-- The tile at a place of a list of numbers. -/
def tnum (ts : List Tl) (xs : List Int) (k : Nat) : Tl := ts.getD (xs.getD k 0).toNat T0
def inT (ts : List Tl) (x : Int) : Bool := decide (0 ≤ x ∧ x < ts.length)
/-- What a row asks of place k. -/
def rowGood (ts : List Tl) (xs : List Int) (k : Nat) : Bool := inT ts (xs.getD k 0) && (decide (k = 0) || decide ((tnum ts xs (k - 1)).2.2.1 = (tnum ts xs k).1))
def isRow (ts : List Tl) (xs : List Int) : Bool := decide (1 ≤ xs.length ∧ xs.length ≤ 20) && (List.range xs.length).all (rowGood ts xs)
theorem isRow_len {ts : List Tl} {xs : List Int} (h : ¬ (1 ≤ xs.length ∧ xs.length ≤ 20)) : isRow ts xs = false := by simp [isRow, h]
theorem isRow_at {ts : List Tl} {xs : List Int} {k : Nat} (hk : k < xs.length) (h : rowGood ts xs k = false) : isRow ts xs = false := by
  have : (List.range xs.length).all (rowGood ts xs) = false := by
    rw [List.all_eq_false]
    exact ⟨k, List.mem_range.2 hk, by simp [h]⟩
  simp [isRow, this]
theorem isRow_all {ts : List Tl} {xs : List Int} (hl : 1 ≤ xs.length ∧ xs.length ≤ 20) (h : ∀ j, j < xs.length → rowGood ts xs j = true) : isRow ts xs = true := by
  have : (List.range xs.length).all (rowGood ts xs) = true := List.all_eq_true.2 fun k hk => h k (List.mem_range.1 hk)
  simp [isRow, hl, this]
theorem rowGood_in {ts : List Tl} {xs : List Int} {k : Nat} (h : rowGood ts xs k = true) : 0 ≤ xs.getD k 0 ∧ xs.getD k 0 < ts.length := by
  simp only [rowGood, inT, Bool.and_eq_true, decide_eq_true_eq] at h
  exact h.1

/-- A function has handed back a bool and a code; what was there is as it was. -/
def BoolRes (w : World) (r : Bool) (code : Int) (e : Ending) (w' : World) : Prop := e = .returned (.tuple #[.bool r, .int .i64 code]) ∧ Below w.heap.size w w'

theorem isRowLength_any (n : Int) (w : World) : Calls Try.prog 116 #[.int .i64 n] w fun e w' => e = .returned (.bool (decide (1 ≤ n ∧ n ≤ 20))) ∧ w' = w := by
  go_enter Try.func116, Try.ntmps116
  by_cases h1 : 1 ≤ n <;> by_cases h2 : n ≤ 20 <;> go_wp2 <;> go_ret <;> exact ⟨by simp [h1, h2], rfl⟩

/-- All numbers of a list are numbers of tiles. -/
def allT (ts : List Tl) (xs : List Int) : Bool := (List.range xs.length).all fun k => inT ts (xs.getD k 0)
theorem allT_at {ts : List Tl} {xs : List Int} {k : Nat} (hk : k < xs.length) (h : inT ts (xs.getD k 0) = false) : allT ts xs = false := by
  unfold allT
  rw [List.all_eq_false]
  exact ⟨k, List.mem_range.2 hk, by show ¬ (inT ts (xs.getD k 0) = true); rw [h]; decide⟩
theorem allT_all {ts : List Tl} {xs : List Int} (h : ∀ j, j < xs.length → inT ts (xs.getD j 0) = true) : allT ts xs = true := List.all_eq_true.2 fun k hk => h k (List.mem_range.1 hk)
theorem allT_in {ts : List Tl} {xs : List Int} (h : allT ts xs = true) {k : Nat} (hk : k < xs.length) : inT ts (xs.getD k 0) = true := List.all_eq_true.1 h k (List.mem_range.2 hk)

set_option maxRecDepth 100000 in
set_option maxHeartbeats 1000000 in
theorem fits_east (c0 : Int) (A : Option Addr) (n c : Nat) (ts : List Tl) (i k : Nat) (w : World) (hn : n ≤ 1048576) (hl : ts.length = n) (hi : i < n) (hk : k < n) (hA : TR w w.heap.size A ts) :
    Calls Try.prog 155 #[.agg #[.int .i64 c0, .slice A n c], .int .i64 i, .int .i64 2, .int .i64 k] w fun e w' => e = .returned (.bool (decide ((ts.getD i T0).2.2.1 = (ts.getD k T0).1))) ∧ Ext w w' := by
  have hi3 : (i : Int) < (n : Int) := by omega
  have hk3 : (k : Int) < (n : Int) := by omega
  obtain ⟨b, o, rfl, -, ht⟩ := hA (by omega)
  have hx : Ext w (w.alloc (.cells #[.int .i64 c0, .slice (some ⟨b, o, none⟩) n c] 30)) := (Ext.refl w).alloc _
  have hlt : b < w.heap.size := by
    obtain ⟨b', o', e, h, _⟩ := hA (by omega)
    cases e
    exact h
  have ti : (w.alloc (.cells #[.int .i64 c0, .slice (some ⟨b, o, none⟩) n c] 30)).cell? ⟨b, o + i * 4 + 2, none⟩ = _ := (World.cell?_alloc_lt w _ _ hlt).trans (ht i (by omega)).2.2.1
  have tk : (w.alloc (.cells #[.int .i64 c0, .slice (some ⟨b, o, none⟩) n c] 30)).cell? ⟨b, o + k * 4, none⟩ = _ := (World.cell?_alloc_lt w _ _ hlt).trans (ht k (by omega)).1
  generalize (ts.getD i T0).2.2.1 = e at ti ⊢
  generalize (ts.getD k T0).1 = f at tk ⊢
  have r1 := (Blk.new w 30 #[.int .i64 c0, .slice (some ⟨b, o, none⟩) n c]).rd 1 rfl
  clear hA ht hx
  go_enter Try.func155, Try.ntmps155
  go_wp2_with fail
  go_quiet (fail)
  clear ti tk r1
  go_wp2_with fail
  go_ret
  exact ⟨ret_b (by rw [Bool.eq_iff_iff]; simp; exact eq_comm), by repeat (first | exact Ext.refl _ | refine Ext.drewN ?_ _ | refine Ext.alloc ?_ _)⟩

theorem isRow_impl {ts : List Tl} {xs : List Int} : isRow ts xs = (decide (1 ≤ xs.length ∧ xs.length ≤ 20) && allT ts xs && (List.range (xs.length - 1)).all fun k => decide ((tnum ts xs k).2.2.1 = (tnum ts xs (k + 1)).1)) := by
  rw [Bool.eq_iff_iff]
  simp only [isRow, allT, Bool.and_eq_true, List.all_eq_true, List.mem_range, rowGood, Bool.or_eq_true, decide_eq_true_eq]
  constructor
  · rintro ⟨h1, h2⟩
    refine ⟨⟨h1, fun k hk => (h2 k hk).1⟩, fun k hk => ?_⟩
    rcases (h2 (k + 1) (by omega)).2 with h | h
    · omega
    · simpa using h
  · rintro ⟨⟨h1, h2⟩, h3⟩
    refine ⟨h1, fun k hk => ⟨h2 k hk, ?_⟩⟩
    rcases k with _ | k
    · exact .inl rfl
    · exact .inr (by simpa using h3 k (by omega))
end Go.Proofs.Ytleabblnikbmpaa
