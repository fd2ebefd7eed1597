/- Lists of blocks: plain words, no program. -/
import Derived.Test.YtnmgkchkbchfaaaFil1
namespace Go.Proofs.Ytnmgkchkbchfaaa
set_option linter.unusedVariables false
set_option linter.unusedSimpArgs false
open Go.RowKit Go.Sort

def bRow (ts : List Tl) (bs : List (List Int)) (y : Nat) : Bool := decide ((bs.getD y []).length = 4) && allT ts (bs.getD y [])
/-- This is a list of blocks for the tiles. -/
def bOk (ts : List Tl) (bs : List (List Int)) : Bool := decide (bs.length = ts.length) && (List.range bs.length).all (bRow ts bs)
theorem bOk_len {ts : List Tl} {bs : List (List Int)} (h : bs.length ≠ ts.length) : bOk ts bs = false := by simp [bOk, h]
theorem bOk_at {ts : List Tl} {bs : List (List Int)} {y : Nat} (hy : y < bs.length) (h : bRow ts bs y = false) : bOk ts bs = false := by
  have : (List.range bs.length).all (bRow ts bs) = false := by
    rw [List.all_eq_false]
    exact ⟨y, List.mem_range.2 hy, by rw [h]; decide⟩
  simp [bOk, this]
theorem bOk_all {ts : List Tl} {bs : List (List Int)} (h1 : bs.length = ts.length) (h : ∀ y, y < bs.length → bRow ts bs y = true) : bOk ts bs = true := by
  have : (List.range bs.length).all (bRow ts bs) = true := List.all_eq_true.2 fun k hk => h k (List.mem_range.1 hk)
  unfold bOk
  rw [decide_eq_true h1, this]
  rfl
theorem bRow_no {ts : List Tl} {bs : List (List Int)} {y : Nat} (h : (bs.getD y []).length ≠ 4) : bRow ts bs y = false := by unfold bRow; rw [decide_eq_false h]; rfl
theorem bRow_yes {ts : List Tl} {bs : List (List Int)} {y : Nat} (h : (bs.getD y []).length = 4) : bRow ts bs y = allT ts (bs.getD y []) := by unfold bRow; rw [decide_eq_true h]; rfl
/-- The code of a set and a list of blocks. -/
def bCode (c0 : Int) (ts : List Tl) (bs : List (List Int)) : Int := if isSet c0 ts = true then (if bOk ts bs = true then 0 else 2) else 1
theorem bc1 {c0 : Int} {ts : List Tl} {bs : List (List Int)} (hs : isSet c0 ts = false) : bCode c0 ts bs = 1 := by simp [bCode, hs]
theorem bc2 {c0 : Int} {ts : List Tl} {bs : List (List Int)} (hs : isSet c0 ts = true) (h : bOk ts bs = false) : bCode c0 ts bs = 2 := by simp [bCode, hs, h]
theorem bc0 {c0 : Int} {ts : List Tl} {bs : List (List Int)} (hs : isSet c0 ts = true) (h : bOk ts bs = true) : bCode c0 ts bs = 0 := by simp [bCode, hs, h]
theorem bCode_zero {c0 : Int} {ts : List Tl} {bs : List (List Int)} (h : bCode c0 ts bs = 0) : isSet c0 ts = true ∧ bOk ts bs = true := by
  unfold bCode at h
  by_cases h1 : isSet c0 ts = true
  · rw [if_pos h1] at h
    by_cases h2 : bOk ts bs = true
    · exact ⟨h1, h2⟩
    · rw [if_neg h2] at h; omega
  · rw [if_neg h1] at h; omega
theorem bCode_cases (c0 : Int) (ts : List Tl) (bs : List (List Int)) : bCode c0 ts bs = 0 ∨ bCode c0 ts bs = 1 ∨ bCode c0 ts bs = 2 := by
  unfold bCode
  split
  · split
    · exact .inl rfl
    · exact .inr (.inr rfl)
  · exact .inr (.inl rfl)

/-- The number at a place of a tile's block. -/
def bAt (bs : List (List Int)) (k j : Nat) : Int := (bs.getD k []).getD j 0
def blk4 (r : List Int) : Tl := (r.getD 0 0, r.getD 1 0, r.getD 2 0, r.getD 3 0)
def blkL (bs : List (List Int)) : List Tl := bs.map blk4
theorem blkL_len (bs : List (List Int)) : (blkL bs).length = bs.length := by simp [blkL]
theorem blkL_get {bs : List (List Int)} {k : Nat} (hk : k < bs.length) : (blkL bs).getD k T0 = (bAt bs k 0, bAt bs k 1, bAt bs k 2, bAt bs k 3) := by
  simp [blkL, List.getD, hk, blk4, bAt]
theorem blkL_succ {bs : List (List Int)} {k : Nat} (hk : k < bs.length) : (blkL bs).take (k + 1) = (blkL bs).take k ++ [(bAt bs k 0, bAt bs k 1, bAt bs k 2, bAt bs k 3)] := by
  have h : k < (blkL bs).length := by rw [blkL_len]; exact hk
  rw [List.take_succ_eq_append_getElem h, ← blkL_get hk]
  simp [List.getD, h]
theorem bOk_facts {ts : List Tl} {bs : List (List Int)} (h : bOk ts bs = true) : bs.length = ts.length ∧ ∀ k, k < bs.length → (bs.getD k []).length = 4 ∧ ∀ j, j < 4 → 0 ≤ bAt bs k j ∧ bAt bs k j < (ts.length : Int) := by
  simp only [bOk, Bool.and_eq_true, decide_eq_true_eq] at h
  obtain ⟨h1, h2⟩ := h
  refine ⟨h1, fun k hk => ?_⟩
  have h3 := List.all_eq_true.1 h2 k (List.mem_range.2 hk)
  simp only [bRow, Bool.and_eq_true, decide_eq_true_eq] at h3
  refine ⟨h3.1, fun j hj => ?_⟩
  have h4 := allT_in h3.2 (k := j) (by omega)
  simp only [inT, decide_eq_true_eq] at h4
  exact h4
/-- The same as numbers that count. -/
theorem bOk_nat {ts : List Tl} {bs : List (List Int)} (h : bOk ts bs = true) {k : Nat} (hk : k < bs.length) {j : Nat} (hj : j < 4) : ∃ v : Nat, bAt bs k j = (v : Int) ∧ v < bs.length := by
  obtain ⟨h1, h2⟩ := bOk_facts h
  have h3 := (h2 k hk).2 j hj
  exact ⟨(bAt bs k j).toNat, by omega, by omega⟩
end Go.Proofs.Ytnmgkchkbchfaaa
