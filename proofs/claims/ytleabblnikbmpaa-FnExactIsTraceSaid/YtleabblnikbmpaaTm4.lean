/- The model's columns, row by row. -/
import Derived.Test.YtleabblnikbmpaaTm2
import Derived.Test.YtleabblnikbmpaaTx1
namespace Go.Proofs.Ytleabblnikbmpaa
set_option linter.unusedVariables false
set_option linter.unusedSimpArgs false
open Go.RowKit Go.Sort

theorem K_snoc (K : List Cq) {k : Nat} (hk : k < K.length) : K.take (k + 1) = K.take k ++ [K.getD k K0] := by
  rw [List.take_succ_eq_append_getElem hk]
  simp [List.getD, hk]
/-- What is known of the columns as the model has them. -/
def RowsK (K : List Cq) (rs : List (List Int)) : Prop := rs.length = K.length ∧ ∀ k, k < K.length → ∃ nc a b : Nat, ∃ s : Int, K.getD k K0 = (nc, a, b) ∧ rs.getD k [] = [(nc : Int), (a : Int), (b : Int), s]
theorem rowsK {C : Nat} {ts : List Tl} {h : Nat} (hs : isSet (C : Int) ts = true) (h1 : 1 ≤ h) : RowsK (KK C ts h) (rows4 (C : Int) ts (colsL ts h)) := by
  refine ⟨by rw [rows4_len, KK_len], fun k hk => ?_⟩
  rw [KK_len] at hk
  obtain ⟨nc, a, b, e1, -, -, -, ⟨s, e2⟩, -⟩ := kk_in hs h1 hk
  exact ⟨nc, a, b, s, e1, by rw [rows4_at (C : Int) ts _ hk, e2]⟩
/-- A row's cells. -/
theorem row_cells {w : World} {B : Nat} {R : Option Addr} {rs : List (List Int)} {k : Nat} {x y z s : Int} (h : IRR w B R rs) (hk : k < rs.length) (he : rs.getD k [] = [x, y, z, s]) :
    ∃ bR oR bq oq q, R = some ⟨bR, oR, none⟩ ∧ bR < B ∧ bq < B ∧ w.cell? ⟨bR, oR + k, none⟩ = some (.slice (some ⟨bq, oq, none⟩) 4 q) ∧ w.cell? ⟨bq, oq, none⟩ = some (.int .i64 x) ∧ w.cell? ⟨bq, oq + 1, none⟩ = some (.int .i64 y) ∧ w.cell? ⟨bq, oq + 2, none⟩ = some (.int .i64 z) := by
  obtain ⟨bR, oR, rfl, hbR, hc⟩ := h (by omega)
  obtain ⟨Q, q, e1, -, hQ⟩ := hc k hk
  rw [he] at e1 hQ
  obtain ⟨bq, oq, rfl, hbq, hcq⟩ := hQ (by simp)
  exact ⟨bR, oR, bq, oq, q, rfl, hbR, hbq, e1, by simpa using hcq 0 (by simp), by simpa using hcq 1 (by simp), by simpa using hcq 2 (by simp)⟩
/-- The sets that the model makes. -/
theorem upto_set {k : Nat} : (fun x => if x = k then true else decide (x < k)) = fun x => decide (x < k + 1) := by
  funext x
  by_cases h : x = k
  · rw [if_pos h]; symm; simp; omega
  · rw [if_neg h]
    by_cases h2 : x < k
    · rw [decide_eq_true h2, decide_eq_true (by omega)]
    · rw [decide_eq_false h2, decide_eq_false (by omega)]

end Go.Proofs.Ytleabblnikbmpaa
