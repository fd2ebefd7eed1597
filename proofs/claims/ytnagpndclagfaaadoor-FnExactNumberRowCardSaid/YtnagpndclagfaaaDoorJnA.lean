/- Tiles with a number added to all colours; a slice of tiles cloned. -/
import Derived.Test.YtnagpndclagfaaaDoorAppT
import Derived.Test.YtnagpndclagfaaaDoorDetA
import Derived.Test.YtnagpndclagfaaaDoorSBridge
import Derived.Lib.SliceRun
import Derived.Lib.Hide
import Derived.Test.YtnagpndclagfaaaDoorNum
import Derived.Test.YtnagpndclagfaaaDoorIsA
namespace Go.Proofs.YtnagpndclagfaaaDoor
section
set_option linter.unusedVariables false
set_option linter.unusedSimpArgs false
open Go.RowKit Go.Sort

def shT (c : Int) (t : Tl) : Tl := (t.1 + c, t.2.1 + c, t.2.2.1 + c, t.2.2.2 + c)
/-- The cells of a tile whose first j colours have been raised. -/
def shA (c : Int) (t : Tl) (j : Nat) : Array Value := #[.int .i64 (if 0 < j then t.1 + c else t.1), .int .i64 (if 1 < j then t.2.1 + c else t.2.1), .int .i64 (if 2 < j then t.2.2.1 + c else t.2.2.1), .int .i64 (if 3 < j then t.2.2.2 + c else t.2.2.2)]
theorem shA_zero (c : Int) (t : Tl) : shA c t 0 = encA t := by simp [shA, encA]
theorem shA_four (c : Int) (t : Tl) : shA c t 4 = encA (shT c t) := by simp [shA, encA, shT]
theorem shA_at (c : Int) (t : Tl) {j : Nat} (hj : j < 4) : (shA c t j)[j]? = some (.int .i64 (colT t j)) := by
  obtain rfl | rfl | rfl | rfl : j = 0 ∨ j = 1 ∨ j = 2 ∨ j = 3 := by omega
  all_goals simp [shA, colT]
theorem shA_set (c : Int) (t : Tl) {j : Nat} (hj : j < 4) : (shA c t j).setIfInBounds j (.int .i64 (colT t j + c)) = shA c t (j + 1) := by
  obtain rfl | rfl | rfl | rfl : j = 0 ∨ j = 1 ∨ j = 2 ∨ j = 3 := by omega
  all_goals simp [shA, colT]
theorem colT_ok {c : Int} {t : Tl} (h : tileOk c t = true) (j : Nat) : 0 ≤ colT t j ∧ colT t j < c := by
  simp only [tileOk, decide_eq_true_eq] at h
  unfold colT
  split <;> omega
/-- The first k tiles raised. -/
def shN (c : Int) (us : List Tl) (k : Nat) : List Tl := (us.take k).map (shT c)
theorem shN_succ (c : Int) (us : List Tl) {k : Nat} (hk : k < us.length) : shN c us (k + 1) = shN c us k ++ [shT c (us.getD k T0)] := by
  unfold shN
  rw [take_snoc us hk, List.map_append]
  rfl
theorem shN_len (c : Int) (us : List Tl) {k : Nat} (hk : k ≤ us.length) : (shN c us k).length = k := by
  unfold shN
  rw [List.length_map, List.length_take]
  omega
theorem shT_before {c : Int} {a b : Tl} (h : before a b = true) : before (shT c a) (shT c b) = true := by
  obtain ⟨a0, a1, a2, a3⟩ := a
  obtain ⟨b0, b1, b2, b3⟩ := b
  simp [before, shT] at h ⊢
  omega
theorem join_asc {c d : Int} {ts us : List Tl} (ht : Asc ts) (hu : Asc us) (hc : ∀ t ∈ ts, tileOk c t = true) (hd : ∀ t ∈ us, tileOk d t = true) : Asc (ts ++ us.map (shT c)) := by
  unfold Asc
  rw [List.pairwise_append]
  refine ⟨ht, ?_, ?_⟩
  · rw [List.pairwise_map]
    exact hu.imp fun h => shT_before h
  · intro a ha b hb
    obtain ⟨u, hu', rfl⟩ := List.mem_map.1 hb
    have h1 := hc a ha
    have h2 := hd u hu'
    simp only [tileOk, decide_eq_true_eq] at h1 h2
    obtain ⟨a0, a1, a2, a3⟩ := a
    obtain ⟨b0, b1, b2, b3⟩ := u
    simp only at h1 h2
    unfold before
    exact decide_eq_true (Or.inl (show a0 < b0 + c by omega))

end

section
set_option linter.unusedVariables false
set_option linter.unusedSimpArgs false
open Go.RowKit Go.Sort

end
end Go.Proofs.YtnagpndclagfaaaDoor
