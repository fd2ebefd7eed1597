/- Intervals of digits: the program's ends. -/
import Derived.Test.YtplbjnnicmcpdaaIt1
namespace Go.Proofs.Ytplbjnnicmcpdaa
set_option linter.unusedVariables false
set_option linter.unusedSimpArgs false
open Go.RowKit Go.Sort

/-- The sum of the first k digits. -/
def nS (xs : List Int) : Nat → Nat
  | 0 => 0
  | k + 1 => nS xs k + (xs.getD k 0).toNat
def lowsF (xs : List Int) (n : Nat) : List Fq := (List.range n).map fun k => (nS xs (k + 1), k + 1)
def highsF (xs : List Int) (n : Nat) : List Fq := (List.range n).map fun k => (nS xs (k + 1) + 1, k + 1)
theorem lowsF_len (xs : List Int) (n : Nat) : (lowsF xs n).length = n := by simp [lowsF]
theorem highsF_len (xs : List Int) (n : Nat) : (highsF xs n).length = n := by simp [highsF]
theorem lowsF_at (xs : List Int) {n k : Nat} (hk : k < n) : (lowsF xs n).getD k F0 = (nS xs (k + 1), k + 1) := by simp [lowsF, List.getD, hk]
theorem highsF_at (xs : List Int) {n k : Nat} (hk : k < n) : (highsF xs n).getD k F0 = (nS xs (k + 1) + 1, k + 1) := by simp [highsF, List.getD, hk]
theorem lowsF_succ (xs : List Int) (n : Nat) : lowsF xs (n + 1) = lowsF xs n ++ [(nS xs (n + 1), n + 1)] := by simp [lowsF, List.range_succ]
theorem highsF_succ (xs : List Int) (n : Nat) : highsF xs (n + 1) = highsF xs n ++ [(nS xs (n + 1) + 1, n + 1)] := by simp [highsF, List.range_succ]
theorem nS_le {xs : List Int} (h : ∀ k, k < xs.length → 0 ≤ xs.getD k 0 ∧ xs.getD k 0 ≤ 5) : ∀ k, k ≤ xs.length → nS xs k ≤ 5 * k
  | 0, _ => by simp [nS]
  | k + 1, hk => by
    have := nS_le h k (by omega)
    have := h k (by omega)
    simp only [nS]
    omega
/-- The ends, as the program finds them. -/
def lowE (xs : List Int) : Fq := maxF (lowsF xs xs.length) (xs.length - 1)
def highE (xs : List Int) : Fq := minF (highsF xs xs.length) (xs.length - 1)
theorem lows_small {xs : List Int} (hl : xs.length ≤ 20) (h : ∀ k, k < xs.length → 0 ≤ xs.getD k 0 ∧ xs.getD k 0 ≤ 5) : ∀ k, k < xs.length → smallF ((lowsF xs xs.length).getD k F0) := fun k hk => by
  rw [lowsF_at xs hk]
  have := nS_le h (k + 1) (by omega)
  exact ⟨by simp only; omega, by simp only; omega⟩
theorem highs_small {xs : List Int} (hl : xs.length ≤ 20) (h : ∀ k, k < xs.length → 0 ≤ xs.getD k 0 ∧ xs.getD k 0 ≤ 5) : ∀ k, k < xs.length → smallF ((highsF xs xs.length).getD k F0) := fun k hk => by
  rw [highsF_at xs hk]
  have := nS_le h (k + 1) (by omega)
  exact ⟨by simp only; omega, by simp only; omega⟩
theorem own_belowF {w w' : World} {base n size : Nat} {e : TypeId} {v : Value} {xs : List Value} (h : w.ownsRow base e size v n xs) (hx : Below w.heap.size w w') : w'.ownsRow base e size v n xs := by
  refine ⟨h.1, ?_⟩
  rcases h.2 with h0 | ⟨g, cap, cur, hv, hb, hg, r⟩
  · exact .inl h0
  · have hlt : g < w.heap.size := by
      rcases Nat.lt_or_ge g w.heap.size with hlt | hge
      · exact hlt
      · rw [Array.getElem?_eq_none hge] at hg; cases hg
    exact .inr ⟨g, cap, cur, hv, hb, (hx.block g hlt).trans hg, r⟩
theorem own_keptF {w w' : World} {base n size : Nat} {e : TypeId} {v u : Value} {xs : List Value} (h : w.ownsRow base e size v n xs) (hg : w.grownBy w' u.ownBlock) (hne : ∀ g, u.ownBlock = some g → v.ownBlock ≠ some g) : w'.ownsRow base e size v n xs := by
  refine ⟨h.1, ?_⟩
  rcases h.2 with h0 | ⟨g, cap, cur, rfl, hb, hgg, r⟩
  · exact .inl h0
  · have hlt : g < w.heap.size := by
      rcases Nat.lt_or_ge g w.heap.size with hlt | hge
      · exact hlt
      · rw [Array.getElem?_eq_none hge] at hgg; cases hgg
    exact .inr ⟨g, cap, cur, rfl, hb, (hg.block g hlt (fun e => hne g e.symm rfl)).trans hgg, r⟩
end Go.Proofs.Ytplbjnnicmcpdaa
