/- The model's sort: walked. -/
import Derived.Test.YtleabblnikbmpaaReads
import Derived.Test.YtleabblnikbmpaaSort
import Derived.Test.YtleabblnikbmpaaEq
namespace Go.Proofs.Ytleabblnikbmpaa
set_option linter.unusedVariables false
set_option linter.unusedSimpArgs false
open Go.RowKit Go.Sort

theorem own_form {w : World} {base n : Nat} {v : Value} {xs : List Value} {g : Nat} (h : w.ownsRow base 69 4 v n xs) (hg : v.ownBlock = some g) : ∃ cap, v = .slice (some ⟨g, 0, none⟩) n cap ∧ n ≤ cap ∧ base ≤ g ∧ g < w.heap.size := by
  have hlt := h.lt g hg
  rcases h.2 with ⟨rfl, h0⟩ | ⟨g', cap, cur, rfl, hb, hh, hn, _⟩
  · simp [Value.ownBlock] at hg
  · have : g' = g := by simpa [Value.ownBlock] using hg
    subst this
    exact ⟨cap, rfl, hn, hlt⟩
theorem enc_flat_one (x : Tl) (ts : List Tl) : ∀ u ∈ enc x ++ flat ts, u.oneCell' = true := by
  intro u hu
  rcases List.mem_append.1 hu with h | h
  · exact enc_one x u h
  · exact flat_one ts u h
theorem grown_again {w : World} {a : Addr} {v : Value} (h : ∀ q os, (grow (w.drewN q) os).cell? a = some v) (nq : Nat) (osq : Array Obj) : ∀ q os, (grow ((grow (w.drewN nq) osq).drewN q) os).cell? a = some v := fun q os => by
  rw [← h (nq + q) (osq ++ os)]
  show (grow (grow ((w.drewN nq).drewN q) osq) os).cell? _ = _
  rw [grow_grow, World.drewN_drewN]
theorem grown_now {w : World} {a : Addr} {v : Value} (h : ∀ q os, (grow (w.drewN q) os).cell? a = some v) : w.cell? a = some v := by
  have := h 0 #[]
  simpa [World.drewN] using this
end Go.Proofs.Ytleabblnikbmpaa
