/- Lists of lists of numbers that came in, opened. -/
import Derived.Test.YtnmgkchkbchfaaaOpenI
import Derived.Test.YtnmgkchkbchfaaaRs
import Derived.Deep.Matrix
namespace Go.Proofs.Ytnmgkchkbchfaaa
set_option linter.unusedVariables false
set_option linter.unusedSimpArgs false
open Go.RowKit Go.Sort Go.ChangeShapes Go.WideShapes Go.ChangeAt Go.Joins Go.Deep

theorem cellsR : Try.prog.cellsOf 44 = 1 := by kernel_rfl
section
variable {H : Type} {enc' : TypeId × Value → H} {W : World}
set_option maxRecDepth 100000 in
theorem open_rows {v : Value} {d : DataW H} {p : List MemPlace} {r : Reach} {b0 : Nat} (hv : Value.okWide Try.prog W r b0 25 v) (h : DataW.Trod enc' Try.prog W 0 (fun _ => true) true 25 v d p) :
    ∃ (A : Option Addr) (n c : Nat) (rs : List (List Int)), v = .slice A n c ∧ n ≤ maxLen ∧ rs.length = n ∧ (∀ k, k < n → (rs.getD k []).length ≤ maxLen) ∧ IRR W W.heap.size A rs := by
  obtain ⟨a1, len, cap, rfl⟩ := okWide_slice Try.underlying25 hv
  obtain ⟨fuel, hf⟩ := h
  rcases open_int_rows Try.underlying25 Try.underlying44 Try.underlying2 cellsR cells2 hf with ⟨hcs, hx⟩ | ⟨a, len', cap', A, L, C, Z, hcs, hb, hl, hm, hx, hrow⟩
  · simp [Value.cells] at hcs
    obtain ⟨rfl, rfl, rfl⟩ := hcs
    exact ⟨none, 0, 0, [], rfl, Nat.zero_le _, rfl, fun k hk => absurd hk (Nat.not_lt_zero _), fun h0 => absurd h0 (Nat.lt_irrefl _)⟩
  · simp [Value.cells] at hcs
    obtain ⟨rfl, rfl, rfl⟩ := hcs
    have hget : ∀ k, k < len → ((List.range len).map fun r => (Z r).take (L r)).getD k [] = (Z k).take (L k) := fun k hk => by simp [List.getD, hk]
    have hlen : ∀ k, k < len → ((Z k).take (L k)).length = L k := fun k hk => by
      obtain ⟨_, h1, _, h2, _⟩ := hrow k (by omega)
      rw [List.length_take]
      omega
    refine ⟨some a, len, cap, (List.range len).map fun r => (Z r).take (L r), rfl, by omega, by simp, fun k hk => ?_, fun h0 => ?_⟩
    · rw [hget k hk, hlen k hk]
      obtain ⟨_, h1, h2, _⟩ := hrow k (by omega)
      omega
    · have hpos : 0 < len := by simpa using h0
      obtain ⟨b, off, spot⟩ := a
      have hspot : spot = none := by simpa [Addr.add] using World.cell?_spot (hrow 0 (by omega)).1
      subst hspot
      refine ⟨b, off, rfl, by have := World.block_lt_of_cell? W _ (hrow 0 (by omega)).1; simpa [Addr.add] using this, fun k hk => ?_⟩
      have hk' : k < len := by simpa using hk
      rw [hget k hk', hlen k hk']
      obtain ⟨h1, h2, h3, h4, h5, h6, h7⟩ := hrow k (by omega)
      rw [Go.WideShapes.add_plain] at h1
      refine ⟨A k, C k, h1, h2, fun hz => ?_⟩
      rw [hlen k hk'] at hz
      cases hA : A k with
      | none => have := h6 hA; omega
      | some a' =>
        obtain ⟨_, hcell⟩ := h7 a' hA
        obtain ⟨b', off', spot'⟩ := a'
        have hspot' : spot' = none := by simpa [Addr.add] using World.cell?_spot (hcell 0 (by omega))
        subst hspot'
        refine ⟨b', off', rfl, by have := World.block_lt_of_cell? W _ (hcell 0 (by omega)); simpa [Addr.add] using this, fun j hj => ?_⟩
        rw [hlen k hk'] at hj
        have := hcell j (by omega)
        rw [Go.WideShapes.add_plain] at this
        rw [this]
        have e : ((Z k).take (L k)).getD j 0 = (Z k).getD j 0 := by simp [List.getD, List.getElem?_take, hj]
        rw [e]
end
end Go.Proofs.Ytnmgkchkbchfaaa
