/- Walk of == on tiles. -/
import Derived.Test.YtleabblnikbmpaaTA
import Derived.ChangeKeysEq
namespace Go.Proofs.Ytleabblnikbmpaa
set_option linter.unusedVariables false
set_option linter.unusedSimpArgs false
open Go.RowKit Go.Sort

theorem info_intE : (Try.prog.info? 2).map (fun i => (i.zero, i.size, i.bytes)) = some (some (.int .i64 0), 1, 8) := by kernel_rfl
theorem cells2' : Try.prog.cellsOf 2 = 1 := by kernel_rfl
set_option maxRecDepth 100000 in
theorem eql_tile (a b : Tl) (w : World) : (binOp .eql 69 (tv a) (tv b)).run Try.prog w = .ok (.bool (eqT a b)) w := by
  obtain ⟨a0, a1, a2, a3⟩ := a
  obtain ⟨b0, b1, b2, b3⟩ := b
  obtain ⟨i0, hi, _⟩ := info_parts info_intE
  have r4 : List.range 4 = [0, 1, 2, 3] := rfl
  have u := Try.underlying69
  have u2 := Try.underlying2
  have z2 := Try.sizeOf2
  have g2 := Try.isAgg2
  unfold tv
  rw [run_eql_struct, show (10000 : Nat) = 9999 + 1 from rfl, run_equalIn_array w 9999 _ _ u hi, r4, cells2']
  simp only [Op.eqItems]
  go_simp
  by_cases h0 : a0 = b0 <;> by_cases h1 : a1 = b1 <;> by_cases h2 : a2 = b2 <;> by_cases h3 : a3 = b3 <;> simp [h0, h1, h2, h3, eqT]
end Go.Proofs.Ytleabblnikbmpaa
