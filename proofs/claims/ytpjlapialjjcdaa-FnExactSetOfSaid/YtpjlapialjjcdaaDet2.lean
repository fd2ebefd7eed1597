/- Tiles as keys of maps. -/
import Derived.Test.YtpjlapialjjcdaaDet1
import Derived.DeepKeys4
import Derived.Maps.OwnSet
import Derived.Maps.Views
namespace Go.Proofs.Ytpjlapialjjcdaa
set_option linter.unusedVariables false
set_option linter.unusedSimpArgs false
open Go.RowKit Go.Sort

theorem tile_wide : (match Try.prog.underlying 51 with | some (.array _ _) | some (.struct _) => true | _ => false) = true := by rw [Try.underlying51]
theorem tile_row : (51 : TypeId) < Try.prog.types.size := of_decide_eq_true (by kernel_rfl)
theorem tile_laid : laidOutB Try.prog = true := by kernel_rfl
theorem tile_deep : Try.prog.keyTypeAt 2 51 = true := by kernel_rfl
set_option maxRecDepth 100000 in
theorem tile_law : Go.WideMaps.KeyLaw Try.prog 51 := deep_law_laid tile_laid (m := 2) (by omega) tile_row tile_deep tile_wide
theorem tile_keyed : Go.Maps.Keyed Try.prog 51 := Go.Maps.Keyed.of_law tile_law
theorem key_tile (t : Tl) (h0 : (Lit.int .i64 t.1).wf = true) (h1 : (Lit.int .i64 t.2.1).wf = true) (h2 : (Lit.int .i64 t.2.2.1).wf = true) (h3 : (Lit.int .i64 t.2.2.2).wf = true) : ∃ l, keyOf Try.prog 51 (tv t) = some l := by
  obtain ⟨a, b, c, d⟩ := t
  simp only at h0 h1 h2 h3
  have hkt : Try.prog.keyType 51 = true := by kernel_rfl
  have hcl : Try.prog.cellsOf 51 = 4 := by kernel_rfl
  have hf : (tv (a, b, c, d)).formed Try.prog 51 = true := by simp [tv, Value.formed, Try.underlying51, hcl]
  unfold keyOf
  rw [Try.underlying51]
  simp only [hkt, hf, Bool.and_self, if_true]
  have h1c : Try.prog.cellsOf 2 = 1 := by kernel_rfl
  obtain ⟨u, hu⟩ : ∃ u, Try.prog.types.size = u + 1 := ⟨Try.prog.types.size - 1, by have : 0 < Try.prog.types.size := of_decide_eq_true (by kernel_rfl); omega⟩
  rw [hu]
  simp only [Program.keyLits, Try.underlying51, Try.underlying2, hcl, h1c]
  simp [tv, Value.cells, List.range, List.range.loop, h0, h1, h2, h3]
end Go.Proofs.Ytpjlapialjjcdaa
