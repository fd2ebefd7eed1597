/- An argument that is a tile's array, opened. -/
import Derived.Test.YtfacdmkcklimjaaOpenI
namespace Go.Proofs.Ytfacdmkcklimjaa
set_option linter.unusedVariables false
set_option linter.unusedSimpArgs false
open Go.RowKit Go.Sort Go.ChangeShapes Go.WideShapes Go.ChangeAt Go.Joins Go.Deep

section
variable {H : Type} {enc' : TypeId × Value → H} {W : World}
set_option maxRecDepth 100000 in
theorem open_arr4 {v : Value} {d : DataW H} {p : List MemPlace} {r : Reach} {b0 : Nat} (hv : Value.okWide Try.prog W r b0 25 v) (h : DataW.Trod enc' Try.prog W 0 (fun _ => true) true 25 v d p) :
    ∃ (a b c e : Int), v = .agg #[.int .i64 a, .int .i64 b, .int .i64 c, .int .i64 e] ∧ p = [] := by
  simp only [Value.okWide, Try.underlying25] at hv
  obtain ⟨cs, rfl, hsz, _⟩ := hv
  rw [cells4] at hsz
  obtain ⟨q0, q1, q2, q3, hq⟩ := list4 cs.toList (by simpa using hsz)
  obtain ⟨fuel, hf⟩ := h
  have hc : (Value.agg cs).cells.toList = [q0, q1, q2, q3] := by simpa [Value.cells] using hq
  have hf2 := hf
  rw [hc] at hf2
  obtain ⟨y0, y1, y2, y3, k', hx, h0, h1, h2, h3⟩ := trod_array4 Try.underlying25 cells2 hf2
  obtain ⟨x0, e0, g0, _⟩ := DataW.trod_int Try.underlying2 h0
  obtain ⟨x1, e1, g1, _⟩ := DataW.trod_int Try.underlying2 h1
  obtain ⟨x2, e2, g2, _⟩ := DataW.trod_int Try.underlying2 h2
  obtain ⟨x3, e3, g3, _⟩ := DataW.trod_int Try.underlying2 h3
  simp at e0 e1 e2 e3
  subst e0 e1 e2 e3 g0 g1 g2 g3
  simp only [Prod.mk.injEq] at hx
  refine ⟨x0, x1, x2, x3, ?_, by simpa using hx.2⟩
  obtain ⟨L⟩ := cs
  simp at hq
  rw [hq]
end
end Go.Proofs.Ytfacdmkcklimjaa
