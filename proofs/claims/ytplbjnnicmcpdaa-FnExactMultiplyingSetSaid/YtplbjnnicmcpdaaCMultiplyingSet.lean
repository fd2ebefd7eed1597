/- For every argument that can come in, with no condition, FnExactMultiplyingSet answers true, and what came in reads as it did. -/
import Derived.Test.YtplbjnnicmcpdaaLMultiplyingSet
import Derived.Test.YtplbjnnicmcpdaaOpenI
import Derived.Test.YtplbjnnicmcpdaaSix
import Derived.Carry
namespace Go.Proofs.Ytplbjnnicmcpdaa.cMultiplyingSet
open Go.RowKit Go.ChangeShapes Go.WideShapes Go.ChangeAt
set_option linter.unusedVariables false
set_option linter.unusedSimpArgs false

set_option maxRecDepth 100000 in
theorem lifted (os : Os) (started : os.Started) (H : Type) (enc : TypeId × Value → H) :
    ReturnsInHanded {} Try.checked os 4 .any (Rows.fnExactMultiplyingSetSpec.pre6 enc Try.prog Try.f4 Rows.fnExactMultiplyingSetRow.domain false) (Rows.fnExactMultiplyingSetSpec.post enc Try.prog Try.f4 false true false false) := by
  refine returnsInHanded_of_change (C := Try.checked) own started (by kernel_rfl) Try.func4
    (ChangeSpec.witness6 (enc := enc) (C := Try.checked) false ⟨#[], #[.int .i64 0, .int .i64 0, .int .i64 0, .int .i64 0, .int .i64 0, .int .i64 0], []⟩ 8 (by kernel_rfl) (by kernel_rfl) (by kernel_rfl) (by kernel_rfl)) ?_
  intro W base args ds gs before hval0 hW _ _
  have hval : ∀ (j : Nat) t v, Try.f4.params[j]? = some t → args[j]? = some v → Value.okWide Try.prog W .any base t v := hval0
  have hW' := hW
  have hlt : ∀ p ∈ before, p.block < W.heap.size := fun p hp => hW.lt p hp
  obtain ⟨p, q, hA0, hV, rfl, hfz, hnd⟩ := hW
  have hA : DataW.TrodAll enc Try.prog W 0 (fun _ => true) true Try.f4.params.toList args.toList ds p := hA0
  rw [Try.params4] at hA hval
  obtain ⟨v0, v1, v2, v3, v4, v5, d0, d1, d2, d3, d4, d5, p0, p1, p2, p3, p4, p5, rfl, rfl, rfl, h0, h1, h2, h3, h4, h5⟩ := trodAll_six hA
  obtain ⟨rfl, rfl⟩ := trodVars_none hV
  obtain ⟨i0, rfl, rfl, rfl, hwf0⟩ := open_int Try.underlying2 (hval 0 2 v0 rfl rfl) h0
  obtain ⟨i1, rfl, rfl, rfl, hwf1⟩ := open_int Try.underlying2 (hval 1 2 v1 rfl rfl) h1
  obtain ⟨i2, rfl, rfl, rfl, hwf2⟩ := open_int Try.underlying2 (hval 2 2 v2 rfl rfl) h2
  obtain ⟨i3, rfl, rfl, rfl, hwf3⟩ := open_int Try.underlying2 (hval 3 2 v3 rfl rfl) h3
  obtain ⟨i4, rfl, rfl, rfl, hwf4⟩ := open_int Try.underlying2 (hval 4 2 v4 rfl rfl) h4
  obtain ⟨i5, rfl, rfl, rfl, hwf5⟩ := open_int Try.underlying2 (hval 5 2 v5 rfl rfl) h5
  clear hA0 hval0
  simp only [List.append_nil, List.nil_append] at hW' hlt
  refine (law_MultiplyingSet i0 i1 i2 i3 i4 i5 W ).mono fun e W' ⟨he, hb⟩ => ?_
  subst he
  exact ⟨_, rfl, post_of_below (pa := []) (pv := []) hW' (fun _ _ _ => trodAll_mk1 (shut_bool Try.underlying4 _))
    (fun sp hsp => trodAll_mk6 (WideElems.Trod_stays laidOut (by kernel_rfl) (by decide +kernel) h0 (fun x hx => absurd hx List.not_mem_nil) (fun x hx => absurd hx List.not_mem_nil)) (WideElems.Trod_stays laidOut (by kernel_rfl) (by decide +kernel) h1 (fun x hx => absurd hx List.not_mem_nil) (fun x hx => absurd hx List.not_mem_nil)) (WideElems.Trod_stays laidOut (by kernel_rfl) (by decide +kernel) h2 (fun x hx => absurd hx List.not_mem_nil) (fun x hx => absurd hx List.not_mem_nil)) (WideElems.Trod_stays laidOut (by kernel_rfl) (by decide +kernel) h3 (fun x hx => absurd hx List.not_mem_nil) (fun x hx => absurd hx List.not_mem_nil)) (WideElems.Trod_stays laidOut (by kernel_rfl) (by decide +kernel) h4 (fun x hx => absurd hx List.not_mem_nil) (fun x hx => absurd hx List.not_mem_nil)) (WideElems.Trod_stays laidOut (by kernel_rfl) (by decide +kernel) h5 (fun x hx => absurd hx List.not_mem_nil) (fun x hx => absurd hx List.not_mem_nil))) (fun _ _ => rfl) (by simp) hb (ok_one (by kernel_rfl) rfl (okWide_bool_mk Try.underlying4 _))⟩

theorem over : Rows.fnExactMultiplyingSetRow.holds Try.pinned (OpenSpec.ofChange Rows.fnExactMultiplyingSetSpec) :=
  OpenClaim.holds_of_wide 4 Try.f4 rfl rfl rfl rfl rfl rfl rfl ⟨rfl, rfl, rfl, rfl, rfl⟩ rfl rfl rfl rfl rfl (by kernel_rfl) Try.func4 (by kernel_rfl)
    (of_decide_eq_true (by kernel_rfl)) (by unfold Func.isWrapper; first | (rw [if_pos (by decide +kernel)]; kernel_rfl) | (rw [if_neg (by decide +kernel)]; exact ⟨rfl, rfl⟩))
    (fun os started H enc _ => lifted os started H enc)

theorem proved : Rows.FnExactMultiplyingSetSaid := over
#print axioms proved
end Go.Proofs.Ytplbjnnicmcpdaa.cMultiplyingSet
