/- For every argument that can come in, with no condition, FnExactTilesGrown answers true, and what came in reads as it did. -/
import Derived.Test.YtnmgkchkbchfaaaLTilesGrown
import Derived.Test.YtnmgkchkbchfaaaOpenI
import Derived.Test.YtnmgkchkbchfaaaOpenR
import Derived.Carry
import Derived.Conc.Holds
import Derived.Leaving
namespace Go.Proofs.Ytnmgkchkbchfaaa.cTilesGrown
open Go.RowKit Go.ChangeShapes Go.WideShapes Go.ChangeAt
set_option linter.unusedVariables false
set_option linter.unusedSimpArgs false

set_option maxRecDepth 100000 in
theorem lifted (os : Os) (started : os.Started) (H : Type) (enc : TypeId × Value → H) :
    ReturnsInHanded {} Try.checked os 13 .any (Rows.fnExactTilesGrownSpec.pre6 enc Try.prog Try.f13 Rows.fnExactTilesGrownRow.domain false) (Rows.fnExactTilesGrownSpec.post enc Try.prog Try.f13 false true false false) := by
  refine returnsInHanded_of_change (C := Try.checked) own started (by kernel_rfl) Try.func13
    (ChangeSpec.witness6 (enc := enc) (C := Try.checked) false ⟨#[], #[.agg #[.int .i64 0, .slice none 0 0], .slice none 0 0, .int .i64 0], []⟩ 8 (by kernel_rfl) (by kernel_rfl) (by kernel_rfl) (by kernel_rfl)) ?_
  intro W base args ds gs before hval0 hW _ _
  have hval : ∀ (j : Nat) t v, Try.f13.params[j]? = some t → args[j]? = some v → Value.okWide Try.prog W .any base t v := hval0
  have hW' := hW
  have hlt : ∀ p ∈ before, p.block < W.heap.size := fun p hp => hW.lt p hp
  obtain ⟨p, q, hA0, hV, rfl, hfz, hnd⟩ := hW
  have hA : DataW.TrodAll enc Try.prog W 0 (fun _ => true) true Try.f13.params.toList args.toList ds p := hA0
  rw [Try.params13] at hA hval
  obtain ⟨v0, v1, v2, d0, d1, d2, p0, p1, p2, rfl, rfl, rfl, h0, h1, h2⟩ := trodAll_three hA
  obtain ⟨rfl, rfl⟩ := trodVars_none hV
  obtain ⟨c0, A0, n0, q0, ts0, rfl, hn0, hl0, hT0⟩ := open_set (hval 0 24 v0 rfl rfl) h0
  obtain ⟨A1, n1, q1, rs1, rfl, hn1, hl1, hr1, hT1⟩ := open_rows (hval 1 25 v1 rfl rfl) h1
  obtain ⟨i2, rfl, rfl, rfl, hwf2⟩ := open_int Try.underlying2 (hval 2 2 v2 rfl rfl) h2
  clear hA0 hval0
  simp only [List.append_nil, List.nil_append] at hW' hlt
  refine (law_TilesGrown c0 A0 n0 q0 ts0 A1 n1 q1 rs1 i2 W (by unfold maxLen at hn0; exact hn0) hl0 hT0 (by unfold maxLen at hn1; exact hn1) hl1 (by unfold maxLen at hr1; exact hr1) hT1).mono fun e W' ⟨he, hb⟩ => ?_
  subst he
  exact ⟨_, rfl, post_of_below (pa := p0 ++ p1) (pv := []) hW' (fun _ _ _ => trodAll_mk1 (shut_bool Try.underlying4 _))
    (fun sp hsp => by have := trodAll_mk3 (WideElems.Trod_stays laidOut (by kernel_rfl) (by decide +kernel) h0 (fun x hx => hb.same (hlt x (by simp [hx]))) (fun x hx => hsp x (by simp [hx]))) (WideElems.Trod_stays laidOut (by kernel_rfl) (by decide +kernel) h1 (fun x hx => hb.same (hlt x (by simp [hx]))) (fun x hx => hsp x (by simp [hx]))) (WideElems.Trod_stays laidOut (by kernel_rfl) (by decide +kernel) h2 (fun x hx => absurd hx List.not_mem_nil) (fun x hx => absurd hx List.not_mem_nil)); (try simp only [List.append_nil, List.nil_append] at this); exact this) (fun _ _ => rfl) (by simp) hb (ok_one (by kernel_rfl) rfl (okWide_bool_mk Try.underlying4 _))⟩

theorem over : Rows.fnExactTilesGrownRow.holds Try.pinned (OpenSpec.ofChange Rows.fnExactTilesGrownSpec) :=
  OpenClaim.holds_of_wide_leaving 13 Try.f13 rfl rfl rfl rfl rfl rfl rfl ⟨rfl, rfl, rfl, rfl, rfl⟩ rfl rfl rfl rfl rfl (by kernel_rfl) Try.func13 (by kernel_rfl)
    (of_decide_eq_true (by kernel_rfl)) (by unfold Func.isWrapper; first | (rw [if_pos (by decide +kernel)]; kernel_rfl) | (rw [if_neg (by decide +kernel)]; exact ⟨rfl, rfl⟩))
    (fun os started H enc _ enter => ReturnsInOpen.mono (fun _ _ _ x => ⟨x.2.1, onlyLeaving_of_quiet x.1, x.2.2⟩) (fun _ x => x) (lifted os started H enc enter))

theorem proved : Rows.FnExactTilesGrownSaid := over
#print axioms proved
end Go.Proofs.Ytnmgkchkbchfaaa.cTilesGrown
