/- For every argument that can come in, with no condition of its own, FnExactNumberRow answers true, and what came in reads as it did; the two listed error variables are those that the program's text lays (the tied card). -/
import Derived.Test.YtnagpndclagfaaaDoorLNumberRow
import Derived.Test.YtnagpndclagfaaaDoorOpenI
import Derived.Test.YtnagpndclagfaaaDoorSix
import Derived.Test.YtnagpndclagfaaaDoorTie
import Derived.Test.YtnagpndclagfaaaDoorCards
import Derived.Carry
import Derived.ChangeSame
import Derived.ChangeVars
import Derived.LaidMore
import Derived.Stop.LaidErr
import Derived.Stop.Joined
import Derived.SevenTiedAt
namespace Go.Proofs.YtnagpndclagfaaaDoor.cNumberRow
open Go.RowKit Go.ChangeShapes Go.WideShapes Go.ChangeAt
set_option linter.unusedVariables false
set_option linter.unusedSimpArgs false

abbrev laidR : List (String × DataW Unit) := [("loop.example/g01354/impl.errNoFraction", Rows.laid_loop_example_g01354_impl_errNoFraction), ("loop.example/g01354/impl.errNoPlaces", Rows.laid_loop_example_g01354_impl_errNoPlaces)]
theorem gF : Tryd.prog.globalNamed "loop.example/g01354/impl.errNoFraction" = some 1 := by kernel_rfl
theorem gP : Tryd.prog.globalNamed "loop.example/g01354/impl.errNoPlaces" = some 0 := by kernel_rfl
theorem tF : (Tryd.prog.globals[1]?).map (·.type) = some 66 := by kernel_rfl
theorem tP : (Tryd.prog.globals[0]?).map (·.type) = some 66 := by kernel_rfl
theorem cellsE : Tryd.prog.cellsOf 126 = 1 := by kernel_rfl
theorem cellsT : Tryd.prog.cellsOf 9 = 1 := by kernel_rfl
theorem star : "*" ++ "errors.errorString" = "*errors.errorString" := by decide
theorem rowE (u : TypeId) (h : Tryd.prog.typeName? 3 u = some "*errors.errorString") : u = 108 :=
  typeName_ptr_named (nm := "errors.errorString") (by rw [star]; kernel_rfl) (by kernel_rfl) (by decide) u (by rw [star]; exact h)

theorem door_met (os : Os) (args : Array Value) : laidMetH Tryd.prog laidR ((World.doorLaid Tryd.prog 47 os).forCall (fun _ _ => 0) ⟨#[], args, []⟩).memory :=
  laidMetH_of_parts3 (fuel := 8) (laidMet_of_run' 8 (by kernel_rfl) (by kernel_rfl)) (by kernel_rfl) (by kernel_rfl)

/-- What the condition gives the walks: the two variables. -/
theorem of_laid {W : World} (h : laidMetH Tryd.prog laidR W) : ∃ pf pp : Addr, W.var? Tryd.prog "loop.example/g01354/impl.errNoFraction" = some #[errV pf] ∧ W.var? Tryd.prog "loop.example/g01354/impl.errNoPlaces" = some #[errV pp] := by
  rw [MakeChecks.laidMetH_plain _ _ _ (by kernel_rfl)] at h
  obtain ⟨a0, s0, hv0, -⟩ := laid_sentinel h gF tF Tryd.underlying66 rowE Tryd.underlying108 Tryd.underlying126 rfl rfl Tryd.underlying9 cellsE cellsT
  obtain ⟨a1, s1, hv1, -⟩ := laid_sentinel h.tail gP tP Tryd.underlying66 rowE Tryd.underlying108 Tryd.underlying126 rfl rfl Tryd.underlying9 cellsE cellsT
  exact ⟨a0, a1, hv0, hv1⟩
theorem var_below {W W' : World} {n : String} {g : Nat} {cs : Array Value} (hg : Tryd.prog.globalNamed n = some g) (h : W.var? Tryd.prog n = some cs) (hb : Below W.heap.size W W') : W'.var? Tryd.prog n = some cs := by
  unfold World.var? at h ⊢
  rw [hg] at h ⊢
  simp only [Option.bind_some] at h ⊢
  have hlt : g < W.heap.size := by
    rcases Nat.lt_or_ge g W.heap.size with h' | h'
    · exact h'
    · simp [Array.getElem?_eq_none h'] at h
  rw [hb.block g hlt]
  exact h

set_option maxRecDepth 100000 in
theorem lifted (os : Os) (started : os.Started) (H : Type) (enc : TypeId × Value → H) :
    ReturnsInHanded {} Tryd.checked os 5 .any (fun w args => (Rows.fnExactNumberRowSpec.pre enc Tryd.prog Tryd.f5 [] false w args ∧ laidMetH Tryd.prog laidR w) ∧ sizedMet enc Tryd.prog Tryd.f5 (OpenSpec.ofChange Rows.fnExactNumberRowSpec) false w args)
      (Rows.fnExactNumberRowSpec.post enc Tryd.prog Tryd.f5 false true false false) := by
  refine returnsInHanded_of_change_and (C := Tryd.checked) (X := fun w _ => laidMetH Tryd.prog laidR w) (fun _ _ _ hh h => h.of_heap hh) own started (by kernel_rfl) Tryd.func5
    (ChangeSpec.witness_shaped (enc := enc) (C := Tryd.checked) (os := os) (X := fun w _ => laidMetH Tryd.prog laidR w) false (World.doorLaid Tryd.prog 47 os) #[.int .i64 0, .int .i64 0, .int .i64 0, .int .i64 0, .int .i64 0, .int .i64 0] 8 rfl (World.shaped_of_RefB (by kernel_rfl) (by kernel_rfl)) (by kernel_rfl) (by kernel_rfl) (by kernel_rfl) (door_met os _)) ?_
  intro W base args ds gs before hval0 hW _ _ hL _
  have hval : ∀ (j : Nat) t v, Tryd.f5.params[j]? = some t → args[j]? = some v → Value.okWide Tryd.prog W .any base t v := hval0
  have hW' := hW
  obtain ⟨p, q, hA0, hV0, rfl, hfz, hnd⟩ := hW
  have hA : DataW.TrodAll enc Tryd.prog W 0 (fun _ => true) true Tryd.f5.params.toList args.toList ds p := hA0
  have hV : DataW.TrodVars enc Tryd.prog W (fun _ => true) ["loop.example/g01354/impl.errNoFraction", "loop.example/g01354/impl.errNoPlaces"] gs q := hV0
  rw [Tryd.params5] at hA hval
  obtain ⟨v0, v1, v2, v3, v4, v5, d0, d1, d2, d3, d4, d5, p0, p1, p2, p3, p4, p5, rfl, rfl, rfl, h0, h1, h2, h3, h4, h5⟩ := trodAll_six hA
  obtain ⟨i0, rfl, rfl, rfl, hwf0⟩ := open_int Tryd.underlying2 (hval 0 2 v0 rfl rfl) h0
  obtain ⟨i1, rfl, rfl, rfl, hwf1⟩ := open_int Tryd.underlying2 (hval 1 2 v1 rfl rfl) h1
  obtain ⟨i2, rfl, rfl, rfl, hwf2⟩ := open_int Tryd.underlying2 (hval 2 2 v2 rfl rfl) h2
  obtain ⟨i3, rfl, rfl, rfl, hwf3⟩ := open_int Tryd.underlying2 (hval 3 2 v3 rfl rfl) h3
  obtain ⟨i4, rfl, rfl, rfl, hwf4⟩ := open_int Tryd.underlying2 (hval 4 2 v4 rfl rfl) h4
  obtain ⟨i5, rfl, rfl, rfl, hwf5⟩ := open_int Tryd.underlying2 (hval 5 2 v5 rfl rfl) h5
  obtain ⟨pf, pp, hv0, hv1⟩ := of_laid hL
  obtain ⟨rfl, rfl⟩ := hV.unique (vars_read2 enc gF tF Tryd.underlying66 hv0 trivial gP tP Tryd.underlying66 hv1 trivial _)
  clear hA0 hV0 hval0
  have hg0 : W.cell? ⟨1, 0, none⟩ = some (errV pf) := by simpa using World.var?_cell gF hv0 0
  have hg1 : W.cell? ⟨0, 0, none⟩ = some (errV pp) := by simpa using World.var?_cell gP hv1 0
  simp only [List.append_nil, List.nil_append] at hW'
  refine (law_NumberRow i0 i1 i2 i3 i4 i5 pf pp W hg0 hg1).mono fun e W' ⟨he, hb⟩ => ?_
  subst he
  exact ⟨_, rfl, post_of_below (pa := []) (pv := [.cell 1 0, .cell 0 0]) hW' (fun _ _ _ => trodAll_mk1 (shut_bool Tryd.underlying4 _))
    (fun sp hsp => trodAll_mk6 (WideElems.Trod_stays laidOut (by kernel_rfl) (by decide +kernel) h0 (fun x hx => absurd hx List.not_mem_nil) (fun x hx => absurd hx List.not_mem_nil)) (WideElems.Trod_stays laidOut (by kernel_rfl) (by decide +kernel) h1 (fun x hx => absurd hx List.not_mem_nil) (fun x hx => absurd hx List.not_mem_nil)) (WideElems.Trod_stays laidOut (by kernel_rfl) (by decide +kernel) h2 (fun x hx => absurd hx List.not_mem_nil) (fun x hx => absurd hx List.not_mem_nil)) (WideElems.Trod_stays laidOut (by kernel_rfl) (by decide +kernel) h3 (fun x hx => absurd hx List.not_mem_nil) (fun x hx => absurd hx List.not_mem_nil)) (WideElems.Trod_stays laidOut (by kernel_rfl) (by decide +kernel) h4 (fun x hx => absurd hx List.not_mem_nil) (fun x hx => absurd hx List.not_mem_nil)) (WideElems.Trod_stays laidOut (by kernel_rfl) (by decide +kernel) h5 (fun x hx => absurd hx List.not_mem_nil) (fun x hx => absurd hx List.not_mem_nil))) (fun sp _ => vars_read2 enc gF tF Tryd.underlying66 (var_below gF hv0 hb) trivial gP tP Tryd.underlying66 (var_below gP hv1 hb) trivial sp) (by simp) hb (ok_one (by kernel_rfl) rfl (okWide_bool_mk Tryd.underlying4 _))⟩

theorem over : Rows.fnExactNumberRowRow.holds Tryd.pinned (OpenSpec.ofChange Rows.fnExactNumberRowSpec) :=
  OpenClaim.holds_of_wide 5 Tryd.f5 rfl rfl rfl rfl rfl rfl rfl ⟨rfl, rfl, rfl, rfl, rfl⟩ rfl rfl rfl rfl rfl (by kernel_rfl) Tryd.func5 (by kernel_rfl)
    (of_decide_eq_true (by kernel_rfl)) (by unfold Func.isWrapper; first | (rw [if_pos (by decide +kernel)]; kernel_rfl) | (rw [if_neg (by decide +kernel)]; exact ⟨rfl, rfl⟩))
    (fun os started H enc _ => lifted os started H enc)

theorem proved : Rows.FnExactNumberRowCardSaid :=
  Claim7.holds_tied_plain_at .later [] [.sentinel, .sentinel] true (true, "cd0e565cbda26caa4b1b2acaf6e0aaae796ed002f8c5adee75908b9bc54c12a8") true
    over (fun _ h => by cases h) (by kernel_rfl) (fun _ h => by cases h) fnExactNumberRow_row_tie rfl ⟨rfl, rfl⟩ (by kernel_rfl) rfl
    (fun f fn hf hfn => by
      obtain rfl : f = 5 := Option.some.inj ((show Tryd.prog.funcNamed "loop.example/g01354/laws.FnExactNumberRow" = some 5 by kernel_rfl).symm.trans hf) |>.symm
      obtain rfl : fn = Tryd.f5 := (Option.some.inj (Tryd.func5.symm.trans hfn)).symm
      exact ⟨by kernel_rfl, fun j t ht => by
        rw [Tryd.params5] at ht
        have hm : t ∈ [2] := by
          have := Array.mem_of_getElem? ht
          simpa using this
        have hall : ([2].all fun u => !Tryd.prog.wantsStandIn u) = true := by kernel_rfl
        exact (show Tryd.prog.wantsStandIn t = false by simpa using List.all_eq_true.1 hall t hm)⟩)
    (by kernel_rfl)
#print axioms proved
end Go.Proofs.YtnagpndclagfaaaDoor.cNumberRow
