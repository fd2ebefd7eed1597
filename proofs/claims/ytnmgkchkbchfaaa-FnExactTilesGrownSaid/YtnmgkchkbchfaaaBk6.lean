/- Blocks that are equal: both sides; the first tile with a block. -/
import Derived.Test.YtnmgkchkbchfaaaBk5
import Derived.Test.YtnmgkchkbchfaaaEq
namespace Go.Proofs.Ytnmgkchkbchfaaa
set_option linter.unusedVariables false
set_option linter.unusedSimpArgs false
open Go.RowKit Go.Sort

theorem eqT_yes {a b : Tl} (h : a = b) : eqT a b = true := by simp [eqT, h]
theorem info_intB : (Try.prog.info? 2).map (fun i => (i.zero, i.size, i.bytes)) = some (some (.int .i64 0), 1, 8) := by kernel_rfl
theorem cellsB : Try.prog.cellsOf 2 = 1 := by kernel_rfl
set_option maxRecDepth 100000 in
theorem eql_four (a b : Tl) (w : World) : (binOp .eql 66 (tv a) (tv b)).run Try.prog w = .ok (.bool (eqT a b)) w := by
  obtain ⟨a0, a1, a2, a3⟩ := a
  obtain ⟨b0, b1, b2, b3⟩ := b
  obtain ⟨i0, hi, _⟩ := info_parts info_intB
  have r4 : List.range 4 = [0, 1, 2, 3] := rfl
  have u := Try.underlying66
  have u2 := Try.underlying2
  have z2 := Try.sizeOf2
  have g2 := Try.isAgg2
  unfold tv
  rw [run_eql_struct, show (10000 : Nat) = 9999 + 1 from rfl, run_equalIn_array w 9999 _ _ u hi, r4, cellsB]
  simp only [Op.eqItems]
  go_simp
  by_cases h0 : a0 = b0 <;> by_cases h1 : a1 = b1 <;> by_cases h2 : a2 = b2 <;> by_cases h3 : a3 = b3 <;> simp [h0, h1, h2, h3, eqT]

/-- The place of the first block that is x, or -1. -/
def idxB (bl : List Tl) (x : Tl) : Int := (((List.range bl.length).find? fun k => eqT (bl.getD k T0) x).map fun k => (k : Int)).getD (-1)
theorem idxB_eq {bl : List Tl} {x : Tl} {j : Nat} (hj : j < bl.length) (h : bl.getD j T0 = x) (hlt : ∀ i, i < j → bl.getD i T0 ≠ x) : idxB bl x = (j : Int) := by
  have : (List.range bl.length).find? (fun k => eqT (bl.getD k T0) x) = some j := by
    rw [List.find?_range_eq_some]
    exact ⟨eqT_yes h, List.mem_range.2 hj, fun i hi => by rw [eqT_ne (hlt i hi)]; rfl⟩
  rw [idxB, this]
  rfl
theorem idxB_no {bl : List Tl} {x : Tl} (h : ∀ k, k < bl.length → bl.getD k T0 ≠ x) : idxB bl x = -1 := by
  have : (List.range bl.length).find? (fun k => eqT (bl.getD k T0) x) = none := by
    rw [List.find?_range_eq_none]
    exact fun i hi => by rw [eqT_ne (h i hi)]; rfl
  rw [idxB, this]
  rfl
theorem idxB_cases (bl : List Tl) (x : Tl) : (idxB bl x = -1 ∧ ∀ k, k < bl.length → bl.getD k T0 ≠ x) ∨ ∃ j : Nat, idxB bl x = (j : Int) ∧ j < bl.length ∧ bl.getD j T0 = x ∧ ∀ i, i < j → bl.getD i T0 ≠ x := by
  cases h : (List.range bl.length).find? (fun k => eqT (bl.getD k T0) x) with
  | none =>
    rw [List.find?_range_eq_none] at h
    have h2 : ∀ k, k < bl.length → bl.getD k T0 ≠ x := fun k hk e => by
      have := h k hk
      rw [eqT_yes e] at this
      cases this
    exact .inl ⟨idxB_no h2, h2⟩
  | some j =>
    rw [List.find?_range_eq_some] at h
    obtain ⟨h1, h2, h3⟩ := h
    have e1 : bl.getD j T0 = x := by simpa [eqT] using h1
    have e2 : ∀ i, i < j → bl.getD i T0 ≠ x := fun i hi e => by
      have := h3 i hi
      rw [eqT_yes e] at this
      cases this
    exact .inr ⟨j, idxB_eq (List.mem_range.1 h2) e1 e2, List.mem_range.1 h2, e1, e2⟩

set_option maxRecDepth 100000 in
set_option maxHeartbeats 2000000 in
theorem indexB_any (A : Option Addr) (n c : Nat) (l : List Tl) (x : Tl) (w : World) (hn : n ≤ 1048576) (hl : l.length = n) (hA : TR w w.heap.size A l) :
    Calls Try.prog 96 #[.slice A n c, tv x] w fun e w' => e = .returned (.int .i64 (idxB l x)) ∧ Ext w w' := by
  have mixed : Try.prog.follows .mixedOrders = true := by kernel_rfl
  generalize hR : idxB l x = r
  have HR := Lib.hid hR
  have HXX := Lib.hid (show ∀ y : Tl, y = x → eqT x y = true from fun y h => eqT_yes h.symm)
  have HXN := Lib.hid (show ∀ y : Tl, y ≠ x → eqT x y = false from fun y h => eqT_ne (Ne.symm h))
  have HIE := Lib.hid (fun (j : Nat) (hj : j < n) (h : l.getD j T0 = x) (hlt : ∀ i, i < j → l.getD i T0 ≠ x) => (HR.out.symm.trans (idxB_eq (by omega) h hlt)))
  have HIN := Lib.hid (fun (h : ∀ k, k < n → l.getD k T0 ≠ x) => (HR.out.symm.trans (idxB_no (fun k hk => h k (by omega)))))
  obtain ⟨xx, hxx⟩ : ∃ xx, xx = x := ⟨_, rfl⟩
  have HEQ := Lib.hid hxx
  clear hR hxx
  obtain ⟨x0, x1, x2, x3⟩ := x
  unfold tv
  go_enter Try.func96, Try.ntmps96
  go_wp2_with fail
  have hE1 : Ext w (w.alloc (.cells #[.int .i64 x0, .int .i64 x1, .int .i64 x2, .int .i64 x3] 66)) := (Ext.refl w).alloc _
  have hT1 := Blk.new w 66 #[.int .i64 x0, .int .i64 x1, .int .i64 x2, .int .i64 x3]
  generalize (w.alloc (.cells #[.int .i64 x0, .int .i64 x1, .int .i64 x2, .int .i64 x3] 66)) = w1 at *
  have HE1 := Lib.hid hE1
  have HT1 := Lib.hid hT1
  clear hE1 hT1
  go_loopw [8] (fun i wr => ∃ k : Nat, k ≤ n ∧ i = .int .i64 k ∧ (∀ j, j < k → l.getD j T0 ≠ xx) ∧ Ext w1 wr) (fun i _ => n - (intOf i).toNat)
  case atStart => exact ⟨0, Nat.zero_le _, rfl, fun j hj => absurd hj (Nat.not_lt_zero _), Ext.refl _⟩
  case round =>
    obtain ⟨k, hk, rfl, hlt0, hx⟩ := hrel
    have HLT := Lib.hid hlt0
    have HXW := Lib.hid hx
    have hT : Blk wr w.heap.size 66 #[.int .i64 x0, .int .i64 x1, .int .i64 x2, .int .i64 x3] := HT1.out.ext hx
    clear hlt0
    by_cases hkn : k < n
    · obtain ⟨b, off, rfl, hc⟩ := hA.at2 (HE1.out.trans hx) (k := k) (by omega)
      have t0 := fun q os => hT.grown q os 0 (v := .int .i64 x0) rfl
      have t1 := fun q os => hT.grown q os 1 (v := .int .i64 x1) rfl
      have t2 := fun q os => hT.grown q os 2 (v := .int .i64 x2) rfl
      have t3 := fun q os => hT.grown q os 3 (v := .int .i64 x3) rfl
      obtain ⟨⟨y0, y1, y2, y3⟩, hY⟩ : ∃ x, x = l.getD k T0 := ⟨_, rfl⟩
      have HY := Lib.hid hY
      have hk4 := hc k (by omega)
      rw [← hY] at hk4
      simp only [Cell4, forall_and] at hk4
      obtain ⟨d0, d1, d2, d3⟩ := hk4
      have heq : ∀ w, (binOp .eql 66 (.agg #[.int .i64 x0, .int .i64 x1, .int .i64 x2, .int .i64 x3]) (.agg #[.int .i64 y0, .int .i64 y1, .int .i64 y2, .int .i64 y3])).run Try.prog w = .ok (.bool (eqT (x0, x1, x2, x3) (y0, y1, y2, y3))) w := fun w => eql_four (x0, x1, x2, x3) (y0, y1, y2, y3) w
      have hkn3 : (k : Int) < (n : Int) := by omega
      by_cases hkj : (y0, y1, y2, y3) = (x0, x1, x2, x3)
      · rw [HXX.out _ hkj] at heq
        have hres : r = (k : Int) := HIE.out k hkn (by rw [← HY.out]; exact hkj) (fun i hi => by rw [← HEQ.out]; exact HLT.out i hi)
        have HRES := Lib.hid hres
        clear hkj hY hT hx hA hc hres
        go_wp2_with fail
        refine wp_region_quiet_grown mixed (by kernel_rfl) ?_
        repeat (go_big_quiet_step ((fail)))
        refine wpQuiet_nil ?_
        intro _ hw'
        obtain ⟨⟨nq, osq⟩, hw''⟩ := hw'
        subst hw''
        clear d0 d1 d2 d3 t0 t1 t2 t3
        go_wp2_with fail
        go_ret
        exact ⟨ret_i HRES.out.symm, HE1.out.trans (HXW.out.trans ⟨nq, osq, rfl⟩)⟩
      · rw [HXN.out _ hkj] at heq
        have HNE := Lib.hid hkj
        clear hkj hY hT hx hA hc
        go_wp2_with fail
        refine wp_region_quiet_grown mixed (by kernel_rfl) ?_
        repeat (go_big_quiet_step ((fail)))
        refine wpQuiet_nil ?_
        intro _ hw'
        obtain ⟨⟨nq, osq⟩, hw''⟩ := hw'
        subst hw''
        clear d0 d1 d2 d3 t0 t1 t2 t3
        have HX3 := Lib.hid (HXW.out.trans ⟨nq, osq, rfl⟩)
        go_wp2_with fail
        go_roundw
        case rel =>
          refine ⟨k + 1, by omega, by go_num, fun j hj => ?_, HX3.out⟩
          by_cases hjk : j = k
          · subst hjk
            rw [← HY.out, HEQ.out]
            exact HNE.out
          · exact HLT.out j (by omega)
        case measure => simp [intOf]; omega
    · have hres : r = -1 := HIN.out (fun i hi => by rw [← HEQ.out]; exact HLT.out i (by omega))
      have HRES := Lib.hid hres
      clear hT hx hA hres
      go_wp2_with fail
      go_ret
      exact ⟨ret_i HRES.out.symm, HE1.out.trans HXW.out⟩

set_option maxRecDepth 100000 in
set_option maxHeartbeats 1000000 in
theorem firstWith_any (c0 : Int) (A : Option Addr) (n c : Nat) (G : Option Addr) (m g : Nat) (l : List Tl) (x : Tl) (w : World) (hm : m ≤ 1048576) (hl : l.length = m) (hG : TR w w.heap.size G l) :
    Calls Try.prog 58 #[.agg #[.int .i64 c0, .slice A n c, .slice G m g], tv x] w fun e w' => e = .returned (.int .i64 (idxB l x)) ∧ Ext w w' := by
  have HI := Lib.hid (fun W (hW : Ext w W) => indexB_any G m g l x W hm hl ((hG.ext hW (Nat.le_refl _)).more (hW.below (Nat.le_refl _)).size))
  clear hG
  generalize idxB l x = r at *
  obtain ⟨x0, x1, x2, x3⟩ := x
  simp only [tv] at HI ⊢
  go_enter Try.func58, Try.ntmps58
  go_wp2_with fail
  refine (HI.out _ (((Ext.refl w).alloc _).alloc _)).mono ?_
  rintro e w1 ⟨rfl, hx⟩
  have HX := Lib.hid ((((Ext.refl w).alloc _).alloc _).trans hx)
  clear hx
  go_wp2_with fail
  go_ret
  exact ⟨rfl, HX.out⟩
end Go.Proofs.Ytnmgkchkbchfaaa
