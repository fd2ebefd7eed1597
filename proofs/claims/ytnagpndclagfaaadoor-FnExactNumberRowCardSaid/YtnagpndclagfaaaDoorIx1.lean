/- The library's search for a tile in a list. -/
import Derived.Test.YtnagpndclagfaaaDoorEq
import Derived.Test.YtnagpndclagfaaaDoorIsA
import Derived.Lib.Hide
namespace Go.Proofs.YtnagpndclagfaaaDoor
set_option linter.unusedVariables false
set_option linter.unusedSimpArgs false
open Go.RowKit Go.Sort

theorem eqT_iffI (a b : Tl) : eqT a b = true ↔ a = b := by simp [eqT]
set_option maxRecDepth 100000 in
set_option maxHeartbeats 1000000 in
theorem indexTI_any (A : Option Addr) (n c : Nat) (l : List Tl) (x : Tl) (j : Nat) (w : World) (hn : n ≤ 1048576) (hl : l.length = n) (hA : TR w w.heap.size A l) (hj : j < n) (hx : l.getD j T0 = x) (hlt : ∀ i, i < j → l.getD i T0 ≠ x) :
    Calls Tryd.prog 48 #[.slice A n c, tv x] w fun e w' => e = .returned (.int .i64 (j : Int)) ∧ Ext w w' := by
  have HX := Lib.hid hx
  have HLT := Lib.hid hlt
  clear hx hlt
  obtain ⟨x0, x1, x2, x3⟩ := x
  unfold tv
  go_enter Tryd.func48, Tryd.ntmps48
  go_wp2_with fail
  have hE1 : Ext w (w.alloc (.cells #[.int .i64 x0, .int .i64 x1, .int .i64 x2, .int .i64 x3] 56)) := (Ext.refl w).alloc _
  have hT1 := Blk.new w 56 #[.int .i64 x0, .int .i64 x1, .int .i64 x2, .int .i64 x3]
  generalize (w.alloc (.cells #[.int .i64 x0, .int .i64 x1, .int .i64 x2, .int .i64 x3] 56)) = w1 at *
  have HE1 := Lib.hid hE1
  have HT1 := Lib.hid hT1
  clear hE1 hT1
  go_loopw [8] (fun i wr => ∃ k : Nat, k ≤ j ∧ i = .int .i64 k ∧ Ext w1 wr) (fun i _ => n - (intOf i).toNat)
  case atStart => exact ⟨0, Nat.zero_le _, rfl, Ext.refl _⟩
  case round =>
    obtain ⟨k, hk, rfl, hx⟩ := hrel
    have HXW := Lib.hid hx
    have hT : Blk wr w.heap.size 56 #[.int .i64 x0, .int .i64 x1, .int .i64 x2, .int .i64 x3] := HT1.out.ext hx
    obtain ⟨b, off, rfl, hc⟩ := hA.at2 (HE1.out.trans hx) (k := k) (by omega)
    have t0 := fun q os => hT.grown q os 0 (v := .int .i64 x0) rfl
    have t1 := fun q os => hT.grown q os 1 (v := .int .i64 x1) rfl
    have t2 := fun q os => hT.grown q os 2 (v := .int .i64 x2) rfl
    have t3 := fun q os => hT.grown q os 3 (v := .int .i64 x3) rfl
    obtain ⟨⟨y0, y1, y2, y3⟩, hY⟩ : ∃ x, x = l.getD k T0 := ⟨_, rfl⟩
    have hk4 := hc k (by omega)
    rw [← hY] at hk4
    simp only [Cell4, forall_and] at hk4
    obtain ⟨d0, d1, d2, d3⟩ := hk4
    have heq : ∀ w, (binOp .eql 56 (.agg #[.int .i64 x0, .int .i64 x1, .int .i64 x2, .int .i64 x3]) (.agg #[.int .i64 y0, .int .i64 y1, .int .i64 y2, .int .i64 y3])).run Tryd.prog w = .ok (.bool (eqT (x0, x1, x2, x3) (y0, y1, y2, y3))) w := fun w => eql_tile (x0, x1, x2, x3) (y0, y1, y2, y3) w
    have hkn : (k : Int) < (n : Int) := by omega
    by_cases hkj : k = j
    · subst hkj
      have hz : eqT (x0, x1, x2, x3) (y0, y1, y2, y3) = true := (eqT_iffI _ _).2 (by rw [hY, HX.out])
      rw [hz] at heq
      clear hz hY hT hx hA hc
      go_wp2_with fail
      refine wp_region_quiet_grown mixed (by kernel_rfl) ?_
      repeat (go_big_quiet_step ((fail)))
      refine wpQuiet_nil ?_
      intro _ hw'
      obtain ⟨⟨nq, osq⟩, hw''⟩ := hw'
      subst hw''
      clear d0 d1 d2 d3 t0 t1 t2 t3
      go_wp2_with fail
      go_ret
      exact ⟨rfl, HE1.out.trans (HXW.out.trans ⟨nq, osq, rfl⟩)⟩
    · have hz : eqT (x0, x1, x2, x3) (y0, y1, y2, y3) = false := by
        cases h : eqT (x0, x1, x2, x3) (y0, y1, y2, y3) with
        | false => rfl
        | true => exact absurd ((eqT_iffI _ _).1 h) (by rw [hY]; exact fun e => HLT.out k (by omega) e.symm)
      rw [hz] at heq
      clear hz hY hT hx hA hc
      go_wp2_with fail
      refine wp_region_quiet_grown mixed (by kernel_rfl) ?_
      repeat (go_big_quiet_step ((fail)))
      refine wpQuiet_nil ?_
      intro _ hw'
      obtain ⟨⟨nq, osq⟩, hw''⟩ := hw'
      subst hw''
      clear d0 d1 d2 d3 t0 t1 t2 t3
      have HX3 := Lib.hid (HXW.out.trans ⟨nq, osq, rfl⟩)
      go_wp2_with fail
      go_roundw
      case rel => exact ⟨k + 1, by omega, by go_num, HX3.out⟩
      case measure => simp [intOf]; omega
end Go.Proofs.YtnagpndclagfaaaDoor
