/- Lists of lists compared. -/
import Derived.Test.YtleabblnikbmpaaRs
namespace Go.Proofs.Ytleabblnikbmpaa
set_option linter.unusedVariables false
set_option linter.unusedSimpArgs false
open Go.RowKit Go.Sort

set_option maxRecDepth 100000 in
set_option maxHeartbeats 1000000 in
theorem eqInt64SS_any (A A' : Option Addr) (n n' c c' : Nat) (rs qs : List (List Int)) (w : World) (hn : n ≤ 1152921504606846976) (hl : rs.length = n) (hl' : qs.length = n') (hrow : ∀ k, k < n → (rs.getD k []).length ≤ 1152921504606846976) (hA : IRR w w.heap.size A rs) (hA' : IRR w w.heap.size A' qs) :
   Calls Try.prog 23 #[.slice A n c, .slice A' n' c'] w fun e w' => e = .returned (.bool (decide (rs = qs))) ∧ Ext w w' := by
  by_cases hne : n = n'
  · subst hne
    go_enter Try.func23, Try.ntmps23
    go_wp2_with fail
    go_loopw [5] (fun i wr => ∃ k : Nat, k ≤ n ∧ i = .int .i64 k ∧ (∀ j, j < k → rs.getD j [] = qs.getD j []) ∧ Ext w wr) (fun i _ => n - (intOf i).toNat)
    case atStart => exact ⟨0, Nat.zero_le _, rfl, fun j hj => absurd hj (Nat.not_lt_zero _), Ext.refl _⟩
    case round =>
      obtain ⟨k, hk, rfl, heq, hx⟩ := hrel
      have H := Lib.hid heq
      have HX := Lib.hid hx
      clear heq
      by_cases hlt : k < n
      · obtain ⟨b, off, rfl, hb0, hc⟩ := hA (by omega)
        obtain ⟨b', off', rfl, hb0', hc'⟩ := hA' (by omega)
        obtain ⟨Q, q, hcQ, hq1, hir⟩ := hc k (by omega)
        obtain ⟨Q', q', hcQ', hq1', hir'⟩ := hc' k (by omega)
        have e1 := ((hx.below (Nat.le_refl _)).cell (p := ⟨b, off + k, none⟩) hb0).trans hcQ
        have e2 := ((hx.below (Nat.le_refl _)).cell (p := ⟨b', off' + k, none⟩) hb0').trans hcQ'
        have hrk := hrow k hlt
        have hcon : ∀ W, Ext wr W → Calls Try.prog 38 #[.slice Q (rs.getD k []).length q, .slice Q' (qs.getD k []).length q'] W _ := fun W hW => eqInt64S_any Q Q' _ _ q q' (rs.getD k []) (qs.getD k []) W hrk rfl rfl ((hir.ext (HX.out.trans hW) (Nat.le_refl _)).more ((HX.out.trans hW).below (Nat.le_refl _)).size) ((hir'.ext (HX.out.trans hW) (Nat.le_refl _)).more ((HX.out.trans hW).below (Nat.le_refl _)).size)
        unfold Ext at hcon
        generalize hr : decide (rs.getD k [] = qs.getD k []) = r at hcon
        generalize (rs.getD k []).length = m at e1 hcon
        generalize (qs.getD k []).length = m' at e2 hcon
        have HC := Lib.hid hcon
        have HR := Lib.hid hr
        have g1 := fun q os => (cell?_grow (wr.drewN q) os ⟨b, off + k, none⟩ (by have := World.block_lt_of_cell? wr _ e1; exact this)).trans e1
        have g2 := fun q os => (cell?_grow (wr.drewN q) os ⟨b', off' + k, none⟩ (by have := World.block_lt_of_cell? wr _ e2; exact this)).trans e2
        clear hcon hr hc hc' hcQ hcQ' hir hir' hA hA' hx e1 e2 hrow hrk
        go_wp2_with fail
        refine wp_region_quiet_grown mixed (by kernel_rfl) ?_
        repeat (go_big_quiet_step (((go_at_call 38; refine Calls.grown_of (HC.out _ ⟨_, _, rfl⟩)))))
        refine wpQuiet_nil ?_
        intro _ hw'
        obtain ⟨⟨nq, osq⟩, hw''⟩ := hw'
        subst hw''
        clear g1 g2
        cases r with
        | false =>
          go_wp2_with fail
          go_ret
          exact ⟨ret_b (decide_eq_false (fun e => by have := of_decide_eq_false HR.out; rw [e] at this; exact this rfl)).symm, HX.out.trans ⟨nq, osq, rfl⟩⟩
        | true =>
          go_wp2_with fail
          refine ⟨⟨k + 1, by omega, by go_num, ?_, HX.out.trans ⟨nq, osq, rfl⟩⟩, by simp [intOf]; omega⟩
          intro j hj
          by_cases hjk : j = k
          · subst hjk
            exact of_decide_eq_true HR.out
          · exact H.out j (by omega)
      · clear hx hA hA' hrow
        go_wp2_with fail
        go_ret
        refine ⟨ret_b ?_, HX.out⟩
        have hkn : k = n := by omega
        subst hkn
        exact (decide_eq_true (rows_eq_of (by omega) (fun j hj => H.out j (by omega)))).symm
  · go_enter Try.func23, Try.ntmps23
    have hq : ((n : Int) != (n' : Int)) = true := by simp; omega
    go_wp2_with fail
    all_goals go_ret
    all_goals exact ⟨ret_b (decide_eq_false (fun e => hne (by rw [← hl, ← hl', e]))).symm, Ext.refl _⟩
end Go.Proofs.Ytleabblnikbmpaa
