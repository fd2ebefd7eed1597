/- Slices of tiles with marks, read again. -/
import Derived.Test.YtnagpndclagfaaaDoorMark
namespace Go.Proofs.YtnagpndclagfaaaDoor
set_option linter.unusedVariables false
set_option linter.unusedSimpArgs false
open Go.RowKit Go.Sort

set_option maxRecDepth 100000 in
set_option maxHeartbeats 400000 in
theorem heldTileS_any (A : Option Addr) (n c : Nat) (k : Int) (w : World) (hn : n ≤ 1048576) (hk0 : 0 ≤ k) (hk1 : k ≤ 16777216) (hA : TR w w.heap.size A (marks k n)) :
    Calls Tryd.prog 36 #[.slice A n c, .int .i64 k] w fun e w' => e = .returned (.int .i64 (k + 4 * n)) ∧ Ext w w' := by
  go_enter Tryd.func36, Tryd.ntmps36
  go_wp2_with fail
  go_loop [1, 5] (fun kk i => ∃ j : Nat, j ≤ n ∧ i = .int .i64 j ∧ kk = .int .i64 (k + 4 * (j : Int))) (fun _ i => n - (intOf i).toNat)
  case atStart => exact ⟨0, Nat.zero_le _, rfl, by simp⟩
  case round =>
    obtain ⟨j, hj, rfl, rfl⟩ := hrel
    have hj2 : k + 4 * (j : Int) + 4 ≤ 33554432 := by omega
    by_cases hlt : j < n
    · obtain ⟨b, off, rfl, hb, hc⟩ := hA (by rw [marks_len]; omega)
      have hc := hc j (by rw [marks_len]; exact hlt)
      rw [marks_at hlt] at hc
      obtain ⟨c0, c1, c2, c3⟩ := hc
      simp only [mk4] at c0 c1 c2 c3
      clear hA
      go_wp2_with fail
      refine wp_loop_rounds 5 ?_
      rw [rounds_succ]
      go_wp2
      rw [rounds_succ]
      go_wp2
      rw [rounds_succ]
      go_wp2
      rw [rounds_succ]
      go_wp2
      rw [rounds_succ]
      go_wp2
      go_round
      case rel => exact ⟨j + 1, by omega, by go_num, congrArg (Value.int .i64) (by omega)⟩
      case measure => simp [intOf]; omega
    · clear hA
      go_wp2_with fail
      go_ret
      obtain rfl : j = n := by omega
      exact ⟨rfl, Ext.refl _⟩

theorem heldSet_any (c0 : Int) (A : Option Addr) (n c : Nat) (w : World) (hn : n ≤ 1048576) (hA : TR w w.heap.size A (marks 1 n)) :
    Calls Tryd.prog 17 #[.agg #[.int .i64 c0, .slice A n c], .int .i64 1] w fun e w' => e = .returned (.int .i64 (1 + 4 * n)) ∧ Ext w w' := by
  have hcon : ∀ W, Ext w W → Calls Tryd.prog 36 #[.slice A n c, .int .i64 1] W _ := fun W hW => heldTileS_any A n c 1 W hn (by omega) (by omega) ((hA.ext hW (Nat.le_refl _)).more (hW.below (Nat.le_refl _)).size)
  have HC := Lib.hid hcon
  clear hcon hA
  have hpos : ¬ (1 + 4 * (n : Int) < 0) := by omega
  go_enter Tryd.func17, Tryd.ntmps17
  go_wp2_with fail
  refine (HC.out _ ((Ext.refl w).alloc _)).mono ?_
  rintro e w' ⟨rfl, hx⟩
  have HX := Lib.hid hx
  clear hx
  go_wp2_with fail
  go_ret
  exact ⟨rfl, ((Ext.refl w).alloc _).trans HX.out⟩
end Go.Proofs.YtnagpndclagfaaaDoor
