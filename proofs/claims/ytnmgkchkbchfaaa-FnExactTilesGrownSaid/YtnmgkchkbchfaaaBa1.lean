/- Numbers within bounds; balances of rows: the program's side. -/
import Derived.Test.YtnmgkchkbchfaaaBa0
namespace Go.Proofs.Ytnmgkchkbchfaaa
set_option linter.unusedVariables false
set_option linter.unusedSimpArgs false
open Go.RowKit Go.Sort

set_option maxHeartbeats 400000 in
theorem areWithin_raw (lo hi : Int) (A : Option Addr) (m d : Nat) (xs : List Int) (w : World) (hm : m ≤ 9223372036854775807) (hl : xs.length = m)
    (hA : 0 < m → ∃ b off, A = some ⟨b, off, none⟩ ∧ ∀ k, k < m → w.cell? ⟨b, off + k, none⟩ = some (.int .i64 (xs.getD k 0))) :
    Calls Try.prog 101 #[.int .i64 lo, .int .i64 hi, .slice A m d] w fun e w' => e = .returned (.bool (withinB lo hi xs)) ∧ w' = w := by
  generalize hr : withinB lo hi xs = r
  have HR := Lib.hid hr
  clear hr
  go_enter Try.func101, Try.ntmps101
  go_wp2_with fail
  go_loop [11] (fun i => ∃ k : Nat, k ≤ m ∧ i = .int .i64 k ∧ (∀ j, j < k → (lo ≤ xs.getD j 0 ∧ xs.getD j 0 ≤ hi))) (fun i => m - (intOf i).toNat)
  case atStart => exact ⟨0, Nat.zero_le _, rfl, fun j hj => absurd hj (Nat.not_lt_zero _)⟩
  case round =>
    obtain ⟨k, hk, rfl, heq⟩ := hrel
    have H := Lib.hid heq
    clear heq
    by_cases hlt : k < m
    · obtain ⟨bx, ox, rfl, hcx⟩ := hA (by omega)
      have q1 := hcx k (by omega)
      generalize hX : xs.getD k 0 = x at q1
      have EX := Lib.hid hX
      clear hcx hA hX
      by_cases h1 : x < lo
      · go_wp2_with fail
        go_ret
        exact ⟨ret_b (by rw [← HR.out, withinB_at (k := k) (by omega) (by rw [EX.out]; omega)]), rfl⟩
      · by_cases h2 : hi < x
        · go_wp2_with fail
          go_ret
          exact ⟨ret_b (by rw [← HR.out, withinB_at (k := k) (by omega) (by rw [EX.out]; omega)]), rfl⟩
        · go_wp2_with fail
          go_round
          case rel =>
            refine ⟨k + 1, by omega, by go_num, ?_⟩
            intro i' hi'
            by_cases hik : i' = k
            · subst hik
              rw [EX.out]
              omega
            · exact H.out i' (by omega)
          case measure => simp [intOf]; omega
    · clear hA
      go_wp2_with fail
      go_ret
      exact ⟨ret_b (by rw [← HR.out, withinB_all (fun j hj => H.out j (by omega))]), rfl⟩
theorem areWithin2 (lo hi p q : Int) (w : World) : Calls Try.prog 101 #[.int .i64 lo, .int .i64 hi, .slice (some ⟨w.heap.size, 0, none⟩) 2 2] (w.alloc (.cells #[.int .i64 p, .int .i64 q] 2)) fun e w' => e = .returned (.bool (decide (lo ≤ p ∧ p ≤ hi ∧ lo ≤ q ∧ q ≤ hi))) ∧ w' = w.alloc (.cells #[.int .i64 p, .int .i64 q] 2) := by
  rw [← withinB_2]
  exact areWithin_raw lo hi _ 2 2 [p, q] _ (by omega) rfl (fun _ => ⟨_, _, rfl, fun k hk => by
    obtain rfl | rfl : k = 0 ∨ k = 1 := by omega
    all_goals simp [go_sem]⟩)
theorem areWithin1 (lo hi p : Int) (w : World) : Calls Try.prog 101 #[.int .i64 lo, .int .i64 hi, .slice (some ⟨w.heap.size, 0, none⟩) 1 1] (w.alloc (.cells #[.int .i64 p] 2)) fun e w' => e = .returned (.bool (decide (lo ≤ p ∧ p ≤ hi))) ∧ w' = w.alloc (.cells #[.int .i64 p] 2) := by
  rw [← withinB_1]
  exact areWithin_raw lo hi _ 1 1 [p] _ (by omega) rfl (fun _ => ⟨_, _, rfl, fun k hk => by
    obtain rfl : k = 0 := by omega
    all_goals simp [go_sem]⟩)

theorem Ext.cell_ {w w' : World} (h : Ext w w') {b o : Nat} {v : Value} (hc : w.cell? ⟨b, o, none⟩ = some v) : w'.cell? ⟨b, o, none⟩ = some v := by
  have hlt : b < w.heap.size := World.block_lt_of_cell? w ⟨b, o, none⟩ hc
  rw [(h.below (Nat.le_refl _)).cell (p := ⟨b, o, none⟩) hlt]
  exact hc
theorem wrap_in (x : Int) (h : -1000000 ≤ x ∧ x ≤ 1000000) : IntKind.i64.wrap x = x := IntWalk.i64_in _ (by omega)
end Go.Proofs.Ytnmgkchkbchfaaa
