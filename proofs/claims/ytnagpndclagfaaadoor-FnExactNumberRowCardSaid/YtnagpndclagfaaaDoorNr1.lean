/- NumberRow: the least and the greatest of a list, on both sides. -/
import Derived.Test.YtnagpndclagfaaaDoorCrA
namespace Go.Proofs.YtnagpndclagfaaaDoor
set_option linter.unusedVariables false
set_option linter.unusedSimpArgs false
open Go.RowKit Go.Sort

/-- The least of the numbers 0 to k of a list. -/
def leastN (xs : List Int) : Nat → Int
  | 0 => xs.getD 0 0
  | k + 1 => if xs.getD (k + 1) 0 < leastN xs k then xs.getD (k + 1) 0 else leastN xs k
def mostN (xs : List Int) : Nat → Int
  | 0 => xs.getD 0 0
  | k + 1 => if mostN xs k < xs.getD (k + 1) 0 then xs.getD (k + 1) 0 else mostN xs k
set_option maxRecDepth 100000 in
set_option maxHeartbeats 1000000 in
theorem sliceMin_any (A : Option Addr) (n c : Nat) (xs : List Int) (w : World) (hn1 : 1 ≤ n) (hn : n ≤ 1048576) (hl : xs.length = n) (hA : IR w w.heap.size A xs) :
    Calls Tryd.prog 53 #[.slice A n c] w fun e w' => e = .returned (.int .i64 (leastN xs (n - 1))) ∧ w' = w := by
  obtain ⟨bx, ox, rfl, -, hc⟩ := hA (by omega)
  have HC := Lib.hid hc
  have HL := Lib.hid hl
  have q0 := hc 0 (by omega)
  simp only [Nat.add_zero] at q0
  obtain ⟨x0, hX0⟩ : ∃ x, x = xs.getD 0 0 := ⟨_, rfl⟩
  rw [← hX0] at q0
  have HX0 := Lib.hid hX0
  have hn3 : ¬ (n : Int) < 1 := by omega
  have hn4 : (0 : Int) < (n : Int) := by omega
  clear hc hX0 hl hA
  go_enter Tryd.func53, Tryd.ntmps53
  go_wp2_with fail
  clear q0
  go_loopw [3, 4] (fun m i wr => ∃ k j : Nat, Hid (k = j + 1) ∧ k ≤ n ∧ i = .int .i64 (k : Int) ∧ m = .int .i64 (leastN xs j) ∧ wr = w) (fun _ i _ => n - (intOf i).toNat)
  case atStart => exact ⟨1, 0, Lib.hid rfl, by omega, rfl, by first | rfl | (show _ = Value.int .i64 (xs.getD 0 0); rw [← HX0.out]), rfl⟩
  case round =>
    obtain ⟨k, j, HKJ, hk, rfl, rfl, rfl⟩ := hrel
    by_cases hlt : k < n
    · have hkn : (k : Int) < (n : Int) := by omega
      have q1 := HC.out k (by rw [HL.out]; omega)
      have HST := Lib.hid (show leastN xs k = if xs.getD k 0 < leastN xs j then xs.getD k 0 else leastN xs j by rw [HKJ.out]; rfl)
      obtain ⟨m, hm⟩ : ∃ m, m = leastN xs j := ⟨_, rfl⟩
      obtain ⟨x, hx⟩ : ∃ x, x = xs.getD k 0 := ⟨_, rfl⟩
      rw [← hx] at q1 HST
      rw [← hm] at HST ⊢
      clear hm hx
      go_wp2_with fail
      go_roundw
      case rel => exact ⟨k + 1, k, Lib.hid rfl, by omega, by go_num, by rw [HST.out], by first | rfl | trivial⟩
      case measure => simp [intOf]; omega
    · obtain rfl : k = n := by omega
      go_wp2_with fail
      go_ret
      exact ⟨by rw [show k - 1 = j by have := HKJ.out; omega]; rfl, rfl⟩
set_option maxRecDepth 100000 in
set_option maxHeartbeats 1000000 in
theorem sliceMax_any (A : Option Addr) (n c : Nat) (xs : List Int) (w : World) (hn1 : 1 ≤ n) (hn : n ≤ 1048576) (hl : xs.length = n) (hA : IR w w.heap.size A xs) :
    Calls Tryd.prog 54 #[.slice A n c] w fun e w' => e = .returned (.int .i64 (mostN xs (n - 1))) ∧ w' = w := by
  obtain ⟨bx, ox, rfl, -, hc⟩ := hA (by omega)
  have HC := Lib.hid hc
  have HL := Lib.hid hl
  have q0 := hc 0 (by omega)
  simp only [Nat.add_zero] at q0
  obtain ⟨x0, hX0⟩ : ∃ x, x = xs.getD 0 0 := ⟨_, rfl⟩
  rw [← hX0] at q0
  have HX0 := Lib.hid hX0
  have hn3 : ¬ (n : Int) < 1 := by omega
  have hn4 : (0 : Int) < (n : Int) := by omega
  clear hc hX0 hl hA
  go_enter Tryd.func54, Tryd.ntmps54
  go_wp2_with fail
  clear q0
  go_loopw [3, 4] (fun m i wr => ∃ k j : Nat, Hid (k = j + 1) ∧ k ≤ n ∧ i = .int .i64 (k : Int) ∧ m = .int .i64 (mostN xs j) ∧ wr = w) (fun _ i _ => n - (intOf i).toNat)
  case atStart => exact ⟨1, 0, Lib.hid rfl, by omega, rfl, by first | rfl | (show _ = Value.int .i64 (xs.getD 0 0); rw [← HX0.out]), rfl⟩
  case round =>
    obtain ⟨k, j, HKJ, hk, rfl, rfl, rfl⟩ := hrel
    by_cases hlt : k < n
    · have hkn : (k : Int) < (n : Int) := by omega
      have q1 := HC.out k (by rw [HL.out]; omega)
      have HST := Lib.hid (show mostN xs k = if mostN xs j < xs.getD k 0 then xs.getD k 0 else mostN xs j by rw [HKJ.out]; rfl)
      obtain ⟨m, hm⟩ : ∃ m, m = mostN xs j := ⟨_, rfl⟩
      obtain ⟨x, hx⟩ : ∃ x, x = xs.getD k 0 := ⟨_, rfl⟩
      rw [← hx] at q1 HST
      rw [← hm] at HST ⊢
      clear hm hx
      go_wp2_with fail
      go_roundw
      case rel => exact ⟨k + 1, k, Lib.hid rfl, by omega, by go_num, by rw [HST.out], by first | rfl | trivial⟩
      case measure => simp [intOf]; omega
    · obtain rfl : k = n := by omega
      go_wp2_with fail
      go_ret
      exact ⟨by rw [show k - 1 = j by have := HKJ.out; omega]; rfl, rfl⟩
set_option maxRecDepth 100000 in
set_option maxHeartbeats 1000000 in
theorem leastGreatest_any (A : Option Addr) (n c : Nat) (xs : List Int) (w : World) (hn1 : 1 ≤ n) (hn : n ≤ 1048576) (hl : xs.length = n) (hA : IR w w.heap.size A xs) :
    Calls Tryd.prog 45 #[.slice A n c] w fun e w' => e = .returned (.tuple #[.int .i64 (leastN xs (n - 1)), .int .i64 (mostN xs (n - 1))]) ∧ w' = w := by
  have H1 := Lib.hid (fun c => sliceMin_any A n c xs w hn1 hn hl hA)
  have H2 := Lib.hid (fun c => sliceMax_any A n c xs w hn1 hn hl hA)
  generalize leastN xs (n - 1) = x at *
  generalize mostN xs (n - 1) = y at *
  clear hA hl
  go_enter Tryd.func45, Tryd.ntmps45
  go_wp2_with fail
  refine (H1.out _).mono ?_
  rintro e w' ⟨rfl, rfl⟩
  go_wp2_with fail
  refine (H2.out _).mono ?_
  rintro e w' ⟨rfl, rfl⟩
  go_wp2_with fail
  go_ret2
  exact ⟨rfl, rfl⟩
set_option maxRecDepth 100000 in
set_option maxHeartbeats 1000000 in
theorem l08Ends_any (A : Option Addr) (n c : Nat) (xs : List Int) (w : World) (hn1 : 1 ≤ n) (hn : n ≤ 1048576) (hl : xs.length = n) (hA : IR w w.heap.size A xs) :
    Calls Tryd.prog 27 #[.slice A n c] w fun e w' => e = .returned (.tuple #[.int .i64 (leastN xs (n - 1)), .int .i64 (mostN xs (n - 1))]) ∧ Ext w w' := by
  obtain ⟨bx, ox, rfl, -, hc⟩ := hA (by omega)
  have HC := Lib.hid hc
  have HL := Lib.hid hl
  have q0 := hc 0 (by omega)
  simp only [Nat.add_zero] at q0
  obtain ⟨x0, hX0⟩ : ∃ x, x = xs.getD 0 0 := ⟨_, rfl⟩
  rw [← hX0] at q0
  have HX0 := Lib.hid hX0
  have hn4 : (0 : Int) < (n : Int) := by omega
  clear hc hX0 hl hA
  go_enter Tryd.func27, Tryd.ntmps27
  go_wp2_with fail
  go_quiet (fail)
  clear q0
  have HE := Lib.hid (show Ext w (w.drewN nq) from (Ext.refl _).drewN _)
  have HC2 := Lib.hid (fun j hj => HE.out.cell_ (HC.out j hj))
  generalize w.drewN nq = w2 at *
  go_wp2_with fail
  go_loopw [4, 5, 6] (fun lv hv i wr => ∃ k j : Nat, Hid (k = j + 1) ∧ k ≤ n ∧ i = .int .i64 (k : Int) ∧ lv = .int .i64 (leastN xs j) ∧ hv = .int .i64 (mostN xs j) ∧ wr = w2) (fun _ _ i _ => n - (intOf i).toNat)
  case atStart => exact ⟨1, 0, Lib.hid rfl, by omega, rfl, by first | rfl | (show _ = Value.int .i64 (xs.getD 0 0); rw [← HX0.out]), by first | rfl | (show _ = Value.int .i64 (xs.getD 0 0); rw [← HX0.out]), rfl⟩
  case round =>
    obtain ⟨k, j, HKJ, hk, rfl, rfl, rfl, rfl⟩ := hrel
    by_cases hlt : k < n
    · have hkn : (k : Int) < (n : Int) := by omega
      have q1 := HC2.out k (by rw [HL.out]; omega)
      have HST := Lib.hid (show leastN xs k = if xs.getD k 0 < leastN xs j then xs.getD k 0 else leastN xs j by rw [HKJ.out]; rfl)
      have HST2 := Lib.hid (show mostN xs k = if mostN xs j < xs.getD k 0 then xs.getD k 0 else mostN xs j by rw [HKJ.out]; rfl)
      obtain ⟨m, hm⟩ : ∃ m, m = leastN xs j := ⟨_, rfl⟩
      obtain ⟨m2, hm2⟩ : ∃ m, m = mostN xs j := ⟨_, rfl⟩
      obtain ⟨x, hx⟩ : ∃ x, x = xs.getD k 0 := ⟨_, rfl⟩
      rw [← hx] at q1 HST HST2
      rw [← hm] at HST ⊢
      rw [← hm2] at HST2 ⊢
      clear hm hx hm2
      go_wp2_with fail
      go_roundw
      case rel => exact ⟨k + 1, k, Lib.hid rfl, by omega, by go_num, by rw [HST.out], by rw [HST2.out], by first | rfl | trivial⟩
      case measure => simp [intOf]; omega
    · obtain rfl : k = n := by omega
      go_wp2_with fail
      go_ret2
      exact ⟨by rw [show k - 1 = j by have := HKJ.out; omega]; rfl, HE.out⟩
end Go.Proofs.YtnagpndclagfaaaDoor
