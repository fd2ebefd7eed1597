/- The library's comparisons of rows of numbers. -/
import Derived.Test.YtcakbnfpmpdljaaSt1
import Derived.Lib.Hide
namespace Go.Proofs.Ytcakbnfpmpdljaa
set_option linter.unusedVariables false
set_option linter.unusedSimpArgs false
open Go.RowKit Go.Sort

set_option maxHeartbeats 1000000 in
theorem equalR_any (A A' : Option Addr) (n n' c c' : Nat) (xs ys : List Int) (w : World) (hn : n ≤ 1152921504606846976) (hl : xs.length = n) (hl' : ys.length = n') (hA : IR w w.heap.size A xs) (hA' : IR w w.heap.size A' ys) :
   Calls Try.prog 85 #[.slice A n c, .slice A' n' c'] w fun e w' => e = .returned (.bool (decide (xs = ys))) ∧ Ext w w' := by
  by_cases hne : n = n'
  · subst hne
    have hq : ((n : Int) != (n : Int)) = false := by simp
    go_enter Try.func85, Try.ntmps85
    go_wp2_with fail
    go_loopw [13] (fun i wr => ∃ k : Nat, k ≤ n ∧ i = .int .i64 k ∧ (∀ j, j < k → xs.getD j 0 = ys.getD j 0) ∧ Ext w wr) (fun i _ => n - (intOf i).toNat)
    case atStart => exact ⟨0, Nat.zero_le _, rfl, fun j hj => absurd hj (Nat.not_lt_zero _), Ext.refl _⟩
    case round =>
      obtain ⟨k, hk, rfl, heq, hx⟩ := hrel
      have H := Lib.hid heq
      have HX := Lib.hid hx
      clear heq
      by_cases hlt : k < n
      · obtain ⟨b, off, rfl, -, hc⟩ := (hA.ext hx (Nat.le_refl _)) (by omega)
        obtain ⟨b', off', rfl, -, hc'⟩ := (hA'.ext hx (Nat.le_refl _)) (by omega)
        replace hc := hc k (by omega)
        replace hc' := hc' k (by omega)
        clear hx hA hA'
        obtain ⟨x, hX⟩ : ∃ x, x = xs.getD k 0 := ⟨_, rfl⟩
        obtain ⟨y, hY⟩ : ∃ x, x = ys.getD k 0 := ⟨_, rfl⟩
        rw [← hX] at hc
        rw [← hY] at hc'
        have EX := Lib.hid hX
        have EY := Lib.hid hY
        clear hX hY
        go_wp2_with fail
        go_quiet (fail)
        clear hc hc'
        go_wp2_with fail
        · go_ret
          refine ⟨ret_b ?_, HX.out.trans ((Ext.refl _).drewN _)⟩
          have hd : x ≠ y := by simp_all
          rw [EX.out, EY.out] at hd
          exact (decide_eq_false (fun e => hd (by rw [e]))).symm
        · have hd : x = y := by simp_all
          refine ⟨⟨k + 1, by omega, by go_num, ?_, HX.out.trans ((Ext.refl _).drewN _)⟩, by simp [intOf]; omega⟩
          intro j hj
          by_cases hjk : j = k
          · subst hjk
            rw [EX.out, EY.out] at hd
            exact hd
          · exact H.out j (by omega)
      · clear hx hA hA'
        go_wp2_with fail
        go_ret
        refine ⟨ret_b ?_, HX.out⟩
        have hkn : k = n := by omega
        subst hkn
        exact (decide_eq_true (ints_eq_of (by omega) (fun j hj => H.out j (by omega)))).symm
  · go_enter Try.func85, Try.ntmps85
    have hq : ((n : Int) != (n' : Int)) = true := by simp; omega
    go_wp2_with fail
    all_goals go_ret
    all_goals exact ⟨ret_b (decide_eq_false (fun e => hne (by rw [← hl, ← hl', e]))).symm, Ext.refl _⟩

set_option maxHeartbeats 1000000 in
theorem compareR_any (A A' : Option Addr) (n n' c c' : Nat) (xs ys : List Int) (w : World) (hn : n ≤ 1152921504606846976) (hn' : n' ≤ 1152921504606846976) (hl : xs.length = n) (hl' : ys.length = n') (hA : IR w w.heap.size A xs) (hA' : IR w w.heap.size A' ys) :
   Calls Try.prog 83 #[.slice A n c, .slice A' n' c'] w fun e w' => e = .returned (.int .i64 (cmpL xs ys)) ∧ w' = w := by
  generalize hr : cmpL xs ys = r
  have HR := Lib.hid hr
  clear hr
  go_enter Try.func83, Try.ntmps83
  go_wp2_with fail
  go_loop [11] (fun i => ∃ k : Nat, k ≤ n ∧ k ≤ n' ∧ i = .int .i64 k ∧ (∀ j, j < k → xs.getD j 0 = ys.getD j 0)) (fun i => n - (intOf i).toNat)
  case atStart => exact ⟨0, Nat.zero_le _, Nat.zero_le _, rfl, fun j hj => absurd hj (Nat.not_lt_zero _)⟩
  case round =>
    obtain ⟨k, hk, hk', rfl, heq⟩ := hrel
    have HD := Lib.hid (cmpL_drop (xs := xs) (ys := ys) (by omega) (by omega) heq)
    have H := Lib.hid heq
    clear heq
    by_cases hlt : k < n
    · by_cases hlt' : k < n'
      · obtain ⟨b, off, rfl, -, hc⟩ := hA (by omega)
        obtain ⟨b', off', rfl, -, hc'⟩ := hA' (by omega)
        replace hc := hc k (by omega)
        replace hc' := hc' k (by omega)
        clear hA hA'
        have hg : decide ((n' : Int) ≤ (k : Int)) = false := by simp; omega
        obtain ⟨x, hX⟩ : ∃ x, x = xs.getD k 0 := ⟨_, rfl⟩
        obtain ⟨y, hY⟩ : ∃ x, x = ys.getD k 0 := ⟨_, rfl⟩
        rw [← hX] at hc
        rw [← hY] at hc'
        have hc1 := HD.out
        rw [drop_cons (by omega), drop_cons (show k < ys.length by omega), ← hX, ← hY, HR.out] at hc1
        have HC := Lib.hid hc1
        clear hc1
        have EX := Lib.hid hX
        have EY := Lib.hid hY
        clear hX hY
        have hcon := fun W => compare_any x y W
        by_cases h1 : x < y
        · have e : cmpI x y = -1 := by simp [cmpI, h1]
          rw [e] at hcon
          have HCON := Lib.hid hcon
          clear hcon e
          go_wp2_with fail
          refine (HCON.out _).mono ?_
          rintro e w' ⟨rfl, rfl⟩
          go_wp2_with fail
          go_ret
          exact ⟨ret_i (by rw [HC.out]; exact (cmpL_cons_lt h1 _ _).symm), rfl⟩
        · by_cases h2 : y < x
          · have e : cmpI x y = 1 := by simp [cmpI, h1, h2]
            rw [e] at hcon
            have HCON := Lib.hid hcon
            clear hcon e
            go_wp2_with fail
            refine (HCON.out _).mono ?_
            rintro e w' ⟨rfl, rfl⟩
            go_wp2_with fail
            go_ret
            exact ⟨ret_i (by rw [HC.out]; exact (cmpL_cons_gt h2 _ _).symm), rfl⟩
          · have e : cmpI x y = 0 := by simp [cmpI, h1, h2]
            rw [e] at hcon
            have HCON := Lib.hid hcon
            have hxy : x = y := by omega
            have HXY := Lib.hid hxy
            clear hcon e hxy
            go_wp2_with fail
            refine (HCON.out _).mono ?_
            rintro e w' ⟨rfl, rfl⟩
            go_wp2_with fail
            go_round
            case rel =>
              refine ⟨k + 1, by omega, by omega, by go_num, ?_⟩
              intro j hj
              by_cases hjk : j = k
              · subst hjk
                rw [← EX.out, ← EY.out]
                exact HXY.out
              · exact H.out j (by omega)
            case measure => simp [intOf]; omega
      · have hg : decide ((n' : Int) ≤ (k : Int)) = true := by simp; omega
        obtain ⟨b, off, rfl, -, hc⟩ := hA (by omega)
        replace hc := hc k (by omega)
        clear hA hA'
        have hc1 := HD.out
        rw [drop_cons (by omega), show ys.drop k = [] by rw [List.drop_eq_nil_iff]; omega, HR.out] at hc1
        have HC := Lib.hid hc1
        clear hc1
        go_wp2_with fail
        go_ret
        exact ⟨ret_i (by rw [HC.out]; simp [cmpL, ltL]), rfl⟩
    · obtain rfl : k = n := by omega
      clear hA hA'
      have hc1 := HD.out
      rw [show xs.drop k = [] by rw [List.drop_eq_nil_iff]; omega, HR.out] at hc1
      by_cases hlt' : k < n'
      · rw [drop_cons (show k < ys.length by omega)] at hc1
        have HC := Lib.hid hc1
        clear hc1
        go_wp2_with fail
        go_ret
        exact ⟨ret_i (by rw [HC.out]; simp [cmpL, ltL]), rfl⟩
      · rw [show ys.drop k = [] by rw [List.drop_eq_nil_iff]; omega] at hc1
        have HC := Lib.hid hc1
        clear hc1
        go_wp2_with fail
        go_ret
        exact ⟨ret_i (by rw [HC.out]; simp [cmpL, ltL]), rfl⟩
end Go.Proofs.Ytcakbnfpmpdljaa
