/- Greatest common divisors, on both sides. -/
import Derived.Test.YtleabblnikbmpaaTA
namespace Go.Proofs.Ytleabblnikbmpaa
set_option linter.unusedVariables false
set_option linter.unusedSimpArgs false
open Go.RowKit Go.Sort

set_option maxRecDepth 100000 in
set_option maxHeartbeats 1000000 in
theorem l06Gcd_any (a b : Nat) (w : World) (ha : a ≤ 1000) (hb : b ≤ 1000) : Calls Try.prog 111 #[.int .i64 (a : Int), .int .i64 (b : Int)] w fun e w' => e = .returned (.int .i64 ((Nat.gcd a b : Nat) : Int)) ∧ Ext w w' := by
  obtain ⟨g, hg⟩ : ∃ g, g = Nat.gcd a b := ⟨_, rfl⟩
  rw [← hg]
  have HG := Lib.hid hg
  clear hg
  go_enter Try.func111, Try.ntmps111
  go_wp2_with fail
  go_loopw [0, 1] (fun va vb wr => ∃ x y : Nat, va = .int .i64 (x : Int) ∧ vb = .int .i64 (y : Int) ∧ x ≤ 1000 ∧ y ≤ 1000 ∧ g = Nat.gcd x y ∧ wr = w) (fun _ vb _ => (intOf vb).toNat)
  case atStart => exact ⟨a, b, rfl, rfl, ha, hb, HG.out, rfl⟩
  case round =>
    obtain ⟨x, y, rfl, rfl, hx, hy, hxy, rfl⟩ := hrel
    have HXY := Lib.hid hxy
    clear hxy
    by_cases h0 : 0 < y
    · have h03 : (0 : Int) < (y : Int) := by omega
      have h04 : ¬ (y : Int) = 0 := by omega
      have h05 : ((y : Int) == 0) = false := by rw [beq_eq_false_iff_ne]; omega
      have hr : Int.tmod (x : Int) (y : Int) = ((x % y : Nat) : Int) := by rw [Int.tmod_eq_emod_of_nonneg (by omega)]; push_cast; rfl
      have hlt := Nat.mod_lt x h0
      have HR := Lib.hid (show g = Nat.gcd y (x % y) by rw [HXY.out, Nat.gcd_comm x y, Nat.gcd_rec y x, Nat.gcd_comm])
      obtain ⟨z, hz⟩ : ∃ z, z = x % y := ⟨_, rfl⟩
      rw [← hz] at hr hlt HR
      clear hz
      have hw : IntKind.i64.wrap (z : Int) = (z : Int) := IntWalk.i64_in _ (by omega)
      go_wp2_with fail
      go_roundw
      case rel => exact ⟨y, z, rfl, by first | rfl | (rw [hr]) | (rw [hr, hw]), hy, by omega, HR.out, trivial⟩
      case measure => simp [intOf]; omega
    · obtain rfl : y = 0 := by omega
      have HR := Lib.hid (show g = x by rw [HXY.out, Nat.gcd_zero_right])
      go_wp2_with fail
      go_ret
      exact ⟨by rw [HR.out]; rfl, Ext.refl _⟩

set_option maxRecDepth 100000 in
set_option maxHeartbeats 1000000 in
theorem commonDivisor_any (a b : Nat) (w : World) (ha : a ≤ 1000) (hb : b ≤ 1000) : Calls Try.prog 113 #[.int .i64 (a : Int), .int .i64 (b : Int)] w fun e w' => e = .returned (.int .i64 ((Nat.gcd a b : Nat) : Int)) ∧ Ext w w' := by
  obtain ⟨g, hg⟩ : ∃ g, g = Nat.gcd a b := ⟨_, rfl⟩
  rw [← hg]
  have HG := Lib.hid hg
  clear hg
  go_enter Try.func113, Try.ntmps113
  go_wp2_with fail
  go_loopw [0, 1] (fun va vb wr => ∃ x y : Nat, va = .int .i64 (x : Int) ∧ vb = .int .i64 (y : Int) ∧ x ≤ 1000 ∧ y ≤ 1000 ∧ g = Nat.gcd x y ∧ Ext w wr) (fun _ vb _ => (intOf vb).toNat)
  case atStart => exact ⟨a, b, rfl, rfl, ha, hb, HG.out, Ext.refl _⟩
  case round =>
    obtain ⟨x, y, rfl, rfl, hx, hy, hxy, hx0⟩ := hrel
    have HXY := Lib.hid hxy
    have HX := Lib.hid hx0
    clear hxy hx0
    by_cases h0 : 0 < y
    · have h04 : ¬ (y : Int) = 0 := by omega
      have h05 : ((y : Int) != 0) = true := by simp; omega
      have hr : Int.tmod (x : Int) (y : Int) = ((x % y : Nat) : Int) := by rw [Int.tmod_eq_emod_of_nonneg (by omega)]; push_cast; rfl
      have hlt := Nat.mod_lt x h0
      have HR := Lib.hid (show g = Nat.gcd y (x % y) by rw [HXY.out, Nat.gcd_comm x y, Nat.gcd_rec y x, Nat.gcd_comm])
      obtain ⟨z, hz⟩ : ∃ z, z = x % y := ⟨_, rfl⟩
      rw [← hz] at hr hlt HR
      clear hz
      have hw : IntKind.i64.wrap (z : Int) = (z : Int) := IntWalk.i64_in _ (by omega)
      go_wp2_with fail
      refine wp_region_quiet_grown mixed (by kernel_rfl) ?_
      repeat (go_big_quiet_step ((fail)))
      refine wpQuiet_nil ?_
      intro _ hw'
      obtain ⟨⟨nq, osq⟩, hw''⟩ := hw'
      subst hw''
      have HX2 := Lib.hid (HX.out.trans ⟨nq, osq, rfl⟩)
      go_wp2_with fail
      go_roundw
      case rel => exact ⟨y, z, rfl, by first | rfl | (rw [hr]) | (rw [hr, hw]), hy, by omega, HR.out, HX2.out⟩
      case measure => simp [intOf]; omega
    · obtain rfl : y = 0 := by omega
      have HR := Lib.hid (show g = x by rw [HXY.out, Nat.gcd_zero_right])
      go_wp2_with fail
      go_ret
      exact ⟨by rw [HR.out]; rfl, HX.out⟩

end Go.Proofs.Ytleabblnikbmpaa
