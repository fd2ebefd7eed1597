/- Factors: whether two numbers are one. -/
import Derived.Test.YtnagpndclagfaaaDoorTA
namespace Go.Proofs.YtnagpndclagfaaaDoor
set_option linter.unusedVariables false
set_option linter.unusedSimpArgs false
open Go.RowKit Go.Sort

def facB (p q : Int) : Bool := decide (1 ≤ p ∧ p ≤ 3 ∧ 1 ≤ q ∧ q ≤ 3)
theorem l08Factor_any (p q : Int) (w : World) : Calls Tryd.prog 23 #[.int .i64 p, .int .i64 q] w fun e w' => e = .returned (.bool (facB p q)) ∧ w' = w := by
  have hb : facB p q = (decide (1 ≤ p ∧ p ≤ 3) && decide (1 ≤ q ∧ q ≤ 3)) := by
    rw [Bool.eq_iff_iff]; simp [facB]; omega
  rw [hb]
  have H1 := Lib.hid (fun W => l01In_any p 1 3 W)
  have H2 := Lib.hid (fun W => l01In_any q 1 3 W)
  clear hb
  generalize decide (1 ≤ p ∧ p ≤ 3) = o1 at *
  generalize decide (1 ≤ q ∧ q ≤ 3) = o2 at *
  cases o1 with
  | false =>
    go_enter Tryd.func23, Tryd.ntmps23
    go_wp2_with fail
    refine (H1.out _).mono ?_
    rintro e w' ⟨rfl, rfl⟩
    go_wp2_with fail
    go_ret
    exact ⟨rfl, rfl⟩
  | true =>
    go_enter Tryd.func23, Tryd.ntmps23
    go_wp2_with fail
    refine (H1.out _).mono ?_
    rintro e w' ⟨rfl, rfl⟩
    go_wp2_with fail
    refine (H2.out _).mono ?_
    rintro e w' ⟨rfl, rfl⟩
    go_wp2_with fail
    go_ret
    exact ⟨by simp, rfl⟩
end Go.Proofs.YtnagpndclagfaaaDoor
