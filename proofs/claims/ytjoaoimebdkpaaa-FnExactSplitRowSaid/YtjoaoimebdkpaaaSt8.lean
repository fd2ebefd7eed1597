/- The pairs of a stack: the program's side. -/
import Derived.Test.YtjoaoimebdkpaaaStC
import Derived.Test.YtjoaoimebdkpaaaSp0
import Derived.Test.YtjoaoimebdkpaaaSBridge
import Derived.Lib.Hide
namespace Go.Proofs.Ytjoaoimebdkpaaa
set_option linter.unusedVariables false
set_option linter.unusedSimpArgs false
open Go.RowKit Go.Sort

theorem stackedSR_any (c0 : Int) (A0 : Option Addr) (n0 q0 : Nat) (ts : List Tl) (c1 : Int) (A1 : Option Addr) (n1 q1 : Nat) (us : List Tl) (w : World) (hn0 : n0 ≤ 4096) (hl0 : ts.length = n0) (hA0 : TR w w.heap.size A0 ts) (hn1 : n1 ≤ 16) (hl1 : us.length = n1) (hA1 : TR w w.heap.size A1 us) :
    Calls Try.prog 92 #[.agg #[.int .i64 c0, .slice A0 n0 q0], .agg #[.int .i64 c1, .slice A1 n1 q1]] w fun e w' => ∃ A cap, e = .returned (.slice A (stk ts us).length cap) ∧ SR w' w'.heap.size A (stk ts us) ∧ Below w.heap.size w w' := by
  refine (stackedPairs_any c0 A0 n0 q0 ts c1 A1 n1 q1 us w hn0 hl0 hA0 hn1 hl1 hA1).mono ?_
  rintro e w' ⟨v, rfl, ho, hb⟩
  obtain ⟨A, cap, rfl, hs⟩ := SR.of_own ho rfl
  exact ⟨A, cap, rfl, hs, hb⟩
theorem stk_len2 {ts us : List Tl} {n0 n1 : Nat} (hl0 : ts.length = n0) (hl1 : us.length = n1) (hn0 : n0 ≤ 4096) (hn1 : n1 ≤ 16) : (stk ts us).length ≤ 65536 := by
  have h1 := stk_len ts us
  have h2 : ts.length * us.length ≤ 4096 * 16 := Nat.mul_le_mul (by omega) (by omega)
  omega
theorem stk_low {ts us : List Tl} {c : Int} (hc : c ≤ 6) (h : ∀ t ∈ us, tileOk c t = true) : ∀ p ∈ stk ts us, (0 ≤ p.2.1 ∧ p.2.1 < 16) ∧ 0 ≤ p.2.2.2.1 ∧ p.2.2.2.1 < 16 := fun p hp => by
  have h1 := h p.2 (stk_mem hp).2.1
  simp only [tileOk, decide_eq_true_eq] at h1
  omega

end Go.Proofs.Ytjoaoimebdkpaaa
