/- The exact law over PutTile. -/
import Derived.Test.YtfacdmkcklimjaaLPutTile0
import Derived.Test.YtfacdmkcklimjaaPt1
import Derived.Test.YtfacdmkcklimjaaPt3
import Derived.Test.YtfacdmkcklimjaaPt4
import Derived.Test.YtfacdmkcklimjaaPt5
namespace Go.Proofs.Ytfacdmkcklimjaa
set_option linter.unusedVariables false
set_option linter.unusedSimpArgs false
open Go.RowKit Go.Sort

theorem law_Put (c0 : Int) (A0 : Option Addr) (n0 q0 : Nat) (ts0 : List Tl) (x0 x1 x2 x3 : Int) (w : World)
    (hn0 : n0 ≤ 9223372036854775807) (hl0 : ts0.length = n0) (hA0 : TR w w.heap.size A0 ts0) :
    Calls Try.prog 3 #[.agg #[.int .i64 c0, .slice A0 n0 q0], .agg #[.int .i64 x0, .int .i64 x1, .int .i64 x2, .int .i64 x3]] w fun e w' => e = .returned (.bool true) ∧ Below w.heap.size w w' := by
  cases hs : isSet c0 ts0 with
  | false =>
    exact lawPutTile_core c0 A0 n0 q0 ts0 x0 x1 x2 x3 w hn0 hl0 hA0 0 [] 1 (by simp)
      (fun h W B0 e0 _ hB0 => specPut_1 c0 B0 n0 e0 ts0 x0 x1 x2 x3 W h hl0 hB0 hs)
      (fun h W B0 e0 _ hB0 => implPut_1 c0 B0 n0 e0 ts0 x0 x1 x2 x3 W h hl0 hB0 hs)
  | true =>
    cases ht : tileOk c0 (x0, x1, x2, x3) with
    | false =>
      exact lawPutTile_core c0 A0 n0 q0 ts0 x0 x1 x2 x3 w hn0 hl0 hA0 0 [] 2 (by simp)
        (fun h W B0 e0 _ hB0 => specPut_2 c0 B0 n0 e0 ts0 x0 x1 x2 x3 W h hl0 hB0 hs ht)
        (fun h W B0 e0 _ hB0 => implPut_2 c0 B0 n0 e0 ts0 x0 x1 x2 x3 W h hl0 hB0 hs ht)
    | true =>
      cases hh : decide ((x0, x1, x2, x3) ∈ ts0) with
      | true =>
        exact lawPutTile_core c0 A0 n0 q0 ts0 x0 x1 x2 x3 w hn0 hl0 hA0 0 [] 5 (by simp)
          (fun h W B0 e0 _ hB0 => specPut_5 c0 B0 n0 e0 ts0 x0 x1 x2 x3 W h hl0 hB0 hs ht hh)
          (fun h W B0 e0 _ hB0 => implPut_5 c0 B0 n0 e0 ts0 x0 x1 x2 x3 W h hl0 hB0 hs ht hh)
      | false =>
        have hle := isSet_len hs
        rw [hl0] at hle
        by_cases h16 : n0 + 1 ≤ 16
        · exact lawPutTile_core c0 A0 n0 q0 ts0 x0 x1 x2 x3 w hn0 hl0 hA0 c0 (sortT (ts0 ++ [(x0, x1, x2, x3)])) 0 (by have := sortT_len (ts0 ++ [(x0, x1, x2, x3)]); simp at this; omega)
            (fun h W B0 e0 _ hB0 => specPut_0 c0 B0 n0 e0 ts0 x0 x1 x2 x3 W h hl0 hB0 hs ht hh h16)
            (fun h W B0 e0 _ hB0 => implPut_0 c0 B0 n0 e0 ts0 x0 x1 x2 x3 W h hl0 hB0 hs ht hh (by omega))
        · exact lawPutTile_core c0 A0 n0 q0 ts0 x0 x1 x2 x3 w hn0 hl0 hA0 0 [] 3 (by simp)
            (fun h W B0 e0 _ hB0 => specPut_3 c0 B0 n0 e0 ts0 x0 x1 x2 x3 W h hl0 hB0 hs ht hh h16)
            (fun h W B0 e0 _ hB0 => implPut_3 c0 B0 n0 e0 ts0 x0 x1 x2 x3 W h hl0 hB0 hs ht hh (by omega))
end Go.Proofs.Ytfacdmkcklimjaa
