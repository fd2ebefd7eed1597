/- The exact law over SplitRow. -/
import Derived.Test.YtjoaoimebdkpaaaLSplitRow0
import Derived.Test.YtjoaoimebdkpaaaSrB
namespace Go.Proofs.Ytjoaoimebdkpaaa
set_option linter.unusedVariables false
set_option linter.unusedSimpArgs false
open Go.RowKit Go.Sort

theorem law_SplitRow (c0 : Int) (A0 : Option Addr) (n0 q0 : Nat) (ts0 : List Tl) (c1 : Int) (A1 : Option Addr) (n1 q1 : Nat) (ts1 : List Tl) (A2 : Option Addr) (n2 q2 : Nat) (xs2 : List Int) (w : World)
    (hn0 : n0 ≤ 9223372036854775807) (hl0 : ts0.length = n0) (hA0 : TR w w.heap.size A0 ts0) (hn1 : n1 ≤ 9223372036854775807) (hl1 : ts1.length = n1) (hA1 : TR w w.heap.size A1 ts1) (hn2 : n2 ≤ 9223372036854775807) (hl2 : xs2.length = n2) (hA2 : IR w w.heap.size A2 xs2) :
    Calls Try.prog 10 #[.agg #[.int .i64 c0, .slice A0 n0 q0], .agg #[.int .i64 c1, .slice A1 n1 q1], .slice A2 n2 q2] w fun e w' => e = .returned (.bool true) ∧ Below w.heap.size w w' := by
  have hspe : ∀ (z : Int) (hz : z ≠ 0) (W : World) (B0 : Option Addr) (e0 : Nat) (B1 : Option Addr) (e1 : Nat) (B2 : Option Addr) (e2 : Nat), (∀ X, Below W.heap.size W X → Calls Try.prog 86 #[.agg #[.int .i64 c0, .slice B0 n0 e0], .agg #[.int .i64 c1, .slice B1 n1 e1]] X (SetRes X 0 [] z)) → Calls Try.prog 40 #[.agg #[.int .i64 c0, .slice B0 n0 e0], .agg #[.int .i64 c1, .slice B1 n1 e1], .slice B2 n2 e2] W (fun e w' => ∃ R0 p0 R1 p1, e = .returned (.tuple #[.slice R0 ([] : List Int).length p0, .slice R1 ([] : List Int).length p1, .int .i64 z]) ∧ Below W.heap.size W w' ∧ IWr w' W.heap.size w'.heap.size R0 [] ∧ IWr w' W.heap.size w'.heap.size R1 []) :=
    fun z hz W B0 e0 B1 e1 B2 e2 h => (specSplit_st c0 B0 n0 e0 ts0 c1 B1 n1 e1 ts1 B2 n2 e2 xs2 W z hz h).mono fun e w' ⟨he, hb⟩ => ⟨none, 0, none, 0, he, hb, fun h => absurd h (by simp), fun h => absurd h (by simp)⟩
  have himp : ∀ (z : Int) (hz : z ≠ 0) (W : World) (B0 : Option Addr) (e0 : Nat) (B1 : Option Addr) (e1 : Nat) (B2 : Option Addr) (e2 : Nat), (∀ X, Below W.heap.size W X → Calls Try.prog 90 #[.agg #[.int .i64 c0, .slice B0 n0 e0], .agg #[.int .i64 c1, .slice B1 n1 e1]] X (SetRes X 0 [] z)) → Calls Try.prog 42 #[.agg #[.int .i64 c0, .slice B0 n0 e0], .agg #[.int .i64 c1, .slice B1 n1 e1], .slice B2 n2 e2] W (fun e w' => ∃ R0 p0 R1 p1 ja jb jc jd, W.heap.size ≤ ja ∧ jb ≤ w'.heap.size ∧ W.heap.size ≤ jc ∧ jd ≤ w'.heap.size ∧ (jb ≤ jc ∨ jd ≤ ja) ∧ e = .returned (.tuple #[.slice R0 ([] : List Int).length p0, .slice R1 ([] : List Int).length p1, .int .i64 z]) ∧ Below W.heap.size W w' ∧ IWr w' ja jb R0 [] ∧ IWr w' jc jd R1 []) :=
    fun z hz W B0 e0 B1 e1 B2 e2 h => (implSplit_st c0 B0 n0 e0 ts0 c1 B1 n1 e1 ts1 B2 n2 e2 xs2 W z hz h).mono fun e w' ⟨he, hb⟩ => ⟨none, 0, none, 0, W.heap.size, W.heap.size, W.heap.size, W.heap.size, Nat.le_refl _, hb.size, Nat.le_refl _, hb.size, .inl (Nat.le_refl _), he, hb, fun h => absurd h (by simp), fun h => absurd h (by simp)⟩
  cases hs0 : isSet c0 ts0 with
  | false =>
    exact lawSplitRow_core c0 A0 n0 q0 ts0 c1 A1 n1 q1 ts1 A2 n2 q2 xs2 w hn0 hl0 hA0 hn1 hl1 hA1 hn2 hl2 hA2 [] [] 1 (by simp) (by simp)
      (fun h W B0 e0 B1 e1 B2 e2 _ hB0 _ hB1 _ hB2 => hspe 1 (by decide) W B0 e0 B1 e1 B2 e2 fun X hX => specStackSets_1a c0 B0 n0 e0 ts0 c1 B1 n1 e1 ts1 X h.1 hl0 ((hB0.below hX (Nat.le_refl _)).more hX.size) h.2.1 hl1 ((hB1.below hX (Nat.le_refl _)).more hX.size) hs0)
      (fun h W B0 e0 B1 e1 B2 e2 _ hB0 _ hB1 _ hB2 => himp 1 (by decide) W B0 e0 B1 e1 B2 e2 fun X hX => implStackSets_1a c0 B0 n0 e0 ts0 c1 B1 n1 e1 ts1 X h.1 hl0 ((hB0.below hX (Nat.le_refl _)).more hX.size) h.2.1 hl1 ((hB1.below hX (Nat.le_refl _)).more hX.size) hs0)
  | true =>
    cases hs1 : isSet c1 ts1 with
    | false =>
      exact lawSplitRow_core c0 A0 n0 q0 ts0 c1 A1 n1 q1 ts1 A2 n2 q2 xs2 w hn0 hl0 hA0 hn1 hl1 hA1 hn2 hl2 hA2 [] [] 1 (by simp) (by simp)
        (fun h W B0 e0 B1 e1 B2 e2 _ hB0 _ hB1 _ hB2 => hspe 1 (by decide) W B0 e0 B1 e1 B2 e2 fun X hX => specStackSets_1b c0 B0 n0 e0 ts0 c1 B1 n1 e1 ts1 X h.1 hl0 ((hB0.below hX (Nat.le_refl _)).more hX.size) h.2.1 hl1 ((hB1.below hX (Nat.le_refl _)).more hX.size) hs0 hs1)
        (fun h W B0 e0 B1 e1 B2 e2 _ hB0 _ hB1 _ hB2 => himp 1 (by decide) W B0 e0 B1 e1 B2 e2 fun X hX => implStackSets_1b c0 B0 n0 e0 ts0 c1 B1 n1 e1 ts1 X h.1 hl0 ((hB0.below hX (Nat.le_refl _)).more hX.size) h.2.1 hl1 ((hB1.below hX (Nat.le_refl _)).more hX.size) hs0 hs1)
    | true =>
      have hmade : ∀ W B0 e0 B1 e1, TR W W.heap.size B0 ts0 → TR W W.heap.size B1 ts1 → Calls Try.prog 131 #[.agg #[.int .i64 c0, .slice B0 n0 e0], .agg #[.int .i64 c1, .slice B1 n1 e1]] W (MadeRes c0 c1 ts0 ts1 W) := fun W B0 e0 B1 e1 h0 h1 => l04Made_any c0 B0 n0 e0 ts0 c1 B1 n1 e1 ts1 W hl0 h0 hl1 h1 hs0 hs1
      by_cases hlim : stkC c0 c1 ts0 ts1 ≤ 6 ∧ (stkT ts0 ts1).length ≤ 16
      · have hstS : n0 ≤ 1048576 → n1 ≤ 1048576 → ∀ X B0 e0 B1 e1, TR X X.heap.size B0 ts0 → TR X X.heap.size B1 ts1 → Calls Try.prog 86 #[.agg #[.int .i64 c0, .slice B0 n0 e0], .agg #[.int .i64 c1, .slice B1 n1 e1]] X (SetRes X (stkC c0 c1 ts0 ts1) (stkT ts0 ts1) 0) := fun k0 k1 X B0 e0 B1 e1 h0 h1 =>
          specStackSets_gen c0 B0 n0 e0 ts0 c1 B1 n1 e1 ts1 X k0 hl0 h0 k1 hl1 h1 hs0 hs1 _ _ _ (fun Y hY => by have := hmade Y B0 e0 B1 e1 ((h0.below hY (Nat.le_refl _)).more hY.size) ((h1.below hY (Nat.le_refl _)).more hY.size); unfold MadeRes at this; rw [if_pos hlim] at this; exact this)
        have hstI : n0 ≤ 1048576 → n1 ≤ 1048576 → ∀ X B0 e0 B1 e1, TR X X.heap.size B0 ts0 → TR X X.heap.size B1 ts1 → Calls Try.prog 90 #[.agg #[.int .i64 c0, .slice B0 n0 e0], .agg #[.int .i64 c1, .slice B1 n1 e1]] X (SetRes X (stkC c0 c1 ts0 ts1) (stkT ts0 ts1) 0) := fun k0 k1 X B0 e0 B1 e1 h0 h1 =>
          implStackSets_0 c0 B0 n0 e0 ts0 c1 B1 n1 e1 ts1 X k0 hl0 h0 k1 hl1 h1 hs0 hs1 hlim.1 hlim.2
        cases hrow : isRow (stkT ts0 ts1) xs2 with
        | false =>
          exact lawSplitRow_core c0 A0 n0 q0 ts0 c1 A1 n1 q1 ts1 A2 n2 q2 xs2 w hn0 hl0 hA0 hn1 hl1 hA1 hn2 hl2 hA2 [] [] 2 (by simp) (by simp)
            (fun h W B0 e0 B1 e1 B2 e2 _ hB0 _ hB1 _ hB2 => (specSplit_row c0 B0 n0 e0 ts0 c1 B1 n1 e1 ts1 B2 n2 e2 xs2 W (stkC c0 c1 ts0 ts1) (stkT ts0 ts1) (fun X hX => hstS h.1 h.2.1 X B0 e0 B1 e1 ((hB0.below hX (Nat.le_refl _)).more hX.size) ((hB1.below hX (Nat.le_refl _)).more hX.size)) (fun X A cap hX hA => by
              have := l02Row_any (stkC c0 c1 ts0 ts1) A (stkT ts0 ts1).length cap (stkT ts0 ts1) B2 n2 e2 xs2 X (by omega) rfl hA (by omega) hl2 ((hB2.below hX (Nat.le_refl _)).more hX.size)
              rw [hrow] at this
              exact this)).mono fun e w' ⟨he, hb⟩ => ⟨none, 0, none, 0, he, hb, fun h => absurd h (by simp), fun h => absurd h (by simp)⟩)
            (fun h W B0 e0 B1 e1 B2 e2 _ hB0 _ hB1 h2 hB2 => (implSplit_row c0 B0 n0 e0 ts0 c1 B1 n1 e1 ts1 B2 n2 e2 xs2 W (stkC c0 c1 ts0 ts1) (stkT ts0 ts1) (fun X hX => hstI h.1 h.2.1 X B0 e0 B1 e1 ((hB0.below hX (Nat.le_refl _)).more hX.size) ((hB1.below hX (Nat.le_refl _)).more hX.size)) (fun X A cap hX hA => by
              have := implIsRow_any (stkC c0 c1 ts0 ts1) A (stkT ts0 ts1).length cap (stkT ts0 ts1) B2 n2 e2 xs2 X (by omega) rfl hA h.2.2 h2 hl2 ((hB2.below hX (Nat.le_refl _)).more hX.size)
              unfold BoolRes at this
              rw [isSet_stkS hs0 hs1 hlim.1 hlim.2, hrow] at this
              exact this)).mono fun e w' ⟨he, hb⟩ => ⟨none, 0, none, 0, W.heap.size, W.heap.size, W.heap.size, W.heap.size, Nat.le_refl _, hb.size, Nat.le_refl _, hb.size, .inl (Nat.le_refl _), he, hb, fun h => absurd h (by simp), fun h => absurd h (by simp)⟩)
        | true =>
          have hr := (isRow_facts hrow).1
          exact lawSplitRow_core c0 A0 n0 q0 ts0 c1 A1 n1 q1 ts1 A2 n2 q2 xs2 w hn0 hl0 hA0 hn1 hl1 hA1 hn2 hl2 hA2 (upL ts0 ts1 xs2) (loL ts0 ts1 xs2) 0 (by unfold upL; rw [List.length_map]; omega) (by unfold loL; rw [List.length_map]; omega)
            (fun h W B0 e0 B1 e1 B2 e2 _ hB0 _ hB1 _ hB2 => specSplit_0 c0 B0 n0 e0 ts0 c1 B1 n1 e1 ts1 B2 n2 e2 xs2 W h.1 hl0 hB0 h.2.1 hl1 hB1 h.2.2 hl2 hB2 hs0 hs1 hrow _ hlim.2 (fun X hX => hstS h.1 h.2.1 X B0 e0 B1 e1 ((hB0.below hX (Nat.le_refl _)).more hX.size) ((hB1.below hX (Nat.le_refl _)).more hX.size)))
            (fun h W B0 e0 B1 e1 B2 e2 _ hB0 _ hB1 h2 hB2 => implSplit_0 c0 B0 n0 e0 ts0 c1 B1 n1 e1 ts1 B2 n2 e2 xs2 W h.1 hl0 hB0 h.2.1 hl1 hB1 h.2.2 h2 hl2 hB2 hs0 hs1 hlim.1 hlim.2 hrow)
      · exact lawSplitRow_core c0 A0 n0 q0 ts0 c1 A1 n1 q1 ts1 A2 n2 q2 xs2 w hn0 hl0 hA0 hn1 hl1 hA1 hn2 hl2 hA2 [] [] 3 (by simp) (by simp)
          (fun h W B0 e0 B1 e1 B2 e2 _ hB0 _ hB1 _ hB2 => hspe 3 (by decide) W B0 e0 B1 e1 B2 e2 fun X hX => specStackSets_gen c0 B0 n0 e0 ts0 c1 B1 n1 e1 ts1 X h.1 hl0 ((hB0.below hX (Nat.le_refl _)).more hX.size) h.2.1 hl1 ((hB1.below hX (Nat.le_refl _)).more hX.size) hs0 hs1 _ _ _ (fun Y hY => by have := hmade Y B0 e0 B1 e1 ((((hB0.below hX (Nat.le_refl _)).more hX.size).below hY (Nat.le_refl _)).more hY.size) ((((hB1.below hX (Nat.le_refl _)).more hX.size).below hY (Nat.le_refl _)).more hY.size); unfold MadeRes at this; rw [if_neg hlim] at this; exact this))
          (fun h W B0 e0 B1 e1 B2 e2 _ hB0 _ hB1 _ hB2 => himp 3 (by decide) W B0 e0 B1 e1 B2 e2 fun X hX => by
            by_cases h6 : stkC c0 c1 ts0 ts1 ≤ 6
            · exact implStackSets_3b c0 B0 n0 e0 ts0 c1 B1 n1 e1 ts1 X h.1 hl0 ((hB0.below hX (Nat.le_refl _)).more hX.size) h.2.1 hl1 ((hB1.below hX (Nat.le_refl _)).more hX.size) hs0 hs1 h6 (fun h9 => hlim ⟨h6, h9⟩)
            · exact implStackSets_3a c0 B0 n0 e0 ts0 c1 B1 n1 e1 ts1 X h.1 hl0 ((hB0.below hX (Nat.le_refl _)).more hX.size) h.2.1 hl1 ((hB1.below hX (Nat.le_refl _)).more hX.size) hs0 hs1 h6)
end Go.Proofs.Ytjoaoimebdkpaaa
