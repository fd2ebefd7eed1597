/- Powers of a set of tiles: what they are, step by step. -/
import Derived.Test.YtcakbnfpmpdljaaSjB
import Derived.Test.YtcakbnfpmpdljaaKept1
import Derived.Test.YtcakbnfpmpdljaaKept2
import Derived.Lib.Hide
namespace Go.Proofs.Ytcakbnfpmpdljaa
set_option linter.unusedVariables false
set_option linter.unusedSimpArgs false
open Go.RowKit Go.Sort

theorem isSet_mk {c : Int} {ts : List Tl} (hc : 1 ≤ c ∧ c ≤ 6) (hl : ts.length ≤ 16) (hok : ∀ t ∈ ts, tileOk c t = true) (ha : Asc ts) : isSet c ts = true := by
  refine isSet_all hc hl fun j hj => ?_
  have hm : ts.getD j T0 ∈ ts := by simp [List.getD, hj]
  unfold good
  rw [hok _ hm, Bool.true_and, Bool.or_eq_true]
  rcases Nat.eq_zero_or_pos j with rfl | h0
  · exact .inl (by simp)
  · refine .inr ?_
    have := List.pairwise_iff_getElem.1 ha (j - 1) j (by omega) hj (by omega)
    simpa [List.getD, hj, show j - 1 < ts.length by omega] using this
theorem isSet_lasting {c : Int} {ts : List Tl} (h : isSet c ts = true) : isSet c (lastingT ts) = true :=
  isSet_mk (isSet_col h) (Nat.le_trans (lastingT_len ts) (isSet_len h)) (fun t ht => ok_of_isSet h t ((lastingT_sub ts).subset ht)) (lastingT_asc (asc_of_isSet h))
theorem isSet_stack {c d : Int} {ts us : List Tl} (h0 : isSet c ts = true) (h1 : isSet d us = true) (h6 : stkC c d ts us ≤ 6) (h16 : (stkT ts us).length ≤ 16) : isSet (stkC c d ts us) (stkT ts us) = true := by
  have hc := isSet_col h0
  have hd := isSet_col h1
  have e1 : c ≤ stkC c d ts us := by unfold stkC; omega
  have e2 : d ≤ stkC c d ts us := by unfold stkC; omega
  have e3 : ((prs ts us).length : Int) ≤ stkC c d ts us := by unfold stkC; omega
  refine isSet_mk ⟨by omega, h6⟩ h16 (fun t ht => ?_) (sortT_asc _)
  obtain ⟨p, hp, rfl⟩ := List.mem_map.1 (sortT_mem.1 ht)
  have hm := stk_mem hp
  have a1 := ok_of_isSet h0 _ hm.1
  have a2 := ok_of_isSet h1 _ hm.2.1
  have r1 := rk_lt (show cw p ∈ prs ts us from sortI_mem.2 (cw_mem hp))
  have r2 := rk_lt (show ce p ∈ prs ts us from sortI_mem.2 (ce_mem hp))
  simp only [tileOk, decide_eq_true_eq] at a1 a2 ⊢
  simp only [stT]
  omega
/-- The power of j + 1, if no stack on the way is too large. -/
noncomputable def pw (c : Int) (ts : List Tl) : Nat → Option (Int × List Tl)
  | 0 => some (c, lastingT ts)
  | j + 1 => match pw c ts j with
    | none => none
    | some s => if stkC s.1 c s.2 ts ≤ 6 ∧ (stkT s.2 ts).length ≤ 16 then some (stkC s.1 c s.2 ts, lastingT (stkT s.2 ts)) else none
theorem pw_none {c : Int} {ts : List Tl} {j : Nat} (h : pw c ts j = none) : ∀ k, j ≤ k → pw c ts k = none := by
  intro k hk
  induction k with
  | zero =>
    obtain rfl : j = 0 := by omega
    exact h
  | succ k ih =>
    rcases Nat.eq_or_lt_of_le hk with rfl | hlt
    · exact h
    · show (match pw c ts k with | none => none | some s => _) = none
      rw [ih (by omega)]
theorem pw_yes {c d : Int} {ts vs : List Tl} {j : Nat} (h : pw c ts j = some (d, vs)) (hl : stkC d c vs ts ≤ 6 ∧ (stkT vs ts).length ≤ 16) : pw c ts (j + 1) = some (stkC d c vs ts, lastingT (stkT vs ts)) := by
  show (match pw c ts j with | none => none | some s => _) = _
  rw [h]
  simp only
  rw [if_pos hl]
theorem pw_no {c d : Int} {ts vs : List Tl} {j : Nat} (h : pw c ts j = some (d, vs)) (hl : ¬ (stkC d c vs ts ≤ 6 ∧ (stkT vs ts).length ≤ 16)) : pw c ts (j + 1) = none := by
  show (match pw c ts j with | none => none | some s => _) = _
  rw [h]
  simp only
  rw [if_neg hl]
/-- What is handed back for a power. -/
noncomputable def PwRes (c : Int) (ts : List Tl) (k : Nat) (w : World) : Ending → World → Prop :=
  match pw c ts k with
  | none => SetRes w 0 [] 3
  | some s => SetRes w s.1 s.2 0
theorem pwRes_none {c : Int} {ts : List Tl} {k : Nat} {w : World} (h : pw c ts k = none) : PwRes c ts k w = SetRes w 0 [] 3 := by unfold PwRes; rw [h]
theorem pwRes_some {c d : Int} {ts vs : List Tl} {k : Nat} {w : World} (h : pw c ts k = some (d, vs)) : PwRes c ts k w = SetRes w d vs 0 := by unfold PwRes; rw [h]
theorem wlSet_any (d : Int) (A : Option Addr) (n c : Nat) (vs : List Tl) (w : World) (hl : vs.length = n) (hA : TR w w.heap.size A vs) (hs : isSet d vs = true) :
    Calls Try.prog 68 #[.agg #[.int .i64 d, .slice A n c]] w (SetOnly w d (lastingT vs)) := by
  have hn := isSet_len hs
  obtain ⟨C, rfl⟩ : ∃ C : Nat, d = (C : Int) := ⟨d.toNat, by have := (isSet_col hs).1; omega⟩
  exact withLasting_any C A n c vs w (by omega) hl hA (by have := (isSet_col hs).2; omega) (colOk_set hs rfl)
theorem klSet_any (d : Int) (A : Option Addr) (n c : Nat) (vs : List Tl) (w : World) (hl : vs.length = n) (hA : TR w w.heap.size A vs) (hs : isSet d vs = true) :
    Calls Try.prog 67 #[.agg #[.int .i64 d, .slice A n c]] w (SetOnly w d (lastingT vs)) :=
  l04Kept_any d A n c vs w (by have := isSet_len hs; omega) hl hA (asc_of_isSet hs)
theorem madeRes_yes {c d : Int} {ts us : List Tl} {w : World} (h : stkC c d ts us ≤ 6 ∧ (stkT ts us).length ≤ 16) : MadeRes c d ts us w = SetRes w (stkC c d ts us) (stkT ts us) 0 := by unfold MadeRes; rw [if_pos h]
theorem madeRes_no {c d : Int} {ts us : List Tl} {w : World} (h : ¬ (stkC c d ts us ≤ 6 ∧ (stkT ts us).length ≤ 16)) : MadeRes c d ts us w = SetRes w 0 [] 3 := by unfold MadeRes; rw [if_neg h]
theorem implStack_any (c0 : Int) (A0 : Option Addr) (n0 q0 : Nat) (ts : List Tl) (c1 : Int) (A1 : Option Addr) (n1 q1 : Nat) (us : List Tl) (w : World) (hl0 : ts.length = n0) (hA0 : TR w w.heap.size A0 ts) (hl1 : us.length = n1) (hA1 : TR w w.heap.size A1 us) (hs0 : isSet c0 ts = true) (hs1 : isSet c1 us = true) :
    Calls Try.prog 27 #[.agg #[.int .i64 c0, .slice A0 n0 q0], .agg #[.int .i64 c1, .slice A1 n1 q1]] w (MadeRes c0 c1 ts us w) := by
  have h0 := isSet_len hs0
  have h1 := isSet_len hs1
  by_cases hlim : stkC c0 c1 ts us ≤ 6 ∧ (stkT ts us).length ≤ 16
  · rw [madeRes_yes hlim]
    exact implStackSets_0 c0 A0 n0 q0 ts c1 A1 n1 q1 us w (by omega) hl0 hA0 (by omega) hl1 hA1 hs0 hs1 hlim.1 hlim.2
  · rw [madeRes_no hlim]
    by_cases h6 : stkC c0 c1 ts us ≤ 6
    · exact implStackSets_3b c0 A0 n0 q0 ts c1 A1 n1 q1 us w (by omega) hl0 hA0 (by omega) hl1 hA1 hs0 hs1 h6 (fun h9 => hlim ⟨h6, h9⟩)
    · exact implStackSets_3a c0 A0 n0 q0 ts c1 A1 n1 q1 us w (by omega) hl0 hA0 (by omega) hl1 hA1 hs0 hs1 h6
end Go.Proofs.Ytcakbnfpmpdljaa
