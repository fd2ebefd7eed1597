/- The pairs of a stack: the program's side. -/
import Derived.Test.YtcakbnfpmpdljaaStC
import Derived.Test.YtcakbnfpmpdljaaSp0
import Derived.Test.YtcakbnfpmpdljaaSBridge
import Derived.Lib.Hide
namespace Go.Proofs.Ytcakbnfpmpdljaa
set_option linter.unusedVariables false
set_option linter.unusedSimpArgs false
open Go.RowKit Go.Sort

theorem stackedSR_any (c0 : Int) (A0 : Option Addr) (n0 q0 : Nat) (ts : List Tl) (c1 : Int) (A1 : Option Addr) (n1 q1 : Nat) (us : List Tl) (w : World) (hn0 : n0 ≤ 4096) (hl0 : ts.length = n0) (hA0 : TR w w.heap.size A0 ts) (hn1 : n1 ≤ 16) (hl1 : us.length = n1) (hA1 : TR w w.heap.size A1 us) :
    Calls Try.prog 63 #[.agg #[.int .i64 c0, .slice A0 n0 q0], .agg #[.int .i64 c1, .slice A1 n1 q1]] w fun e w' => ∃ A cap, e = .returned (.slice A (stk ts us).length cap) ∧ SR w' w'.heap.size A (stk ts us) ∧ Below w.heap.size w w' := by
  refine (stackedPairs_any c0 A0 n0 q0 ts c1 A1 n1 q1 us w hn0 hl0 hA0 hn1 hl1 hA1).mono ?_
  rintro e w' ⟨v, rfl, ho, hb⟩
  obtain ⟨A, cap, rfl, hs⟩ := SR.of_own ho rfl
  exact ⟨A, cap, rfl, hs, hb⟩
theorem stk_len2 {ts us : List Tl} {n0 n1 : Nat} (hl0 : ts.length = n0) (hl1 : us.length = n1) (hn0 : n0 ≤ 4096) (hn1 : n1 ≤ 16) : (stk ts us).length ≤ 65536 := by
  have h1 := stk_len ts us
  have h2 : ts.length * us.length ≤ 4096 * 16 := Nat.mul_le_mul (by omega) (by omega)
  omega
theorem stk_low {ts us : List Tl} {c : Int} (hc : c ≤ 6) (h : ∀ t ∈ us, tileOk c t = true) : ∀ p ∈ stk ts us, (0 ≤ p.2.1 ∧ p.2.1 < 16) ∧ 0 ≤ p.2.2.2.1 ∧ p.2.2.2.1 < 16 := fun p hp => by
  have h1 := h p.2 (stk_mem hp).2.1
  simp only [tileOk, decide_eq_true_eq] at h1
  omega

set_option maxRecDepth 100000 in
set_option maxHeartbeats 2000000 in
theorem implPairsOfStack_0 (c0 : Int) (A0 : Option Addr) (n0 q0 : Nat) (ts : List Tl) (c1 : Int) (A1 : Option Addr) (n1 q1 : Nat) (us : List Tl) (w : World) (hn0 : n0 ≤ 1048576) (hl0 : ts.length = n0) (hA0 : TR w w.heap.size A0 ts) (hn1 : n1 ≤ 1048576) (hl1 : us.length = n1) (hA1 : TR w w.heap.size A1 us) (hs0 : isSet c0 ts = true) (hs1 : isSet c1 us = true) :
    Calls Try.prog 22 #[.agg #[.int .i64 c0, .slice A0 n0 q0], .agg #[.int .i64 c1, .slice A1 n1 q1]] w (fun e w' => ∃ R p, e = .returned (.tuple #[.slice R ((prs ts us).map dec).length p, .int .i64 0]) ∧ Below w.heap.size w w' ∧ IWW w' w.heap.size w'.heap.size R ((prs ts us).map dec)) := by
  have hle16 := isSet_len hs0
  have hle16' := isSet_len hs1
  rw [hl0] at hle16
  rw [hl1] at hle16'
  have his0 : ∀ W, Below w.heap.size w W → Calls Try.prog 53 #[.agg #[.int .i64 c0, .slice A0 n0 q0]] W _ := fun W hW => isSet_any c0 A0 n0 q0 ts W (by omega) hl0 ((hA0.below hW (Nat.le_refl _)).more hW.size)
  rw [hs0] at his0
  have HI0 := Lib.hid his0
  clear his0
  have his1 : ∀ W, Below w.heap.size w W → Calls Try.prog 53 #[.agg #[.int .i64 c1, .slice A1 n1 q1]] W _ := fun W hW => isSet_any c1 A1 n1 q1 us W (by omega) hl1 ((hA1.below hW (Nat.le_refl _)).more hW.size)
  rw [hs1] at his1
  have HI1 := Lib.hid his1
  clear his1
  have hsp : ∀ W, Below w.heap.size w W → Calls Try.prog 63 #[.agg #[.int .i64 c0, .slice A0 n0 q0], .agg #[.int .i64 c1, .slice A1 n1 q1]] W _ := fun W hW => stackedSR_any c0 A0 n0 q0 ts c1 A1 n1 q1 us W (by omega) hl0 ((hA0.below hW (Nat.le_refl _)).more hW.size) hle16' hl1 ((hA1.below hW (Nat.le_refl _)).more hW.size)
  have hcp := fun A cap W (h : SR W W.heap.size A (stk ts us)) => colourPairs_any A _ cap (stk ts us) W (stk_len2 hl0 hl1 (by omega) hle16') rfl h (stk_low (isSet_col hs1).2 (ok_of_isSet hs1))
  have hpp : (sortI (codes (stk ts us))).map dec = (prs ts us).map dec := rfl
  rw [hpp] at hcp
  generalize hL : (stk ts us).length = m at *
  generalize (prs ts us).map dec = rs at *
  have HSP := Lib.hid hsp
  have HCP := Lib.hid hcp
  clear hsp hcp hpp hL hA0 hA1 hs0 hs1
  go_enter Try.func22, Try.ntmps22
  go_wp2_with fail
  have hx0 : Ext w ((w.alloc (Obj.cells #[.int .i64 c0, .slice A0 n0 q0] 29)).alloc (Obj.cells #[.int .i64 c1, .slice A1 n1 q1] 29)) := ((Ext.refl w).alloc _).alloc _
  have hb0 : Blk ((w.alloc (Obj.cells #[.int .i64 c0, .slice A0 n0 q0] 29)).alloc (Obj.cells #[.int .i64 c1, .slice A1 n1 q1] 29)) (w.heap.size) 29 #[.int .i64 c0, .slice A0 n0 q0] := by have := ((Blk.new w 29 #[.int .i64 c0, .slice A0 n0 q0]).ext (show Ext (w.alloc (Obj.cells #[.int .i64 c0, .slice A0 n0 q0] 29)) ((w.alloc (Obj.cells #[.int .i64 c0, .slice A0 n0 q0] 29)).alloc (Obj.cells #[.int .i64 c1, .slice A1 n1 q1] 29)) from (Ext.refl _).alloc _)); simpa using this
  have hb1 : Blk ((w.alloc (Obj.cells #[.int .i64 c0, .slice A0 n0 q0] 29)).alloc (Obj.cells #[.int .i64 c1, .slice A1 n1 q1] 29)) (w.heap.size + 1) 29 #[.int .i64 c1, .slice A1 n1 q1] := by have := (Blk.new (w.alloc (Obj.cells #[.int .i64 c0, .slice A0 n0 q0] 29)) 29 #[.int .i64 c1, .slice A1 n1 q1]); simpa using this
  have K0 := Lib.hid (hx0.below (Nat.le_refl _))
  have L0 := Lib.hid (show w.heap.size + 2 ≤ ((w.alloc (Obj.cells #[.int .i64 c0, .slice A0 n0 q0] 29)).alloc (Obj.cells #[.int .i64 c1, .slice A1 n1 q1] 29)).heap.size by simp)
  have B0_0 := Lib.hid hb0
  have B1_0 := Lib.hid hb1
  clear hx0 hb0 hb1
  generalize ((w.alloc (Obj.cells #[.int .i64 c0, .slice A0 n0 q0] 29)).alloc (Obj.cells #[.int .i64 c1, .slice A1 n1 q1] 29)) = w0 at *
  refine (HI0.out _ K0.out).mono ?_
  rintro e w1 ⟨rfl, hx⟩
  have K1 := Lib.hid (K0.out.trans ((hx.below (Nat.le_refl _)).mono K0.out.size))
  have L1 := Lib.hid (Nat.le_trans L0.out (hx.below (Nat.le_refl _)).size)
  have B0_1 := Lib.hid (B0_0.out.below (hx.below (Nat.le_refl _)) B0_0.out.lt)
  have B1_1 := Lib.hid (B1_0.out.below (hx.below (Nat.le_refl _)) B1_0.out.lt)
  clear K0 B0_0 B1_0 L0 hx
  have r0_0 := B0_1.out.rd 0 rfl
  have r0_1 := B0_1.out.rd 1 rfl
  have r1_0 := B1_1.out.rd 0 rfl
  have r1_1 := B1_1.out.rd 1 rfl
  go_wp2_with fail
  refine (HI1.out _ K1.out).mono ?_
  rintro e w2 ⟨rfl, hx⟩
  clear r0_0 r0_1 r1_0 r1_1
  have K2 := Lib.hid (K1.out.trans ((hx.below (Nat.le_refl _)).mono K1.out.size))
  have L2 := Lib.hid (Nat.le_trans L1.out (hx.below (Nat.le_refl _)).size)
  have B0_2 := Lib.hid (B0_1.out.below (hx.below (Nat.le_refl _)) B0_1.out.lt)
  have B1_2 := Lib.hid (B1_1.out.below (hx.below (Nat.le_refl _)) B1_1.out.lt)
  clear K1 B0_1 B1_1 L1 hx
  have r0_0 := B0_2.out.rd 0 rfl
  have r0_1 := B0_2.out.rd 1 rfl
  have r1_0 := B1_2.out.rd 0 rfl
  have r1_1 := B1_2.out.rd 1 rfl
  go_wp2_with fail
  refine (HSP.out _ K2.out).mono ?_
  rintro e w5 ⟨A5, cap5, rfl, hsr, hb5⟩
  have K5 := Lib.hid (K2.out.trans (hb5.mono K2.out.size))
  have HC5 := Lib.hid (HCP.out A5 cap5 w5 hsr)
  clear hsr hb5 r0_0 r0_1 r1_0 r1_1
  go_wp2_with fail
  refine HC5.out.mono ?_
  rintro e w6 ⟨v6, es, rfl, hown, hxs, hb6⟩
  obtain ⟨A6, cap6, rfl, hiww⟩ := (hown.low K5.out.size).done
  have hlen := congrArg List.length hxs
  rw [List.length_map] at hlen
  rw [hxs] at hiww
  have HW := Lib.hid hiww
  have HB6 := Lib.hid (K5.out.trans (hb6.mono K5.out.size))
  have HLEN := Lib.hid hlen
  clear hown hxs hb6 hiww hlen
  go_wp2_with fail
  go_ret2
  exact ⟨A6, cap6, by show Ending.returned (.tuple #[.slice A6 es.length cap6, .int .i64 0]) = _; rw [HLEN.out], HB6.out, HW.out⟩
end Go.Proofs.Ytcakbnfpmpdljaa
