/- Rows over a north word are counted: the words' codes, and the tiles under a colour. -/
import Derived.Test.YtleabblnikbmpaaCnt6
import Derived.Deep.RegionHeld3
namespace Go.Proofs.Ytleabblnikbmpaa
set_option linter.unusedVariables false
set_option linter.unusedSimpArgs false
open Go.RowKit Go.Sort

/-- All numbers of a list are colours. -/
def isWord (c0 : Int) (xs : List Int) : Bool := (List.range xs.length).all fun k => decide (0 ≤ xs.getD k 0 ∧ xs.getD k 0 < c0)
theorem isWord_at {c0 : Int} {xs : List Int} {k : Nat} (hk : k < xs.length) (h : ¬ (0 ≤ xs.getD k 0 ∧ xs.getD k 0 < c0)) : isWord c0 xs = false := by
  unfold isWord
  rw [List.all_eq_false]
  exact ⟨k, List.mem_range.2 hk, by show ¬ (decide _ = true); rw [decide_eq_false h]; decide⟩
theorem isWord_all {c0 : Int} {xs : List Int} (h : ∀ j, j < xs.length → (0 ≤ xs.getD j 0 ∧ xs.getD j 0 < c0)) : isWord c0 xs = true := List.all_eq_true.2 fun k hk => decide_eq_true (h k (List.mem_range.1 hk))
/-- The code of a set and a word. -/
def wordCode (c0 : Int) (ts : List Tl) (xs : List Int) : Int := if isSet c0 ts = true then (if (1 ≤ xs.length ∧ xs.length ≤ 20) ∧ isWord c0 xs = true then 0 else 2) else 1

set_option maxRecDepth 100000 in
set_option maxHeartbeats 1000000 in
theorem l01Word_any (c0 : Int) (A : Option Addr) (n c : Nat) (B : Option Addr) (m d : Nat) (xs : List Int) (w : World) (hc0 : 1 ≤ c0 ∧ c0 ≤ 6) (hm : m ≤ 1048576) (hlx : xs.length = m) (hB : IR w w.heap.size B xs) :
    Calls Try.prog 115 #[.agg #[.int .i64 c0, .slice A n c], .slice B m d] w fun e w' => e = .returned (.bool (isWord c0 xs)) ∧ Ext w w' := by
  have hwr : IntKind.i64.wrap (c0 - 1) = c0 - 1 := IntWalk.i64_in _ (by omega)
  have HWR := Lib.hid hwr
  clear hwr
  go_enter Try.func115, Try.ntmps115
  go_wp2_with fail
  go_loopw [5] (fun i wr => ∃ k : Nat, k ≤ m ∧ i = .int .i64 k ∧ (∀ j, j < k → (0 ≤ xs.getD j 0 ∧ xs.getD j 0 < c0)) ∧ Ext (w.alloc (.cells #[.int .i64 c0, .slice A n c] 30)) wr) (fun i _ => m - (intOf i).toNat)
  case atStart => exact ⟨0, Nat.zero_le _, rfl, fun j hj => absurd hj (Nat.not_lt_zero _), Ext.refl _⟩
  case round =>
    obtain ⟨k, hk, rfl, heq, hx⟩ := hrel
    have H := Lib.hid heq
    have HX := Lib.hid hx
    have r0 := ((Blk.new w 30 #[.int .i64 c0, .slice A n c]).ext hx).rd 0 rfl
    clear heq
    have hE := ((Ext.refl w).alloc (.cells #[.int .i64 c0, .slice A n c] 30)).trans hx
    by_cases hlt : k < m
    · obtain ⟨bx, ox, rfl, -, hcx⟩ := (hB.ext hE (Nat.le_refl _)) (by omega)
      have q1 := hcx k (by omega)
      generalize hX : xs.getD k 0 = x at q1
      have EX := Lib.hid hX
      have hwr := HWR.out
      have hcon := fun W => l01In_any x 0 (c0 - 1) W
      by_cases hin : 0 ≤ x ∧ x < c0
      · rw [decide_eq_true (show 0 ≤ x ∧ x ≤ c0 - 1 by omega)] at hcon
        have HIN := Lib.hid hin
        clear hcx hx hB hE hX hin
        go_wp2_with fail
        go_quiet ((go_at_call 79; exact Calls.quiet_of_same (hcon _)))
        clear hwr hcon q1 r0
        go_wp2_with fail
        go_roundw
        case rel =>
          refine ⟨k + 1, by omega, by go_num, ?_, HX.out.trans ((Ext.refl _).drewN _)⟩
          intro i' hi'
          by_cases hik : i' = k
          · subst hik
            rw [EX.out]
            exact HIN.out
          · exact H.out i' (by omega)
        case measure => simp [intOf]; omega
      · rw [decide_eq_false (show ¬ (0 ≤ x ∧ x ≤ c0 - 1) by omega)] at hcon
        have HIN := Lib.hid hin
        clear hcx hx hB hE hX hin
        go_wp2_with fail
        go_quiet ((go_at_call 79; exact Calls.quiet_of_same (hcon _)))
        clear hwr hcon q1 r0
        go_wp2_with fail
        go_ret
        exact ⟨ret_b (isWord_at (k := k) (by omega) (by rw [EX.out]; exact HIN.out)).symm, (((Ext.refl w).alloc _).trans HX.out).trans ((Ext.refl _).drewN _)⟩
    · clear hB hE hx
      go_wp2_with fail
      go_ret
      exact ⟨ret_b (isWord_all (fun j hj => H.out j (by omega))).symm, ((Ext.refl w).alloc _).trans HX.out⟩

set_option maxHeartbeats 1000000 in
theorem l02Code_any (c0 : Int) (A : Option Addr) (n c : Nat) (ts : List Tl) (B : Option Addr) (m d : Nat) (xs : List Int) (w : World) (hn : n ≤ 1048576) (hl : ts.length = n) (hA : TR w w.heap.size A ts) (hm : m ≤ 1048576) (hlx : xs.length = m) (hB : IR w w.heap.size B xs) :
    Calls Try.prog 70 #[.agg #[.int .i64 c0, .slice A n c], .slice B m d] w fun e w' => e = .returned (.int .i64 (wordCode c0 ts xs)) ∧ Ext w w' := by
  have his : ∀ W, Ext w W → Calls Try.prog 94 #[.agg #[.int .i64 c0, .slice A n c]] W _ := fun W hW => l01Is_any c0 A n c ts W (by omega) hl ((hA.ext hW (Nat.le_refl _)).more (hW.below (Nat.le_refl _)).size)
  have hwd : isSet c0 ts = true → ∀ W, Ext w W → Calls Try.prog 115 #[.agg #[.int .i64 c0, .slice A n c], .slice B m d] W _ := fun hs W hW => l01Word_any c0 A n c B m d xs W (isSet_col hs) hm hlx ((hB.ext hW (Nat.le_refl _)).more (hW.below (Nat.le_refl _)).size)
  have HI := Lib.hid his
  have HW := Lib.hid hwd
  clear his hwd hA hB
  unfold wordCode
  rw [hlx]
  generalize isSet c0 ts = s at HI HW ⊢
  cases s with
  | false =>
    clear HW
    go_enter Try.func70, Try.ntmps70
    go_wp2_with fail
    refine (HI.out _ ((Ext.refl w).alloc _)).mono ?_
    rintro e w1 ⟨rfl, hx⟩
    have HX := Lib.hid (((Ext.refl w).alloc _).trans hx)
    clear hx
    go_wp2_with fail
    go_ret
    exact ⟨ret_i (by simp), HX.out⟩
  | true =>
    have HW' := Lib.hid (HW.out rfl)
    clear HW
    by_cases h1 : 1 ≤ m
    · by_cases h2 : m ≤ 20
      · generalize isWord c0 xs = r at HW' ⊢
        cases r with
        | true =>
          go_enter Try.func70, Try.ntmps70
          go_wp2_with fail
          refine (HI.out _ ((Ext.refl w).alloc _)).mono ?_
          rintro e w1 ⟨rfl, hx⟩
          have hb := (Blk.new w 30 #[.int .i64 c0, .slice A n c]).ext hx
          have r0 := hb.rd 0 rfl
          have r1 := hb.rd 1 rfl
          have HX := Lib.hid (((Ext.refl w).alloc _).trans hx)
          clear hx hb
          go_wp2_with fail
          refine (HW'.out _ HX.out).mono ?_
          rintro e w2 ⟨rfl, hx⟩
          have HX2 := Lib.hid (HX.out.trans hx)
          clear hx r0 r1
          go_wp2_with fail
          go_ret
          exact ⟨ret_i (by first | rfl | simp [h1, h2]), HX2.out⟩
        | false =>
          go_enter Try.func70, Try.ntmps70
          go_wp2_with fail
          refine (HI.out _ ((Ext.refl w).alloc _)).mono ?_
          rintro e w1 ⟨rfl, hx⟩
          have hb := (Blk.new w 30 #[.int .i64 c0, .slice A n c]).ext hx
          have r0 := hb.rd 0 rfl
          have r1 := hb.rd 1 rfl
          have HX := Lib.hid (((Ext.refl w).alloc _).trans hx)
          clear hx hb
          go_wp2_with fail
          refine (HW'.out _ HX.out).mono ?_
          rintro e w2 ⟨rfl, hx⟩
          have HX2 := Lib.hid (HX.out.trans hx)
          clear hx r0 r1
          go_wp2_with fail
          go_ret
          exact ⟨ret_i (by first | rfl | simp), HX2.out⟩
      · clear HW'
        go_enter Try.func70, Try.ntmps70
        go_wp2_with fail
        refine (HI.out _ ((Ext.refl w).alloc _)).mono ?_
        rintro e w1 ⟨rfl, hx⟩
        have HX := Lib.hid (((Ext.refl w).alloc _).trans hx)
        clear hx
        go_wp2_with fail
        go_ret
        exact ⟨ret_i (by first | rfl | (simp; omega)), HX.out⟩
    · clear HW'
      go_enter Try.func70, Try.ntmps70
      go_wp2_with fail
      refine (HI.out _ ((Ext.refl w).alloc _)).mono ?_
      rintro e w1 ⟨rfl, hx⟩
      have HX := Lib.hid (((Ext.refl w).alloc _).trans hx)
      clear hx
      go_wp2_with fail
      all_goals go_ret
      all_goals exact ⟨ret_i (by first | rfl | (simp; omega)), HX.out⟩
end Go.Proofs.Ytleabblnikbmpaa
