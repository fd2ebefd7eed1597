/- Balanced sets: both sides, and the doors of IsBalanced. -/
import Derived.Test.YtplbjnnicmcpdaaBa3
import Derived.Test.YtplbjnnicmcpdaaLastA
namespace Go.Proofs.Ytplbjnnicmcpdaa
set_option linter.unusedVariables false
set_option linter.unusedSimpArgs false
open Go.RowKit Go.Sort

/-- Whether the first k tiles have the balance 0. -/
def balUpto (ts : List Tl) (p q : Int) (k : Nat) : Bool := (List.range k).all fun j => decide (balR ts [(j : Int)] p q = 0)
theorem balUpto_no {ts : List Tl} {p q : Int} {k n : Nat} (hk : k < n) (h : balR ts [(k : Int)] p q ≠ 0) : balUpto ts p q n = false := by
  unfold balUpto
  rw [List.all_eq_false]
  exact ⟨k, List.mem_range.2 hk, by simpa using h⟩
theorem balUpto_yes {ts : List Tl} {p q : Int} {n : Nat} (h : ∀ j, j < n → balR ts [(j : Int)] p q = 0) : balUpto ts p q n = true :=
  List.all_eq_true.2 fun j hj => decide_eq_true (h j (List.mem_range.1 hj))
theorem ir_one (w : World) (x : Int) : IR (w.alloc (.cells #[.int .i64 x] 2)) (w.alloc (.cells #[.int .i64 x] 2)).heap.size (some ⟨w.heap.size, 0, none⟩) [x] := fun _ =>
  ⟨_, 0, rfl, by simp, fun k hk => by
    obtain rfl : k = 0 := by simp at hk; omega
    simp [go_sem]⟩
theorem allT_one {ts : List Tl} {k : Nat} (hk : k < ts.length) : allT ts [(k : Int)] = true := by
  refine allT_all fun j hj => ?_
  obtain rfl : j = 0 := by simp at hj; omega
  simp [inT, hk]
theorem upTo_at {n k : Nat} (hk : k < n) : (upTo n).getD k 0 = (k : Int) := by simp [upTo, List.getD, hk]

set_option maxRecDepth 100000 in
set_option maxHeartbeats 1000000 in
theorem balances_any (p q c0 : Int) (A : Option Addr) (n c : Nat) (ts : List Tl) (w : World) (hn : n ≤ 1048576) (hl : ts.length = n) (hA : TR w w.heap.size A ts) (hs : small ts) (hp : 1 ≤ p ∧ p ≤ 5) (hq : 1 ≤ q ∧ q ≤ 5) :
    Calls Try.prog 53 #[.agg #[.int .i64 p, .int .i64 q], .agg #[.int .i64 c0, .slice A n c]] w fun e w' => e = .returned (.bool (balUpto ts p q n)) ∧ Below w.heap.size w w' := by
  have hba := fun (k : Nat) (hk : k < n) W (hW : Below w.heap.size w W) => balance_any p q c0 A n c ts (some ⟨W.heap.size, 0, none⟩) 1 1 [(k : Int)] (W.alloc (.cells #[.int .i64 (k : Int)] 2)) hn hl ((hA.below (hW.alloc hW.size _) (Nat.le_refl _)).more (by have := hW.size; simp; omega)) (by omega) (by omega) rfl (ir_one W _) (allT_one (by omega)) hs hp hq
  have HBA := Lib.hid hba
  have HTN := Lib.hid (fun W => tileNumbers_any c0 A n c W hn)
  have HLEN := Lib.hid (upTo_len n)
  clear hba hA hs
  go_enter Try.func53, Try.ntmps53
  go_wp2_with fail
  obtain ⟨W0, hW0⟩ : ∃ W0, (w.alloc (Obj.cells #[.int .i64 p, .int .i64 q] 66)).alloc (Obj.cells #[.int .i64 c0, .slice A n c] 31) = W0 := ⟨_, rfl⟩
  have hE : Ext w W0 := by rw [← hW0]; exact ((Ext.refl w).alloc _).alloc _
  have hP0 : Blk W0 w.heap.size 66 #[.int .i64 p, .int .i64 q] := by rw [← hW0]; exact (Blk.new w _ _).ext ((Ext.refl _).alloc _)
  have hS0 : Blk W0 (w.heap.size + 1) 31 #[.int .i64 c0, .slice A n c] := by rw [← hW0]; have := Blk.new (w.alloc (Obj.cells #[.int .i64 p, .int .i64 q] 66)) 31 #[.int .i64 c0, .slice A n c]; simpa using this
  rw [hW0]
  clear hW0
  refine (HTN.out _).mono ?_
  rintro e w1 ⟨A1, cap1, rfl, hb, hw⟩
  have HP := Lib.hid (hP0.below hb hP0.lt)
  have HS := Lib.hid (hS0.below hb hS0.lt)
  have HB := Lib.hid ((hE.below (Nat.le_refl _)).trans (hb.mono (hE.below (Nat.le_refl _)).size))
  have HW := Lib.hid hw
  clear hb hw hP0 hS0 hE HTN
  go_wp2_with fail
  go_loopw [10] (fun i wr => ∃ k : Nat, k ≤ n ∧ i = .int .i64 k ∧ (∀ j, j < k → balR ts [(j : Int)] p q = 0) ∧ Ext w1 wr) (fun i _ => n - (intOf i).toNat)
  case atStart => exact ⟨0, Nat.zero_le _, rfl, fun j hj => absurd hj (Nat.not_lt_zero _), Ext.refl _⟩
  case round =>
    obtain ⟨k, hk, rfl, heq, hx⟩ := hrel
    have H := Lib.hid heq
    have HX := Lib.hid hx
    clear heq
    by_cases hlt : k < n
    · obtain ⟨bx, ox, rfl, -, hcx⟩ := ((HW.out.ext hx).ir) (by rw [HLEN.out]; omega)
      have q1 := hcx k (by rw [HLEN.out]; omega)
      rw [upTo_at hlt] at q1
      have p0 := (HP.out.ext hx).rd 0 rfl
      have p1 := (HP.out.ext hx).rd 1 rfl
      have r0 := (HS.out.ext hx).rd 0 rfl
      have r1 := (HS.out.ext hx).rd 1 rfl
      have HC := Lib.hid (HBA.out k hlt wr (HB.out.trans (hx.below HB.out.size)))
      clear hcx hx
      go_wp2_with fail
      refine HC.out.mono ?_
      rintro e w2 ⟨rfl, hx2⟩
      have HX2 := Lib.hid ((HX.out.alloc _).trans hx2)
      clear hx2 q1 p0 p1 r0 r1 HC
      generalize hv : balR ts [(k : Int)] p q = v
      have HV := Lib.hid hv
      clear hv
      by_cases hz : v = 0
      · subst hz
        go_wp2_with fail
        go_roundw
        case rel =>
          refine ⟨k + 1, by omega, by go_num, ?_, HX2.out⟩
          intro j hj
          by_cases hjk : j = k
          · subst hjk; exact HV.out
          · exact H.out j (by omega)
        case measure => simp [intOf]; omega
      · have hz2 : (v != 0) = true := by simp [hz]
        go_wp2_with fail
        go_ret
        exact ⟨ret_b (balUpto_no hlt (by rw [HV.out]; exact hz)).symm, HB.out.trans (HX2.out.below HB.out.size)⟩
    · obtain rfl : k = n := by omega
      clear hx
      go_wp2_with fail
      go_ret
      exact ⟨ret_b (balUpto_yes H.out).symm, HB.out.trans (HX.out.below HB.out.size)⟩

set_option maxRecDepth 100000 in
set_option maxHeartbeats 1000000 in
theorem l08Balanced_any (p q c0 : Int) (A : Option Addr) (n c : Nat) (ts : List Tl) (w : World) (hn : n ≤ 1048576) (hl : ts.length = n) (hA : TR w w.heap.size A ts) (hs : small ts) (hp : 1 ≤ p ∧ p ≤ 5) (hq : 1 ≤ q ∧ q ≤ 5) :
    Calls Try.prog 51 #[.agg #[.int .i64 c0, .slice A n c], .int .i64 p, .int .i64 q] w fun e w' => e = .returned (.bool (balUpto ts p q n)) ∧ Below w.heap.size w w' := by
  have hba := fun (k : Nat) (hk : k < n) W (hW : Below w.heap.size w W) => l08Balance_any p q c0 A n c ts (some ⟨W.heap.size, 0, none⟩) 1 1 [(k : Int)] (W.alloc (.cells #[.int .i64 (k : Int)] 2)) hn hl ((hA.below (hW.alloc hW.size _) (Nat.le_refl _)).more (by have := hW.size; simp; omega)) (by omega) (by omega) rfl (ir_one W _) (allT_one (by omega)) hs hp hq
  have HBA := Lib.hid hba
  clear hba hA hs
  go_enter Try.func51, Try.ntmps51
  go_wp2_with fail
  obtain ⟨W0, hW0⟩ : ∃ W0, w.alloc (Obj.cells #[.int .i64 c0, .slice A n c] 31) = W0 := ⟨_, rfl⟩
  have hE : Ext w W0 := by rw [← hW0]; exact (Ext.refl w).alloc _
  have hS0 : Blk W0 w.heap.size 31 #[.int .i64 c0, .slice A n c] := by rw [← hW0]; exact Blk.new w _ _
  rw [hW0]
  have HS := Lib.hid hS0
  have HB := Lib.hid (hE.below (Nat.le_refl _))
  clear hW0 hE hS0
  go_loopw [7] (fun i wr => ∃ k : Nat, k ≤ n ∧ i = .int .i64 k ∧ (∀ j, j < k → balR ts [(j : Int)] p q = 0) ∧ Below W0.heap.size W0 wr) (fun i _ => n - (intOf i).toNat)
  case atStart => exact ⟨0, Nat.zero_le _, rfl, fun j hj => absurd hj (Nat.not_lt_zero _), Below.refl _ _⟩
  case round =>
    obtain ⟨k, hk, rfl, heq, hx⟩ := hrel
    have H := Lib.hid heq
    have HX := Lib.hid hx
    clear heq
    have r0 := (HS.out.below hx HS.out.lt).rd 0 rfl
    have r1 := (HS.out.below hx HS.out.lt).rd 1 rfl
    by_cases hlt : k < n
    · have HC := Lib.hid (HBA.out k hlt wr (HB.out.trans (hx.mono HB.out.size)))
      clear hx
      go_wp2_with fail
      refine HC.out.mono ?_
      rintro e w2 ⟨rfl, hx2⟩
      have HX2 := Lib.hid ((HX.out.alloc HX.out.size (.cells #[.int .i64 (k : Int)] 2)).trans (hx2.mono (by have := HX.out.size; simp; omega)))
      clear hx2 r0 r1 HC
      generalize hv : balR ts [(k : Int)] p q = v
      have HV := Lib.hid hv
      clear hv
      by_cases hz : v = 0
      · subst hz
        go_wp2_with fail
        go_roundw
        case rel =>
          refine ⟨k + 1, by omega, by go_num, ?_, HX2.out⟩
          intro j hj
          by_cases hjk : j = k
          · subst hjk; exact HV.out
          · exact H.out j (by omega)
        case measure => simp [intOf]; omega
      · have hz2 : (v != 0) = true := by simp [hz]
        go_wp2_with fail
        go_ret
        exact ⟨ret_b (balUpto_no hlt (by rw [HV.out]; exact hz)).symm, HB.out.trans (HX2.out.mono HB.out.size)⟩
    · obtain rfl : k = n := by omega
      clear hx
      go_wp2_with fail
      go_ret
      exact ⟨ret_b (balUpto_yes H.out).symm, HB.out.trans (HX.out.mono HB.out.size)⟩

def isbCode (c0 : Int) (ts : List Tl) (p q : Int) : Int := if isSet c0 ts = true then (if pqOk p q = true then 0 else 2) else 1
def isbVal (c0 : Int) (ts : List Tl) (p q : Int) : Bool := isSet c0 ts && pqOk p q && balUpto ts p q ts.length
set_option maxRecDepth 100000 in
set_option maxHeartbeats 1000000 in
theorem implIsBalanced_any (c0 : Int) (A : Option Addr) (n c : Nat) (ts : List Tl) (p q : Int) (w : World) (hn : n ≤ 1048576) (hl : ts.length = n) (hA : TR w w.heap.size A ts) :
    Calls Try.prog 24 #[.agg #[.int .i64 c0, .slice A n c], .int .i64 p, .int .i64 q] w (BoolRes w (isbVal c0 ts p q) (isbCode c0 ts p q)) := by
  have his : ∀ W, Ext w W → Calls Try.prog 52 #[.agg #[.int .i64 c0, .slice A n c]] W _ := fun W hW => isSet_any c0 A n c ts W (by omega) hl ((hA.ext hW (Nat.le_refl _)).more (hW.below (Nat.le_refl _)).size)
  have hba : isSet c0 ts = true → pqOk p q = true → ∀ W, Ext w W → Calls Try.prog 53 #[.agg #[.int .i64 p, .int .i64 q], .agg #[.int .i64 c0, .slice A n c]] W (fun e w' => e = .returned (.bool (balUpto ts p q n)) ∧ Below W.heap.size W w') := fun hs ho W hW => by
    simp only [pqOk, decide_eq_true_eq] at ho
    exact balances_any p q c0 A n c ts W hn hl ((hA.ext hW (Nat.le_refl _)).more (hW.below (Nat.le_refl _)).size) (small_set hs) (by omega) (by omega)
  have hw := fun W => areWithin2 1 5 p q W
  rw [show decide (1 ≤ p ∧ p ≤ 5 ∧ 1 ≤ q ∧ q ≤ 5) = pqOk p q from rfl] at hw
  have HWI := Lib.hid hw
  have HI := Lib.hid his
  have HBA := Lib.hid hba
  clear his hba hA hw
  unfold BoolRes isbVal isbCode
  rw [hl]
  generalize isSet c0 ts = s at HI HBA ⊢
  generalize pqOk p q = o at HWI HBA ⊢
  generalize balUpto ts p q n = b at HBA ⊢
  cases s with
  | false =>
    clear HBA HWI
    go_enter Try.func24, Try.ntmps24
    go_wp2_with fail
    refine (HI.out _ ((Ext.refl w).alloc _)).mono ?_
    rintro e w1 ⟨rfl, hx⟩
    have HX := Lib.hid (((Ext.refl w).alloc _).trans hx)
    clear hx
    go_wp2_with fail
    go_ret2
    exact ⟨rfl, HX.out.below (Nat.le_refl _)⟩
  | true =>
    cases o with
    | false =>
      clear HBA
      go_enter Try.func24, Try.ntmps24
      go_wp2_with fail
      refine (HI.out _ ((Ext.refl w).alloc _)).mono ?_
      rintro e w1 ⟨rfl, hx⟩
      have HX := Lib.hid (((Ext.refl w).alloc _).trans hx)
      clear hx
      go_wp2_with fail
      refine (HWI.out _).mono ?_
      rintro e w2 ⟨rfl, rfl⟩
      go_wp2_with fail
      go_ret2
      exact ⟨rfl, (HX.out.alloc _).below (Nat.le_refl _)⟩
    | true =>
      have HB2 := Lib.hid (HBA.out (by first | rfl | trivial) (by first | rfl | trivial))
      clear HBA
      simp only [Bool.and_self, Bool.true_and, if_true]
      go_enter Try.func24, Try.ntmps24
      go_wp2_with fail
      refine (HI.out _ ((Ext.refl w).alloc _)).mono ?_
      rintro e w1 ⟨rfl, hx⟩
      have hb := (Blk.new w 31 #[.int .i64 c0, .slice A n c]).ext hx
      have HS := Lib.hid (hb.ext ((Ext.refl w1).alloc (.cells #[.int .i64 p, .int .i64 q] 2)))
      have HX := Lib.hid (((Ext.refl w).alloc _).trans hx)
      clear hx hb
      go_wp2_with fail
      refine (HWI.out _).mono ?_
      rintro e w2 ⟨rfl, rfl⟩
      have HX2 := Lib.hid (HX.out.alloc (.cells #[.int .i64 p, .int .i64 q] 2))
      generalize w1.alloc (Obj.cells #[Value.int IntKind.i64 p, Value.int IntKind.i64 q] 2) = w2 at *
      have r0 := HS.out.rd 0 rfl
      have r1 := HS.out.rd 1 rfl
      go_wp2_with fail
      refine (HB2.out _ HX2.out).mono ?_
      rintro e w3 ⟨rfl, hx⟩
      have HX3 := Lib.hid ((HX2.out.below (Nat.le_refl _)).trans (hx.mono (HX2.out.below (Nat.le_refl _)).size))
      clear hx r0 r1
      go_wp2_with fail
      go_ret2
      exact ⟨rfl, HX3.out⟩
set_option maxRecDepth 100000 in
set_option maxHeartbeats 1000000 in
theorem specIsBalanced_any (c0 : Int) (A : Option Addr) (n c : Nat) (ts : List Tl) (p q : Int) (w : World) (hn : n ≤ 1048576) (hl : ts.length = n) (hA : TR w w.heap.size A ts) :
    Calls Try.prog 23 #[.agg #[.int .i64 c0, .slice A n c], .int .i64 p, .int .i64 q] w (BoolRes w (isbVal c0 ts p q) (isbCode c0 ts p q)) := by
  have his : ∀ W, Ext w W → Calls Try.prog 45 #[.agg #[.int .i64 c0, .slice A n c]] W _ := fun W hW => l01Is_any c0 A n c ts W (by omega) hl ((hA.ext hW (Nat.le_refl _)).more (hW.below (Nat.le_refl _)).size)
  have hba : isSet c0 ts = true → pqOk p q = true → ∀ W, Ext w W → Calls Try.prog 51 #[.agg #[.int .i64 c0, .slice A n c], .int .i64 p, .int .i64 q] W (fun e w' => e = .returned (.bool (balUpto ts p q n)) ∧ Below W.heap.size W w') := fun hs ho W hW => by
    simp only [pqOk, decide_eq_true_eq] at ho
    exact l08Balanced_any p q c0 A n c ts W hn hl ((hA.ext hW (Nat.le_refl _)).more (hW.below (Nat.le_refl _)).size) (small_set hs) (by omega) (by omega)
  have h1 := fun W => l01In_any p 1 5 W
  have h2 := fun W => l01In_any q 1 5 W
  have hpq : pqOk p q = (decide (1 ≤ p ∧ p ≤ 5) && decide (1 ≤ q ∧ q ≤ 5)) := by
    rw [Bool.eq_iff_iff]; simp [pqOk]; omega
  have HI := Lib.hid his
  have HBA := Lib.hid hba
  clear his hba hA
  unfold BoolRes isbVal isbCode
  rw [hl]
  rw [hpq] at HBA ⊢
  have H1 := Lib.hid h1
  have H2 := Lib.hid h2
  clear h1 h2 hpq
  generalize isSet c0 ts = s at HI HBA ⊢
  generalize balUpto ts p q n = b at HBA ⊢
  generalize decide (1 ≤ p ∧ p ≤ 5) = o1 at H1 HBA ⊢
  generalize decide (1 ≤ q ∧ q ≤ 5) = o2 at H2 HBA ⊢
  cases s with
  | false =>
    clear HBA H1 H2
    go_enter Try.func23, Try.ntmps23
    go_wp2_with fail
    refine (HI.out _ ((Ext.refl w).alloc _)).mono ?_
    rintro e w1 ⟨rfl, hx⟩
    have HX := Lib.hid (((Ext.refl w).alloc _).trans hx)
    clear hx
    go_wp2_with fail
    go_ret2
    exact ⟨rfl, HX.out.below (Nat.le_refl _)⟩
  | true =>
    go_enter Try.func23, Try.ntmps23
    go_wp2_with fail
    refine (HI.out _ ((Ext.refl w).alloc _)).mono ?_
    rintro e w1 ⟨rfl, hx⟩
    have hb := (Blk.new w 31 #[.int .i64 c0, .slice A n c]).ext hx
    have r0 := hb.rd 0 rfl
    have r1 := hb.rd 1 rfl
    have HX := Lib.hid (((Ext.refl w).alloc _).trans hx)
    clear hx hb
    cases o1 with
    | false =>
      go_wp2_with (go_at_call 30; refine (H1.out _).mono ?_; rintro e w' ⟨rfl, rfl⟩)
      go_ret2
      exact ⟨rfl, HX.out.below (Nat.le_refl _)⟩
    | true =>
      cases o2 with
      | false =>
        go_wp2_with fail
        refine (H1.out _).mono ?_
        rintro e w' ⟨rfl, rfl⟩
        go_wp2_with fail
        refine (H2.out _).mono ?_
        rintro e w' ⟨rfl, rfl⟩
        go_wp2_with fail
        go_ret2
        exact ⟨rfl, HX.out.below (Nat.le_refl _)⟩
      | true =>
        have HB2 := Lib.hid (HBA.out (by first | rfl | trivial) (by first | rfl | trivial))
        clear HBA
        go_wp2_with fail
        refine (H1.out _).mono ?_
        rintro e w' ⟨rfl, rfl⟩
        go_wp2_with fail
        refine (H2.out _).mono ?_
        rintro e w' ⟨rfl, rfl⟩
        go_wp2_with fail
        refine (HB2.out _ HX.out).mono ?_
        rintro e w3 ⟨rfl, hx⟩
        have HX3 := Lib.hid ((HX.out.below (Nat.le_refl _)).trans (hx.mono (HX.out.below (Nat.le_refl _)).size))
        clear hx r0 r1
        go_wp2_with fail
        go_ret2
        exact ⟨by simp, HX3.out⟩
end Go.Proofs.Ytplbjnnicmcpdaa
