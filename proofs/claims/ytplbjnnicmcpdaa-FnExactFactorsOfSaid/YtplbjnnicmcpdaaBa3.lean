/- BalanceOfRow: both doors. -/
import Derived.Test.YtplbjnnicmcpdaaBa2
namespace Go.Proofs.Ytplbjnnicmcpdaa
set_option linter.unusedVariables false
set_option linter.unusedSimpArgs false
open Go.RowKit Go.Sort

def NumR (w : World) (r code : Int) (e : Ending) (w' : World) : Prop := e = .returned (.tuple #[.int .i64 r, .int .i64 code]) ∧ Below w.heap.size w w'
def pqOk (p q : Int) : Bool := decide (1 ≤ p ∧ p ≤ 5 ∧ 1 ≤ q ∧ q ≤ 5)
def balOk (ts : List Tl) (xs : List Int) (p q : Int) : Bool := isRow ts xs && pqOk p q
def balCode (c0 : Int) (ts : List Tl) (xs : List Int) (p q : Int) : Int := if isSet c0 ts = true then (if balOk ts xs p q = true then 0 else 2) else 1
def balVal (c0 : Int) (ts : List Tl) (xs : List Int) (p q : Int) : Int := if isSet c0 ts = true then (if balOk ts xs p q = true then balR ts xs p q else 0) else 0

set_option maxRecDepth 100000 in
set_option maxHeartbeats 1000000 in
theorem implBalanceOfRow_any (c0 : Int) (A : Option Addr) (n c : Nat) (ts : List Tl) (B : Option Addr) (m d : Nat) (xs : List Int) (p q : Int) (w : World) (hn : n ≤ 1048576) (hl : ts.length = n) (hA : TR w w.heap.size A ts) (hm : m ≤ 1048576) (hmd : m ≤ d) (hlx : xs.length = m) (hB : IR w w.heap.size B xs) :
    Calls Try.prog 22 #[.agg #[.int .i64 c0, .slice A n c], .slice B m d, .int .i64 p, .int .i64 q] w (NumR w (balVal c0 ts xs p q) (balCode c0 ts xs p q)) := by
  have his : ∀ W, Ext w W → Calls Try.prog 49 #[.agg #[.int .i64 c0, .slice A n c], .slice B m d] W _ := fun W hW => implIsRow_any c0 A n c ts B m d xs W hn hl ((hA.ext hW (Nat.le_refl _)).more (hW.below (Nat.le_refl _)).size) hm hmd hlx ((hB.ext hW (Nat.le_refl _)).more (hW.below (Nat.le_refl _)).size)
  have hba : isSet c0 ts = true → balOk ts xs p q = true → ∀ W, Below w.heap.size w W → Calls Try.prog 50 #[.agg #[.int .i64 p, .int .i64 q], .agg #[.int .i64 c0, .slice A n c], .slice B m d] W (fun e w' => e = .returned (.int .i64 (balR ts xs p q)) ∧ Ext W w') := fun hs ho W hW => by
    simp only [balOk, pqOk, Bool.and_eq_true, decide_eq_true_eq] at ho
    have hr := ho.1
    have h1 : 1 ≤ xs.length ∧ xs.length ≤ 20 := by
      by_cases h : 1 ≤ xs.length ∧ xs.length ≤ 20
      · exact h
      · rw [isRow_len h] at hr; cases hr
    exact balance_any p q c0 A n c ts B m d xs W hn hl ((hA.below hW (Nat.le_refl _)).more hW.size) (by omega) (by omega) hlx ((hB.below hW (Nat.le_refl _)).more hW.size) (allT_of_isRow hr) (small_set hs) (by omega) (by omega)
  unfold BoolRes at his
  have HI := Lib.hid his
  have HBA := Lib.hid hba
  clear his hba hA hB
  unfold balVal balCode NumR
  generalize hbr : balR ts xs p q = br at *
  unfold balOk at HBA ⊢
  generalize isSet c0 ts = s at HI HBA ⊢
  generalize isRow ts xs = r at HI HBA ⊢
  cases s with
  | false =>
    clear HBA
    go_enter Try.func22, Try.ntmps22
    go_wp2_with fail
    refine (HI.out _ ((Ext.refl w).alloc _)).mono ?_
    rintro e w1 ⟨rfl, hx⟩
    have HX := Lib.hid ((((Ext.refl w).alloc (.cells #[.int .i64 c0, .slice A n c] 31)).below (Nat.le_refl _)).trans (hx.mono (by simp)))
    clear hx
    go_wp2_with fail
    go_ret2
    exact ⟨rfl, HX.out⟩
  | true =>
    cases r with
    | false =>
      clear HBA
      go_enter Try.func22, Try.ntmps22
      go_wp2_with fail
      refine (HI.out _ ((Ext.refl w).alloc _)).mono ?_
      rintro e w1 ⟨rfl, hx⟩
      have HX := Lib.hid ((((Ext.refl w).alloc (.cells #[.int .i64 c0, .slice A n c] 31)).below (Nat.le_refl _)).trans (hx.mono (by simp)))
      clear hx
      go_wp2_with fail
      go_ret2
      exact ⟨rfl, HX.out⟩
    | true =>
      have hw := fun W => areWithin2 1 5 p q W
      rw [show decide (1 ≤ p ∧ p ≤ 5 ∧ 1 ≤ q ∧ q ≤ 5) = pqOk p q from rfl] at hw
      have HWI := Lib.hid hw
      clear hw
      generalize pqOk p q = o at HWI HBA ⊢
      cases o with
      | false =>
        clear HBA
        go_enter Try.func22, Try.ntmps22
        go_wp2_with fail
        refine (HI.out _ ((Ext.refl w).alloc _)).mono ?_
        rintro e w1 ⟨rfl, hx⟩
        have HX := Lib.hid ((((Ext.refl w).alloc (.cells #[.int .i64 c0, .slice A n c] 31)).below (Nat.le_refl _)).trans (hx.mono (by simp)))
        clear hx
        go_wp2_with fail
        refine (HWI.out _).mono ?_
        rintro e w2 ⟨rfl, rfl⟩
        go_wp2_with fail
        go_ret2
        exact ⟨rfl, HX.out.alloc HX.out.size _⟩
      | true =>
        have HB2 := Lib.hid (HBA.out (by first | rfl | trivial) (by first | rfl | trivial))
        clear HBA
        go_enter Try.func22, Try.ntmps22
        go_wp2_with fail
        refine (HI.out _ ((Ext.refl w).alloc _)).mono ?_
        rintro e w1 ⟨rfl, hx⟩
        have hb := (Blk.new w 31 #[.int .i64 c0, .slice A n c]).below hx (by simp)
        have HS := Lib.hid (hb.ext ((Ext.refl w1).alloc (.cells #[.int .i64 p, .int .i64 q] 2)))
        have HX := Lib.hid ((((Ext.refl w).alloc (.cells #[.int .i64 c0, .slice A n c] 31)).below (Nat.le_refl _)).trans (hx.mono (by simp)))
        clear hx hb
        go_wp2_with fail
        refine (HWI.out _).mono ?_
        rintro e w2 ⟨rfl, rfl⟩
        have HX2 := Lib.hid (HX.out.alloc HX.out.size (.cells #[.int .i64 p, .int .i64 q] 2))
        generalize w1.alloc (Obj.cells #[Value.int IntKind.i64 p, Value.int IntKind.i64 q] 2) = w2 at *
        have r0 := HS.out.rd 0 rfl
        have r1 := HS.out.rd 1 rfl
        go_wp2_with fail
        refine (HB2.out _ HX2.out).mono ?_
        rintro e w3 ⟨rfl, hx⟩
        have HX3 := Lib.hid (HX2.out.trans (hx.below HX2.out.size))
        clear hx r0 r1
        go_wp2_with fail
        go_ret2
        exact ⟨rfl, HX3.out⟩

set_option maxRecDepth 100000 in
set_option maxHeartbeats 1000000 in
theorem specBalanceOfRow_any (c0 : Int) (A : Option Addr) (n c : Nat) (ts : List Tl) (B : Option Addr) (m d : Nat) (xs : List Int) (p q : Int) (w : World) (hn : n ≤ 1048576) (hl : ts.length = n) (hA : TR w w.heap.size A ts) (hm : m ≤ 1048576) (hlx : xs.length = m) (hB : IR w w.heap.size B xs) :
    Calls Try.prog 20 #[.agg #[.int .i64 c0, .slice A n c], .slice B m d, .int .i64 p, .int .i64 q] w (NumR w (balVal c0 ts xs p q) (balCode c0 ts xs p q)) := by
  have his : ∀ W, Ext w W → Calls Try.prog 45 #[.agg #[.int .i64 c0, .slice A n c]] W _ := fun W hW => l01Is_any c0 A n c ts W (by omega) hl ((hA.ext hW (Nat.le_refl _)).more (hW.below (Nat.le_refl _)).size)
  have hro : ∀ W, Ext w W → Calls Try.prog 46 #[.agg #[.int .i64 c0, .slice A n c], .slice B m d] W _ := fun W hW => l02Row_any c0 A n c ts B m d xs W hn hl ((hA.ext hW (Nat.le_refl _)).more (hW.below (Nat.le_refl _)).size) (by omega) hlx ((hB.ext hW (Nat.le_refl _)).more (hW.below (Nat.le_refl _)).size)
  have hba : isSet c0 ts = true → balOk ts xs p q = true → ∀ W, Ext w W → Calls Try.prog 47 #[.agg #[.int .i64 c0, .slice A n c], .slice B m d, .int .i64 p, .int .i64 q] W (fun e w' => e = .returned (.int .i64 (balR ts xs p q)) ∧ Below W.heap.size W w') := fun hs ho W hW => by
    simp only [balOk, pqOk, Bool.and_eq_true, decide_eq_true_eq] at ho
    have hr := ho.1
    have h1 : 1 ≤ xs.length ∧ xs.length ≤ 20 := by
      by_cases h : 1 ≤ xs.length ∧ xs.length ≤ 20
      · exact h
      · rw [isRow_len h] at hr; cases hr
    exact l08Balance_any p q c0 A n c ts B m d xs W hn hl ((hA.ext hW (Nat.le_refl _)).more (hW.below (Nat.le_refl _)).size) (by omega) (by omega) hlx ((hB.ext hW (Nat.le_refl _)).more (hW.below (Nat.le_refl _)).size) (allT_of_isRow hr) (small_set hs) (by omega) (by omega)
  have h1 := fun W => l01In_any p 1 5 W
  have h2 := fun W => l01In_any q 1 5 W
  have hpq : pqOk p q = (decide (1 ≤ p ∧ p ≤ 5) && decide (1 ≤ q ∧ q ≤ 5)) := by
    rw [Bool.eq_iff_iff]; simp [pqOk]; omega
  have HI := Lib.hid his
  have HR := Lib.hid hro
  have HBA := Lib.hid hba
  clear his hro hba hA hB
  unfold balVal balCode NumR
  generalize hbr : balR ts xs p q = br at *
  unfold balOk at HBA ⊢
  rw [hpq] at HBA ⊢
  have H1 := Lib.hid h1
  have H2 := Lib.hid h2
  clear h1 h2 hpq
  generalize isSet c0 ts = s at HI HBA ⊢
  generalize isRow ts xs = r at HR HBA ⊢
  generalize decide (1 ≤ p ∧ p ≤ 5) = o1 at H1 HBA ⊢
  generalize decide (1 ≤ q ∧ q ≤ 5) = o2 at H2 HBA ⊢
  cases s with
  | false =>
    clear HBA HR H1 H2
    go_enter Try.func20, Try.ntmps20
    go_wp2_with fail
    refine (HI.out _ ((Ext.refl w).alloc _)).mono ?_
    rintro e w1 ⟨rfl, hx⟩
    have HX := Lib.hid (((Ext.refl w).alloc _).trans hx)
    clear hx
    go_wp2_with fail
    go_ret2
    exact ⟨rfl, HX.out.below (Nat.le_refl _)⟩
  | true =>
    go_enter Try.func20, Try.ntmps20
    go_wp2_with fail
    refine (HI.out _ ((Ext.refl w).alloc _)).mono ?_
    rintro e w1 ⟨rfl, hx⟩
    have hb := (Blk.new w 31 #[.int .i64 c0, .slice A n c]).ext hx
    have r0 := hb.rd 0 rfl
    have r1 := hb.rd 1 rfl
    have HX := Lib.hid (((Ext.refl w).alloc _).trans hx)
    have HB := Lib.hid hb
    clear hx hb
    go_wp2_with fail
    refine (HR.out _ HX.out).mono ?_
    rintro e w2 ⟨rfl, hx⟩
    have HX2 := Lib.hid (HX.out.trans hx)
    have hb := HB.out.ext hx
    clear r0 r1
    have r0 := hb.rd 0 rfl
    have r1 := hb.rd 1 rfl
    clear hx hb HB HX
    cases r with
    | false =>
      go_wp2_with fail
      go_ret2
      exact ⟨rfl, HX2.out.below (Nat.le_refl _)⟩
    | true =>
      cases o1 with
      | false =>
        go_wp2_with (go_at_call 30; refine (H1.out _).mono ?_; rintro e w' ⟨rfl, rfl⟩)
        go_ret2
        exact ⟨rfl, HX2.out.below (Nat.le_refl _)⟩
      | true =>
        cases o2 with
        | false =>
          go_wp2_with fail
          refine (H1.out _).mono ?_
          rintro e w' ⟨rfl, rfl⟩
          go_wp2_with fail
          refine (H2.out _).mono ?_
          rintro e w' ⟨rfl, rfl⟩
          go_wp2_with fail
          go_ret2
          exact ⟨rfl, HX2.out.below (Nat.le_refl _)⟩
        | true =>
          have HB2 := Lib.hid (HBA.out (by first | rfl | trivial) (by first | rfl | trivial))
          clear HBA
          go_wp2_with fail
          refine (H1.out _).mono ?_
          rintro e w' ⟨rfl, rfl⟩
          go_wp2_with fail
          refine (H2.out _).mono ?_
          rintro e w' ⟨rfl, rfl⟩
          go_wp2_with fail
          refine (HB2.out _ HX2.out).mono ?_
          rintro e w3 ⟨rfl, hx⟩
          have HX3 := Lib.hid ((HX2.out.below (Nat.le_refl _)).trans (hx.mono (HX2.out.below (Nat.le_refl _)).size))
          clear hx r0 r1
          go_wp2_with fail
          go_ret2
          exact ⟨rfl, HX3.out⟩
end Go.Proofs.Ytplbjnnicmcpdaa
