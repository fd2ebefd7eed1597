/- Neighbours: RightOf and BelowOf, the program's side. -/
import Derived.Test.YtjbnmkiidongmaaNb3
import Derived.Test.YtjbnmkiidongmaaRow
import Derived.Test.YtjbnmkiidongmaaFil4
namespace Go.Proofs.Ytjbnmkiidongmaa
set_option linter.unusedVariables false
set_option linter.unusedSimpArgs false
open Go.RowKit Go.Sort

set_option maxHeartbeats 1000000 in
theorem nbList_no (c0 : Int) (A : Option Addr) (n c : Nat) (ts : List Tl) (i side z : Int) (w : World) (hn : n ≤ 1048576) (hl : ts.length = n) (hA : TR w w.heap.size A ts) (hz : numCode c0 ts i = z) (hz0 : z ≠ 0) :
    Calls Try.prog 75 #[.agg #[.int .i64 c0, .slice A n c], .int .i64 i, .int .i64 side] w fun e w' => ∃ R p, e = .returned (.tuple #[.slice R ([] : List Int).length p, .int .i64 z]) ∧ Below w.heap.size w w' ∧ IWr w' w.heap.size w'.heap.size R [] := by
  have his : ∀ W, Ext w W → Calls Try.prog 70 #[.agg #[.int .i64 c0, .slice A n c]] W _ := fun W hW => isSet_any c0 A n c ts W (by omega) hl ((hA.ext hW (Nat.le_refl _)).more (hW.below (Nat.le_refl _)).size)
  have htn := fun W => isTileNumber_any c0 A n c i W (by omega)
  unfold numCode at hz
  rw [hl] at hz
  clear hA
  cases hs : isSet c0 ts with
  | false =>
    rw [hs] at his hz
    have HI := Lib.hid his
    simp at hz
    subst hz
    clear his htn hs
    go_enter Try.func75, Try.ntmps75
    go_wp2_with fail
    refine (HI.out _ ((Ext.refl w).alloc _)).mono ?_
    rintro e w1 ⟨rfl, hx⟩
    have HX := Lib.hid (((Ext.refl w).alloc (Obj.cells #[.int .i64 c0, .slice A n c] 35)).trans hx)
    clear hx
    go_wp2_with fail
    go_ret2
    exact ⟨none, 0, rfl, HX.out.below (Nat.le_refl _), fun h => absurd h (by simp)⟩
  | true =>
    rw [hs] at his hz
    have HI := Lib.hid his
    rw [if_pos rfl] at hz
    have hni : ¬ (0 ≤ i ∧ i < (n : Int)) := fun h => by rw [if_pos h] at hz; exact hz0 hz.symm
    rw [if_neg hni] at hz
    rw [decide_eq_false hni] at htn
    have HT := Lib.hid htn
    subst hz
    clear his htn hs hni
    go_enter Try.func75, Try.ntmps75
    go_wp2_with fail
    refine (HI.out _ ((Ext.refl w).alloc _)).mono ?_
    rintro e w1 ⟨rfl, hx⟩
    have HX := Lib.hid (((Ext.refl w).alloc (Obj.cells #[.int .i64 c0, .slice A n c] 35)).trans hx)
    have hb := (Blk.new w 35 #[.int .i64 c0, .slice A n c]).ext hx
    have r0 := hb.rd 0 rfl
    have r1 := hb.rd 1 rfl
    clear hx hb
    go_wp2_with fail
    refine (HT.out _).mono ?_
    rintro e w2 ⟨rfl, hx⟩
    have HX2 := Lib.hid (HX.out.trans hx)
    clear hx r0 r1
    go_wp2_with fail
    go_ret2
    exact ⟨none, 0, rfl, HX2.out.below (Nat.le_refl _), fun h => absurd h (by simp)⟩

set_option maxHeartbeats 1000000 in
theorem implRight_0 (c0 : Int) (A : Option Addr) (n c : Nat) (ts : List Tl) (i : Nat) (w : World) (hn : n ≤ 1048576) (hl : ts.length = n) (hA : TR w w.heap.size A ts) (hc0 : numCode c0 ts (i : Int) = 0) :
    Calls Try.prog 36 #[.agg #[.int .i64 c0, .slice A n c], .int .i64 (i : Int)] w fun e w' => ∃ R p, e = .returned (.tuple #[.slice R (nbl (fitE ts i) n).length p, .int .i64 0]) ∧ Below w.heap.size w w' ∧ IWr w' w.heap.size w'.heap.size R (nbl (fitE ts i) n) := by
  obtain ⟨hs, _, hi⟩ := numCode_ok hc0
  rw [hl] at hi
  have hi' : i < n := by omega
  have hx0 := (Ext.refl w).alloc (Obj.cells #[.int .i64 c0, .slice A n c] 35)
  have hcon := callsIn_wide.1 (nbList_in 5 (Nat.le_refl _) c0 A n c ts i 2 (fitE ts i) (w.alloc (Obj.cells #[.int .i64 c0, .slice A n c] 35)) hn hl ((hA.ext hx0 (Nat.le_refl _)).more (hx0.below (Nat.le_refl _)).size) hi' hs
    (fun k hk V hV => fits_east c0 A n c ts i k V hn hl hi' hk (((hA.ext hx0 (Nat.le_refl _)).below hV (by simp)).more (Nat.le_trans (hx0.below (Nat.le_refl _)).size hV.size))))
  have HC := Lib.hid hcon
  clear hcon hA hx0
  generalize nbl (fitE ts i) n = ys at HC ⊢
  go_enter Try.func36, Try.ntmps36
  go_wp2_with fail
  refine HC.out.mono ?_
  rintro e w1 ⟨R, p, rfl, hb, hw⟩
  have HB := Lib.hid hb
  have HW := Lib.hid hw
  clear hb hw
  go_wp2_with fail
  go_ret2
  exact ⟨R, p, rfl, (((Ext.refl w).alloc _).below (Nat.le_refl _)).trans (HB.out.mono (by simp)), HW.out.low (by simp)⟩
set_option maxHeartbeats 1000000 in
theorem implRight_no (c0 : Int) (A : Option Addr) (n c : Nat) (ts : List Tl) (i z : Int) (w : World) (hn : n ≤ 1048576) (hl : ts.length = n) (hA : TR w w.heap.size A ts) (hz : numCode c0 ts i = z) (hz0 : z ≠ 0) :
    Calls Try.prog 36 #[.agg #[.int .i64 c0, .slice A n c], .int .i64 i] w fun e w' => ∃ R p, e = .returned (.tuple #[.slice R ([] : List Int).length p, .int .i64 z]) ∧ Below w.heap.size w w' ∧ IWr w' w.heap.size w'.heap.size R [] := by
  have hx0 := (Ext.refl w).alloc (Obj.cells #[.int .i64 c0, .slice A n c] 35)
  have HC := Lib.hid (nbList_no c0 A n c ts i 2 z (w.alloc (Obj.cells #[.int .i64 c0, .slice A n c] 35)) hn hl ((hA.ext hx0 (Nat.le_refl _)).more (hx0.below (Nat.le_refl _)).size) hz hz0)
  clear hA hx0 hz
  go_enter Try.func36, Try.ntmps36
  go_wp2_with fail
  refine HC.out.mono ?_
  rintro e w1 ⟨R, p, rfl, hb, hw⟩
  have HB := Lib.hid hb
  clear hb hw
  go_wp2_with fail
  go_ret2
  exact ⟨R, p, rfl, (((Ext.refl w).alloc _).below (Nat.le_refl _)).trans (HB.out.mono (by simp)), fun h => absurd h (by simp)⟩

set_option maxHeartbeats 1000000 in
theorem implBelow_0 (c0 : Int) (A : Option Addr) (n c : Nat) (ts : List Tl) (i : Nat) (w : World) (hn : n ≤ 1048576) (hl : ts.length = n) (hA : TR w w.heap.size A ts) (hc0 : numCode c0 ts (i : Int) = 0) :
    Calls Try.prog 38 #[.agg #[.int .i64 c0, .slice A n c], .int .i64 (i : Int)] w fun e w' => ∃ R p, e = .returned (.tuple #[.slice R (nbl (fitS ts i) n).length p, .int .i64 0]) ∧ Below w.heap.size w w' ∧ IWr w' w.heap.size w'.heap.size R (nbl (fitS ts i) n) := by
  obtain ⟨hs, _, hi⟩ := numCode_ok hc0
  rw [hl] at hi
  have hi' : i < n := by omega
  have hx0 := (Ext.refl w).alloc (Obj.cells #[.int .i64 c0, .slice A n c] 35)
  have hcon := callsIn_wide.1 (nbList_in 5 (Nat.le_refl _) c0 A n c ts i 3 (fitS ts i) (w.alloc (Obj.cells #[.int .i64 c0, .slice A n c] 35)) hn hl ((hA.ext hx0 (Nat.le_refl _)).more (hx0.below (Nat.le_refl _)).size) hi' hs
    (fun k hk V hV => fits_south c0 A n c ts i k V hn hl hi' hk (((hA.ext hx0 (Nat.le_refl _)).below hV (by simp)).more (Nat.le_trans (hx0.below (Nat.le_refl _)).size hV.size))))
  have HC := Lib.hid hcon
  clear hcon hA hx0
  generalize nbl (fitS ts i) n = ys at HC ⊢
  go_enter Try.func38, Try.ntmps38
  go_wp2_with fail
  refine HC.out.mono ?_
  rintro e w1 ⟨R, p, rfl, hb, hw⟩
  have HB := Lib.hid hb
  have HW := Lib.hid hw
  clear hb hw
  go_wp2_with fail
  go_ret2
  exact ⟨R, p, rfl, (((Ext.refl w).alloc _).below (Nat.le_refl _)).trans (HB.out.mono (by simp)), HW.out.low (by simp)⟩
set_option maxHeartbeats 1000000 in
theorem implBelow_no (c0 : Int) (A : Option Addr) (n c : Nat) (ts : List Tl) (i z : Int) (w : World) (hn : n ≤ 1048576) (hl : ts.length = n) (hA : TR w w.heap.size A ts) (hz : numCode c0 ts i = z) (hz0 : z ≠ 0) :
    Calls Try.prog 38 #[.agg #[.int .i64 c0, .slice A n c], .int .i64 i] w fun e w' => ∃ R p, e = .returned (.tuple #[.slice R ([] : List Int).length p, .int .i64 z]) ∧ Below w.heap.size w w' ∧ IWr w' w.heap.size w'.heap.size R [] := by
  have hx0 := (Ext.refl w).alloc (Obj.cells #[.int .i64 c0, .slice A n c] 35)
  have HC := Lib.hid (nbList_no c0 A n c ts i 3 z (w.alloc (Obj.cells #[.int .i64 c0, .slice A n c] 35)) hn hl ((hA.ext hx0 (Nat.le_refl _)).more (hx0.below (Nat.le_refl _)).size) hz hz0)
  clear hA hx0 hz
  go_enter Try.func38, Try.ntmps38
  go_wp2_with fail
  refine HC.out.mono ?_
  rintro e w1 ⟨R, p, rfl, hb, hw⟩
  have HB := Lib.hid hb
  clear hb hw
  go_wp2_with fail
  go_ret2
  exact ⟨R, p, rfl, (((Ext.refl w).alloc _).below (Nat.le_refl _)).trans (HB.out.mono (by simp)), fun h => absurd h (by simp)⟩
end Go.Proofs.Ytjbnmkiidongmaa
