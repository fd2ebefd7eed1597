/- Whether a set is determined at a corner: the errors. -/
import Derived.Test.YtjbnmkiidongmaaDet4
namespace Go.Proofs.Ytjbnmkiidongmaa
set_option linter.unusedVariables false
set_option linter.unusedSimpArgs false
open Go.RowKit Go.Sort

set_option maxRecDepth 100000 in
set_option maxHeartbeats 1000000 in
theorem specDet_1 (c0 : Int) (A : Option Addr) (n c : Nat) (ts : List Tl) (i : Int) (w : World) (hn : n ≤ 1048576) (hl : ts.length = n) (hA : TR w w.heap.size A ts) (hs : isSet c0 ts = false) :
    Calls Try.prog 33 #[.agg #[.int .i64 c0, .slice A n c], .int .i64 i] w fun e w' => e = .returned (.tuple #[.bool false, .int .i64 1]) ∧ Below w.heap.size w w' := by
  have his : ∀ W, Ext w W → Calls Try.prog 68 #[.agg #[.int .i64 c0, .slice A n c]] W _ := fun W hW => l01Is_any c0 A n c ts W (by omega) hl ((hA.ext hW (Nat.le_refl _)).more (hW.below (Nat.le_refl _)).size)
  rw [hs] at his
  have HI := Lib.hid his
  clear his hA hs
  go_enter Try.func33, Try.ntmps33
  go_wp2_with fail
  refine (HI.out _ ((Ext.refl w).alloc _)).mono ?_
  rintro e w1 ⟨rfl, hx⟩
  have HX := Lib.hid (((Ext.refl w).alloc _).trans hx)
  clear hx
  go_wp2_with fail
  go_ret2
  exact ⟨rfl, HX.out.below (Nat.le_refl _)⟩
set_option maxRecDepth 100000 in
set_option maxHeartbeats 1000000 in
theorem specDet_2 (c0 : Int) (A : Option Addr) (n c : Nat) (ts : List Tl) (i : Int) (w : World) (hn : n ≤ 1048576) (hl : ts.length = n) (hA : TR w w.heap.size A ts) (hs : isSet c0 ts = true) (hi : ¬ (0 ≤ i ∧ i ≤ 3)) :
    Calls Try.prog 33 #[.agg #[.int .i64 c0, .slice A n c], .int .i64 i] w fun e w' => e = .returned (.tuple #[.bool false, .int .i64 2]) ∧ Below w.heap.size w w' := by
  have his : ∀ W, Ext w W → Calls Try.prog 68 #[.agg #[.int .i64 c0, .slice A n c]] W _ := fun W hW => l01Is_any c0 A n c ts W (by omega) hl ((hA.ext hW (Nat.le_refl _)).more (hW.below (Nat.le_refl _)).size)
  rw [hs] at his
  have HI := Lib.hid his
  have hin := fun W => l01In_any i 0 3 W
  rw [decide_eq_false hi] at hin
  clear his hA hs hi
  go_enter Try.func33, Try.ntmps33
  go_wp2_with fail
  refine (HI.out _ ((Ext.refl w).alloc _)).mono ?_
  rintro e w1 ⟨rfl, hx⟩
  have HX := Lib.hid (((Ext.refl w).alloc _).trans hx)
  clear hx
  go_wp2_with fail
  refine (hin _).mono ?_
  rintro e w1' ⟨rfl, rfl⟩
  clear hin
  go_wp2_with fail
  go_ret2
  exact ⟨rfl, HX.out.below (Nat.le_refl _)⟩
set_option maxRecDepth 100000 in
set_option maxHeartbeats 1000000 in
theorem implDet_1 (c0 : Int) (A : Option Addr) (n c : Nat) (ts : List Tl) (i : Int) (w : World) (hn : n ≤ 1048576) (hl : ts.length = n) (hA : TR w w.heap.size A ts) (hs : isSet c0 ts = false) :
    Calls Try.prog 34 #[.agg #[.int .i64 c0, .slice A n c], .int .i64 i] w fun e w' => e = .returned (.tuple #[.bool false, .int .i64 1]) ∧ Below w.heap.size w w' := by
  have his : ∀ W, Ext w W → Calls Try.prog 70 #[.agg #[.int .i64 c0, .slice A n c]] W _ := fun W hW => isSet_any c0 A n c ts W (by omega) hl ((hA.ext hW (Nat.le_refl _)).more (hW.below (Nat.le_refl _)).size)
  rw [hs] at his
  have HI := Lib.hid his
  clear his hA hs
  go_enter Try.func34, Try.ntmps34
  go_wp2_with fail
  refine (HI.out _ ((Ext.refl w).alloc _)).mono ?_
  rintro e w1 ⟨rfl, hx⟩
  have HX := Lib.hid (((Ext.refl w).alloc _).trans hx)
  clear hx
  go_wp2_with fail
  go_ret2
  exact ⟨rfl, HX.out.below (Nat.le_refl _)⟩
set_option maxRecDepth 100000 in
set_option maxHeartbeats 1000000 in
theorem implDet_2 (c0 : Int) (A : Option Addr) (n c : Nat) (ts : List Tl) (i : Int) (w : World) (hn : n ≤ 1048576) (hl : ts.length = n) (hA : TR w w.heap.size A ts) (hs : isSet c0 ts = true) (hi : ¬ (0 ≤ i ∧ i ≤ 3)) :
    Calls Try.prog 34 #[.agg #[.int .i64 c0, .slice A n c], .int .i64 i] w fun e w' => e = .returned (.tuple #[.bool false, .int .i64 2]) ∧ Below w.heap.size w w' := by
  have his : ∀ W, Ext w W → Calls Try.prog 70 #[.agg #[.int .i64 c0, .slice A n c]] W _ := fun W hW => isSet_any c0 A n c ts W (by omega) hl ((hA.ext hW (Nat.le_refl _)).more (hW.below (Nat.le_refl _)).size)
  rw [hs] at his
  have HI := Lib.hid his
  clear his hA hs
  by_cases h1 : i < 0
  · clear hi
    go_enter Try.func34, Try.ntmps34
    go_wp2_with fail
    refine (HI.out _ ((Ext.refl w).alloc _)).mono ?_
    rintro e w1 ⟨rfl, hx⟩
    have HX := Lib.hid (((Ext.refl w).alloc _).trans hx)
    clear hx
    go_wp2_with fail
    go_ret2
    exact ⟨rfl, HX.out.below (Nat.le_refl _)⟩
  · have h2 : 4 ≤ i := by omega
    clear hi
    go_enter Try.func34, Try.ntmps34
    go_wp2_with fail
    refine (HI.out _ ((Ext.refl w).alloc _)).mono ?_
    rintro e w1 ⟨rfl, hx⟩
    have HX := Lib.hid (((Ext.refl w).alloc _).trans hx)
    clear hx
    go_wp2_with fail
    go_ret2
    exact ⟨rfl, HX.out.below (Nat.le_refl _)⟩
end Go.Proofs.Ytjbnmkiidongmaa
