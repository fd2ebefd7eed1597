/- PutTile: its errors, on both sides. -/
import Derived.Test.YtfacdmkcklimjaaTold
import Derived.Test.YtfacdmkcklimjaaSBridge
import Derived.Deep.RegionHeld3
import Derived.Deep.RegionLaw
import Derived.Deep.DeepCutAuto
import Derived.Lib.Hide
namespace Go.Proofs.Ytfacdmkcklimjaa
set_option linter.unusedVariables false
set_option linter.unusedSimpArgs false
open Go.RowKit Go.Sort

set_option maxRecDepth 100000 in
set_option maxHeartbeats 1000000 in
theorem specPut_1 (c0 : Int) (A0 : Option Addr) (n0 q0 : Nat) (ts : List Tl) (x0 x1 x2 x3 : Int) (w : World) (hn0 : n0 ≤ 1048576) (hl0 : ts.length = n0) (hA0 : TR w w.heap.size A0 ts) (hs : isSet c0 ts = false) :
    Calls Try.prog 5 #[.agg #[.int .i64 c0, .slice A0 n0 q0], .agg #[.int .i64 x0, .int .i64 x1, .int .i64 x2, .int .i64 x3]] w (SetRes w 0 [] 1) := by
  have his0 : ∀ W, Below w.heap.size w W → Calls Try.prog 13 #[.agg #[.int .i64 c0, .slice A0 n0 q0]] W _ := fun W hW => l01Is_any c0 A0 n0 q0 ts W (by omega) hl0 ((hA0.below hW (Nat.le_refl _)).more hW.size)
  rw [hs] at his0
  have HI0 := Lib.hid his0
  clear his0
  clear hA0
  unfold SetRes
  go_enter Try.func5, Try.ntmps5
  go_wp2_with fail
  have hx0 : Ext w (((w.alloc (Obj.cells #[.int .i64 c0, .slice A0 n0 q0] 29)).alloc (Obj.cells #[.int .i64 x0, .int .i64 x1, .int .i64 x2, .int .i64 x3] 33)).alloc (Obj.cells #[.int .i64 0, .slice none 0 0] 29)) := (((Ext.refl w).alloc _).alloc _).alloc _
  have hb0 : Blk (((w.alloc (Obj.cells #[.int .i64 c0, .slice A0 n0 q0] 29)).alloc (Obj.cells #[.int .i64 x0, .int .i64 x1, .int .i64 x2, .int .i64 x3] 33)).alloc (Obj.cells #[.int .i64 0, .slice none 0 0] 29)) (w.heap.size) 29 #[.int .i64 c0, .slice A0 n0 q0] := by have := ((Blk.new w 29 #[.int .i64 c0, .slice A0 n0 q0]).ext (show Ext (w.alloc (Obj.cells #[.int .i64 c0, .slice A0 n0 q0] 29)) (((w.alloc (Obj.cells #[.int .i64 c0, .slice A0 n0 q0] 29)).alloc (Obj.cells #[.int .i64 x0, .int .i64 x1, .int .i64 x2, .int .i64 x3] 33)).alloc (Obj.cells #[.int .i64 0, .slice none 0 0] 29)) from ((Ext.refl _).alloc _).alloc _)); simpa using this
  have hb1 : Blk (((w.alloc (Obj.cells #[.int .i64 c0, .slice A0 n0 q0] 29)).alloc (Obj.cells #[.int .i64 x0, .int .i64 x1, .int .i64 x2, .int .i64 x3] 33)).alloc (Obj.cells #[.int .i64 0, .slice none 0 0] 29)) (w.heap.size + 1) 33 #[.int .i64 x0, .int .i64 x1, .int .i64 x2, .int .i64 x3] := by have := ((Blk.new (w.alloc (Obj.cells #[.int .i64 c0, .slice A0 n0 q0] 29)) 33 #[.int .i64 x0, .int .i64 x1, .int .i64 x2, .int .i64 x3]).ext (show Ext ((w.alloc (Obj.cells #[.int .i64 c0, .slice A0 n0 q0] 29)).alloc (Obj.cells #[.int .i64 x0, .int .i64 x1, .int .i64 x2, .int .i64 x3] 33)) (((w.alloc (Obj.cells #[.int .i64 c0, .slice A0 n0 q0] 29)).alloc (Obj.cells #[.int .i64 x0, .int .i64 x1, .int .i64 x2, .int .i64 x3] 33)).alloc (Obj.cells #[.int .i64 0, .slice none 0 0] 29)) from (Ext.refl _).alloc _)); simpa using this
  have hb2 : Blk (((w.alloc (Obj.cells #[.int .i64 c0, .slice A0 n0 q0] 29)).alloc (Obj.cells #[.int .i64 x0, .int .i64 x1, .int .i64 x2, .int .i64 x3] 33)).alloc (Obj.cells #[.int .i64 0, .slice none 0 0] 29)) (w.heap.size + 2) 29 #[.int .i64 0, .slice none 0 0] := by have := (Blk.new ((w.alloc (Obj.cells #[.int .i64 c0, .slice A0 n0 q0] 29)).alloc (Obj.cells #[.int .i64 x0, .int .i64 x1, .int .i64 x2, .int .i64 x3] 33)) 29 #[.int .i64 0, .slice none 0 0]); simpa using this
  have K0 := Lib.hid (hx0.below (Nat.le_refl _))
  have L0 := Lib.hid (show w.heap.size + 3 ≤ (((w.alloc (Obj.cells #[.int .i64 c0, .slice A0 n0 q0] 29)).alloc (Obj.cells #[.int .i64 x0, .int .i64 x1, .int .i64 x2, .int .i64 x3] 33)).alloc (Obj.cells #[.int .i64 0, .slice none 0 0] 29)).heap.size by simp)
  have B0_0 := Lib.hid hb0
  have B1_0 := Lib.hid hb1
  have B2_0 := Lib.hid hb2
  clear hx0 hb0 hb1 hb2
  generalize (((w.alloc (Obj.cells #[.int .i64 c0, .slice A0 n0 q0] 29)).alloc (Obj.cells #[.int .i64 x0, .int .i64 x1, .int .i64 x2, .int .i64 x3] 33)).alloc (Obj.cells #[.int .i64 0, .slice none 0 0] 29)) = w0 at *
  refine (HI0.out _ K0.out).mono ?_
  rintro e w1 ⟨rfl, hx⟩
  have K1 := Lib.hid (K0.out.trans ((hx.below (Nat.le_refl _)).mono K0.out.size))
  have L1 := Lib.hid (Nat.le_trans L0.out (hx.below (Nat.le_refl _)).size)
  have B0_1 := Lib.hid (B0_0.out.below (hx.below (Nat.le_refl _)) B0_0.out.lt)
  have B1_1 := Lib.hid (B1_0.out.below (hx.below (Nat.le_refl _)) B1_0.out.lt)
  have B2_1 := Lib.hid (B2_0.out.below (hx.below (Nat.le_refl _)) B2_0.out.lt)
  clear K0 B0_0 B1_0 B2_0 L0 hx
  have r0_0 := B0_1.out.rd 0 rfl
  have r0_1 := B0_1.out.rd 1 rfl
  have r1_0 := B1_1.out.rd 0 rfl
  have r1_1 := B1_1.out.rd 1 rfl
  have r1_2 := B1_1.out.rd 2 rfl
  have r1_3 := B1_1.out.rd 3 rfl
  have r2_0 := B2_1.out.rd 0 rfl
  have r2_1 := B2_1.out.rd 1 rfl
  have z2_0 := B2_1.out.frozen 0
  have z2_1 := B2_1.out.frozen 1
  go_wp2_with fail
  refine bodyPost_ret (v := .tuple #[.agg #[.int .i64 0, .slice none 0 0], .int .i64 1]) (by simp [results, Try.results5, go_sem, r2_0, r2_1, z2_0, z2_1]) rfl ⟨none, 0, rfl, ?_, ?_⟩
  · exact (K1.out.setCell (show w.heap.size ≤ w.heap.size + 2 by omega) _).setCell (show w.heap.size ≤ w.heap.size + 2 by omega) _
  · exact fun h => absurd h (Nat.lt_irrefl _)

set_option maxRecDepth 100000 in
set_option maxHeartbeats 1000000 in
theorem specPut_2 (c0 : Int) (A0 : Option Addr) (n0 q0 : Nat) (ts : List Tl) (x0 x1 x2 x3 : Int) (w : World) (hn0 : n0 ≤ 1048576) (hl0 : ts.length = n0) (hA0 : TR w w.heap.size A0 ts) (hs : isSet c0 ts = true) (ht : tileOk c0 (x0, x1, x2, x3) = false) :
    Calls Try.prog 5 #[.agg #[.int .i64 c0, .slice A0 n0 q0], .agg #[.int .i64 x0, .int .i64 x1, .int .i64 x2, .int .i64 x3]] w (SetRes w 0 [] 2) := by
  have his0 : ∀ W, Below w.heap.size w W → Calls Try.prog 13 #[.agg #[.int .i64 c0, .slice A0 n0 q0]] W _ := fun W hW => l01Is_any c0 A0 n0 q0 ts W (by omega) hl0 ((hA0.below hW (Nat.le_refl _)).more hW.size)
  rw [hs] at his0
  have HI0 := Lib.hid his0
  clear his0
  have htv : ∀ W, Below w.heap.size w W → _ := fun W (_ : Below w.heap.size w W) => l01Tile_any c0 (x0, x1, x2, x3) W (isSet_col hs).1 (isSet_col hs).2
  rw [ht] at htv
  simp only [tv] at htv
  have HT := Lib.hid htv
  clear htv
  clear hA0
  unfold SetRes
  go_enter Try.func5, Try.ntmps5
  go_wp2_with fail
  have hx0 : Ext w (((w.alloc (Obj.cells #[.int .i64 c0, .slice A0 n0 q0] 29)).alloc (Obj.cells #[.int .i64 x0, .int .i64 x1, .int .i64 x2, .int .i64 x3] 33)).alloc (Obj.cells #[.int .i64 0, .slice none 0 0] 29)) := (((Ext.refl w).alloc _).alloc _).alloc _
  have hb0 : Blk (((w.alloc (Obj.cells #[.int .i64 c0, .slice A0 n0 q0] 29)).alloc (Obj.cells #[.int .i64 x0, .int .i64 x1, .int .i64 x2, .int .i64 x3] 33)).alloc (Obj.cells #[.int .i64 0, .slice none 0 0] 29)) (w.heap.size) 29 #[.int .i64 c0, .slice A0 n0 q0] := by have := ((Blk.new w 29 #[.int .i64 c0, .slice A0 n0 q0]).ext (show Ext (w.alloc (Obj.cells #[.int .i64 c0, .slice A0 n0 q0] 29)) (((w.alloc (Obj.cells #[.int .i64 c0, .slice A0 n0 q0] 29)).alloc (Obj.cells #[.int .i64 x0, .int .i64 x1, .int .i64 x2, .int .i64 x3] 33)).alloc (Obj.cells #[.int .i64 0, .slice none 0 0] 29)) from ((Ext.refl _).alloc _).alloc _)); simpa using this
  have hb1 : Blk (((w.alloc (Obj.cells #[.int .i64 c0, .slice A0 n0 q0] 29)).alloc (Obj.cells #[.int .i64 x0, .int .i64 x1, .int .i64 x2, .int .i64 x3] 33)).alloc (Obj.cells #[.int .i64 0, .slice none 0 0] 29)) (w.heap.size + 1) 33 #[.int .i64 x0, .int .i64 x1, .int .i64 x2, .int .i64 x3] := by have := ((Blk.new (w.alloc (Obj.cells #[.int .i64 c0, .slice A0 n0 q0] 29)) 33 #[.int .i64 x0, .int .i64 x1, .int .i64 x2, .int .i64 x3]).ext (show Ext ((w.alloc (Obj.cells #[.int .i64 c0, .slice A0 n0 q0] 29)).alloc (Obj.cells #[.int .i64 x0, .int .i64 x1, .int .i64 x2, .int .i64 x3] 33)) (((w.alloc (Obj.cells #[.int .i64 c0, .slice A0 n0 q0] 29)).alloc (Obj.cells #[.int .i64 x0, .int .i64 x1, .int .i64 x2, .int .i64 x3] 33)).alloc (Obj.cells #[.int .i64 0, .slice none 0 0] 29)) from (Ext.refl _).alloc _)); simpa using this
  have hb2 : Blk (((w.alloc (Obj.cells #[.int .i64 c0, .slice A0 n0 q0] 29)).alloc (Obj.cells #[.int .i64 x0, .int .i64 x1, .int .i64 x2, .int .i64 x3] 33)).alloc (Obj.cells #[.int .i64 0, .slice none 0 0] 29)) (w.heap.size + 2) 29 #[.int .i64 0, .slice none 0 0] := by have := (Blk.new ((w.alloc (Obj.cells #[.int .i64 c0, .slice A0 n0 q0] 29)).alloc (Obj.cells #[.int .i64 x0, .int .i64 x1, .int .i64 x2, .int .i64 x3] 33)) 29 #[.int .i64 0, .slice none 0 0]); simpa using this
  have K0 := Lib.hid (hx0.below (Nat.le_refl _))
  have L0 := Lib.hid (show w.heap.size + 3 ≤ (((w.alloc (Obj.cells #[.int .i64 c0, .slice A0 n0 q0] 29)).alloc (Obj.cells #[.int .i64 x0, .int .i64 x1, .int .i64 x2, .int .i64 x3] 33)).alloc (Obj.cells #[.int .i64 0, .slice none 0 0] 29)).heap.size by simp)
  have B0_0 := Lib.hid hb0
  have B1_0 := Lib.hid hb1
  have B2_0 := Lib.hid hb2
  clear hx0 hb0 hb1 hb2
  generalize (((w.alloc (Obj.cells #[.int .i64 c0, .slice A0 n0 q0] 29)).alloc (Obj.cells #[.int .i64 x0, .int .i64 x1, .int .i64 x2, .int .i64 x3] 33)).alloc (Obj.cells #[.int .i64 0, .slice none 0 0] 29)) = w0 at *
  refine (HI0.out _ K0.out).mono ?_
  rintro e w1 ⟨rfl, hx⟩
  have K1 := Lib.hid (K0.out.trans ((hx.below (Nat.le_refl _)).mono K0.out.size))
  have L1 := Lib.hid (Nat.le_trans L0.out (hx.below (Nat.le_refl _)).size)
  have B0_1 := Lib.hid (B0_0.out.below (hx.below (Nat.le_refl _)) B0_0.out.lt)
  have B1_1 := Lib.hid (B1_0.out.below (hx.below (Nat.le_refl _)) B1_0.out.lt)
  have B2_1 := Lib.hid (B2_0.out.below (hx.below (Nat.le_refl _)) B2_0.out.lt)
  clear K0 B0_0 B1_0 B2_0 L0 hx
  have r0_0 := B0_1.out.rd 0 rfl
  have r0_1 := B0_1.out.rd 1 rfl
  have r1_0 := B1_1.out.rd 0 rfl
  have r1_1 := B1_1.out.rd 1 rfl
  have r1_2 := B1_1.out.rd 2 rfl
  have r1_3 := B1_1.out.rd 3 rfl
  go_wp2_with fail
  refine (HT.out _ K1.out).mono ?_
  rintro e w2 ⟨rfl, hx⟩
  clear r0_0 r0_1 r1_0 r1_1 r1_2 r1_3
  have K2 := Lib.hid (K1.out.trans ((hx.below (Nat.le_refl _)).mono K1.out.size))
  have L2 := Lib.hid (Nat.le_trans L1.out (hx.below (Nat.le_refl _)).size)
  have B0_2 := Lib.hid (B0_1.out.below (hx.below (Nat.le_refl _)) B0_1.out.lt)
  have B1_2 := Lib.hid (B1_1.out.below (hx.below (Nat.le_refl _)) B1_1.out.lt)
  have B2_2 := Lib.hid (B2_1.out.below (hx.below (Nat.le_refl _)) B2_1.out.lt)
  clear K1 B0_1 B1_1 B2_1 L1 hx
  have r0_0 := B0_2.out.rd 0 rfl
  have r0_1 := B0_2.out.rd 1 rfl
  have r1_0 := B1_2.out.rd 0 rfl
  have r1_1 := B1_2.out.rd 1 rfl
  have r1_2 := B1_2.out.rd 2 rfl
  have r1_3 := B1_2.out.rd 3 rfl
  have r2_0 := B2_2.out.rd 0 rfl
  have r2_1 := B2_2.out.rd 1 rfl
  have z2_0 := B2_2.out.frozen 0
  have z2_1 := B2_2.out.frozen 1
  go_wp2_with fail
  refine bodyPost_ret (v := .tuple #[.agg #[.int .i64 0, .slice none 0 0], .int .i64 2]) (by simp [results, Try.results5, go_sem, r2_0, r2_1, z2_0, z2_1]) rfl ⟨none, 0, rfl, ?_, ?_⟩
  · exact (K2.out.setCell (show w.heap.size ≤ w.heap.size + 2 by omega) _).setCell (show w.heap.size ≤ w.heap.size + 2 by omega) _
  · exact fun h => absurd h (Nat.lt_irrefl _)

set_option maxRecDepth 100000 in
set_option maxHeartbeats 1000000 in
theorem specPut_5 (c0 : Int) (A0 : Option Addr) (n0 q0 : Nat) (ts : List Tl) (x0 x1 x2 x3 : Int) (w : World) (hn0 : n0 ≤ 1048576) (hl0 : ts.length = n0) (hA0 : TR w w.heap.size A0 ts) (hs : isSet c0 ts = true) (ht : tileOk c0 (x0, x1, x2, x3) = true) (hh : decide ((x0, x1, x2, x3) ∈ ts) = true) :
    Calls Try.prog 5 #[.agg #[.int .i64 c0, .slice A0 n0 q0], .agg #[.int .i64 x0, .int .i64 x1, .int .i64 x2, .int .i64 x3]] w (SetRes w 0 [] 5) := by
  have his0 : ∀ W, Below w.heap.size w W → Calls Try.prog 13 #[.agg #[.int .i64 c0, .slice A0 n0 q0]] W _ := fun W hW => l01Is_any c0 A0 n0 q0 ts W (by omega) hl0 ((hA0.below hW (Nat.le_refl _)).more hW.size)
  rw [hs] at his0
  have HI0 := Lib.hid his0
  clear his0
  have htv : ∀ W, Below w.heap.size w W → _ := fun W (_ : Below w.heap.size w W) => l01Tile_any c0 (x0, x1, x2, x3) W (isSet_col hs).1 (isSet_col hs).2
  rw [ht] at htv
  simp only [tv] at htv
  have HT := Lib.hid htv
  clear htv
  have hhv : ∀ W, Below w.heap.size w W → _ := fun W (hW : Below w.heap.size w W) => l01Has_any c0 A0 n0 q0 ts (x0, x1, x2, x3) W (by omega) hl0 ((hA0.below hW (Nat.le_refl _)).more hW.size)
  rw [hh] at hhv
  simp only [tv] at hhv
  have HH := Lib.hid hhv
  clear hhv
  clear hA0
  unfold SetRes
  go_enter Try.func5, Try.ntmps5
  go_wp2_with fail
  have hx0 : Ext w (((w.alloc (Obj.cells #[.int .i64 c0, .slice A0 n0 q0] 29)).alloc (Obj.cells #[.int .i64 x0, .int .i64 x1, .int .i64 x2, .int .i64 x3] 33)).alloc (Obj.cells #[.int .i64 0, .slice none 0 0] 29)) := (((Ext.refl w).alloc _).alloc _).alloc _
  have hb0 : Blk (((w.alloc (Obj.cells #[.int .i64 c0, .slice A0 n0 q0] 29)).alloc (Obj.cells #[.int .i64 x0, .int .i64 x1, .int .i64 x2, .int .i64 x3] 33)).alloc (Obj.cells #[.int .i64 0, .slice none 0 0] 29)) (w.heap.size) 29 #[.int .i64 c0, .slice A0 n0 q0] := by have := ((Blk.new w 29 #[.int .i64 c0, .slice A0 n0 q0]).ext (show Ext (w.alloc (Obj.cells #[.int .i64 c0, .slice A0 n0 q0] 29)) (((w.alloc (Obj.cells #[.int .i64 c0, .slice A0 n0 q0] 29)).alloc (Obj.cells #[.int .i64 x0, .int .i64 x1, .int .i64 x2, .int .i64 x3] 33)).alloc (Obj.cells #[.int .i64 0, .slice none 0 0] 29)) from ((Ext.refl _).alloc _).alloc _)); simpa using this
  have hb1 : Blk (((w.alloc (Obj.cells #[.int .i64 c0, .slice A0 n0 q0] 29)).alloc (Obj.cells #[.int .i64 x0, .int .i64 x1, .int .i64 x2, .int .i64 x3] 33)).alloc (Obj.cells #[.int .i64 0, .slice none 0 0] 29)) (w.heap.size + 1) 33 #[.int .i64 x0, .int .i64 x1, .int .i64 x2, .int .i64 x3] := by have := ((Blk.new (w.alloc (Obj.cells #[.int .i64 c0, .slice A0 n0 q0] 29)) 33 #[.int .i64 x0, .int .i64 x1, .int .i64 x2, .int .i64 x3]).ext (show Ext ((w.alloc (Obj.cells #[.int .i64 c0, .slice A0 n0 q0] 29)).alloc (Obj.cells #[.int .i64 x0, .int .i64 x1, .int .i64 x2, .int .i64 x3] 33)) (((w.alloc (Obj.cells #[.int .i64 c0, .slice A0 n0 q0] 29)).alloc (Obj.cells #[.int .i64 x0, .int .i64 x1, .int .i64 x2, .int .i64 x3] 33)).alloc (Obj.cells #[.int .i64 0, .slice none 0 0] 29)) from (Ext.refl _).alloc _)); simpa using this
  have hb2 : Blk (((w.alloc (Obj.cells #[.int .i64 c0, .slice A0 n0 q0] 29)).alloc (Obj.cells #[.int .i64 x0, .int .i64 x1, .int .i64 x2, .int .i64 x3] 33)).alloc (Obj.cells #[.int .i64 0, .slice none 0 0] 29)) (w.heap.size + 2) 29 #[.int .i64 0, .slice none 0 0] := by have := (Blk.new ((w.alloc (Obj.cells #[.int .i64 c0, .slice A0 n0 q0] 29)).alloc (Obj.cells #[.int .i64 x0, .int .i64 x1, .int .i64 x2, .int .i64 x3] 33)) 29 #[.int .i64 0, .slice none 0 0]); simpa using this
  have K0 := Lib.hid (hx0.below (Nat.le_refl _))
  have L0 := Lib.hid (show w.heap.size + 3 ≤ (((w.alloc (Obj.cells #[.int .i64 c0, .slice A0 n0 q0] 29)).alloc (Obj.cells #[.int .i64 x0, .int .i64 x1, .int .i64 x2, .int .i64 x3] 33)).alloc (Obj.cells #[.int .i64 0, .slice none 0 0] 29)).heap.size by simp)
  have B0_0 := Lib.hid hb0
  have B1_0 := Lib.hid hb1
  have B2_0 := Lib.hid hb2
  clear hx0 hb0 hb1 hb2
  generalize (((w.alloc (Obj.cells #[.int .i64 c0, .slice A0 n0 q0] 29)).alloc (Obj.cells #[.int .i64 x0, .int .i64 x1, .int .i64 x2, .int .i64 x3] 33)).alloc (Obj.cells #[.int .i64 0, .slice none 0 0] 29)) = w0 at *
  refine (HI0.out _ K0.out).mono ?_
  rintro e w1 ⟨rfl, hx⟩
  have K1 := Lib.hid (K0.out.trans ((hx.below (Nat.le_refl _)).mono K0.out.size))
  have L1 := Lib.hid (Nat.le_trans L0.out (hx.below (Nat.le_refl _)).size)
  have B0_1 := Lib.hid (B0_0.out.below (hx.below (Nat.le_refl _)) B0_0.out.lt)
  have B1_1 := Lib.hid (B1_0.out.below (hx.below (Nat.le_refl _)) B1_0.out.lt)
  have B2_1 := Lib.hid (B2_0.out.below (hx.below (Nat.le_refl _)) B2_0.out.lt)
  clear K0 B0_0 B1_0 B2_0 L0 hx
  have r0_0 := B0_1.out.rd 0 rfl
  have r0_1 := B0_1.out.rd 1 rfl
  have r1_0 := B1_1.out.rd 0 rfl
  have r1_1 := B1_1.out.rd 1 rfl
  have r1_2 := B1_1.out.rd 2 rfl
  have r1_3 := B1_1.out.rd 3 rfl
  go_wp2_with fail
  refine (HT.out _ K1.out).mono ?_
  rintro e w2 ⟨rfl, hx⟩
  clear r0_0 r0_1 r1_0 r1_1 r1_2 r1_3
  have K2 := Lib.hid (K1.out.trans ((hx.below (Nat.le_refl _)).mono K1.out.size))
  have L2 := Lib.hid (Nat.le_trans L1.out (hx.below (Nat.le_refl _)).size)
  have B0_2 := Lib.hid (B0_1.out.below (hx.below (Nat.le_refl _)) B0_1.out.lt)
  have B1_2 := Lib.hid (B1_1.out.below (hx.below (Nat.le_refl _)) B1_1.out.lt)
  have B2_2 := Lib.hid (B2_1.out.below (hx.below (Nat.le_refl _)) B2_1.out.lt)
  clear K1 B0_1 B1_1 B2_1 L1 hx
  have r0_0 := B0_2.out.rd 0 rfl
  have r0_1 := B0_2.out.rd 1 rfl
  have r1_0 := B1_2.out.rd 0 rfl
  have r1_1 := B1_2.out.rd 1 rfl
  have r1_2 := B1_2.out.rd 2 rfl
  have r1_3 := B1_2.out.rd 3 rfl
  go_wp2_with fail
  refine (HH.out _ K2.out).mono ?_
  rintro e w3 ⟨rfl, hx⟩
  clear r0_0 r0_1 r1_0 r1_1 r1_2 r1_3
  have K3 := Lib.hid (K2.out.trans ((hx.below (Nat.le_refl _)).mono K2.out.size))
  have L3 := Lib.hid (Nat.le_trans L2.out (hx.below (Nat.le_refl _)).size)
  have B0_3 := Lib.hid (B0_2.out.below (hx.below (Nat.le_refl _)) B0_2.out.lt)
  have B1_3 := Lib.hid (B1_2.out.below (hx.below (Nat.le_refl _)) B1_2.out.lt)
  have B2_3 := Lib.hid (B2_2.out.below (hx.below (Nat.le_refl _)) B2_2.out.lt)
  clear K2 B0_2 B1_2 B2_2 L2 hx
  have r0_0 := B0_3.out.rd 0 rfl
  have r0_1 := B0_3.out.rd 1 rfl
  have r1_0 := B1_3.out.rd 0 rfl
  have r1_1 := B1_3.out.rd 1 rfl
  have r1_2 := B1_3.out.rd 2 rfl
  have r1_3 := B1_3.out.rd 3 rfl
  have r2_0 := B2_3.out.rd 0 rfl
  have r2_1 := B2_3.out.rd 1 rfl
  have z2_0 := B2_3.out.frozen 0
  have z2_1 := B2_3.out.frozen 1
  go_wp2_with fail
  refine bodyPost_ret (v := .tuple #[.agg #[.int .i64 0, .slice none 0 0], .int .i64 5]) (by simp [results, Try.results5, go_sem, r2_0, r2_1, z2_0, z2_1]) rfl ⟨none, 0, rfl, ?_, ?_⟩
  · exact (K3.out.setCell (show w.heap.size ≤ w.heap.size + 2 by omega) _).setCell (show w.heap.size ≤ w.heap.size + 2 by omega) _
  · exact fun h => absurd h (Nat.lt_irrefl _)

set_option maxRecDepth 100000 in
set_option maxHeartbeats 1000000 in
theorem implPut_1 (c0 : Int) (A0 : Option Addr) (n0 q0 : Nat) (ts : List Tl) (x0 x1 x2 x3 : Int) (w : World) (hn0 : n0 ≤ 1048576) (hl0 : ts.length = n0) (hA0 : TR w w.heap.size A0 ts) (hs : isSet c0 ts = false) :
    Calls Try.prog 8 #[.agg #[.int .i64 c0, .slice A0 n0 q0], .agg #[.int .i64 x0, .int .i64 x1, .int .i64 x2, .int .i64 x3]] w (SetRes w 0 [] 1) := by
  have his0 : ∀ W, Below w.heap.size w W → Calls Try.prog 19 #[.agg #[.int .i64 c0, .slice A0 n0 q0]] W _ := fun W hW => isSet_any c0 A0 n0 q0 ts W (by omega) hl0 ((hA0.below hW (Nat.le_refl _)).more hW.size)
  rw [hs] at his0
  have HI0 := Lib.hid his0
  clear his0
  clear hA0
  unfold SetRes
  go_enter Try.func8, Try.ntmps8
  go_wp2_with fail
  have hx0 : Ext w (((w.alloc (Obj.cells #[.int .i64 c0, .slice A0 n0 q0] 29)).alloc (Obj.cells #[.int .i64 x0, .int .i64 x1, .int .i64 x2, .int .i64 x3] 33)).alloc (Obj.cells #[.int .i64 0, .slice none 0 0] 29)) := (((Ext.refl w).alloc _).alloc _).alloc _
  have hb0 : Blk (((w.alloc (Obj.cells #[.int .i64 c0, .slice A0 n0 q0] 29)).alloc (Obj.cells #[.int .i64 x0, .int .i64 x1, .int .i64 x2, .int .i64 x3] 33)).alloc (Obj.cells #[.int .i64 0, .slice none 0 0] 29)) (w.heap.size) 29 #[.int .i64 c0, .slice A0 n0 q0] := by have := ((Blk.new w 29 #[.int .i64 c0, .slice A0 n0 q0]).ext (show Ext (w.alloc (Obj.cells #[.int .i64 c0, .slice A0 n0 q0] 29)) (((w.alloc (Obj.cells #[.int .i64 c0, .slice A0 n0 q0] 29)).alloc (Obj.cells #[.int .i64 x0, .int .i64 x1, .int .i64 x2, .int .i64 x3] 33)).alloc (Obj.cells #[.int .i64 0, .slice none 0 0] 29)) from ((Ext.refl _).alloc _).alloc _)); simpa using this
  have hb1 : Blk (((w.alloc (Obj.cells #[.int .i64 c0, .slice A0 n0 q0] 29)).alloc (Obj.cells #[.int .i64 x0, .int .i64 x1, .int .i64 x2, .int .i64 x3] 33)).alloc (Obj.cells #[.int .i64 0, .slice none 0 0] 29)) (w.heap.size + 1) 33 #[.int .i64 x0, .int .i64 x1, .int .i64 x2, .int .i64 x3] := by have := ((Blk.new (w.alloc (Obj.cells #[.int .i64 c0, .slice A0 n0 q0] 29)) 33 #[.int .i64 x0, .int .i64 x1, .int .i64 x2, .int .i64 x3]).ext (show Ext ((w.alloc (Obj.cells #[.int .i64 c0, .slice A0 n0 q0] 29)).alloc (Obj.cells #[.int .i64 x0, .int .i64 x1, .int .i64 x2, .int .i64 x3] 33)) (((w.alloc (Obj.cells #[.int .i64 c0, .slice A0 n0 q0] 29)).alloc (Obj.cells #[.int .i64 x0, .int .i64 x1, .int .i64 x2, .int .i64 x3] 33)).alloc (Obj.cells #[.int .i64 0, .slice none 0 0] 29)) from (Ext.refl _).alloc _)); simpa using this
  have hb2 : Blk (((w.alloc (Obj.cells #[.int .i64 c0, .slice A0 n0 q0] 29)).alloc (Obj.cells #[.int .i64 x0, .int .i64 x1, .int .i64 x2, .int .i64 x3] 33)).alloc (Obj.cells #[.int .i64 0, .slice none 0 0] 29)) (w.heap.size + 2) 29 #[.int .i64 0, .slice none 0 0] := by have := (Blk.new ((w.alloc (Obj.cells #[.int .i64 c0, .slice A0 n0 q0] 29)).alloc (Obj.cells #[.int .i64 x0, .int .i64 x1, .int .i64 x2, .int .i64 x3] 33)) 29 #[.int .i64 0, .slice none 0 0]); simpa using this
  have K0 := Lib.hid (hx0.below (Nat.le_refl _))
  have L0 := Lib.hid (show w.heap.size + 3 ≤ (((w.alloc (Obj.cells #[.int .i64 c0, .slice A0 n0 q0] 29)).alloc (Obj.cells #[.int .i64 x0, .int .i64 x1, .int .i64 x2, .int .i64 x3] 33)).alloc (Obj.cells #[.int .i64 0, .slice none 0 0] 29)).heap.size by simp)
  have B0_0 := Lib.hid hb0
  have B1_0 := Lib.hid hb1
  have B2_0 := Lib.hid hb2
  clear hx0 hb0 hb1 hb2
  generalize (((w.alloc (Obj.cells #[.int .i64 c0, .slice A0 n0 q0] 29)).alloc (Obj.cells #[.int .i64 x0, .int .i64 x1, .int .i64 x2, .int .i64 x3] 33)).alloc (Obj.cells #[.int .i64 0, .slice none 0 0] 29)) = w0 at *
  refine (HI0.out _ K0.out).mono ?_
  rintro e w1 ⟨rfl, hx⟩
  have K1 := Lib.hid (K0.out.trans ((hx.below (Nat.le_refl _)).mono K0.out.size))
  have L1 := Lib.hid (Nat.le_trans L0.out (hx.below (Nat.le_refl _)).size)
  have B0_1 := Lib.hid (B0_0.out.below (hx.below (Nat.le_refl _)) B0_0.out.lt)
  have B1_1 := Lib.hid (B1_0.out.below (hx.below (Nat.le_refl _)) B1_0.out.lt)
  have B2_1 := Lib.hid (B2_0.out.below (hx.below (Nat.le_refl _)) B2_0.out.lt)
  clear K0 B0_0 B1_0 B2_0 L0 hx
  have r0_0 := B0_1.out.rd 0 rfl
  have r0_1 := B0_1.out.rd 1 rfl
  have r1_0 := B1_1.out.rd 0 rfl
  have r1_1 := B1_1.out.rd 1 rfl
  have r1_2 := B1_1.out.rd 2 rfl
  have r1_3 := B1_1.out.rd 3 rfl
  have r2_0 := B2_1.out.rd 0 rfl
  have r2_1 := B2_1.out.rd 1 rfl
  have z2_0 := B2_1.out.frozen 0
  have z2_1 := B2_1.out.frozen 1
  go_wp2_with fail
  refine bodyPost_ret (v := .tuple #[.agg #[.int .i64 0, .slice none 0 0], .int .i64 1]) (by simp [results, Try.results8, go_sem, r2_0, r2_1, z2_0, z2_1]) rfl ⟨none, 0, rfl, ?_, ?_⟩
  · exact (K1.out.setCell (show w.heap.size ≤ w.heap.size + 2 by omega) _).setCell (show w.heap.size ≤ w.heap.size + 2 by omega) _
  · exact fun h => absurd h (Nat.lt_irrefl _)

set_option maxRecDepth 100000 in
set_option maxHeartbeats 1000000 in
theorem implPut_2 (c0 : Int) (A0 : Option Addr) (n0 q0 : Nat) (ts : List Tl) (x0 x1 x2 x3 : Int) (w : World) (hn0 : n0 ≤ 1048576) (hl0 : ts.length = n0) (hA0 : TR w w.heap.size A0 ts) (hs : isSet c0 ts = true) (ht : tileOk c0 (x0, x1, x2, x3) = false) :
    Calls Try.prog 8 #[.agg #[.int .i64 c0, .slice A0 n0 q0], .agg #[.int .i64 x0, .int .i64 x1, .int .i64 x2, .int .i64 x3]] w (SetRes w 0 [] 2) := by
  have his0 : ∀ W, Below w.heap.size w W → Calls Try.prog 19 #[.agg #[.int .i64 c0, .slice A0 n0 q0]] W _ := fun W hW => isSet_any c0 A0 n0 q0 ts W (by omega) hl0 ((hA0.below hW (Nat.le_refl _)).more hW.size)
  rw [hs] at his0
  have HI0 := Lib.hid his0
  clear his0
  have htv : ∀ W, Below w.heap.size w W → _ := fun W (_ : Below w.heap.size w W) => hasColours_any c0 (x0, x1, x2, x3) W
  rw [ht] at htv
  simp only [tv] at htv
  have HT := Lib.hid htv
  clear htv
  clear hA0
  unfold SetRes
  go_enter Try.func8, Try.ntmps8
  go_wp2_with fail
  have hx0 : Ext w (((w.alloc (Obj.cells #[.int .i64 c0, .slice A0 n0 q0] 29)).alloc (Obj.cells #[.int .i64 x0, .int .i64 x1, .int .i64 x2, .int .i64 x3] 33)).alloc (Obj.cells #[.int .i64 0, .slice none 0 0] 29)) := (((Ext.refl w).alloc _).alloc _).alloc _
  have hb0 : Blk (((w.alloc (Obj.cells #[.int .i64 c0, .slice A0 n0 q0] 29)).alloc (Obj.cells #[.int .i64 x0, .int .i64 x1, .int .i64 x2, .int .i64 x3] 33)).alloc (Obj.cells #[.int .i64 0, .slice none 0 0] 29)) (w.heap.size) 29 #[.int .i64 c0, .slice A0 n0 q0] := by have := ((Blk.new w 29 #[.int .i64 c0, .slice A0 n0 q0]).ext (show Ext (w.alloc (Obj.cells #[.int .i64 c0, .slice A0 n0 q0] 29)) (((w.alloc (Obj.cells #[.int .i64 c0, .slice A0 n0 q0] 29)).alloc (Obj.cells #[.int .i64 x0, .int .i64 x1, .int .i64 x2, .int .i64 x3] 33)).alloc (Obj.cells #[.int .i64 0, .slice none 0 0] 29)) from ((Ext.refl _).alloc _).alloc _)); simpa using this
  have hb1 : Blk (((w.alloc (Obj.cells #[.int .i64 c0, .slice A0 n0 q0] 29)).alloc (Obj.cells #[.int .i64 x0, .int .i64 x1, .int .i64 x2, .int .i64 x3] 33)).alloc (Obj.cells #[.int .i64 0, .slice none 0 0] 29)) (w.heap.size + 1) 33 #[.int .i64 x0, .int .i64 x1, .int .i64 x2, .int .i64 x3] := by have := ((Blk.new (w.alloc (Obj.cells #[.int .i64 c0, .slice A0 n0 q0] 29)) 33 #[.int .i64 x0, .int .i64 x1, .int .i64 x2, .int .i64 x3]).ext (show Ext ((w.alloc (Obj.cells #[.int .i64 c0, .slice A0 n0 q0] 29)).alloc (Obj.cells #[.int .i64 x0, .int .i64 x1, .int .i64 x2, .int .i64 x3] 33)) (((w.alloc (Obj.cells #[.int .i64 c0, .slice A0 n0 q0] 29)).alloc (Obj.cells #[.int .i64 x0, .int .i64 x1, .int .i64 x2, .int .i64 x3] 33)).alloc (Obj.cells #[.int .i64 0, .slice none 0 0] 29)) from (Ext.refl _).alloc _)); simpa using this
  have hb2 : Blk (((w.alloc (Obj.cells #[.int .i64 c0, .slice A0 n0 q0] 29)).alloc (Obj.cells #[.int .i64 x0, .int .i64 x1, .int .i64 x2, .int .i64 x3] 33)).alloc (Obj.cells #[.int .i64 0, .slice none 0 0] 29)) (w.heap.size + 2) 29 #[.int .i64 0, .slice none 0 0] := by have := (Blk.new ((w.alloc (Obj.cells #[.int .i64 c0, .slice A0 n0 q0] 29)).alloc (Obj.cells #[.int .i64 x0, .int .i64 x1, .int .i64 x2, .int .i64 x3] 33)) 29 #[.int .i64 0, .slice none 0 0]); simpa using this
  have K0 := Lib.hid (hx0.below (Nat.le_refl _))
  have L0 := Lib.hid (show w.heap.size + 3 ≤ (((w.alloc (Obj.cells #[.int .i64 c0, .slice A0 n0 q0] 29)).alloc (Obj.cells #[.int .i64 x0, .int .i64 x1, .int .i64 x2, .int .i64 x3] 33)).alloc (Obj.cells #[.int .i64 0, .slice none 0 0] 29)).heap.size by simp)
  have B0_0 := Lib.hid hb0
  have B1_0 := Lib.hid hb1
  have B2_0 := Lib.hid hb2
  clear hx0 hb0 hb1 hb2
  generalize (((w.alloc (Obj.cells #[.int .i64 c0, .slice A0 n0 q0] 29)).alloc (Obj.cells #[.int .i64 x0, .int .i64 x1, .int .i64 x2, .int .i64 x3] 33)).alloc (Obj.cells #[.int .i64 0, .slice none 0 0] 29)) = w0 at *
  refine (HI0.out _ K0.out).mono ?_
  rintro e w1 ⟨rfl, hx⟩
  have K1 := Lib.hid (K0.out.trans ((hx.below (Nat.le_refl _)).mono K0.out.size))
  have L1 := Lib.hid (Nat.le_trans L0.out (hx.below (Nat.le_refl _)).size)
  have B0_1 := Lib.hid (B0_0.out.below (hx.below (Nat.le_refl _)) B0_0.out.lt)
  have B1_1 := Lib.hid (B1_0.out.below (hx.below (Nat.le_refl _)) B1_0.out.lt)
  have B2_1 := Lib.hid (B2_0.out.below (hx.below (Nat.le_refl _)) B2_0.out.lt)
  clear K0 B0_0 B1_0 B2_0 L0 hx
  have r0_0 := B0_1.out.rd 0 rfl
  have r0_1 := B0_1.out.rd 1 rfl
  have r1_0 := B1_1.out.rd 0 rfl
  have r1_1 := B1_1.out.rd 1 rfl
  have r1_2 := B1_1.out.rd 2 rfl
  have r1_3 := B1_1.out.rd 3 rfl
  go_wp2_with fail
  refine (HT.out _ K1.out).mono ?_
  rintro e w2 ⟨rfl, hx⟩
  clear r0_0 r0_1 r1_0 r1_1 r1_2 r1_3
  have K2 := Lib.hid (K1.out.trans ((hx.below (Nat.le_refl _)).mono K1.out.size))
  have L2 := Lib.hid (Nat.le_trans L1.out (hx.below (Nat.le_refl _)).size)
  have B0_2 := Lib.hid (B0_1.out.below (hx.below (Nat.le_refl _)) B0_1.out.lt)
  have B1_2 := Lib.hid (B1_1.out.below (hx.below (Nat.le_refl _)) B1_1.out.lt)
  have B2_2 := Lib.hid (B2_1.out.below (hx.below (Nat.le_refl _)) B2_1.out.lt)
  clear K1 B0_1 B1_1 B2_1 L1 hx
  have r0_0 := B0_2.out.rd 0 rfl
  have r0_1 := B0_2.out.rd 1 rfl
  have r1_0 := B1_2.out.rd 0 rfl
  have r1_1 := B1_2.out.rd 1 rfl
  have r1_2 := B1_2.out.rd 2 rfl
  have r1_3 := B1_2.out.rd 3 rfl
  have r2_0 := B2_2.out.rd 0 rfl
  have r2_1 := B2_2.out.rd 1 rfl
  have z2_0 := B2_2.out.frozen 0
  have z2_1 := B2_2.out.frozen 1
  go_wp2_with fail
  refine bodyPost_ret (v := .tuple #[.agg #[.int .i64 0, .slice none 0 0], .int .i64 2]) (by simp [results, Try.results8, go_sem, r2_0, r2_1, z2_0, z2_1]) rfl ⟨none, 0, rfl, ?_, ?_⟩
  · exact (K2.out.setCell (show w.heap.size ≤ w.heap.size + 2 by omega) _).setCell (show w.heap.size ≤ w.heap.size + 2 by omega) _
  · exact fun h => absurd h (Nat.lt_irrefl _)

set_option maxRecDepth 100000 in
set_option maxHeartbeats 1000000 in
theorem implPut_5 (c0 : Int) (A0 : Option Addr) (n0 q0 : Nat) (ts : List Tl) (x0 x1 x2 x3 : Int) (w : World) (hn0 : n0 ≤ 1048576) (hl0 : ts.length = n0) (hA0 : TR w w.heap.size A0 ts) (hs : isSet c0 ts = true) (ht : tileOk c0 (x0, x1, x2, x3) = true) (hh : decide ((x0, x1, x2, x3) ∈ ts) = true) :
    Calls Try.prog 8 #[.agg #[.int .i64 c0, .slice A0 n0 q0], .agg #[.int .i64 x0, .int .i64 x1, .int .i64 x2, .int .i64 x3]] w (SetRes w 0 [] 5) := by
  have his0 : ∀ W, Below w.heap.size w W → Calls Try.prog 19 #[.agg #[.int .i64 c0, .slice A0 n0 q0]] W _ := fun W hW => isSet_any c0 A0 n0 q0 ts W (by omega) hl0 ((hA0.below hW (Nat.le_refl _)).more hW.size)
  rw [hs] at his0
  have HI0 := Lib.hid his0
  clear his0
  have htv : ∀ W, Below w.heap.size w W → _ := fun W (_ : Below w.heap.size w W) => hasColours_any c0 (x0, x1, x2, x3) W
  rw [ht] at htv
  simp only [tv] at htv
  have HT := Lib.hid htv
  clear htv
  have hhv : ∀ W, Below w.heap.size w W → _ := fun W (hW : Below w.heap.size w W) => hasTile_any c0 A0 n0 q0 ts (x0, x1, x2, x3) W (by omega) hl0 ((hA0.below hW (Nat.le_refl _)).more hW.size)
  rw [hh] at hhv
  simp only [tv] at hhv
  have HH := Lib.hid hhv
  clear hhv
  clear hA0
  unfold SetRes
  go_enter Try.func8, Try.ntmps8
  go_wp2_with fail
  have hx0 : Ext w (((w.alloc (Obj.cells #[.int .i64 c0, .slice A0 n0 q0] 29)).alloc (Obj.cells #[.int .i64 x0, .int .i64 x1, .int .i64 x2, .int .i64 x3] 33)).alloc (Obj.cells #[.int .i64 0, .slice none 0 0] 29)) := (((Ext.refl w).alloc _).alloc _).alloc _
  have hb0 : Blk (((w.alloc (Obj.cells #[.int .i64 c0, .slice A0 n0 q0] 29)).alloc (Obj.cells #[.int .i64 x0, .int .i64 x1, .int .i64 x2, .int .i64 x3] 33)).alloc (Obj.cells #[.int .i64 0, .slice none 0 0] 29)) (w.heap.size) 29 #[.int .i64 c0, .slice A0 n0 q0] := by have := ((Blk.new w 29 #[.int .i64 c0, .slice A0 n0 q0]).ext (show Ext (w.alloc (Obj.cells #[.int .i64 c0, .slice A0 n0 q0] 29)) (((w.alloc (Obj.cells #[.int .i64 c0, .slice A0 n0 q0] 29)).alloc (Obj.cells #[.int .i64 x0, .int .i64 x1, .int .i64 x2, .int .i64 x3] 33)).alloc (Obj.cells #[.int .i64 0, .slice none 0 0] 29)) from ((Ext.refl _).alloc _).alloc _)); simpa using this
  have hb1 : Blk (((w.alloc (Obj.cells #[.int .i64 c0, .slice A0 n0 q0] 29)).alloc (Obj.cells #[.int .i64 x0, .int .i64 x1, .int .i64 x2, .int .i64 x3] 33)).alloc (Obj.cells #[.int .i64 0, .slice none 0 0] 29)) (w.heap.size + 1) 33 #[.int .i64 x0, .int .i64 x1, .int .i64 x2, .int .i64 x3] := by have := ((Blk.new (w.alloc (Obj.cells #[.int .i64 c0, .slice A0 n0 q0] 29)) 33 #[.int .i64 x0, .int .i64 x1, .int .i64 x2, .int .i64 x3]).ext (show Ext ((w.alloc (Obj.cells #[.int .i64 c0, .slice A0 n0 q0] 29)).alloc (Obj.cells #[.int .i64 x0, .int .i64 x1, .int .i64 x2, .int .i64 x3] 33)) (((w.alloc (Obj.cells #[.int .i64 c0, .slice A0 n0 q0] 29)).alloc (Obj.cells #[.int .i64 x0, .int .i64 x1, .int .i64 x2, .int .i64 x3] 33)).alloc (Obj.cells #[.int .i64 0, .slice none 0 0] 29)) from (Ext.refl _).alloc _)); simpa using this
  have hb2 : Blk (((w.alloc (Obj.cells #[.int .i64 c0, .slice A0 n0 q0] 29)).alloc (Obj.cells #[.int .i64 x0, .int .i64 x1, .int .i64 x2, .int .i64 x3] 33)).alloc (Obj.cells #[.int .i64 0, .slice none 0 0] 29)) (w.heap.size + 2) 29 #[.int .i64 0, .slice none 0 0] := by have := (Blk.new ((w.alloc (Obj.cells #[.int .i64 c0, .slice A0 n0 q0] 29)).alloc (Obj.cells #[.int .i64 x0, .int .i64 x1, .int .i64 x2, .int .i64 x3] 33)) 29 #[.int .i64 0, .slice none 0 0]); simpa using this
  have K0 := Lib.hid (hx0.below (Nat.le_refl _))
  have L0 := Lib.hid (show w.heap.size + 3 ≤ (((w.alloc (Obj.cells #[.int .i64 c0, .slice A0 n0 q0] 29)).alloc (Obj.cells #[.int .i64 x0, .int .i64 x1, .int .i64 x2, .int .i64 x3] 33)).alloc (Obj.cells #[.int .i64 0, .slice none 0 0] 29)).heap.size by simp)
  have B0_0 := Lib.hid hb0
  have B1_0 := Lib.hid hb1
  have B2_0 := Lib.hid hb2
  clear hx0 hb0 hb1 hb2
  generalize (((w.alloc (Obj.cells #[.int .i64 c0, .slice A0 n0 q0] 29)).alloc (Obj.cells #[.int .i64 x0, .int .i64 x1, .int .i64 x2, .int .i64 x3] 33)).alloc (Obj.cells #[.int .i64 0, .slice none 0 0] 29)) = w0 at *
  refine (HI0.out _ K0.out).mono ?_
  rintro e w1 ⟨rfl, hx⟩
  have K1 := Lib.hid (K0.out.trans ((hx.below (Nat.le_refl _)).mono K0.out.size))
  have L1 := Lib.hid (Nat.le_trans L0.out (hx.below (Nat.le_refl _)).size)
  have B0_1 := Lib.hid (B0_0.out.below (hx.below (Nat.le_refl _)) B0_0.out.lt)
  have B1_1 := Lib.hid (B1_0.out.below (hx.below (Nat.le_refl _)) B1_0.out.lt)
  have B2_1 := Lib.hid (B2_0.out.below (hx.below (Nat.le_refl _)) B2_0.out.lt)
  clear K0 B0_0 B1_0 B2_0 L0 hx
  have r0_0 := B0_1.out.rd 0 rfl
  have r0_1 := B0_1.out.rd 1 rfl
  have r1_0 := B1_1.out.rd 0 rfl
  have r1_1 := B1_1.out.rd 1 rfl
  have r1_2 := B1_1.out.rd 2 rfl
  have r1_3 := B1_1.out.rd 3 rfl
  go_wp2_with fail
  refine (HT.out _ K1.out).mono ?_
  rintro e w2 ⟨rfl, hx⟩
  clear r0_0 r0_1 r1_0 r1_1 r1_2 r1_3
  have K2 := Lib.hid (K1.out.trans ((hx.below (Nat.le_refl _)).mono K1.out.size))
  have L2 := Lib.hid (Nat.le_trans L1.out (hx.below (Nat.le_refl _)).size)
  have B0_2 := Lib.hid (B0_1.out.below (hx.below (Nat.le_refl _)) B0_1.out.lt)
  have B1_2 := Lib.hid (B1_1.out.below (hx.below (Nat.le_refl _)) B1_1.out.lt)
  have B2_2 := Lib.hid (B2_1.out.below (hx.below (Nat.le_refl _)) B2_1.out.lt)
  clear K1 B0_1 B1_1 B2_1 L1 hx
  have r0_0 := B0_2.out.rd 0 rfl
  have r0_1 := B0_2.out.rd 1 rfl
  have r1_0 := B1_2.out.rd 0 rfl
  have r1_1 := B1_2.out.rd 1 rfl
  have r1_2 := B1_2.out.rd 2 rfl
  have r1_3 := B1_2.out.rd 3 rfl
  go_wp2_with fail
  refine (HH.out _ K2.out).mono ?_
  rintro e w3 ⟨rfl, hx⟩
  clear r0_0 r0_1 r1_0 r1_1 r1_2 r1_3
  have K3 := Lib.hid (K2.out.trans ((hx.below (Nat.le_refl _)).mono K2.out.size))
  have L3 := Lib.hid (Nat.le_trans L2.out (hx.below (Nat.le_refl _)).size)
  have B0_3 := Lib.hid (B0_2.out.below (hx.below (Nat.le_refl _)) B0_2.out.lt)
  have B1_3 := Lib.hid (B1_2.out.below (hx.below (Nat.le_refl _)) B1_2.out.lt)
  have B2_3 := Lib.hid (B2_2.out.below (hx.below (Nat.le_refl _)) B2_2.out.lt)
  clear K2 B0_2 B1_2 B2_2 L2 hx
  have r0_0 := B0_3.out.rd 0 rfl
  have r0_1 := B0_3.out.rd 1 rfl
  have r1_0 := B1_3.out.rd 0 rfl
  have r1_1 := B1_3.out.rd 1 rfl
  have r1_2 := B1_3.out.rd 2 rfl
  have r1_3 := B1_3.out.rd 3 rfl
  have r2_0 := B2_3.out.rd 0 rfl
  have r2_1 := B2_3.out.rd 1 rfl
  have z2_0 := B2_3.out.frozen 0
  have z2_1 := B2_3.out.frozen 1
  go_wp2_with fail
  refine bodyPost_ret (v := .tuple #[.agg #[.int .i64 0, .slice none 0 0], .int .i64 5]) (by simp [results, Try.results8, go_sem, r2_0, r2_1, z2_0, z2_1]) rfl ⟨none, 0, rfl, ?_, ?_⟩
  · exact (K3.out.setCell (show w.heap.size ≤ w.heap.size + 2 by omega) _).setCell (show w.heap.size ≤ w.heap.size + 2 by omega) _
  · exact fun h => absurd h (Nat.lt_irrefl _)

set_option maxRecDepth 100000 in
set_option maxHeartbeats 1000000 in
theorem implPut_3 (c0 : Int) (A0 : Option Addr) (n0 q0 : Nat) (ts : List Tl) (x0 x1 x2 x3 : Int) (w : World) (hn0 : n0 ≤ 1048576) (hl0 : ts.length = n0) (hA0 : TR w w.heap.size A0 ts) (hs : isSet c0 ts = true) (ht : tileOk c0 (x0, x1, x2, x3) = true) (hh : decide ((x0, x1, x2, x3) ∈ ts) = false) (h16 : n0 = 16) :
    Calls Try.prog 8 #[.agg #[.int .i64 c0, .slice A0 n0 q0], .agg #[.int .i64 x0, .int .i64 x1, .int .i64 x2, .int .i64 x3]] w (SetRes w 0 [] 3) := by
  subst h16
  have his0 : ∀ W, Below w.heap.size w W → Calls Try.prog 19 #[.agg #[.int .i64 c0, .slice A0 16 q0]] W _ := fun W hW => isSet_any c0 A0 16 q0 ts W (by omega) hl0 ((hA0.below hW (Nat.le_refl _)).more hW.size)
  rw [hs] at his0
  have HI0 := Lib.hid his0
  clear his0
  have htv : ∀ W, Below w.heap.size w W → _ := fun W (_ : Below w.heap.size w W) => hasColours_any c0 (x0, x1, x2, x3) W
  rw [ht] at htv
  simp only [tv] at htv
  have HT := Lib.hid htv
  clear htv
  have hhv : ∀ W, Below w.heap.size w W → _ := fun W (hW : Below w.heap.size w W) => hasTile_any c0 A0 16 q0 ts (x0, x1, x2, x3) W (by omega) hl0 ((hA0.below hW (Nat.le_refl _)).more hW.size)
  rw [hh] at hhv
  simp only [tv] at hhv
  have HH := Lib.hid hhv
  clear hhv
  clear hA0
  unfold SetRes
  go_enter Try.func8, Try.ntmps8
  go_wp2_with fail
  have hx0 : Ext w (((w.alloc (Obj.cells #[.int .i64 c0, .slice A0 16 q0] 29)).alloc (Obj.cells #[.int .i64 x0, .int .i64 x1, .int .i64 x2, .int .i64 x3] 33)).alloc (Obj.cells #[.int .i64 0, .slice none 0 0] 29)) := (((Ext.refl w).alloc _).alloc _).alloc _
  have hb0 : Blk (((w.alloc (Obj.cells #[.int .i64 c0, .slice A0 16 q0] 29)).alloc (Obj.cells #[.int .i64 x0, .int .i64 x1, .int .i64 x2, .int .i64 x3] 33)).alloc (Obj.cells #[.int .i64 0, .slice none 0 0] 29)) (w.heap.size) 29 #[.int .i64 c0, .slice A0 16 q0] := by have := ((Blk.new w 29 #[.int .i64 c0, .slice A0 16 q0]).ext (show Ext (w.alloc (Obj.cells #[.int .i64 c0, .slice A0 16 q0] 29)) (((w.alloc (Obj.cells #[.int .i64 c0, .slice A0 16 q0] 29)).alloc (Obj.cells #[.int .i64 x0, .int .i64 x1, .int .i64 x2, .int .i64 x3] 33)).alloc (Obj.cells #[.int .i64 0, .slice none 0 0] 29)) from ((Ext.refl _).alloc _).alloc _)); simpa using this
  have hb1 : Blk (((w.alloc (Obj.cells #[.int .i64 c0, .slice A0 16 q0] 29)).alloc (Obj.cells #[.int .i64 x0, .int .i64 x1, .int .i64 x2, .int .i64 x3] 33)).alloc (Obj.cells #[.int .i64 0, .slice none 0 0] 29)) (w.heap.size + 1) 33 #[.int .i64 x0, .int .i64 x1, .int .i64 x2, .int .i64 x3] := by have := ((Blk.new (w.alloc (Obj.cells #[.int .i64 c0, .slice A0 16 q0] 29)) 33 #[.int .i64 x0, .int .i64 x1, .int .i64 x2, .int .i64 x3]).ext (show Ext ((w.alloc (Obj.cells #[.int .i64 c0, .slice A0 16 q0] 29)).alloc (Obj.cells #[.int .i64 x0, .int .i64 x1, .int .i64 x2, .int .i64 x3] 33)) (((w.alloc (Obj.cells #[.int .i64 c0, .slice A0 16 q0] 29)).alloc (Obj.cells #[.int .i64 x0, .int .i64 x1, .int .i64 x2, .int .i64 x3] 33)).alloc (Obj.cells #[.int .i64 0, .slice none 0 0] 29)) from (Ext.refl _).alloc _)); simpa using this
  have hb2 : Blk (((w.alloc (Obj.cells #[.int .i64 c0, .slice A0 16 q0] 29)).alloc (Obj.cells #[.int .i64 x0, .int .i64 x1, .int .i64 x2, .int .i64 x3] 33)).alloc (Obj.cells #[.int .i64 0, .slice none 0 0] 29)) (w.heap.size + 2) 29 #[.int .i64 0, .slice none 0 0] := by have := (Blk.new ((w.alloc (Obj.cells #[.int .i64 c0, .slice A0 16 q0] 29)).alloc (Obj.cells #[.int .i64 x0, .int .i64 x1, .int .i64 x2, .int .i64 x3] 33)) 29 #[.int .i64 0, .slice none 0 0]); simpa using this
  have K0 := Lib.hid (hx0.below (Nat.le_refl _))
  have L0 := Lib.hid (show w.heap.size + 3 ≤ (((w.alloc (Obj.cells #[.int .i64 c0, .slice A0 16 q0] 29)).alloc (Obj.cells #[.int .i64 x0, .int .i64 x1, .int .i64 x2, .int .i64 x3] 33)).alloc (Obj.cells #[.int .i64 0, .slice none 0 0] 29)).heap.size by simp)
  have B0_0 := Lib.hid hb0
  have B1_0 := Lib.hid hb1
  have B2_0 := Lib.hid hb2
  clear hx0 hb0 hb1 hb2
  generalize (((w.alloc (Obj.cells #[.int .i64 c0, .slice A0 16 q0] 29)).alloc (Obj.cells #[.int .i64 x0, .int .i64 x1, .int .i64 x2, .int .i64 x3] 33)).alloc (Obj.cells #[.int .i64 0, .slice none 0 0] 29)) = w0 at *
  refine (HI0.out _ K0.out).mono ?_
  rintro e w1 ⟨rfl, hx⟩
  have K1 := Lib.hid (K0.out.trans ((hx.below (Nat.le_refl _)).mono K0.out.size))
  have L1 := Lib.hid (Nat.le_trans L0.out (hx.below (Nat.le_refl _)).size)
  have B0_1 := Lib.hid (B0_0.out.below (hx.below (Nat.le_refl _)) B0_0.out.lt)
  have B1_1 := Lib.hid (B1_0.out.below (hx.below (Nat.le_refl _)) B1_0.out.lt)
  have B2_1 := Lib.hid (B2_0.out.below (hx.below (Nat.le_refl _)) B2_0.out.lt)
  clear K0 B0_0 B1_0 B2_0 L0 hx
  have r0_0 := B0_1.out.rd 0 rfl
  have r0_1 := B0_1.out.rd 1 rfl
  have r1_0 := B1_1.out.rd 0 rfl
  have r1_1 := B1_1.out.rd 1 rfl
  have r1_2 := B1_1.out.rd 2 rfl
  have r1_3 := B1_1.out.rd 3 rfl
  go_wp2_with fail
  refine (HT.out _ K1.out).mono ?_
  rintro e w2 ⟨rfl, hx⟩
  clear r0_0 r0_1 r1_0 r1_1 r1_2 r1_3
  have K2 := Lib.hid (K1.out.trans ((hx.below (Nat.le_refl _)).mono K1.out.size))
  have L2 := Lib.hid (Nat.le_trans L1.out (hx.below (Nat.le_refl _)).size)
  have B0_2 := Lib.hid (B0_1.out.below (hx.below (Nat.le_refl _)) B0_1.out.lt)
  have B1_2 := Lib.hid (B1_1.out.below (hx.below (Nat.le_refl _)) B1_1.out.lt)
  have B2_2 := Lib.hid (B2_1.out.below (hx.below (Nat.le_refl _)) B2_1.out.lt)
  clear K1 B0_1 B1_1 B2_1 L1 hx
  have r0_0 := B0_2.out.rd 0 rfl
  have r0_1 := B0_2.out.rd 1 rfl
  have r1_0 := B1_2.out.rd 0 rfl
  have r1_1 := B1_2.out.rd 1 rfl
  have r1_2 := B1_2.out.rd 2 rfl
  have r1_3 := B1_2.out.rd 3 rfl
  go_wp2_with fail
  refine (HH.out _ K2.out).mono ?_
  rintro e w3 ⟨rfl, hx⟩
  clear r0_0 r0_1 r1_0 r1_1 r1_2 r1_3
  have K3 := Lib.hid (K2.out.trans ((hx.below (Nat.le_refl _)).mono K2.out.size))
  have L3 := Lib.hid (Nat.le_trans L2.out (hx.below (Nat.le_refl _)).size)
  have B0_3 := Lib.hid (B0_2.out.below (hx.below (Nat.le_refl _)) B0_2.out.lt)
  have B1_3 := Lib.hid (B1_2.out.below (hx.below (Nat.le_refl _)) B1_2.out.lt)
  have B2_3 := Lib.hid (B2_2.out.below (hx.below (Nat.le_refl _)) B2_2.out.lt)
  clear K2 B0_2 B1_2 B2_2 L2 hx
  have r0_0 := B0_3.out.rd 0 rfl
  have r0_1 := B0_3.out.rd 1 rfl
  have r1_0 := B1_3.out.rd 0 rfl
  have r1_1 := B1_3.out.rd 1 rfl
  have r1_2 := B1_3.out.rd 2 rfl
  have r1_3 := B1_3.out.rd 3 rfl
  have r2_0 := B2_3.out.rd 0 rfl
  have r2_1 := B2_3.out.rd 1 rfl
  have z2_0 := B2_3.out.frozen 0
  have z2_1 := B2_3.out.frozen 1
  go_wp2_with fail
  refine bodyPost_ret (v := .tuple #[.agg #[.int .i64 0, .slice none 0 0], .int .i64 3]) (by simp [results, Try.results8, go_sem, r2_0, r2_1, z2_0, z2_1]) rfl ⟨none, 0, rfl, ?_, ?_⟩
  · exact (K3.out.setCell (show w.heap.size ≤ w.heap.size + 2 by omega) _).setCell (show w.heap.size ≤ w.heap.size + 2 by omega) _
  · exact fun h => absurd h (Nat.lt_irrefl _)

end Go.Proofs.Ytfacdmkcklimjaa
