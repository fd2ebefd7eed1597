/- PowerOf: its errors. -/
import Derived.Test.YtcakbnfpmpdljaaPw1
import Derived.Lib.Hide
namespace Go.Proofs.Ytcakbnfpmpdljaa
set_option linter.unusedVariables false
set_option linter.unusedSimpArgs false
open Go.RowKit Go.Sort

set_option maxRecDepth 100000 in
set_option maxHeartbeats 1000000 in
theorem specPowerOf_1 (c0 : Int) (A0 : Option Addr) (n0 q0 : Nat) (ts : List Tl) (k : Int) (w : World) (hn0 : n0 ≤ 1048576) (hl0 : ts.length = n0) (hA0 : TR w w.heap.size A0 ts) (hs0 : isSet c0 ts = false) :
    Calls Try.prog 28 #[.agg #[.int .i64 c0, .slice A0 n0 q0], .int .i64 k] w (SetRes w 0 [] 1) := by
  have his0 : ∀ W, Below w.heap.size w W → Calls Try.prog 47 #[.agg #[.int .i64 c0, .slice A0 n0 q0]] W _ := fun W hW => l01Is_any c0 A0 n0 q0 ts W (by omega) hl0 ((hA0.below hW (Nat.le_refl _)).more hW.size)
  rw [hs0] at his0
  have HI0 := Lib.hid his0
  clear his0
  clear hA0
  unfold SetRes
  go_enter Try.func28, Try.ntmps28
  go_wp2_with fail
  have hx0 : Ext w ((w.alloc (Obj.cells #[.int .i64 c0, .slice A0 n0 q0] 29)).alloc (Obj.cells #[.int .i64 0, .slice none 0 0] 29)) := ((Ext.refl w).alloc _).alloc _
  have hb0 : Blk ((w.alloc (Obj.cells #[.int .i64 c0, .slice A0 n0 q0] 29)).alloc (Obj.cells #[.int .i64 0, .slice none 0 0] 29)) (w.heap.size) 29 #[.int .i64 c0, .slice A0 n0 q0] := by have := ((Blk.new w 29 #[.int .i64 c0, .slice A0 n0 q0]).ext (show Ext (w.alloc (Obj.cells #[.int .i64 c0, .slice A0 n0 q0] 29)) ((w.alloc (Obj.cells #[.int .i64 c0, .slice A0 n0 q0] 29)).alloc (Obj.cells #[.int .i64 0, .slice none 0 0] 29)) from (Ext.refl _).alloc _)); simpa using this
  have hb1 : Blk ((w.alloc (Obj.cells #[.int .i64 c0, .slice A0 n0 q0] 29)).alloc (Obj.cells #[.int .i64 0, .slice none 0 0] 29)) (w.heap.size + 1) 29 #[.int .i64 0, .slice none 0 0] := by have := (Blk.new (w.alloc (Obj.cells #[.int .i64 c0, .slice A0 n0 q0] 29)) 29 #[.int .i64 0, .slice none 0 0]); simpa using this
  have K0 := Lib.hid (hx0.below (Nat.le_refl _))
  have L0 := Lib.hid (show w.heap.size + 2 ≤ ((w.alloc (Obj.cells #[.int .i64 c0, .slice A0 n0 q0] 29)).alloc (Obj.cells #[.int .i64 0, .slice none 0 0] 29)).heap.size by simp)
  have B0_0 := Lib.hid hb0
  have B1_0 := Lib.hid hb1
  clear hx0 hb0 hb1
  generalize ((w.alloc (Obj.cells #[.int .i64 c0, .slice A0 n0 q0] 29)).alloc (Obj.cells #[.int .i64 0, .slice none 0 0] 29)) = w0 at *
  refine (HI0.out _ K0.out).mono ?_
  rintro e w1 ⟨rfl, hx⟩
  have K1 := Lib.hid (K0.out.trans ((hx.below (Nat.le_refl _)).mono K0.out.size))
  have L1 := Lib.hid (Nat.le_trans L0.out (hx.below (Nat.le_refl _)).size)
  have B0_1 := Lib.hid (B0_0.out.below (hx.below (Nat.le_refl _)) B0_0.out.lt)
  have B1_1 := Lib.hid (B1_0.out.below (hx.below (Nat.le_refl _)) B1_0.out.lt)
  clear K0 B0_0 B1_0 L0 hx
  have r0_0 := B0_1.out.rd 0 rfl
  have r0_1 := B0_1.out.rd 1 rfl
  have r1_0 := B1_1.out.rd 0 rfl
  have r1_1 := B1_1.out.rd 1 rfl
  have z1_0 := B1_1.out.frozen 0
  have z1_1 := B1_1.out.frozen 1
  go_wp2_with fail
  refine bodyPost_ret (v := .tuple #[.agg #[.int .i64 0, .slice none 0 0], .int .i64 1]) (by simp [results, Try.results28, go_sem, r1_0, r1_1, z1_0, z1_1]) rfl ⟨none, 0, rfl, ?_, ?_⟩
  · exact (K1.out.setCell (show w.heap.size ≤ w.heap.size + 1 by omega) _).setCell (show w.heap.size ≤ w.heap.size + 1 by omega) _
  · exact fun h => absurd h (Nat.lt_irrefl _)

set_option maxRecDepth 100000 in
set_option maxHeartbeats 1000000 in
theorem specPowerOf_2 (c0 : Int) (A0 : Option Addr) (n0 q0 : Nat) (ts : List Tl) (k : Int) (w : World) (hn0 : n0 ≤ 1048576) (hl0 : ts.length = n0) (hA0 : TR w w.heap.size A0 ts) (hs0 : isSet c0 ts = true) (hkd : decide (1 ≤ k ∧ k ≤ 4) = false) :
    Calls Try.prog 28 #[.agg #[.int .i64 c0, .slice A0 n0 q0], .int .i64 k] w (SetRes w 0 [] 2) := by
  have his0 : ∀ W, Below w.heap.size w W → Calls Try.prog 47 #[.agg #[.int .i64 c0, .slice A0 n0 q0]] W _ := fun W hW => l01Is_any c0 A0 n0 q0 ts W (by omega) hl0 ((hA0.below hW (Nat.le_refl _)).more hW.size)
  rw [hs0] at his0
  have HI0 := Lib.hid his0
  clear his0
  have hin : ∀ W, Below w.heap.size w W → Calls Try.prog 66 #[.int .i64 k, .int .i64 1, .int .i64 4] W _ := fun W _ => l01In_any k 1 4 W
  rw [hkd] at hin
  have HIN := Lib.hid hin
  clear hin hkd
  clear hA0
  unfold SetRes
  go_enter Try.func28, Try.ntmps28
  go_wp2_with fail
  have hx0 : Ext w ((w.alloc (Obj.cells #[.int .i64 c0, .slice A0 n0 q0] 29)).alloc (Obj.cells #[.int .i64 0, .slice none 0 0] 29)) := ((Ext.refl w).alloc _).alloc _
  have hb0 : Blk ((w.alloc (Obj.cells #[.int .i64 c0, .slice A0 n0 q0] 29)).alloc (Obj.cells #[.int .i64 0, .slice none 0 0] 29)) (w.heap.size) 29 #[.int .i64 c0, .slice A0 n0 q0] := by have := ((Blk.new w 29 #[.int .i64 c0, .slice A0 n0 q0]).ext (show Ext (w.alloc (Obj.cells #[.int .i64 c0, .slice A0 n0 q0] 29)) ((w.alloc (Obj.cells #[.int .i64 c0, .slice A0 n0 q0] 29)).alloc (Obj.cells #[.int .i64 0, .slice none 0 0] 29)) from (Ext.refl _).alloc _)); simpa using this
  have hb1 : Blk ((w.alloc (Obj.cells #[.int .i64 c0, .slice A0 n0 q0] 29)).alloc (Obj.cells #[.int .i64 0, .slice none 0 0] 29)) (w.heap.size + 1) 29 #[.int .i64 0, .slice none 0 0] := by have := (Blk.new (w.alloc (Obj.cells #[.int .i64 c0, .slice A0 n0 q0] 29)) 29 #[.int .i64 0, .slice none 0 0]); simpa using this
  have K0 := Lib.hid (hx0.below (Nat.le_refl _))
  have L0 := Lib.hid (show w.heap.size + 2 ≤ ((w.alloc (Obj.cells #[.int .i64 c0, .slice A0 n0 q0] 29)).alloc (Obj.cells #[.int .i64 0, .slice none 0 0] 29)).heap.size by simp)
  have B0_0 := Lib.hid hb0
  have B1_0 := Lib.hid hb1
  clear hx0 hb0 hb1
  generalize ((w.alloc (Obj.cells #[.int .i64 c0, .slice A0 n0 q0] 29)).alloc (Obj.cells #[.int .i64 0, .slice none 0 0] 29)) = w0 at *
  refine (HI0.out _ K0.out).mono ?_
  rintro e w1 ⟨rfl, hx⟩
  have K1 := Lib.hid (K0.out.trans ((hx.below (Nat.le_refl _)).mono K0.out.size))
  have L1 := Lib.hid (Nat.le_trans L0.out (hx.below (Nat.le_refl _)).size)
  have B0_1 := Lib.hid (B0_0.out.below (hx.below (Nat.le_refl _)) B0_0.out.lt)
  have B1_1 := Lib.hid (B1_0.out.below (hx.below (Nat.le_refl _)) B1_0.out.lt)
  clear K0 B0_0 B1_0 L0 hx
  have r0_0 := B0_1.out.rd 0 rfl
  have r0_1 := B0_1.out.rd 1 rfl
  go_wp2_with fail
  refine (HIN.out _ K1.out).mono ?_
  rintro e w2 ⟨rfl, rfl⟩
  have r1_0 := B1_1.out.rd 0 rfl
  have r1_1 := B1_1.out.rd 1 rfl
  have z1_0 := B1_1.out.frozen 0
  have z1_1 := B1_1.out.frozen 1
  go_wp2_with fail
  refine bodyPost_ret (v := .tuple #[.agg #[.int .i64 0, .slice none 0 0], .int .i64 2]) (by simp [results, Try.results28, go_sem, r1_0, r1_1, z1_0, z1_1]) rfl ⟨none, 0, rfl, ?_, ?_⟩
  · exact (K1.out.setCell (show w.heap.size ≤ w.heap.size + 1 by omega) _).setCell (show w.heap.size ≤ w.heap.size + 1 by omega) _
  · exact fun h => absurd h (Nat.lt_irrefl _)

set_option maxRecDepth 100000 in
set_option maxHeartbeats 1000000 in
theorem implPowerOf_1 (c0 : Int) (A0 : Option Addr) (n0 q0 : Nat) (ts : List Tl) (k : Int) (w : World) (hn0 : n0 ≤ 1048576) (hl0 : ts.length = n0) (hA0 : TR w w.heap.size A0 ts) (hs0 : isSet c0 ts = false) :
    Calls Try.prog 29 #[.agg #[.int .i64 c0, .slice A0 n0 q0], .int .i64 k] w (SetRes w 0 [] 1) := by
  have his0 : ∀ W, Below w.heap.size w W → Calls Try.prog 53 #[.agg #[.int .i64 c0, .slice A0 n0 q0]] W _ := fun W hW => isSet_any c0 A0 n0 q0 ts W (by omega) hl0 ((hA0.below hW (Nat.le_refl _)).more hW.size)
  rw [hs0] at his0
  have HI0 := Lib.hid his0
  clear his0
  clear hA0
  unfold SetRes
  go_enter Try.func29, Try.ntmps29
  go_wp2_with fail
  have hx0 : Ext w ((w.alloc (Obj.cells #[.int .i64 c0, .slice A0 n0 q0] 29)).alloc (Obj.cells #[.int .i64 0, .slice none 0 0] 29)) := ((Ext.refl w).alloc _).alloc _
  have hb0 : Blk ((w.alloc (Obj.cells #[.int .i64 c0, .slice A0 n0 q0] 29)).alloc (Obj.cells #[.int .i64 0, .slice none 0 0] 29)) (w.heap.size) 29 #[.int .i64 c0, .slice A0 n0 q0] := by have := ((Blk.new w 29 #[.int .i64 c0, .slice A0 n0 q0]).ext (show Ext (w.alloc (Obj.cells #[.int .i64 c0, .slice A0 n0 q0] 29)) ((w.alloc (Obj.cells #[.int .i64 c0, .slice A0 n0 q0] 29)).alloc (Obj.cells #[.int .i64 0, .slice none 0 0] 29)) from (Ext.refl _).alloc _)); simpa using this
  have hb1 : Blk ((w.alloc (Obj.cells #[.int .i64 c0, .slice A0 n0 q0] 29)).alloc (Obj.cells #[.int .i64 0, .slice none 0 0] 29)) (w.heap.size + 1) 29 #[.int .i64 0, .slice none 0 0] := by have := (Blk.new (w.alloc (Obj.cells #[.int .i64 c0, .slice A0 n0 q0] 29)) 29 #[.int .i64 0, .slice none 0 0]); simpa using this
  have K0 := Lib.hid (hx0.below (Nat.le_refl _))
  have L0 := Lib.hid (show w.heap.size + 2 ≤ ((w.alloc (Obj.cells #[.int .i64 c0, .slice A0 n0 q0] 29)).alloc (Obj.cells #[.int .i64 0, .slice none 0 0] 29)).heap.size by simp)
  have B0_0 := Lib.hid hb0
  have B1_0 := Lib.hid hb1
  clear hx0 hb0 hb1
  generalize ((w.alloc (Obj.cells #[.int .i64 c0, .slice A0 n0 q0] 29)).alloc (Obj.cells #[.int .i64 0, .slice none 0 0] 29)) = w0 at *
  refine (HI0.out _ K0.out).mono ?_
  rintro e w1 ⟨rfl, hx⟩
  have K1 := Lib.hid (K0.out.trans ((hx.below (Nat.le_refl _)).mono K0.out.size))
  have L1 := Lib.hid (Nat.le_trans L0.out (hx.below (Nat.le_refl _)).size)
  have B0_1 := Lib.hid (B0_0.out.below (hx.below (Nat.le_refl _)) B0_0.out.lt)
  have B1_1 := Lib.hid (B1_0.out.below (hx.below (Nat.le_refl _)) B1_0.out.lt)
  clear K0 B0_0 B1_0 L0 hx
  have r0_0 := B0_1.out.rd 0 rfl
  have r0_1 := B0_1.out.rd 1 rfl
  have r1_0 := B1_1.out.rd 0 rfl
  have r1_1 := B1_1.out.rd 1 rfl
  have z1_0 := B1_1.out.frozen 0
  have z1_1 := B1_1.out.frozen 1
  go_wp2_with fail
  refine bodyPost_ret (v := .tuple #[.agg #[.int .i64 0, .slice none 0 0], .int .i64 1]) (by simp [results, Try.results29, go_sem, r1_0, r1_1, z1_0, z1_1]) rfl ⟨none, 0, rfl, ?_, ?_⟩
  · exact (K1.out.setCell (show w.heap.size ≤ w.heap.size + 1 by omega) _).setCell (show w.heap.size ≤ w.heap.size + 1 by omega) _
  · exact fun h => absurd h (Nat.lt_irrefl _)

set_option maxRecDepth 100000 in
set_option maxHeartbeats 1000000 in
theorem implPowerOf_2a (c0 : Int) (A0 : Option Addr) (n0 q0 : Nat) (ts : List Tl) (k : Int) (w : World) (hn0 : n0 ≤ 1048576) (hl0 : ts.length = n0) (hA0 : TR w w.heap.size A0 ts) (hs0 : isSet c0 ts = true) (hk1 : k < 1) :
    Calls Try.prog 29 #[.agg #[.int .i64 c0, .slice A0 n0 q0], .int .i64 k] w (SetRes w 0 [] 2) := by
  have his0 : ∀ W, Below w.heap.size w W → Calls Try.prog 53 #[.agg #[.int .i64 c0, .slice A0 n0 q0]] W _ := fun W hW => isSet_any c0 A0 n0 q0 ts W (by omega) hl0 ((hA0.below hW (Nat.le_refl _)).more hW.size)
  rw [hs0] at his0
  have HI0 := Lib.hid his0
  clear his0
  clear hA0
  unfold SetRes
  go_enter Try.func29, Try.ntmps29
  go_wp2_with fail
  have hx0 : Ext w ((w.alloc (Obj.cells #[.int .i64 c0, .slice A0 n0 q0] 29)).alloc (Obj.cells #[.int .i64 0, .slice none 0 0] 29)) := ((Ext.refl w).alloc _).alloc _
  have hb0 : Blk ((w.alloc (Obj.cells #[.int .i64 c0, .slice A0 n0 q0] 29)).alloc (Obj.cells #[.int .i64 0, .slice none 0 0] 29)) (w.heap.size) 29 #[.int .i64 c0, .slice A0 n0 q0] := by have := ((Blk.new w 29 #[.int .i64 c0, .slice A0 n0 q0]).ext (show Ext (w.alloc (Obj.cells #[.int .i64 c0, .slice A0 n0 q0] 29)) ((w.alloc (Obj.cells #[.int .i64 c0, .slice A0 n0 q0] 29)).alloc (Obj.cells #[.int .i64 0, .slice none 0 0] 29)) from (Ext.refl _).alloc _)); simpa using this
  have hb1 : Blk ((w.alloc (Obj.cells #[.int .i64 c0, .slice A0 n0 q0] 29)).alloc (Obj.cells #[.int .i64 0, .slice none 0 0] 29)) (w.heap.size + 1) 29 #[.int .i64 0, .slice none 0 0] := by have := (Blk.new (w.alloc (Obj.cells #[.int .i64 c0, .slice A0 n0 q0] 29)) 29 #[.int .i64 0, .slice none 0 0]); simpa using this
  have K0 := Lib.hid (hx0.below (Nat.le_refl _))
  have L0 := Lib.hid (show w.heap.size + 2 ≤ ((w.alloc (Obj.cells #[.int .i64 c0, .slice A0 n0 q0] 29)).alloc (Obj.cells #[.int .i64 0, .slice none 0 0] 29)).heap.size by simp)
  have B0_0 := Lib.hid hb0
  have B1_0 := Lib.hid hb1
  clear hx0 hb0 hb1
  generalize ((w.alloc (Obj.cells #[.int .i64 c0, .slice A0 n0 q0] 29)).alloc (Obj.cells #[.int .i64 0, .slice none 0 0] 29)) = w0 at *
  refine (HI0.out _ K0.out).mono ?_
  rintro e w1 ⟨rfl, hx⟩
  have K1 := Lib.hid (K0.out.trans ((hx.below (Nat.le_refl _)).mono K0.out.size))
  have L1 := Lib.hid (Nat.le_trans L0.out (hx.below (Nat.le_refl _)).size)
  have B0_1 := Lib.hid (B0_0.out.below (hx.below (Nat.le_refl _)) B0_0.out.lt)
  have B1_1 := Lib.hid (B1_0.out.below (hx.below (Nat.le_refl _)) B1_0.out.lt)
  clear K0 B0_0 B1_0 L0 hx
  have r0_0 := B0_1.out.rd 0 rfl
  have r0_1 := B0_1.out.rd 1 rfl
  have r1_0 := B1_1.out.rd 0 rfl
  have r1_1 := B1_1.out.rd 1 rfl
  have z1_0 := B1_1.out.frozen 0
  have z1_1 := B1_1.out.frozen 1
  go_wp2_with fail
  refine bodyPost_ret (v := .tuple #[.agg #[.int .i64 0, .slice none 0 0], .int .i64 2]) (by simp [results, Try.results29, go_sem, r1_0, r1_1, z1_0, z1_1]) rfl ⟨none, 0, rfl, ?_, ?_⟩
  · exact (K1.out.setCell (show w.heap.size ≤ w.heap.size + 1 by omega) _).setCell (show w.heap.size ≤ w.heap.size + 1 by omega) _
  · exact fun h => absurd h (Nat.lt_irrefl _)

set_option maxRecDepth 100000 in
set_option maxHeartbeats 1000000 in
theorem implPowerOf_2b (c0 : Int) (A0 : Option Addr) (n0 q0 : Nat) (ts : List Tl) (k : Int) (w : World) (hn0 : n0 ≤ 1048576) (hl0 : ts.length = n0) (hA0 : TR w w.heap.size A0 ts) (hs0 : isSet c0 ts = true) (hk1 : ¬ k < 1) (hk4 : 4 < k) :
    Calls Try.prog 29 #[.agg #[.int .i64 c0, .slice A0 n0 q0], .int .i64 k] w (SetRes w 0 [] 2) := by
  have his0 : ∀ W, Below w.heap.size w W → Calls Try.prog 53 #[.agg #[.int .i64 c0, .slice A0 n0 q0]] W _ := fun W hW => isSet_any c0 A0 n0 q0 ts W (by omega) hl0 ((hA0.below hW (Nat.le_refl _)).more hW.size)
  rw [hs0] at his0
  have HI0 := Lib.hid his0
  clear his0
  clear hA0
  unfold SetRes
  go_enter Try.func29, Try.ntmps29
  go_wp2_with fail
  have hx0 : Ext w ((w.alloc (Obj.cells #[.int .i64 c0, .slice A0 n0 q0] 29)).alloc (Obj.cells #[.int .i64 0, .slice none 0 0] 29)) := ((Ext.refl w).alloc _).alloc _
  have hb0 : Blk ((w.alloc (Obj.cells #[.int .i64 c0, .slice A0 n0 q0] 29)).alloc (Obj.cells #[.int .i64 0, .slice none 0 0] 29)) (w.heap.size) 29 #[.int .i64 c0, .slice A0 n0 q0] := by have := ((Blk.new w 29 #[.int .i64 c0, .slice A0 n0 q0]).ext (show Ext (w.alloc (Obj.cells #[.int .i64 c0, .slice A0 n0 q0] 29)) ((w.alloc (Obj.cells #[.int .i64 c0, .slice A0 n0 q0] 29)).alloc (Obj.cells #[.int .i64 0, .slice none 0 0] 29)) from (Ext.refl _).alloc _)); simpa using this
  have hb1 : Blk ((w.alloc (Obj.cells #[.int .i64 c0, .slice A0 n0 q0] 29)).alloc (Obj.cells #[.int .i64 0, .slice none 0 0] 29)) (w.heap.size + 1) 29 #[.int .i64 0, .slice none 0 0] := by have := (Blk.new (w.alloc (Obj.cells #[.int .i64 c0, .slice A0 n0 q0] 29)) 29 #[.int .i64 0, .slice none 0 0]); simpa using this
  have K0 := Lib.hid (hx0.below (Nat.le_refl _))
  have L0 := Lib.hid (show w.heap.size + 2 ≤ ((w.alloc (Obj.cells #[.int .i64 c0, .slice A0 n0 q0] 29)).alloc (Obj.cells #[.int .i64 0, .slice none 0 0] 29)).heap.size by simp)
  have B0_0 := Lib.hid hb0
  have B1_0 := Lib.hid hb1
  clear hx0 hb0 hb1
  generalize ((w.alloc (Obj.cells #[.int .i64 c0, .slice A0 n0 q0] 29)).alloc (Obj.cells #[.int .i64 0, .slice none 0 0] 29)) = w0 at *
  refine (HI0.out _ K0.out).mono ?_
  rintro e w1 ⟨rfl, hx⟩
  have K1 := Lib.hid (K0.out.trans ((hx.below (Nat.le_refl _)).mono K0.out.size))
  have L1 := Lib.hid (Nat.le_trans L0.out (hx.below (Nat.le_refl _)).size)
  have B0_1 := Lib.hid (B0_0.out.below (hx.below (Nat.le_refl _)) B0_0.out.lt)
  have B1_1 := Lib.hid (B1_0.out.below (hx.below (Nat.le_refl _)) B1_0.out.lt)
  clear K0 B0_0 B1_0 L0 hx
  have r0_0 := B0_1.out.rd 0 rfl
  have r0_1 := B0_1.out.rd 1 rfl
  have r1_0 := B1_1.out.rd 0 rfl
  have r1_1 := B1_1.out.rd 1 rfl
  have z1_0 := B1_1.out.frozen 0
  have z1_1 := B1_1.out.frozen 1
  go_wp2_with fail
  refine bodyPost_ret (v := .tuple #[.agg #[.int .i64 0, .slice none 0 0], .int .i64 2]) (by simp [results, Try.results29, go_sem, r1_0, r1_1, z1_0, z1_1]) rfl ⟨none, 0, rfl, ?_, ?_⟩
  · exact (K1.out.setCell (show w.heap.size ≤ w.heap.size + 1 by omega) _).setCell (show w.heap.size ≤ w.heap.size + 1 by omega) _
  · exact fun h => absurd h (Nat.lt_irrefl _)

end Go.Proofs.Ytcakbnfpmpdljaa
