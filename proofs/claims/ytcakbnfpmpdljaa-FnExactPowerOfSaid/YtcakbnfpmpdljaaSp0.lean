/- PairsOfStack: its errors, on both sides. -/
import Derived.Test.YtcakbnfpmpdljaaNum
import Derived.Test.YtcakbnfpmpdljaaIsA
import Derived.Test.YtcakbnfpmpdljaaStA
import Derived.Lib.Hide
namespace Go.Proofs.Ytcakbnfpmpdljaa
set_option linter.unusedVariables false
set_option linter.unusedSimpArgs false
open Go.RowKit Go.Sort

set_option maxRecDepth 100000 in
set_option maxHeartbeats 1000000 in
theorem specPairsOfStack_1a (c0 : Int) (A0 : Option Addr) (n0 q0 : Nat) (ts : List Tl) (c1 : Int) (A1 : Option Addr) (n1 q1 : Nat) (us : List Tl) (w : World) (hn0 : n0 ≤ 1048576) (hl0 : ts.length = n0) (hA0 : TR w w.heap.size A0 ts) (hn1 : n1 ≤ 1048576) (hl1 : us.length = n1) (hA1 : TR w w.heap.size A1 us) (hs0 : isSet c0 ts = false) :
    Calls Try.prog 21 #[.agg #[.int .i64 c0, .slice A0 n0 q0], .agg #[.int .i64 c1, .slice A1 n1 q1]] w (fun e w' => e = .returned (.tuple #[.slice none 0 0, .int .i64 1]) ∧ Below w.heap.size w w') := by
  have his0 : ∀ W, Below w.heap.size w W → Calls Try.prog 47 #[.agg #[.int .i64 c0, .slice A0 n0 q0]] W _ := fun W hW => l01Is_any c0 A0 n0 q0 ts W (by omega) hl0 ((hA0.below hW (Nat.le_refl _)).more hW.size)
  rw [hs0] at his0
  have HI0 := Lib.hid his0
  clear his0
  clear hA0 hA1
  go_enter Try.func21, Try.ntmps21
  go_wp2_with fail
  have hx0 : Ext w ((w.alloc (Obj.cells #[.int .i64 c0, .slice A0 n0 q0] 29)).alloc (Obj.cells #[.int .i64 c1, .slice A1 n1 q1] 29)) := ((Ext.refl w).alloc _).alloc _
  have hb0 : Blk ((w.alloc (Obj.cells #[.int .i64 c0, .slice A0 n0 q0] 29)).alloc (Obj.cells #[.int .i64 c1, .slice A1 n1 q1] 29)) (w.heap.size) 29 #[.int .i64 c0, .slice A0 n0 q0] := by have := ((Blk.new w 29 #[.int .i64 c0, .slice A0 n0 q0]).ext (show Ext (w.alloc (Obj.cells #[.int .i64 c0, .slice A0 n0 q0] 29)) ((w.alloc (Obj.cells #[.int .i64 c0, .slice A0 n0 q0] 29)).alloc (Obj.cells #[.int .i64 c1, .slice A1 n1 q1] 29)) from (Ext.refl _).alloc _)); simpa using this
  have hb1 : Blk ((w.alloc (Obj.cells #[.int .i64 c0, .slice A0 n0 q0] 29)).alloc (Obj.cells #[.int .i64 c1, .slice A1 n1 q1] 29)) (w.heap.size + 1) 29 #[.int .i64 c1, .slice A1 n1 q1] := by have := (Blk.new (w.alloc (Obj.cells #[.int .i64 c0, .slice A0 n0 q0] 29)) 29 #[.int .i64 c1, .slice A1 n1 q1]); simpa using this
  have K0 := Lib.hid (hx0.below (Nat.le_refl _))
  have L0 := Lib.hid (show w.heap.size + 2 ≤ ((w.alloc (Obj.cells #[.int .i64 c0, .slice A0 n0 q0] 29)).alloc (Obj.cells #[.int .i64 c1, .slice A1 n1 q1] 29)).heap.size by simp)
  have B0_0 := Lib.hid hb0
  have B1_0 := Lib.hid hb1
  clear hx0 hb0 hb1
  generalize ((w.alloc (Obj.cells #[.int .i64 c0, .slice A0 n0 q0] 29)).alloc (Obj.cells #[.int .i64 c1, .slice A1 n1 q1] 29)) = w0 at *
  refine (HI0.out _ K0.out).mono ?_
  rintro e w1 ⟨rfl, hx⟩
  have K1 := Lib.hid (K0.out.trans ((hx.below (Nat.le_refl _)).mono K0.out.size))
  have L1 := Lib.hid (Nat.le_trans L0.out (hx.below (Nat.le_refl _)).size)
  have B0_1 := Lib.hid (B0_0.out.below (hx.below (Nat.le_refl _)) B0_0.out.lt)
  have B1_1 := Lib.hid (B1_0.out.below (hx.below (Nat.le_refl _)) B1_0.out.lt)
  clear K0 B0_0 B1_0 L0 hx
  have r0_0 := B0_1.out.rd 0 rfl
  have r0_1 := B0_1.out.rd 1 rfl
  have r1_0 := B1_1.out.rd 0 rfl
  have r1_1 := B1_1.out.rd 1 rfl
  go_wp2_with fail
  go_ret2
  exact ⟨rfl, K1.out⟩

set_option maxRecDepth 100000 in
set_option maxHeartbeats 1000000 in
theorem specPairsOfStack_1b (c0 : Int) (A0 : Option Addr) (n0 q0 : Nat) (ts : List Tl) (c1 : Int) (A1 : Option Addr) (n1 q1 : Nat) (us : List Tl) (w : World) (hn0 : n0 ≤ 1048576) (hl0 : ts.length = n0) (hA0 : TR w w.heap.size A0 ts) (hn1 : n1 ≤ 1048576) (hl1 : us.length = n1) (hA1 : TR w w.heap.size A1 us) (hs0 : isSet c0 ts = true) (hs1 : isSet c1 us = false) :
    Calls Try.prog 21 #[.agg #[.int .i64 c0, .slice A0 n0 q0], .agg #[.int .i64 c1, .slice A1 n1 q1]] w (fun e w' => e = .returned (.tuple #[.slice none 0 0, .int .i64 1]) ∧ Below w.heap.size w w') := by
  have his0 : ∀ W, Below w.heap.size w W → Calls Try.prog 47 #[.agg #[.int .i64 c0, .slice A0 n0 q0]] W _ := fun W hW => l01Is_any c0 A0 n0 q0 ts W (by omega) hl0 ((hA0.below hW (Nat.le_refl _)).more hW.size)
  rw [hs0] at his0
  have HI0 := Lib.hid his0
  clear his0
  have his1 : ∀ W, Below w.heap.size w W → Calls Try.prog 47 #[.agg #[.int .i64 c1, .slice A1 n1 q1]] W _ := fun W hW => l01Is_any c1 A1 n1 q1 us W (by omega) hl1 ((hA1.below hW (Nat.le_refl _)).more hW.size)
  rw [hs1] at his1
  have HI1 := Lib.hid his1
  clear his1
  clear hA0 hA1
  go_enter Try.func21, Try.ntmps21
  go_wp2_with fail
  have hx0 : Ext w ((w.alloc (Obj.cells #[.int .i64 c0, .slice A0 n0 q0] 29)).alloc (Obj.cells #[.int .i64 c1, .slice A1 n1 q1] 29)) := ((Ext.refl w).alloc _).alloc _
  have hb0 : Blk ((w.alloc (Obj.cells #[.int .i64 c0, .slice A0 n0 q0] 29)).alloc (Obj.cells #[.int .i64 c1, .slice A1 n1 q1] 29)) (w.heap.size) 29 #[.int .i64 c0, .slice A0 n0 q0] := by have := ((Blk.new w 29 #[.int .i64 c0, .slice A0 n0 q0]).ext (show Ext (w.alloc (Obj.cells #[.int .i64 c0, .slice A0 n0 q0] 29)) ((w.alloc (Obj.cells #[.int .i64 c0, .slice A0 n0 q0] 29)).alloc (Obj.cells #[.int .i64 c1, .slice A1 n1 q1] 29)) from (Ext.refl _).alloc _)); simpa using this
  have hb1 : Blk ((w.alloc (Obj.cells #[.int .i64 c0, .slice A0 n0 q0] 29)).alloc (Obj.cells #[.int .i64 c1, .slice A1 n1 q1] 29)) (w.heap.size + 1) 29 #[.int .i64 c1, .slice A1 n1 q1] := by have := (Blk.new (w.alloc (Obj.cells #[.int .i64 c0, .slice A0 n0 q0] 29)) 29 #[.int .i64 c1, .slice A1 n1 q1]); simpa using this
  have K0 := Lib.hid (hx0.below (Nat.le_refl _))
  have L0 := Lib.hid (show w.heap.size + 2 ≤ ((w.alloc (Obj.cells #[.int .i64 c0, .slice A0 n0 q0] 29)).alloc (Obj.cells #[.int .i64 c1, .slice A1 n1 q1] 29)).heap.size by simp)
  have B0_0 := Lib.hid hb0
  have B1_0 := Lib.hid hb1
  clear hx0 hb0 hb1
  generalize ((w.alloc (Obj.cells #[.int .i64 c0, .slice A0 n0 q0] 29)).alloc (Obj.cells #[.int .i64 c1, .slice A1 n1 q1] 29)) = w0 at *
  refine (HI0.out _ K0.out).mono ?_
  rintro e w1 ⟨rfl, hx⟩
  have K1 := Lib.hid (K0.out.trans ((hx.below (Nat.le_refl _)).mono K0.out.size))
  have L1 := Lib.hid (Nat.le_trans L0.out (hx.below (Nat.le_refl _)).size)
  have B0_1 := Lib.hid (B0_0.out.below (hx.below (Nat.le_refl _)) B0_0.out.lt)
  have B1_1 := Lib.hid (B1_0.out.below (hx.below (Nat.le_refl _)) B1_0.out.lt)
  clear K0 B0_0 B1_0 L0 hx
  have r0_0 := B0_1.out.rd 0 rfl
  have r0_1 := B0_1.out.rd 1 rfl
  have r1_0 := B1_1.out.rd 0 rfl
  have r1_1 := B1_1.out.rd 1 rfl
  go_wp2_with fail
  refine (HI1.out _ K1.out).mono ?_
  rintro e w2 ⟨rfl, hx⟩
  clear r0_0 r0_1 r1_0 r1_1
  have K2 := Lib.hid (K1.out.trans ((hx.below (Nat.le_refl _)).mono K1.out.size))
  have L2 := Lib.hid (Nat.le_trans L1.out (hx.below (Nat.le_refl _)).size)
  have B0_2 := Lib.hid (B0_1.out.below (hx.below (Nat.le_refl _)) B0_1.out.lt)
  have B1_2 := Lib.hid (B1_1.out.below (hx.below (Nat.le_refl _)) B1_1.out.lt)
  clear K1 B0_1 B1_1 L1 hx
  have r0_0 := B0_2.out.rd 0 rfl
  have r0_1 := B0_2.out.rd 1 rfl
  have r1_0 := B1_2.out.rd 0 rfl
  have r1_1 := B1_2.out.rd 1 rfl
  go_wp2_with fail
  go_ret2
  exact ⟨rfl, K2.out⟩

set_option maxRecDepth 100000 in
set_option maxHeartbeats 1000000 in
theorem implPairsOfStack_1a (c0 : Int) (A0 : Option Addr) (n0 q0 : Nat) (ts : List Tl) (c1 : Int) (A1 : Option Addr) (n1 q1 : Nat) (us : List Tl) (w : World) (hn0 : n0 ≤ 1048576) (hl0 : ts.length = n0) (hA0 : TR w w.heap.size A0 ts) (hn1 : n1 ≤ 1048576) (hl1 : us.length = n1) (hA1 : TR w w.heap.size A1 us) (hs0 : isSet c0 ts = false) :
    Calls Try.prog 22 #[.agg #[.int .i64 c0, .slice A0 n0 q0], .agg #[.int .i64 c1, .slice A1 n1 q1]] w (fun e w' => e = .returned (.tuple #[.slice none 0 0, .int .i64 1]) ∧ Below w.heap.size w w') := by
  have his0 : ∀ W, Below w.heap.size w W → Calls Try.prog 53 #[.agg #[.int .i64 c0, .slice A0 n0 q0]] W _ := fun W hW => isSet_any c0 A0 n0 q0 ts W (by omega) hl0 ((hA0.below hW (Nat.le_refl _)).more hW.size)
  rw [hs0] at his0
  have HI0 := Lib.hid his0
  clear his0
  clear hA0 hA1
  go_enter Try.func22, Try.ntmps22
  go_wp2_with fail
  have hx0 : Ext w ((w.alloc (Obj.cells #[.int .i64 c0, .slice A0 n0 q0] 29)).alloc (Obj.cells #[.int .i64 c1, .slice A1 n1 q1] 29)) := ((Ext.refl w).alloc _).alloc _
  have hb0 : Blk ((w.alloc (Obj.cells #[.int .i64 c0, .slice A0 n0 q0] 29)).alloc (Obj.cells #[.int .i64 c1, .slice A1 n1 q1] 29)) (w.heap.size) 29 #[.int .i64 c0, .slice A0 n0 q0] := by have := ((Blk.new w 29 #[.int .i64 c0, .slice A0 n0 q0]).ext (show Ext (w.alloc (Obj.cells #[.int .i64 c0, .slice A0 n0 q0] 29)) ((w.alloc (Obj.cells #[.int .i64 c0, .slice A0 n0 q0] 29)).alloc (Obj.cells #[.int .i64 c1, .slice A1 n1 q1] 29)) from (Ext.refl _).alloc _)); simpa using this
  have hb1 : Blk ((w.alloc (Obj.cells #[.int .i64 c0, .slice A0 n0 q0] 29)).alloc (Obj.cells #[.int .i64 c1, .slice A1 n1 q1] 29)) (w.heap.size + 1) 29 #[.int .i64 c1, .slice A1 n1 q1] := by have := (Blk.new (w.alloc (Obj.cells #[.int .i64 c0, .slice A0 n0 q0] 29)) 29 #[.int .i64 c1, .slice A1 n1 q1]); simpa using this
  have K0 := Lib.hid (hx0.below (Nat.le_refl _))
  have L0 := Lib.hid (show w.heap.size + 2 ≤ ((w.alloc (Obj.cells #[.int .i64 c0, .slice A0 n0 q0] 29)).alloc (Obj.cells #[.int .i64 c1, .slice A1 n1 q1] 29)).heap.size by simp)
  have B0_0 := Lib.hid hb0
  have B1_0 := Lib.hid hb1
  clear hx0 hb0 hb1
  generalize ((w.alloc (Obj.cells #[.int .i64 c0, .slice A0 n0 q0] 29)).alloc (Obj.cells #[.int .i64 c1, .slice A1 n1 q1] 29)) = w0 at *
  refine (HI0.out _ K0.out).mono ?_
  rintro e w1 ⟨rfl, hx⟩
  have K1 := Lib.hid (K0.out.trans ((hx.below (Nat.le_refl _)).mono K0.out.size))
  have L1 := Lib.hid (Nat.le_trans L0.out (hx.below (Nat.le_refl _)).size)
  have B0_1 := Lib.hid (B0_0.out.below (hx.below (Nat.le_refl _)) B0_0.out.lt)
  have B1_1 := Lib.hid (B1_0.out.below (hx.below (Nat.le_refl _)) B1_0.out.lt)
  clear K0 B0_0 B1_0 L0 hx
  have r0_0 := B0_1.out.rd 0 rfl
  have r0_1 := B0_1.out.rd 1 rfl
  have r1_0 := B1_1.out.rd 0 rfl
  have r1_1 := B1_1.out.rd 1 rfl
  go_wp2_with fail
  go_ret2
  exact ⟨rfl, K1.out⟩

set_option maxRecDepth 100000 in
set_option maxHeartbeats 1000000 in
theorem implPairsOfStack_1b (c0 : Int) (A0 : Option Addr) (n0 q0 : Nat) (ts : List Tl) (c1 : Int) (A1 : Option Addr) (n1 q1 : Nat) (us : List Tl) (w : World) (hn0 : n0 ≤ 1048576) (hl0 : ts.length = n0) (hA0 : TR w w.heap.size A0 ts) (hn1 : n1 ≤ 1048576) (hl1 : us.length = n1) (hA1 : TR w w.heap.size A1 us) (hs0 : isSet c0 ts = true) (hs1 : isSet c1 us = false) :
    Calls Try.prog 22 #[.agg #[.int .i64 c0, .slice A0 n0 q0], .agg #[.int .i64 c1, .slice A1 n1 q1]] w (fun e w' => e = .returned (.tuple #[.slice none 0 0, .int .i64 1]) ∧ Below w.heap.size w w') := by
  have his0 : ∀ W, Below w.heap.size w W → Calls Try.prog 53 #[.agg #[.int .i64 c0, .slice A0 n0 q0]] W _ := fun W hW => isSet_any c0 A0 n0 q0 ts W (by omega) hl0 ((hA0.below hW (Nat.le_refl _)).more hW.size)
  rw [hs0] at his0
  have HI0 := Lib.hid his0
  clear his0
  have his1 : ∀ W, Below w.heap.size w W → Calls Try.prog 53 #[.agg #[.int .i64 c1, .slice A1 n1 q1]] W _ := fun W hW => isSet_any c1 A1 n1 q1 us W (by omega) hl1 ((hA1.below hW (Nat.le_refl _)).more hW.size)
  rw [hs1] at his1
  have HI1 := Lib.hid his1
  clear his1
  clear hA0 hA1
  go_enter Try.func22, Try.ntmps22
  go_wp2_with fail
  have hx0 : Ext w ((w.alloc (Obj.cells #[.int .i64 c0, .slice A0 n0 q0] 29)).alloc (Obj.cells #[.int .i64 c1, .slice A1 n1 q1] 29)) := ((Ext.refl w).alloc _).alloc _
  have hb0 : Blk ((w.alloc (Obj.cells #[.int .i64 c0, .slice A0 n0 q0] 29)).alloc (Obj.cells #[.int .i64 c1, .slice A1 n1 q1] 29)) (w.heap.size) 29 #[.int .i64 c0, .slice A0 n0 q0] := by have := ((Blk.new w 29 #[.int .i64 c0, .slice A0 n0 q0]).ext (show Ext (w.alloc (Obj.cells #[.int .i64 c0, .slice A0 n0 q0] 29)) ((w.alloc (Obj.cells #[.int .i64 c0, .slice A0 n0 q0] 29)).alloc (Obj.cells #[.int .i64 c1, .slice A1 n1 q1] 29)) from (Ext.refl _).alloc _)); simpa using this
  have hb1 : Blk ((w.alloc (Obj.cells #[.int .i64 c0, .slice A0 n0 q0] 29)).alloc (Obj.cells #[.int .i64 c1, .slice A1 n1 q1] 29)) (w.heap.size + 1) 29 #[.int .i64 c1, .slice A1 n1 q1] := by have := (Blk.new (w.alloc (Obj.cells #[.int .i64 c0, .slice A0 n0 q0] 29)) 29 #[.int .i64 c1, .slice A1 n1 q1]); simpa using this
  have K0 := Lib.hid (hx0.below (Nat.le_refl _))
  have L0 := Lib.hid (show w.heap.size + 2 ≤ ((w.alloc (Obj.cells #[.int .i64 c0, .slice A0 n0 q0] 29)).alloc (Obj.cells #[.int .i64 c1, .slice A1 n1 q1] 29)).heap.size by simp)
  have B0_0 := Lib.hid hb0
  have B1_0 := Lib.hid hb1
  clear hx0 hb0 hb1
  generalize ((w.alloc (Obj.cells #[.int .i64 c0, .slice A0 n0 q0] 29)).alloc (Obj.cells #[.int .i64 c1, .slice A1 n1 q1] 29)) = w0 at *
  refine (HI0.out _ K0.out).mono ?_
  rintro e w1 ⟨rfl, hx⟩
  have K1 := Lib.hid (K0.out.trans ((hx.below (Nat.le_refl _)).mono K0.out.size))
  have L1 := Lib.hid (Nat.le_trans L0.out (hx.below (Nat.le_refl _)).size)
  have B0_1 := Lib.hid (B0_0.out.below (hx.below (Nat.le_refl _)) B0_0.out.lt)
  have B1_1 := Lib.hid (B1_0.out.below (hx.below (Nat.le_refl _)) B1_0.out.lt)
  clear K0 B0_0 B1_0 L0 hx
  have r0_0 := B0_1.out.rd 0 rfl
  have r0_1 := B0_1.out.rd 1 rfl
  have r1_0 := B1_1.out.rd 0 rfl
  have r1_1 := B1_1.out.rd 1 rfl
  go_wp2_with fail
  refine (HI1.out _ K1.out).mono ?_
  rintro e w2 ⟨rfl, hx⟩
  clear r0_0 r0_1 r1_0 r1_1
  have K2 := Lib.hid (K1.out.trans ((hx.below (Nat.le_refl _)).mono K1.out.size))
  have L2 := Lib.hid (Nat.le_trans L1.out (hx.below (Nat.le_refl _)).size)
  have B0_2 := Lib.hid (B0_1.out.below (hx.below (Nat.le_refl _)) B0_1.out.lt)
  have B1_2 := Lib.hid (B1_1.out.below (hx.below (Nat.le_refl _)) B1_1.out.lt)
  clear K1 B0_1 B1_1 L1 hx
  have r0_0 := B0_2.out.rd 0 rfl
  have r0_1 := B0_2.out.rd 1 rfl
  have r1_0 := B1_2.out.rd 0 rfl
  have r1_1 := B1_2.out.rd 1 rfl
  go_wp2_with fail
  go_ret2
  exact ⟨rfl, K2.out⟩

end Go.Proofs.Ytcakbnfpmpdljaa
