/- Sets with renamed colours, on both sides. -/
import Derived.Test.YtjbnmkiidongmaaRen2
import Derived.Test.YtjbnmkiidongmaaChanged
import Derived.Test.YtjbnmkiidongmaaNum
import Derived.Test.YtjbnmkiidongmaaSBridge
namespace Go.Proofs.Ytjbnmkiidongmaa
set_option linter.unusedVariables false
set_option linter.unusedSimpArgs false
open Go.RowKit Go.Sort

set_option maxRecDepth 100000 in
set_option maxHeartbeats 1000000 in
theorem specRename_1 (c0 : Int) (A : Option Addr) (n c : Nat) (ts : List Tl) (P0 : Option Addr) (m d : Nat) (p : List Int) (w : World) (hn : n ≤ 1048576) (hl : ts.length = n) (hA : TR w w.heap.size A ts) (hm : m ≤ 1048576) (hlp : p.length = m) (hP : IR w w.heap.size P0 p) (hs : isSet c0 ts = false) :
    Calls Try.prog 39 #[.agg #[.int .i64 c0, .slice A n c], .slice P0 m d] w (SetRes w 0 [] 1) := by
  have his : ∀ W, Below w.heap.size w W → Calls Try.prog 68 #[.agg #[.int .i64 c0, .slice A n c]] W _ := fun W hW => l01Is_any c0 A n c ts W (by omega) hl ((hA.below hW (Nat.le_refl _)).more hW.size)
  rw [hs] at his
  have HI := Lib.hid his
  clear his
  clear hA hP
  unfold SetRes
  go_enter Try.func39, Try.ntmps39
  go_wp2_with fail
  have hx0 : Ext w ((w.alloc (Obj.cells #[.int .i64 c0, .slice A n c] 35)).alloc (Obj.cells #[.int .i64 0, .slice none 0 0] 35)) := ((Ext.refl w).alloc _).alloc _
  have hb0 : Blk ((w.alloc (Obj.cells #[.int .i64 c0, .slice A n c] 35)).alloc (Obj.cells #[.int .i64 0, .slice none 0 0] 35)) (w.heap.size) 35 #[.int .i64 c0, .slice A n c] := by have := ((Blk.new w 35 #[.int .i64 c0, .slice A n c]).ext (show Ext (w.alloc (Obj.cells #[.int .i64 c0, .slice A n c] 35)) ((w.alloc (Obj.cells #[.int .i64 c0, .slice A n c] 35)).alloc (Obj.cells #[.int .i64 0, .slice none 0 0] 35)) from (Ext.refl _).alloc _)); simpa using this
  have hb1 : Blk ((w.alloc (Obj.cells #[.int .i64 c0, .slice A n c] 35)).alloc (Obj.cells #[.int .i64 0, .slice none 0 0] 35)) (w.heap.size + 1) 35 #[.int .i64 0, .slice none 0 0] := by have := (Blk.new (w.alloc (Obj.cells #[.int .i64 c0, .slice A n c] 35)) 35 #[.int .i64 0, .slice none 0 0]); simpa using this
  have K0 := Lib.hid (hx0.below (Nat.le_refl _))
  have L0 := Lib.hid (show w.heap.size + 2 ≤ ((w.alloc (Obj.cells #[.int .i64 c0, .slice A n c] 35)).alloc (Obj.cells #[.int .i64 0, .slice none 0 0] 35)).heap.size by simp)
  have B0_0 := Lib.hid hb0
  have B1_0 := Lib.hid hb1
  clear hx0 hb0 hb1
  generalize ((w.alloc (Obj.cells #[.int .i64 c0, .slice A n c] 35)).alloc (Obj.cells #[.int .i64 0, .slice none 0 0] 35)) = w0 at *
  refine (HI.out _ K0.out).mono ?_
  rintro e w1 ⟨rfl, hx⟩
  have K1 := Lib.hid (K0.out.trans ((hx.below (Nat.le_refl _)).mono K0.out.size))
  have L1 := Lib.hid (Nat.le_trans L0.out (hx.below (Nat.le_refl _)).size)
  have B0_1 := Lib.hid (B0_0.out.below (hx.below (Nat.le_refl _)) B0_0.out.lt)
  have B1_1 := Lib.hid (B1_0.out.below (hx.below (Nat.le_refl _)) B1_0.out.lt)
  clear K0 B0_0 B1_0 L0 hx
  have r0_0 := B0_1.out.rd 0 rfl
  have r0_1 := B0_1.out.rd 1 rfl
  have r1_0 := B1_1.out.rd 0 rfl
  have r1_1 := B1_1.out.rd 1 rfl
  have z1_0 := B1_1.out.frozen 0
  have z1_1 := B1_1.out.frozen 1
  go_wp2_with fail
  refine bodyPost_ret (v := .tuple #[.agg #[.int .i64 0, .slice none 0 0], .int .i64 1]) (by simp [results, Try.results39, go_sem, r1_0, r1_1, z1_0, z1_1]) rfl ⟨none, 0, rfl, ?_, ?_⟩
  · exact (K1.out.setCell (show w.heap.size ≤ w.heap.size + 1 by omega) _).setCell (show w.heap.size ≤ w.heap.size + 1 by omega) _
  · exact fun h => absurd h (Nat.lt_irrefl _)

set_option maxRecDepth 100000 in
set_option maxHeartbeats 1000000 in
theorem specRename_2 (c0 : Int) (A : Option Addr) (n c : Nat) (ts : List Tl) (P0 : Option Addr) (m d : Nat) (p : List Int) (w : World) (hn : n ≤ 1048576) (hl : ts.length = n) (hA : TR w w.heap.size A ts) (hm : m ≤ 1048576) (hlp : p.length = m) (hP : IR w w.heap.size P0 p) (hs : isSet c0 ts = true) (hr : isRen p c0 = false) :
    Calls Try.prog 39 #[.agg #[.int .i64 c0, .slice A n c], .slice P0 m d] w (SetRes w 0 [] 2) := by
  have his : ∀ W, Below w.heap.size w W → Calls Try.prog 68 #[.agg #[.int .i64 c0, .slice A n c]] W _ := fun W hW => l01Is_any c0 A n c ts W (by omega) hl ((hA.below hW (Nat.le_refl _)).more hW.size)
  rw [hs] at his
  have HI := Lib.hid his
  clear his
  have hc6 := isSet_col hs
  have hor : ∀ W, Below w.heap.size w W → Calls Try.prog 76 #[.slice P0 m d, .int .i64 c0] W _ := fun W hW => l01Order_any P0 m d p c0 W (by omega) hlp hc6 ((hP.below hW (Nat.le_refl _)).more hW.size)
  rw [hr] at hor
  have HO := Lib.hid hor
  clear hor
  clear hA hP
  unfold SetRes
  go_enter Try.func39, Try.ntmps39
  go_wp2_with fail
  have hx0 : Ext w ((w.alloc (Obj.cells #[.int .i64 c0, .slice A n c] 35)).alloc (Obj.cells #[.int .i64 0, .slice none 0 0] 35)) := ((Ext.refl w).alloc _).alloc _
  have hb0 : Blk ((w.alloc (Obj.cells #[.int .i64 c0, .slice A n c] 35)).alloc (Obj.cells #[.int .i64 0, .slice none 0 0] 35)) (w.heap.size) 35 #[.int .i64 c0, .slice A n c] := by have := ((Blk.new w 35 #[.int .i64 c0, .slice A n c]).ext (show Ext (w.alloc (Obj.cells #[.int .i64 c0, .slice A n c] 35)) ((w.alloc (Obj.cells #[.int .i64 c0, .slice A n c] 35)).alloc (Obj.cells #[.int .i64 0, .slice none 0 0] 35)) from (Ext.refl _).alloc _)); simpa using this
  have hb1 : Blk ((w.alloc (Obj.cells #[.int .i64 c0, .slice A n c] 35)).alloc (Obj.cells #[.int .i64 0, .slice none 0 0] 35)) (w.heap.size + 1) 35 #[.int .i64 0, .slice none 0 0] := by have := (Blk.new (w.alloc (Obj.cells #[.int .i64 c0, .slice A n c] 35)) 35 #[.int .i64 0, .slice none 0 0]); simpa using this
  have K0 := Lib.hid (hx0.below (Nat.le_refl _))
  have L0 := Lib.hid (show w.heap.size + 2 ≤ ((w.alloc (Obj.cells #[.int .i64 c0, .slice A n c] 35)).alloc (Obj.cells #[.int .i64 0, .slice none 0 0] 35)).heap.size by simp)
  have B0_0 := Lib.hid hb0
  have B1_0 := Lib.hid hb1
  clear hx0 hb0 hb1
  generalize ((w.alloc (Obj.cells #[.int .i64 c0, .slice A n c] 35)).alloc (Obj.cells #[.int .i64 0, .slice none 0 0] 35)) = w0 at *
  refine (HI.out _ K0.out).mono ?_
  rintro e w1 ⟨rfl, hx⟩
  have K1 := Lib.hid (K0.out.trans ((hx.below (Nat.le_refl _)).mono K0.out.size))
  have L1 := Lib.hid (Nat.le_trans L0.out (hx.below (Nat.le_refl _)).size)
  have B0_1 := Lib.hid (B0_0.out.below (hx.below (Nat.le_refl _)) B0_0.out.lt)
  have B1_1 := Lib.hid (B1_0.out.below (hx.below (Nat.le_refl _)) B1_0.out.lt)
  clear K0 B0_0 B1_0 L0 hx
  have r0_0 := B0_1.out.rd 0 rfl
  have r0_1 := B0_1.out.rd 1 rfl
  go_wp2_with fail
  refine (HO.out _ K1.out).mono ?_
  rintro e w2 ⟨rfl, hb⟩
  clear r0_0 r0_1
  have K2 := Lib.hid (K1.out.trans (hb.mono K1.out.size))
  have L2 := Lib.hid (Nat.le_trans L1.out hb.size)
  have B0_2 := Lib.hid (B0_1.out.below hb B0_1.out.lt)
  have B1_2 := Lib.hid (B1_1.out.below hb B1_1.out.lt)
  clear K1 B0_1 B1_1 L1 hb
  have r0_0 := B0_2.out.rd 0 rfl
  have r0_1 := B0_2.out.rd 1 rfl
  have r1_0 := B1_2.out.rd 0 rfl
  have r1_1 := B1_2.out.rd 1 rfl
  have z1_0 := B1_2.out.frozen 0
  have z1_1 := B1_2.out.frozen 1
  go_wp2_with fail
  refine bodyPost_ret (v := .tuple #[.agg #[.int .i64 0, .slice none 0 0], .int .i64 2]) (by simp [results, Try.results39, go_sem, r1_0, r1_1, z1_0, z1_1]) rfl ⟨none, 0, rfl, ?_, ?_⟩
  · exact (K2.out.setCell (show w.heap.size ≤ w.heap.size + 1 by omega) _).setCell (show w.heap.size ≤ w.heap.size + 1 by omega) _
  · exact fun h => absurd h (Nat.lt_irrefl _)

set_option maxRecDepth 100000 in
set_option maxHeartbeats 1000000 in
theorem specRename_0 (c0 : Int) (A : Option Addr) (n c : Nat) (ts : List Tl) (P0 : Option Addr) (m d : Nat) (p : List Int) (w : World) (hn : n ≤ 1048576) (hl : ts.length = n) (hA : TR w w.heap.size A ts) (hm : m ≤ 1048576) (hlp : p.length = m) (hP : IR w w.heap.size P0 p) (hs : isSet c0 ts = true) (hr : isRen p c0 = true) :
    Calls Try.prog 39 #[.agg #[.int .i64 c0, .slice A n c], .slice P0 m d] w (SetRes w c0 (sortT (ts.map (renT p))) 0) := by
  have his : ∀ W, Below w.heap.size w W → Calls Try.prog 68 #[.agg #[.int .i64 c0, .slice A n c]] W _ := fun W hW => l01Is_any c0 A n c ts W (by omega) hl ((hA.below hW (Nat.le_refl _)).more hW.size)
  rw [hs] at his
  have HI := Lib.hid his
  clear his
  have hc6 := isSet_col hs
  have hor : ∀ W, Below w.heap.size w W → Calls Try.prog 76 #[.slice P0 m d, .int .i64 c0] W _ := fun W hW => l01Order_any P0 m d p c0 W (by omega) hlp hc6 ((hP.below hW (Nat.le_refl _)).more hW.size)
  rw [hr] at hor
  have HO := Lib.hid hor
  clear hor
  have hmc : (m : Int) = c0 := by
    simp only [isRen, Bool.and_eq_true, decide_eq_true_eq] at hr
    rw [← hlp]
    exact hr.1
  have hok : ∀ t ∈ ts, tileOk (m : Int) t = true := by rw [hmc]; exact ok_of_isSet hs
  have hre : ∀ W, Below w.heap.size w W → Calls Try.prog 77 #[.agg #[.int .i64 c0, .slice A n c], .slice P0 m d] W _ := fun W hW => l01Renamed_any c0 A n c ts P0 m d p W (by have := isSet_len hs; omega) hl ((hA.below hW (Nat.le_refl _)).more hW.size) (by omega) hlp ((hP.below hW (Nat.le_refl _)).more hW.size) hok
  have HC := Lib.hid hre
  clear hre hok
  generalize sortT (ts.map (renT p)) = us at HC ⊢
  clear hA hP
  unfold SetRes
  go_enter Try.func39, Try.ntmps39
  go_wp2_with fail
  have hx0 : Ext w ((w.alloc (Obj.cells #[.int .i64 c0, .slice A n c] 35)).alloc (Obj.cells #[.int .i64 0, .slice none 0 0] 35)) := ((Ext.refl w).alloc _).alloc _
  have hb0 : Blk ((w.alloc (Obj.cells #[.int .i64 c0, .slice A n c] 35)).alloc (Obj.cells #[.int .i64 0, .slice none 0 0] 35)) (w.heap.size) 35 #[.int .i64 c0, .slice A n c] := by have := ((Blk.new w 35 #[.int .i64 c0, .slice A n c]).ext (show Ext (w.alloc (Obj.cells #[.int .i64 c0, .slice A n c] 35)) ((w.alloc (Obj.cells #[.int .i64 c0, .slice A n c] 35)).alloc (Obj.cells #[.int .i64 0, .slice none 0 0] 35)) from (Ext.refl _).alloc _)); simpa using this
  have hb1 : Blk ((w.alloc (Obj.cells #[.int .i64 c0, .slice A n c] 35)).alloc (Obj.cells #[.int .i64 0, .slice none 0 0] 35)) (w.heap.size + 1) 35 #[.int .i64 0, .slice none 0 0] := by have := (Blk.new (w.alloc (Obj.cells #[.int .i64 c0, .slice A n c] 35)) 35 #[.int .i64 0, .slice none 0 0]); simpa using this
  have K0 := Lib.hid (hx0.below (Nat.le_refl _))
  have L0 := Lib.hid (show w.heap.size + 2 ≤ ((w.alloc (Obj.cells #[.int .i64 c0, .slice A n c] 35)).alloc (Obj.cells #[.int .i64 0, .slice none 0 0] 35)).heap.size by simp)
  have B0_0 := Lib.hid hb0
  have B1_0 := Lib.hid hb1
  clear hx0 hb0 hb1
  generalize ((w.alloc (Obj.cells #[.int .i64 c0, .slice A n c] 35)).alloc (Obj.cells #[.int .i64 0, .slice none 0 0] 35)) = w0 at *
  refine (HI.out _ K0.out).mono ?_
  rintro e w1 ⟨rfl, hx⟩
  have K1 := Lib.hid (K0.out.trans ((hx.below (Nat.le_refl _)).mono K0.out.size))
  have L1 := Lib.hid (Nat.le_trans L0.out (hx.below (Nat.le_refl _)).size)
  have B0_1 := Lib.hid (B0_0.out.below (hx.below (Nat.le_refl _)) B0_0.out.lt)
  have B1_1 := Lib.hid (B1_0.out.below (hx.below (Nat.le_refl _)) B1_0.out.lt)
  clear K0 B0_0 B1_0 L0 hx
  have r0_0 := B0_1.out.rd 0 rfl
  have r0_1 := B0_1.out.rd 1 rfl
  go_wp2_with fail
  refine (HO.out _ K1.out).mono ?_
  rintro e w2 ⟨rfl, hb⟩
  clear r0_0 r0_1
  have K2 := Lib.hid (K1.out.trans (hb.mono K1.out.size))
  have L2 := Lib.hid (Nat.le_trans L1.out hb.size)
  have B0_2 := Lib.hid (B0_1.out.below hb B0_1.out.lt)
  have B1_2 := Lib.hid (B1_1.out.below hb B1_1.out.lt)
  clear K1 B0_1 B1_1 L1 hb
  have r0_0 := B0_2.out.rd 0 rfl
  have r0_1 := B0_2.out.rd 1 rfl
  go_wp2_with fail
  refine (HC.out _ K2.out).mono ?_
  rintro e w3 ⟨A', cap, rfl, hb, hw⟩
  clear r0_0 r0_1
  have K3 := Lib.hid (K2.out.trans (hb.mono K2.out.size))
  have L3 := Lib.hid (Nat.le_trans L2.out hb.size)
  have B0_3 := Lib.hid (B0_2.out.below hb B0_2.out.lt)
  have B1_3 := Lib.hid (B1_2.out.below hb B1_2.out.lt)
  have Tw_3 := Lib.hid hw
  have Mw := Lib.hid L2.out
  clear K2 B0_2 B1_2 L2 hb hw
  have r0_0 := B0_3.out.rd 0 rfl
  have r0_1 := B0_3.out.rd 1 rfl
  have r1_0 := B1_3.out.rd 0 rfl
  have r1_1 := B1_3.out.rd 1 rfl
  have z1_0 := B1_3.out.frozen 0
  have z1_1 := B1_3.out.frozen 1
  go_wp2_with fail
  refine bodyPost_ret (v := .tuple #[.agg #[.int .i64 c0, .slice A' us.length cap], .int .i64 0]) (by simp [results, Try.results39, go_sem, r1_0, r1_1, z1_0, z1_1]) rfl ⟨A', cap, rfl, ?_, ?_⟩
  · exact (K3.out.setCell (show w.heap.size ≤ w.heap.size + 1 by omega) _).setCell (show w.heap.size ≤ w.heap.size + 1 by omega) _
  · have h1 := Mw.out
    exact ((Tw_3.out.far (show w.heap.size + 1 < _ by omega) _).far (show w.heap.size + 1 < _ by omega) _).low (by omega)

set_option maxRecDepth 100000 in
set_option maxHeartbeats 1000000 in
theorem implRename_1 (c0 : Int) (A : Option Addr) (n c : Nat) (ts : List Tl) (P0 : Option Addr) (m d : Nat) (p : List Int) (w : World) (hn : n ≤ 1048576) (hl : ts.length = n) (hA : TR w w.heap.size A ts) (hm : m ≤ 1048576) (hlp : p.length = m) (hP : IR w w.heap.size P0 p) (hs : isSet c0 ts = false) :
    Calls Try.prog 41 #[.agg #[.int .i64 c0, .slice A n c], .slice P0 m d] w (SetRes w 0 [] 1) := by
  have his : ∀ W, Below w.heap.size w W → Calls Try.prog 70 #[.agg #[.int .i64 c0, .slice A n c]] W _ := fun W hW => isSet_any c0 A n c ts W (by omega) hl ((hA.below hW (Nat.le_refl _)).more hW.size)
  rw [hs] at his
  have HI := Lib.hid his
  clear his
  clear hA hP
  unfold SetRes
  go_enter Try.func41, Try.ntmps41
  go_wp2_with fail
  have hx0 : Ext w (((w.alloc (Obj.cells #[.int .i64 c0, .slice A n c] 35)).alloc (Obj.cells #[.slice P0 m d] 41)).alloc (Obj.cells #[.int .i64 0, .slice none 0 0] 35)) := (((Ext.refl w).alloc _).alloc _).alloc _
  have hb0 : Blk (((w.alloc (Obj.cells #[.int .i64 c0, .slice A n c] 35)).alloc (Obj.cells #[.slice P0 m d] 41)).alloc (Obj.cells #[.int .i64 0, .slice none 0 0] 35)) (w.heap.size) 35 #[.int .i64 c0, .slice A n c] := by have := ((Blk.new w 35 #[.int .i64 c0, .slice A n c]).ext (show Ext (w.alloc (Obj.cells #[.int .i64 c0, .slice A n c] 35)) (((w.alloc (Obj.cells #[.int .i64 c0, .slice A n c] 35)).alloc (Obj.cells #[.slice P0 m d] 41)).alloc (Obj.cells #[.int .i64 0, .slice none 0 0] 35)) from ((Ext.refl _).alloc _).alloc _)); simpa using this
  have hb1 : Blk (((w.alloc (Obj.cells #[.int .i64 c0, .slice A n c] 35)).alloc (Obj.cells #[.slice P0 m d] 41)).alloc (Obj.cells #[.int .i64 0, .slice none 0 0] 35)) (w.heap.size + 1) 41 #[.slice P0 m d] := by have := ((Blk.new (w.alloc (Obj.cells #[.int .i64 c0, .slice A n c] 35)) 41 #[.slice P0 m d]).ext (show Ext ((w.alloc (Obj.cells #[.int .i64 c0, .slice A n c] 35)).alloc (Obj.cells #[.slice P0 m d] 41)) (((w.alloc (Obj.cells #[.int .i64 c0, .slice A n c] 35)).alloc (Obj.cells #[.slice P0 m d] 41)).alloc (Obj.cells #[.int .i64 0, .slice none 0 0] 35)) from (Ext.refl _).alloc _)); simpa using this
  have hb2 : Blk (((w.alloc (Obj.cells #[.int .i64 c0, .slice A n c] 35)).alloc (Obj.cells #[.slice P0 m d] 41)).alloc (Obj.cells #[.int .i64 0, .slice none 0 0] 35)) (w.heap.size + 2) 35 #[.int .i64 0, .slice none 0 0] := by have := (Blk.new ((w.alloc (Obj.cells #[.int .i64 c0, .slice A n c] 35)).alloc (Obj.cells #[.slice P0 m d] 41)) 35 #[.int .i64 0, .slice none 0 0]); simpa using this
  have K0 := Lib.hid (hx0.below (Nat.le_refl _))
  have L0 := Lib.hid (show w.heap.size + 3 ≤ (((w.alloc (Obj.cells #[.int .i64 c0, .slice A n c] 35)).alloc (Obj.cells #[.slice P0 m d] 41)).alloc (Obj.cells #[.int .i64 0, .slice none 0 0] 35)).heap.size by simp)
  have B0_0 := Lib.hid hb0
  have B1_0 := Lib.hid hb1
  have B2_0 := Lib.hid hb2
  clear hx0 hb0 hb1 hb2
  generalize (((w.alloc (Obj.cells #[.int .i64 c0, .slice A n c] 35)).alloc (Obj.cells #[.slice P0 m d] 41)).alloc (Obj.cells #[.int .i64 0, .slice none 0 0] 35)) = w0 at *
  refine (HI.out _ K0.out).mono ?_
  rintro e w1 ⟨rfl, hx⟩
  have K1 := Lib.hid (K0.out.trans ((hx.below (Nat.le_refl _)).mono K0.out.size))
  have L1 := Lib.hid (Nat.le_trans L0.out (hx.below (Nat.le_refl _)).size)
  have B0_1 := Lib.hid (B0_0.out.below (hx.below (Nat.le_refl _)) B0_0.out.lt)
  have B1_1 := Lib.hid (B1_0.out.below (hx.below (Nat.le_refl _)) B1_0.out.lt)
  have B2_1 := Lib.hid (B2_0.out.below (hx.below (Nat.le_refl _)) B2_0.out.lt)
  clear K0 B0_0 B1_0 B2_0 L0 hx
  have r0_0 := B0_1.out.rd 0 rfl
  have r0_1 := B0_1.out.rd 1 rfl
  have r1_0 := B1_1.out.rd 0 rfl
  have r2_0 := B2_1.out.rd 0 rfl
  have r2_1 := B2_1.out.rd 1 rfl
  have z2_0 := B2_1.out.frozen 0
  have z2_1 := B2_1.out.frozen 1
  go_wp2_with fail
  refine bodyPost_ret (v := .tuple #[.agg #[.int .i64 0, .slice none 0 0], .int .i64 1]) (by simp [results, Try.results41, go_sem, r2_0, r2_1, z2_0, z2_1]) rfl ⟨none, 0, rfl, ?_, ?_⟩
  · exact (K1.out.setCell (show w.heap.size ≤ w.heap.size + 2 by omega) _).setCell (show w.heap.size ≤ w.heap.size + 2 by omega) _
  · exact fun h => absurd h (Nat.lt_irrefl _)

set_option maxRecDepth 100000 in
set_option maxHeartbeats 1000000 in
theorem implRename_2 (c0 : Int) (A : Option Addr) (n c : Nat) (ts : List Tl) (P0 : Option Addr) (m d : Nat) (p : List Int) (w : World) (hn : n ≤ 1048576) (hl : ts.length = n) (hA : TR w w.heap.size A ts) (hm : m ≤ 1048576) (hlp : p.length = m) (hP : IR w w.heap.size P0 p) (hs : isSet c0 ts = true) (hr : isRen p c0 = false) :
    Calls Try.prog 41 #[.agg #[.int .i64 c0, .slice A n c], .slice P0 m d] w (SetRes w 0 [] 2) := by
  have his : ∀ W, Below w.heap.size w W → Calls Try.prog 70 #[.agg #[.int .i64 c0, .slice A n c]] W _ := fun W hW => isSet_any c0 A n c ts W (by omega) hl ((hA.below hW (Nat.le_refl _)).more hW.size)
  rw [hs] at his
  have HI := Lib.hid his
  clear his
  have hc6 := isSet_col hs
  have hor : ∀ W, Below w.heap.size w W → Calls Try.prog 78 #[.slice P0 m d, .int .i64 c0] W _ := fun W hW => isRenaming_any P0 m d p c0 W (by omega) hlp hc6 ((hP.below hW (Nat.le_refl _)).more hW.size)
  rw [hr] at hor
  have HO := Lib.hid hor
  clear hor
  clear hA hP
  unfold SetRes
  go_enter Try.func41, Try.ntmps41
  go_wp2_with fail
  have hx0 : Ext w (((w.alloc (Obj.cells #[.int .i64 c0, .slice A n c] 35)).alloc (Obj.cells #[.slice P0 m d] 41)).alloc (Obj.cells #[.int .i64 0, .slice none 0 0] 35)) := (((Ext.refl w).alloc _).alloc _).alloc _
  have hb0 : Blk (((w.alloc (Obj.cells #[.int .i64 c0, .slice A n c] 35)).alloc (Obj.cells #[.slice P0 m d] 41)).alloc (Obj.cells #[.int .i64 0, .slice none 0 0] 35)) (w.heap.size) 35 #[.int .i64 c0, .slice A n c] := by have := ((Blk.new w 35 #[.int .i64 c0, .slice A n c]).ext (show Ext (w.alloc (Obj.cells #[.int .i64 c0, .slice A n c] 35)) (((w.alloc (Obj.cells #[.int .i64 c0, .slice A n c] 35)).alloc (Obj.cells #[.slice P0 m d] 41)).alloc (Obj.cells #[.int .i64 0, .slice none 0 0] 35)) from ((Ext.refl _).alloc _).alloc _)); simpa using this
  have hb1 : Blk (((w.alloc (Obj.cells #[.int .i64 c0, .slice A n c] 35)).alloc (Obj.cells #[.slice P0 m d] 41)).alloc (Obj.cells #[.int .i64 0, .slice none 0 0] 35)) (w.heap.size + 1) 41 #[.slice P0 m d] := by have := ((Blk.new (w.alloc (Obj.cells #[.int .i64 c0, .slice A n c] 35)) 41 #[.slice P0 m d]).ext (show Ext ((w.alloc (Obj.cells #[.int .i64 c0, .slice A n c] 35)).alloc (Obj.cells #[.slice P0 m d] 41)) (((w.alloc (Obj.cells #[.int .i64 c0, .slice A n c] 35)).alloc (Obj.cells #[.slice P0 m d] 41)).alloc (Obj.cells #[.int .i64 0, .slice none 0 0] 35)) from (Ext.refl _).alloc _)); simpa using this
  have hb2 : Blk (((w.alloc (Obj.cells #[.int .i64 c0, .slice A n c] 35)).alloc (Obj.cells #[.slice P0 m d] 41)).alloc (Obj.cells #[.int .i64 0, .slice none 0 0] 35)) (w.heap.size + 2) 35 #[.int .i64 0, .slice none 0 0] := by have := (Blk.new ((w.alloc (Obj.cells #[.int .i64 c0, .slice A n c] 35)).alloc (Obj.cells #[.slice P0 m d] 41)) 35 #[.int .i64 0, .slice none 0 0]); simpa using this
  have K0 := Lib.hid (hx0.below (Nat.le_refl _))
  have L0 := Lib.hid (show w.heap.size + 3 ≤ (((w.alloc (Obj.cells #[.int .i64 c0, .slice A n c] 35)).alloc (Obj.cells #[.slice P0 m d] 41)).alloc (Obj.cells #[.int .i64 0, .slice none 0 0] 35)).heap.size by simp)
  have B0_0 := Lib.hid hb0
  have B1_0 := Lib.hid hb1
  have B2_0 := Lib.hid hb2
  clear hx0 hb0 hb1 hb2
  generalize (((w.alloc (Obj.cells #[.int .i64 c0, .slice A n c] 35)).alloc (Obj.cells #[.slice P0 m d] 41)).alloc (Obj.cells #[.int .i64 0, .slice none 0 0] 35)) = w0 at *
  refine (HI.out _ K0.out).mono ?_
  rintro e w1 ⟨rfl, hx⟩
  have K1 := Lib.hid (K0.out.trans ((hx.below (Nat.le_refl _)).mono K0.out.size))
  have L1 := Lib.hid (Nat.le_trans L0.out (hx.below (Nat.le_refl _)).size)
  have B0_1 := Lib.hid (B0_0.out.below (hx.below (Nat.le_refl _)) B0_0.out.lt)
  have B1_1 := Lib.hid (B1_0.out.below (hx.below (Nat.le_refl _)) B1_0.out.lt)
  have B2_1 := Lib.hid (B2_0.out.below (hx.below (Nat.le_refl _)) B2_0.out.lt)
  clear K0 B0_0 B1_0 B2_0 L0 hx
  have r0_0 := B0_1.out.rd 0 rfl
  have r0_1 := B0_1.out.rd 1 rfl
  have r1_0 := B1_1.out.rd 0 rfl
  go_wp2_with fail
  refine (HO.out _ K1.out).mono ?_
  rintro e w2 ⟨rfl, hb⟩
  clear r0_0 r0_1 r1_0
  have K2 := Lib.hid (K1.out.trans (hb.mono K1.out.size))
  have L2 := Lib.hid (Nat.le_trans L1.out hb.size)
  have B0_2 := Lib.hid (B0_1.out.below hb B0_1.out.lt)
  have B1_2 := Lib.hid (B1_1.out.below hb B1_1.out.lt)
  have B2_2 := Lib.hid (B2_1.out.below hb B2_1.out.lt)
  clear K1 B0_1 B1_1 B2_1 L1 hb
  have r0_0 := B0_2.out.rd 0 rfl
  have r0_1 := B0_2.out.rd 1 rfl
  have r1_0 := B1_2.out.rd 0 rfl
  have r2_0 := B2_2.out.rd 0 rfl
  have r2_1 := B2_2.out.rd 1 rfl
  have z2_0 := B2_2.out.frozen 0
  have z2_1 := B2_2.out.frozen 1
  go_wp2_with fail
  refine bodyPost_ret (v := .tuple #[.agg #[.int .i64 0, .slice none 0 0], .int .i64 2]) (by simp [results, Try.results41, go_sem, r2_0, r2_1, z2_0, z2_1]) rfl ⟨none, 0, rfl, ?_, ?_⟩
  · exact (K2.out.setCell (show w.heap.size ≤ w.heap.size + 2 by omega) _).setCell (show w.heap.size ≤ w.heap.size + 2 by omega) _
  · exact fun h => absurd h (Nat.lt_irrefl _)

set_option maxRecDepth 100000 in
set_option maxHeartbeats 1000000 in
theorem implRename_0 (c0 : Int) (A : Option Addr) (n c : Nat) (ts : List Tl) (P0 : Option Addr) (m d : Nat) (p : List Int) (w : World) (hn : n ≤ 1048576) (hl : ts.length = n) (hA : TR w w.heap.size A ts) (hm : m ≤ 1048576) (hlp : p.length = m) (hP : IR w w.heap.size P0 p) (hs : isSet c0 ts = true) (hr : isRen p c0 = true) :
    Calls Try.prog 41 #[.agg #[.int .i64 c0, .slice A n c], .slice P0 m d] w (SetRes w c0 (sortT (ts.map (renT p))) 0) := by
  have his : ∀ W, Below w.heap.size w W → Calls Try.prog 70 #[.agg #[.int .i64 c0, .slice A n c]] W _ := fun W hW => isSet_any c0 A n c ts W (by omega) hl ((hA.below hW (Nat.le_refl _)).more hW.size)
  rw [hs] at his
  have HI := Lib.hid his
  clear his
  have hc6 := isSet_col hs
  have hor : ∀ W, Below w.heap.size w W → Calls Try.prog 78 #[.slice P0 m d, .int .i64 c0] W _ := fun W hW => isRenaming_any P0 m d p c0 W (by omega) hlp hc6 ((hP.below hW (Nat.le_refl _)).more hW.size)
  rw [hr] at hor
  have HO := Lib.hid hor
  clear hor
  have hmc : (m : Int) = c0 := by
    simp only [isRen, Bool.and_eq_true, decide_eq_true_eq] at hr
    rw [← hlp]
    exact hr.1
  have hok : ∀ t ∈ ts, tileOk (m : Int) t = true := by rw [hmc]; exact ok_of_isSet hs
  have eg : ∀ args w, (callFunc 80 args).run Try.prog w = .ok (.enter 80 args) w := enters_of Try.func80 (by kernel_rfl) rfl
  have hcs : ∀ W, Below w.heap.size w W → Blk W (w.heap.size + 1) 41 #[.slice P0 m d] → Calls Try.prog 79 #[.agg #[.int .i64 c0, .slice A n c], .func (.func 80) #[] #[.pointer (some ⟨w.heap.size + 1, 0, none⟩)]] W (SetRes W c0 (sortT (ts.map (renT p))) 0) := fun W hW hBk => by
    have hlt := hBk.lt
    have := changedSet_yes c0 A n c ts (renT p) 80 #[.pointer (some ⟨w.heap.size + 1, 0, none⟩)] W (by have := isSet_len hs; omega) hl ((hA.below hW (Nat.le_refl _)).more hW.size) eg
      (fun V hV k hk => renClosure_any (w.heap.size + 1) P0 m d p (ts.getD k T0) V (by omega) hlp ((hBk.below hV hlt).rd 0 rfl) ((hP.below (hW.trans (hV.mono hW.size)) (Nat.le_refl _)).more (Nat.le_trans hW.size hV.size)) (hok _ (by simp [List.getD, show k < ts.length by omega]))) hs
    rwa [sortM_eq (nodup_map_on (fun x hx y hy h => renT_inj hr (by rw [← hmc]; exact hok x hx) (by rw [← hmc]; exact hok y hy) h) (nodup_of_asc (asc_of_isSet hs)))] at this
  have HC := Lib.hid hcs
  clear hcs hok eg hA hP
  unfold SetRes at HC ⊢
  generalize sortT (ts.map (renT p)) = us at HC ⊢
  go_enter Try.func41, Try.ntmps41
  go_wp2_with fail
  have hx0 : Ext w (((w.alloc (Obj.cells #[.int .i64 c0, .slice A n c] 35)).alloc (Obj.cells #[.slice P0 m d] 41)).alloc (Obj.cells #[.int .i64 0, .slice none 0 0] 35)) := (((Ext.refl w).alloc _).alloc _).alloc _
  have hb0 : Blk (((w.alloc (Obj.cells #[.int .i64 c0, .slice A n c] 35)).alloc (Obj.cells #[.slice P0 m d] 41)).alloc (Obj.cells #[.int .i64 0, .slice none 0 0] 35)) (w.heap.size) 35 #[.int .i64 c0, .slice A n c] := by have := ((Blk.new w 35 #[.int .i64 c0, .slice A n c]).ext (show Ext (w.alloc (Obj.cells #[.int .i64 c0, .slice A n c] 35)) (((w.alloc (Obj.cells #[.int .i64 c0, .slice A n c] 35)).alloc (Obj.cells #[.slice P0 m d] 41)).alloc (Obj.cells #[.int .i64 0, .slice none 0 0] 35)) from ((Ext.refl _).alloc _).alloc _)); simpa using this
  have hb1 : Blk (((w.alloc (Obj.cells #[.int .i64 c0, .slice A n c] 35)).alloc (Obj.cells #[.slice P0 m d] 41)).alloc (Obj.cells #[.int .i64 0, .slice none 0 0] 35)) (w.heap.size + 1) 41 #[.slice P0 m d] := by have := ((Blk.new (w.alloc (Obj.cells #[.int .i64 c0, .slice A n c] 35)) 41 #[.slice P0 m d]).ext (show Ext ((w.alloc (Obj.cells #[.int .i64 c0, .slice A n c] 35)).alloc (Obj.cells #[.slice P0 m d] 41)) (((w.alloc (Obj.cells #[.int .i64 c0, .slice A n c] 35)).alloc (Obj.cells #[.slice P0 m d] 41)).alloc (Obj.cells #[.int .i64 0, .slice none 0 0] 35)) from (Ext.refl _).alloc _)); simpa using this
  have hb2 : Blk (((w.alloc (Obj.cells #[.int .i64 c0, .slice A n c] 35)).alloc (Obj.cells #[.slice P0 m d] 41)).alloc (Obj.cells #[.int .i64 0, .slice none 0 0] 35)) (w.heap.size + 2) 35 #[.int .i64 0, .slice none 0 0] := by have := (Blk.new ((w.alloc (Obj.cells #[.int .i64 c0, .slice A n c] 35)).alloc (Obj.cells #[.slice P0 m d] 41)) 35 #[.int .i64 0, .slice none 0 0]); simpa using this
  have K0 := Lib.hid (hx0.below (Nat.le_refl _))
  have L0 := Lib.hid (show w.heap.size + 3 ≤ (((w.alloc (Obj.cells #[.int .i64 c0, .slice A n c] 35)).alloc (Obj.cells #[.slice P0 m d] 41)).alloc (Obj.cells #[.int .i64 0, .slice none 0 0] 35)).heap.size by simp)
  have B0_0 := Lib.hid hb0
  have B1_0 := Lib.hid hb1
  have B2_0 := Lib.hid hb2
  clear hx0 hb0 hb1 hb2
  generalize (((w.alloc (Obj.cells #[.int .i64 c0, .slice A n c] 35)).alloc (Obj.cells #[.slice P0 m d] 41)).alloc (Obj.cells #[.int .i64 0, .slice none 0 0] 35)) = w0 at *
  refine (HI.out _ K0.out).mono ?_
  rintro e w1 ⟨rfl, hx⟩
  have K1 := Lib.hid (K0.out.trans ((hx.below (Nat.le_refl _)).mono K0.out.size))
  have L1 := Lib.hid (Nat.le_trans L0.out (hx.below (Nat.le_refl _)).size)
  have B0_1 := Lib.hid (B0_0.out.below (hx.below (Nat.le_refl _)) B0_0.out.lt)
  have B1_1 := Lib.hid (B1_0.out.below (hx.below (Nat.le_refl _)) B1_0.out.lt)
  have B2_1 := Lib.hid (B2_0.out.below (hx.below (Nat.le_refl _)) B2_0.out.lt)
  clear K0 B0_0 B1_0 B2_0 L0 hx
  have r0_0 := B0_1.out.rd 0 rfl
  have r0_1 := B0_1.out.rd 1 rfl
  have r1_0 := B1_1.out.rd 0 rfl
  go_wp2_with fail
  refine (HO.out _ K1.out).mono ?_
  rintro e w2 ⟨rfl, hb⟩
  clear r0_0 r0_1 r1_0
  have K2 := Lib.hid (K1.out.trans (hb.mono K1.out.size))
  have L2 := Lib.hid (Nat.le_trans L1.out hb.size)
  have B0_2 := Lib.hid (B0_1.out.below hb B0_1.out.lt)
  have B1_2 := Lib.hid (B1_1.out.below hb B1_1.out.lt)
  have B2_2 := Lib.hid (B2_1.out.below hb B2_1.out.lt)
  clear K1 B0_1 B1_1 B2_1 L1 hb
  have r0_0 := B0_2.out.rd 0 rfl
  have r0_1 := B0_2.out.rd 1 rfl
  have r1_0 := B1_2.out.rd 0 rfl
  have r2_0 := B2_2.out.rd 0 rfl
  have r2_1 := B2_2.out.rd 1 rfl
  have z2_0 := B2_2.out.frozen 0
  have z2_1 := B2_2.out.frozen 1
  go_wp2_with fail
  refine (HC.out _ K2.out B1_2.out).mono ?_
  rintro e w3 ⟨A', cap, rfl, hb, hw⟩
  have K3 := Lib.hid (K2.out.trans (hb.mono K2.out.size))
  have L3 := Lib.hid (Nat.le_trans L2.out hb.size)
  have B2_3 := Lib.hid (B2_2.out.below hb B2_2.out.lt)
  have Tw_3 := Lib.hid hw
  have Mw := Lib.hid L2.out
  clear K2 B0_2 B1_2 B2_2 L2 hb hw
  clear r0_0 r0_1 r1_0 r2_0 r2_1 z2_0 z2_1
  have r2_0 := B2_3.out.rd 0 rfl
  have r2_1 := B2_3.out.rd 1 rfl
  have z2_0 := B2_3.out.frozen 0
  have z2_1 := B2_3.out.frozen 1
  go_wp2_with fail
  refine bodyPost_ret (v := .tuple #[.agg #[.int .i64 c0, .slice A' us.length cap], .int .i64 0]) (by simp [results, Try.results41, go_sem, r2_0, r2_1, z2_0, z2_1]) rfl ⟨A', cap, rfl, ?_, ?_⟩
  · exact (K3.out.setCell (show w.heap.size ≤ w.heap.size + 2 by omega) _).setCell (show w.heap.size ≤ w.heap.size + 2 by omega) _
  · have h1 := Mw.out
    exact ((Tw_3.out.far (show w.heap.size + 2 < _ by omega) _).far (show w.heap.size + 2 < _ by omega) _).low (by omega)
end Go.Proofs.Ytjbnmkiidongmaa
