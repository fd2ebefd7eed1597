/- KeepLasting: both sides. -/
import Derived.Test.YtpjlapialjjcdaaKept2
import Derived.Test.YtpjlapialjjcdaaSBridge
import Derived.Lib.Hide
namespace Go.Proofs.Ytpjlapialjjcdaa
set_option linter.unusedVariables false
set_option linter.unusedSimpArgs false
open Go.RowKit Go.Sort

set_option maxRecDepth 100000 in
set_option maxHeartbeats 1000000 in
theorem specKeepLasting_1 (c0 : Int) (A : Option Addr) (n c : Nat) (ts : List Tl) (w : World) (hn : n ≤ 1048576) (hl : ts.length = n) (hA : TR w w.heap.size A ts) (hs : isSet c0 ts = false) :
    Calls Try.prog 41 #[.agg #[.int .i64 c0, .slice A n c]] w (SetRes w 0 [] 1) := by
  have his : ∀ W, Below w.heap.size w W → Calls Try.prog 56 #[.agg #[.int .i64 c0, .slice A n c]] W _ := fun W hW => l01Is_any c0 A n c ts W (by omega) hl ((hA.below hW (Nat.le_refl _)).more hW.size)
  rw [hs] at his
  have HI := Lib.hid his
  clear his
  clear hA
  unfold SetRes
  go_enter Try.func41, Try.ntmps41
  go_wp2_with fail
  have hx0 : Ext w ((w.alloc (Obj.cells #[.int .i64 c0, .slice A n c] 31)).alloc (Obj.cells #[.int .i64 0, .slice none 0 0] 31)) := ((Ext.refl w).alloc _).alloc _
  have hb0 : Blk ((w.alloc (Obj.cells #[.int .i64 c0, .slice A n c] 31)).alloc (Obj.cells #[.int .i64 0, .slice none 0 0] 31)) (w.heap.size) 31 #[.int .i64 c0, .slice A n c] := by have := ((Blk.new w 31 #[.int .i64 c0, .slice A n c]).ext (show Ext (w.alloc (Obj.cells #[.int .i64 c0, .slice A n c] 31)) ((w.alloc (Obj.cells #[.int .i64 c0, .slice A n c] 31)).alloc (Obj.cells #[.int .i64 0, .slice none 0 0] 31)) from (Ext.refl _).alloc _)); simpa using this
  have hb1 : Blk ((w.alloc (Obj.cells #[.int .i64 c0, .slice A n c] 31)).alloc (Obj.cells #[.int .i64 0, .slice none 0 0] 31)) (w.heap.size + 1) 31 #[.int .i64 0, .slice none 0 0] := by have := (Blk.new (w.alloc (Obj.cells #[.int .i64 c0, .slice A n c] 31)) 31 #[.int .i64 0, .slice none 0 0]); simpa using this
  have K0 := Lib.hid (hx0.below (Nat.le_refl _))
  have L0 := Lib.hid (show w.heap.size + 2 ≤ ((w.alloc (Obj.cells #[.int .i64 c0, .slice A n c] 31)).alloc (Obj.cells #[.int .i64 0, .slice none 0 0] 31)).heap.size by simp)
  have B0_0 := Lib.hid hb0
  have B1_0 := Lib.hid hb1
  clear hx0 hb0 hb1
  generalize ((w.alloc (Obj.cells #[.int .i64 c0, .slice A n c] 31)).alloc (Obj.cells #[.int .i64 0, .slice none 0 0] 31)) = w0 at *
  refine (HI.out _ K0.out).mono ?_
  rintro e w1 ⟨rfl, hx⟩
  have K1 := Lib.hid (K0.out.trans ((hx.below (Nat.le_refl _)).mono K0.out.size))
  have L1 := Lib.hid (Nat.le_trans L0.out (hx.below (Nat.le_refl _)).size)
  have B0_1 := Lib.hid (B0_0.out.below (hx.below (Nat.le_refl _)) B0_0.out.lt)
  have B1_1 := Lib.hid (B1_0.out.below (hx.below (Nat.le_refl _)) B1_0.out.lt)
  clear K0 B0_0 B1_0 L0 hx
  have r0_0 := B0_1.out.rd 0 rfl
  have r0_1 := B0_1.out.rd 1 rfl
  have r1_0 := B1_1.out.rd 0 rfl
  have r1_1 := B1_1.out.rd 1 rfl
  have z1_0 := B1_1.out.frozen 0
  have z1_1 := B1_1.out.frozen 1
  go_wp2_with fail
  refine bodyPost_ret (v := .tuple #[.agg #[.int .i64 0, .slice none 0 0], .int .i64 1]) (by simp [results, Try.results41, go_sem, r1_0, r1_1, z1_0, z1_1]) rfl ⟨none, 0, rfl, ?_, ?_⟩
  · exact (K1.out.setCell (show w.heap.size ≤ w.heap.size + 1 by omega) _).setCell (show w.heap.size ≤ w.heap.size + 1 by omega) _
  · exact fun h => absurd h (Nat.lt_irrefl _)

set_option maxRecDepth 100000 in
set_option maxHeartbeats 1000000 in
theorem specKeepLasting_0 (c0 : Int) (A : Option Addr) (n c : Nat) (ts : List Tl) (w : World) (hn : n ≤ 1048576) (hl : ts.length = n) (hA : TR w w.heap.size A ts) (hs : isSet c0 ts = true) :
    Calls Try.prog 41 #[.agg #[.int .i64 c0, .slice A n c]] w (SetRes w c0 (lastingT ts) 0) := by
  have his : ∀ W, Below w.heap.size w W → Calls Try.prog 56 #[.agg #[.int .i64 c0, .slice A n c]] W _ := fun W hW => l01Is_any c0 A n c ts W (by omega) hl ((hA.below hW (Nat.le_refl _)).more hW.size)
  rw [hs] at his
  have HI := Lib.hid his
  clear his
  have hre : ∀ W, Below w.heap.size w W → Calls Try.prog 76 #[.agg #[.int .i64 c0, .slice A n c]] W (SetOnly W c0 (lastingT ts)) := fun W hW => l04Kept_any c0 A n c ts W (by have := isSet_len hs; omega) hl ((hA.below hW (Nat.le_refl _)).more hW.size) (asc_of_isSet hs)
  unfold SetOnly at hre
  have HC := Lib.hid hre
  clear hre
  generalize lastingT ts = us at HC ⊢
  clear hA
  unfold SetRes
  go_enter Try.func41, Try.ntmps41
  go_wp2_with fail
  have hx0 : Ext w ((w.alloc (Obj.cells #[.int .i64 c0, .slice A n c] 31)).alloc (Obj.cells #[.int .i64 0, .slice none 0 0] 31)) := ((Ext.refl w).alloc _).alloc _
  have hb0 : Blk ((w.alloc (Obj.cells #[.int .i64 c0, .slice A n c] 31)).alloc (Obj.cells #[.int .i64 0, .slice none 0 0] 31)) (w.heap.size) 31 #[.int .i64 c0, .slice A n c] := by have := ((Blk.new w 31 #[.int .i64 c0, .slice A n c]).ext (show Ext (w.alloc (Obj.cells #[.int .i64 c0, .slice A n c] 31)) ((w.alloc (Obj.cells #[.int .i64 c0, .slice A n c] 31)).alloc (Obj.cells #[.int .i64 0, .slice none 0 0] 31)) from (Ext.refl _).alloc _)); simpa using this
  have hb1 : Blk ((w.alloc (Obj.cells #[.int .i64 c0, .slice A n c] 31)).alloc (Obj.cells #[.int .i64 0, .slice none 0 0] 31)) (w.heap.size + 1) 31 #[.int .i64 0, .slice none 0 0] := by have := (Blk.new (w.alloc (Obj.cells #[.int .i64 c0, .slice A n c] 31)) 31 #[.int .i64 0, .slice none 0 0]); simpa using this
  have K0 := Lib.hid (hx0.below (Nat.le_refl _))
  have L0 := Lib.hid (show w.heap.size + 2 ≤ ((w.alloc (Obj.cells #[.int .i64 c0, .slice A n c] 31)).alloc (Obj.cells #[.int .i64 0, .slice none 0 0] 31)).heap.size by simp)
  have B0_0 := Lib.hid hb0
  have B1_0 := Lib.hid hb1
  clear hx0 hb0 hb1
  generalize ((w.alloc (Obj.cells #[.int .i64 c0, .slice A n c] 31)).alloc (Obj.cells #[.int .i64 0, .slice none 0 0] 31)) = w0 at *
  refine (HI.out _ K0.out).mono ?_
  rintro e w1 ⟨rfl, hx⟩
  have K1 := Lib.hid (K0.out.trans ((hx.below (Nat.le_refl _)).mono K0.out.size))
  have L1 := Lib.hid (Nat.le_trans L0.out (hx.below (Nat.le_refl _)).size)
  have B0_1 := Lib.hid (B0_0.out.below (hx.below (Nat.le_refl _)) B0_0.out.lt)
  have B1_1 := Lib.hid (B1_0.out.below (hx.below (Nat.le_refl _)) B1_0.out.lt)
  clear K0 B0_0 B1_0 L0 hx
  have r0_0 := B0_1.out.rd 0 rfl
  have r0_1 := B0_1.out.rd 1 rfl
  go_wp2_with fail
  refine (HC.out _ K1.out).mono ?_
  rintro e w2 ⟨A', cap, rfl, hb, hw⟩
  clear r0_0 r0_1
  have K2 := Lib.hid (K1.out.trans (hb.mono K1.out.size))
  have L2 := Lib.hid (Nat.le_trans L1.out hb.size)
  have B0_2 := Lib.hid (B0_1.out.below hb B0_1.out.lt)
  have B1_2 := Lib.hid (B1_1.out.below hb B1_1.out.lt)
  have Tw_2 := Lib.hid hw
  have Mw := Lib.hid L1.out
  clear K1 B0_1 B1_1 L1 hb hw
  have r0_0 := B0_2.out.rd 0 rfl
  have r0_1 := B0_2.out.rd 1 rfl
  have r1_0 := B1_2.out.rd 0 rfl
  have r1_1 := B1_2.out.rd 1 rfl
  have z1_0 := B1_2.out.frozen 0
  have z1_1 := B1_2.out.frozen 1
  go_wp2_with fail
  refine bodyPost_ret (v := .tuple #[.agg #[.int .i64 c0, .slice A' us.length cap], .int .i64 0]) (by simp [results, Try.results41, go_sem, r1_0, r1_1, z1_0, z1_1]) rfl ⟨A', cap, rfl, ?_, ?_⟩
  · exact (K2.out.setCell (show w.heap.size ≤ w.heap.size + 1 by omega) _).setCell (show w.heap.size ≤ w.heap.size + 1 by omega) _
  · have h1 := Mw.out
    exact ((Tw_2.out.far (show w.heap.size + 1 < _ by omega) _).far (show w.heap.size + 1 < _ by omega) _).low (by omega)

set_option maxRecDepth 100000 in
set_option maxHeartbeats 1000000 in
theorem implKeepLasting_1 (c0 : Int) (A : Option Addr) (n c : Nat) (ts : List Tl) (w : World) (hn : n ≤ 1048576) (hl : ts.length = n) (hA : TR w w.heap.size A ts) (hs : isSet c0 ts = false) :
    Calls Try.prog 42 #[.agg #[.int .i64 c0, .slice A n c]] w (SetRes w 0 [] 1) := by
  have his : ∀ W, Below w.heap.size w W → Calls Try.prog 58 #[.agg #[.int .i64 c0, .slice A n c]] W _ := fun W hW => isSet_any c0 A n c ts W (by omega) hl ((hA.below hW (Nat.le_refl _)).more hW.size)
  rw [hs] at his
  have HI := Lib.hid his
  clear his
  clear hA
  unfold SetRes
  go_enter Try.func42, Try.ntmps42
  go_wp2_with fail
  have hx0 : Ext w ((w.alloc (Obj.cells #[.int .i64 c0, .slice A n c] 31)).alloc (Obj.cells #[.int .i64 0, .slice none 0 0] 31)) := ((Ext.refl w).alloc _).alloc _
  have hb0 : Blk ((w.alloc (Obj.cells #[.int .i64 c0, .slice A n c] 31)).alloc (Obj.cells #[.int .i64 0, .slice none 0 0] 31)) (w.heap.size) 31 #[.int .i64 c0, .slice A n c] := by have := ((Blk.new w 31 #[.int .i64 c0, .slice A n c]).ext (show Ext (w.alloc (Obj.cells #[.int .i64 c0, .slice A n c] 31)) ((w.alloc (Obj.cells #[.int .i64 c0, .slice A n c] 31)).alloc (Obj.cells #[.int .i64 0, .slice none 0 0] 31)) from (Ext.refl _).alloc _)); simpa using this
  have hb1 : Blk ((w.alloc (Obj.cells #[.int .i64 c0, .slice A n c] 31)).alloc (Obj.cells #[.int .i64 0, .slice none 0 0] 31)) (w.heap.size + 1) 31 #[.int .i64 0, .slice none 0 0] := by have := (Blk.new (w.alloc (Obj.cells #[.int .i64 c0, .slice A n c] 31)) 31 #[.int .i64 0, .slice none 0 0]); simpa using this
  have K0 := Lib.hid (hx0.below (Nat.le_refl _))
  have L0 := Lib.hid (show w.heap.size + 2 ≤ ((w.alloc (Obj.cells #[.int .i64 c0, .slice A n c] 31)).alloc (Obj.cells #[.int .i64 0, .slice none 0 0] 31)).heap.size by simp)
  have B0_0 := Lib.hid hb0
  have B1_0 := Lib.hid hb1
  clear hx0 hb0 hb1
  generalize ((w.alloc (Obj.cells #[.int .i64 c0, .slice A n c] 31)).alloc (Obj.cells #[.int .i64 0, .slice none 0 0] 31)) = w0 at *
  refine (HI.out _ K0.out).mono ?_
  rintro e w1 ⟨rfl, hx⟩
  have K1 := Lib.hid (K0.out.trans ((hx.below (Nat.le_refl _)).mono K0.out.size))
  have L1 := Lib.hid (Nat.le_trans L0.out (hx.below (Nat.le_refl _)).size)
  have B0_1 := Lib.hid (B0_0.out.below (hx.below (Nat.le_refl _)) B0_0.out.lt)
  have B1_1 := Lib.hid (B1_0.out.below (hx.below (Nat.le_refl _)) B1_0.out.lt)
  clear K0 B0_0 B1_0 L0 hx
  have r0_0 := B0_1.out.rd 0 rfl
  have r0_1 := B0_1.out.rd 1 rfl
  have r1_0 := B1_1.out.rd 0 rfl
  have r1_1 := B1_1.out.rd 1 rfl
  have z1_0 := B1_1.out.frozen 0
  have z1_1 := B1_1.out.frozen 1
  go_wp2_with fail
  refine bodyPost_ret (v := .tuple #[.agg #[.int .i64 0, .slice none 0 0], .int .i64 1]) (by simp [results, Try.results42, go_sem, r1_0, r1_1, z1_0, z1_1]) rfl ⟨none, 0, rfl, ?_, ?_⟩
  · exact (K1.out.setCell (show w.heap.size ≤ w.heap.size + 1 by omega) _).setCell (show w.heap.size ≤ w.heap.size + 1 by omega) _
  · exact fun h => absurd h (Nat.lt_irrefl _)

set_option maxRecDepth 100000 in
set_option maxHeartbeats 1000000 in
theorem implKeepLasting_0 (c0 : Int) (A : Option Addr) (n c : Nat) (ts : List Tl) (w : World) (hn : n ≤ 1048576) (hl : ts.length = n) (hA : TR w w.heap.size A ts) (hs : isSet c0 ts = true) :
    Calls Try.prog 42 #[.agg #[.int .i64 c0, .slice A n c]] w (SetRes w c0 (lastingT ts) 0) := by
  have his : ∀ W, Below w.heap.size w W → Calls Try.prog 58 #[.agg #[.int .i64 c0, .slice A n c]] W _ := fun W hW => isSet_any c0 A n c ts W (by omega) hl ((hA.below hW (Nat.le_refl _)).more hW.size)
  rw [hs] at his
  have HI := Lib.hid his
  clear his
  have hre : ∀ W, Below w.heap.size w W → Calls Try.prog 77 #[.agg #[.int .i64 c0, .slice A n c]] W (SetOnly W c0 (lastingT ts)) := fun W hW => by obtain ⟨C, rfl⟩ : ∃ C : Nat, c0 = (C : Int) := ⟨c0.toNat, by have := (isSet_col hs).1; omega⟩; exact withLasting_any C A n c ts W (by omega) hl ((hA.below hW (Nat.le_refl _)).more hW.size) (by have := (isSet_col hs).2; omega) (colOk_set hs rfl)
  unfold SetOnly at hre
  have HC := Lib.hid hre
  clear hre
  generalize lastingT ts = us at HC ⊢
  clear hA
  unfold SetRes
  go_enter Try.func42, Try.ntmps42
  go_wp2_with fail
  have hx0 : Ext w ((w.alloc (Obj.cells #[.int .i64 c0, .slice A n c] 31)).alloc (Obj.cells #[.int .i64 0, .slice none 0 0] 31)) := ((Ext.refl w).alloc _).alloc _
  have hb0 : Blk ((w.alloc (Obj.cells #[.int .i64 c0, .slice A n c] 31)).alloc (Obj.cells #[.int .i64 0, .slice none 0 0] 31)) (w.heap.size) 31 #[.int .i64 c0, .slice A n c] := by have := ((Blk.new w 31 #[.int .i64 c0, .slice A n c]).ext (show Ext (w.alloc (Obj.cells #[.int .i64 c0, .slice A n c] 31)) ((w.alloc (Obj.cells #[.int .i64 c0, .slice A n c] 31)).alloc (Obj.cells #[.int .i64 0, .slice none 0 0] 31)) from (Ext.refl _).alloc _)); simpa using this
  have hb1 : Blk ((w.alloc (Obj.cells #[.int .i64 c0, .slice A n c] 31)).alloc (Obj.cells #[.int .i64 0, .slice none 0 0] 31)) (w.heap.size + 1) 31 #[.int .i64 0, .slice none 0 0] := by have := (Blk.new (w.alloc (Obj.cells #[.int .i64 c0, .slice A n c] 31)) 31 #[.int .i64 0, .slice none 0 0]); simpa using this
  have K0 := Lib.hid (hx0.below (Nat.le_refl _))
  have L0 := Lib.hid (show w.heap.size + 2 ≤ ((w.alloc (Obj.cells #[.int .i64 c0, .slice A n c] 31)).alloc (Obj.cells #[.int .i64 0, .slice none 0 0] 31)).heap.size by simp)
  have B0_0 := Lib.hid hb0
  have B1_0 := Lib.hid hb1
  clear hx0 hb0 hb1
  generalize ((w.alloc (Obj.cells #[.int .i64 c0, .slice A n c] 31)).alloc (Obj.cells #[.int .i64 0, .slice none 0 0] 31)) = w0 at *
  refine (HI.out _ K0.out).mono ?_
  rintro e w1 ⟨rfl, hx⟩
  have K1 := Lib.hid (K0.out.trans ((hx.below (Nat.le_refl _)).mono K0.out.size))
  have L1 := Lib.hid (Nat.le_trans L0.out (hx.below (Nat.le_refl _)).size)
  have B0_1 := Lib.hid (B0_0.out.below (hx.below (Nat.le_refl _)) B0_0.out.lt)
  have B1_1 := Lib.hid (B1_0.out.below (hx.below (Nat.le_refl _)) B1_0.out.lt)
  clear K0 B0_0 B1_0 L0 hx
  have r0_0 := B0_1.out.rd 0 rfl
  have r0_1 := B0_1.out.rd 1 rfl
  go_wp2_with fail
  refine (HC.out _ K1.out).mono ?_
  rintro e w2 ⟨A', cap, rfl, hb, hw⟩
  clear r0_0 r0_1
  have K2 := Lib.hid (K1.out.trans (hb.mono K1.out.size))
  have L2 := Lib.hid (Nat.le_trans L1.out hb.size)
  have B0_2 := Lib.hid (B0_1.out.below hb B0_1.out.lt)
  have B1_2 := Lib.hid (B1_1.out.below hb B1_1.out.lt)
  have Tw_2 := Lib.hid hw
  have Mw := Lib.hid L1.out
  clear K1 B0_1 B1_1 L1 hb hw
  have r0_0 := B0_2.out.rd 0 rfl
  have r0_1 := B0_2.out.rd 1 rfl
  have r1_0 := B1_2.out.rd 0 rfl
  have r1_1 := B1_2.out.rd 1 rfl
  have z1_0 := B1_2.out.frozen 0
  have z1_1 := B1_2.out.frozen 1
  go_wp2_with fail
  refine bodyPost_ret (v := .tuple #[.agg #[.int .i64 c0, .slice A' us.length cap], .int .i64 0]) (by simp [results, Try.results42, go_sem, r1_0, r1_1, z1_0, z1_1]) rfl ⟨A', cap, rfl, ?_, ?_⟩
  · exact (K2.out.setCell (show w.heap.size ≤ w.heap.size + 1 by omega) _).setCell (show w.heap.size ≤ w.heap.size + 1 by omega) _
  · have h1 := Mw.out
    exact ((Tw_2.out.far (show w.heap.size + 1 < _ by omega) _).far (show w.heap.size + 1 < _ by omega) _).low (by omega)

end Go.Proofs.Ytpjlapialjjcdaa
