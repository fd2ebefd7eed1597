/- PutTile: the program's side. -/
import Derived.Test.YtfacdmkcklimjaaKyA
import Derived.Test.YtfacdmkcklimjaaSortF
import Derived.Test.YtfacdmkcklimjaaJn4
import Derived.Test.YtfacdmkcklimjaaPt1
import Derived.Test.YtfacdmkcklimjaaCut3
import Derived.Deep.RegionHeld3
import Derived.Deep.RegionLaw
import Derived.Deep.DeepCutAuto
import Derived.Lib.Hide
namespace Go.Proofs.Ytfacdmkcklimjaa
set_option linter.unusedVariables false
set_option linter.unusedSimpArgs false
open Go.RowKit Go.Sort

theorem put_nodup {c : Int} {ts : List Tl} {a : Tl} (hs : isSet c ts = true) (hh : decide (a ∈ ts) = false) : (ts ++ [a]).Nodup := by
  have h := of_decide_eq_false hh
  refine List.nodup_append.2 ⟨nodup_of_asc (asc_of_isSet hs), by simp, fun x hx y hy => ?_⟩
  simp at hy
  subst hy
  exact fun e => h (e ▸ hx)
theorem Blk.far2 {w : World} {g : Nat} {t : TypeId} {cs : Array Value} (h : Blk w g t cs) {k : Nat} (hne : g ≠ k) {a b : Value} : Blk ((w.setCell ⟨k, 0, none⟩ a).setCell ⟨k, 1, none⟩ b) g t cs := (h.far hne a).far hne b
set_option maxRecDepth 100000 in
set_option maxHeartbeats 4000000 in
theorem implPut_0 (c0 : Int) (A0 : Option Addr) (n0 q0 : Nat) (ts : List Tl) (x0 x1 x2 x3 : Int) (w : World) (hn0 : n0 ≤ 1048576) (hl0 : ts.length = n0) (hA0 : TR w w.heap.size A0 ts) (hs : isSet c0 ts = true) (ht : tileOk c0 (x0, x1, x2, x3) = true) (hh : decide ((x0, x1, x2, x3) ∈ ts) = false) (h16 : n0 < 16) :
    Calls Try.prog 8 #[.agg #[.int .i64 c0, .slice A0 n0 q0], .agg #[.int .i64 x0, .int .i64 x1, .int .i64 x2, .int .i64 x3]] w (SetRes w c0 (sortT (ts ++ [(x0, x1, x2, x3)])) 0) := by
  have hnd : (ts ++ [(x0, x1, x2, x3)]).Nodup := put_nodup hs hh
  have hsm := sortM_eq hnd
  have hsl := sortT_nodup_len hnd
  rw [List.length_append, hl0, List.length_singleton] at hsl
  have HSL := Lib.hid (And.intro hsm hsl)
  have his0 : ∀ W, Below w.heap.size w W → Calls Try.prog 19 #[.agg #[.int .i64 c0, .slice A0 n0 q0]] W _ := fun W hW => isSet_any c0 A0 n0 q0 ts W (by omega) hl0 ((hA0.below hW (Nat.le_refl _)).more hW.size)
  rw [hs] at his0
  have HI0 := Lib.hid his0
  clear his0
  have htv : ∀ W, Below w.heap.size w W → _ := fun W (_ : Below w.heap.size w W) => hasColours_any c0 (x0, x1, x2, x3) W
  rw [ht] at htv
  simp only [tv] at htv
  have HT := Lib.hid htv
  clear htv
  have hhv : ∀ W, Below w.heap.size w W → _ := fun W (hW : Below w.heap.size w W) => hasTile_any c0 A0 n0 q0 ts (x0, x1, x2, x3) W (by omega) hl0 ((hA0.below hW (Nat.le_refl _)).more hW.size)
  rw [hh] at hhv
  simp only [tv] at hhv
  have HH := Lib.hid hhv
  clear hhv
  have hcl : ∀ W, Below w.heap.size w W → Calls Try.prog 23 #[.slice A0 n0 q0] W _ := fun W hW => clone_any A0 n0 q0 ts W hn0 hl0 ((hA0.below hW (Nat.le_refl _)).more hW.size)
  have HCL := Lib.hid hcl
  have hne : ¬ (n0 : Int) = 16 := by omega
  clear hcl hA0 hs ht hh hnd hsm hsl
  have hne0 : w.heap.size ≠ w.heap.size + 2 := by omega
  have hne1 : w.heap.size + 1 ≠ w.heap.size + 2 := by omega
  unfold SetRes
  go_enter Try.func8, Try.ntmps8
  go_wp2_with fail
  have hx0 : Ext w (((w.alloc (Obj.cells #[.int .i64 c0, .slice A0 n0 q0] 29)).alloc (Obj.cells #[.int .i64 x0, .int .i64 x1, .int .i64 x2, .int .i64 x3] 33)).alloc (Obj.cells #[.int .i64 0, .slice none 0 0] 29)) := (((Ext.refl w).alloc _).alloc _).alloc _
  have hb0 : Blk (((w.alloc (Obj.cells #[.int .i64 c0, .slice A0 n0 q0] 29)).alloc (Obj.cells #[.int .i64 x0, .int .i64 x1, .int .i64 x2, .int .i64 x3] 33)).alloc (Obj.cells #[.int .i64 0, .slice none 0 0] 29)) (w.heap.size) 29 #[.int .i64 c0, .slice A0 n0 q0] := by have := ((Blk.new w 29 #[.int .i64 c0, .slice A0 n0 q0]).ext (show Ext (w.alloc (Obj.cells #[.int .i64 c0, .slice A0 n0 q0] 29)) (((w.alloc (Obj.cells #[.int .i64 c0, .slice A0 n0 q0] 29)).alloc (Obj.cells #[.int .i64 x0, .int .i64 x1, .int .i64 x2, .int .i64 x3] 33)).alloc (Obj.cells #[.int .i64 0, .slice none 0 0] 29)) from ((Ext.refl _).alloc _).alloc _)); simpa using this
  have hb1 : Blk (((w.alloc (Obj.cells #[.int .i64 c0, .slice A0 n0 q0] 29)).alloc (Obj.cells #[.int .i64 x0, .int .i64 x1, .int .i64 x2, .int .i64 x3] 33)).alloc (Obj.cells #[.int .i64 0, .slice none 0 0] 29)) (w.heap.size + 1) 33 #[.int .i64 x0, .int .i64 x1, .int .i64 x2, .int .i64 x3] := by have := ((Blk.new (w.alloc (Obj.cells #[.int .i64 c0, .slice A0 n0 q0] 29)) 33 #[.int .i64 x0, .int .i64 x1, .int .i64 x2, .int .i64 x3]).ext (show Ext ((w.alloc (Obj.cells #[.int .i64 c0, .slice A0 n0 q0] 29)).alloc (Obj.cells #[.int .i64 x0, .int .i64 x1, .int .i64 x2, .int .i64 x3] 33)) (((w.alloc (Obj.cells #[.int .i64 c0, .slice A0 n0 q0] 29)).alloc (Obj.cells #[.int .i64 x0, .int .i64 x1, .int .i64 x2, .int .i64 x3] 33)).alloc (Obj.cells #[.int .i64 0, .slice none 0 0] 29)) from (Ext.refl _).alloc _)); simpa using this
  have hb2 : Blk (((w.alloc (Obj.cells #[.int .i64 c0, .slice A0 n0 q0] 29)).alloc (Obj.cells #[.int .i64 x0, .int .i64 x1, .int .i64 x2, .int .i64 x3] 33)).alloc (Obj.cells #[.int .i64 0, .slice none 0 0] 29)) (w.heap.size + 2) 29 #[.int .i64 0, .slice none 0 0] := by have := (Blk.new ((w.alloc (Obj.cells #[.int .i64 c0, .slice A0 n0 q0] 29)).alloc (Obj.cells #[.int .i64 x0, .int .i64 x1, .int .i64 x2, .int .i64 x3] 33)) 29 #[.int .i64 0, .slice none 0 0]); simpa using this
  have K0 := Lib.hid (hx0.below (Nat.le_refl _))
  have L0 := Lib.hid (show w.heap.size + 3 ≤ (((w.alloc (Obj.cells #[.int .i64 c0, .slice A0 n0 q0] 29)).alloc (Obj.cells #[.int .i64 x0, .int .i64 x1, .int .i64 x2, .int .i64 x3] 33)).alloc (Obj.cells #[.int .i64 0, .slice none 0 0] 29)).heap.size by simp)
  have B0_0 := Lib.hid hb0
  have B1_0 := Lib.hid hb1
  have B2_0 := Lib.hid hb2
  clear hx0 hb0 hb1 hb2
  generalize (((w.alloc (Obj.cells #[.int .i64 c0, .slice A0 n0 q0] 29)).alloc (Obj.cells #[.int .i64 x0, .int .i64 x1, .int .i64 x2, .int .i64 x3] 33)).alloc (Obj.cells #[.int .i64 0, .slice none 0 0] 29)) = w0 at *
  refine (HI0.out _ K0.out).mono ?_
  rintro e w1 ⟨rfl, hx⟩
  have K1 := Lib.hid (K0.out.trans ((hx.below (Nat.le_refl _)).mono K0.out.size))
  have L1 := Lib.hid (Nat.le_trans L0.out (hx.below (Nat.le_refl _)).size)
  have B0_1 := Lib.hid (B0_0.out.below (hx.below (Nat.le_refl _)) B0_0.out.lt)
  have B1_1 := Lib.hid (B1_0.out.below (hx.below (Nat.le_refl _)) B1_0.out.lt)
  have B2_1 := Lib.hid (B2_0.out.below (hx.below (Nat.le_refl _)) B2_0.out.lt)
  clear K0 B0_0 B1_0 B2_0 L0 hx
  have r0_0 := B0_1.out.rd 0 rfl
  have r0_1 := B0_1.out.rd 1 rfl
  have r1_0 := B1_1.out.rd 0 rfl
  have r1_1 := B1_1.out.rd 1 rfl
  have r1_2 := B1_1.out.rd 2 rfl
  have r1_3 := B1_1.out.rd 3 rfl
  go_wp2_with fail
  refine (HT.out _ K1.out).mono ?_
  rintro e w2 ⟨rfl, hx⟩
  clear r0_0 r0_1 r1_0 r1_1 r1_2 r1_3
  have K2 := Lib.hid (K1.out.trans ((hx.below (Nat.le_refl _)).mono K1.out.size))
  have L2 := Lib.hid (Nat.le_trans L1.out (hx.below (Nat.le_refl _)).size)
  have B0_2 := Lib.hid (B0_1.out.below (hx.below (Nat.le_refl _)) B0_1.out.lt)
  have B1_2 := Lib.hid (B1_1.out.below (hx.below (Nat.le_refl _)) B1_1.out.lt)
  have B2_2 := Lib.hid (B2_1.out.below (hx.below (Nat.le_refl _)) B2_1.out.lt)
  clear K1 B0_1 B1_1 B2_1 L1 hx
  have r0_0 := B0_2.out.rd 0 rfl
  have r0_1 := B0_2.out.rd 1 rfl
  have r1_0 := B1_2.out.rd 0 rfl
  have r1_1 := B1_2.out.rd 1 rfl
  have r1_2 := B1_2.out.rd 2 rfl
  have r1_3 := B1_2.out.rd 3 rfl
  go_wp2_with fail
  refine (HH.out _ K2.out).mono ?_
  rintro e w3 ⟨rfl, hx⟩
  clear r0_0 r0_1 r1_0 r1_1 r1_2 r1_3
  have K3 := Lib.hid (K2.out.trans ((hx.below (Nat.le_refl _)).mono K2.out.size))
  have L3 := Lib.hid (Nat.le_trans L2.out (hx.below (Nat.le_refl _)).size)
  have B0_3 := Lib.hid (B0_2.out.below (hx.below (Nat.le_refl _)) B0_2.out.lt)
  have B1_3 := Lib.hid (B1_2.out.below (hx.below (Nat.le_refl _)) B1_2.out.lt)
  have B2_3 := Lib.hid (B2_2.out.below (hx.below (Nat.le_refl _)) B2_2.out.lt)
  clear K2 B0_2 B1_2 B2_2 L2 hx
  have r0_0 := B0_3.out.rd 0 rfl
  have r0_1 := B0_3.out.rd 1 rfl
  have r1_0 := B1_3.out.rd 0 rfl
  have r1_1 := B1_3.out.rd 1 rfl
  have r1_2 := B1_3.out.rd 2 rfl
  have r1_3 := B1_3.out.rd 3 rfl
  have r2_0 := B2_3.out.rd 0 rfl
  have r2_1 := B2_3.out.rd 1 rfl
  have z2_0 := B2_3.out.frozen 0
  have z2_1 := B2_3.out.frozen 1
  have HB0 := Lib.hid B0_3.out
  have HB1 := Lib.hid B1_3.out
  have HB2 := Lib.hid B2_3.out
  have HK := Lib.hid K3.out
  have HL := Lib.hid L3.out
  have hL2 := HL.out
  go_upto_region 9 with (fail)
  go_region_held3 (fun w' => w'.cell? ⟨w.heap.size, 0, none⟩ = some (.int .i64 c0) ∧ w'.cell? ⟨w.heap.size, 1, none⟩ = some (.slice A0 n0 q0) ∧ w'.cell? ⟨w.heap.size + 1, 0, none⟩ = some (.int .i64 x0) ∧ w'.cell? ⟨w.heap.size + 1, 1, none⟩ = some (.int .i64 x1) ∧ w'.cell? ⟨w.heap.size + 1, 2, none⟩ = some (.int .i64 x2) ∧ w'.cell? ⟨w.heap.size + 1, 3, none⟩ = some (.int .i64 x3))
    (first | exact ⟨r0_0, r0_1, r1_0, r1_1, r1_2, r1_3⟩ | exact ⟨(HB0.out.ext (by with_reducible first | exact Ext.refl _ | exact (Ext.refl _).drew | exact (Ext.refl _).alloc _ | exact ((Ext.refl _).alloc _).drew | exact ((Ext.refl _).drew).alloc _ | exact (((Ext.refl _).drew).alloc _).drew | exact ((Ext.refl _).alloc _).alloc _ | exact (((Ext.refl _).alloc _).alloc _).drew)).rd 0 rfl, (HB0.out.ext (by with_reducible first | exact Ext.refl _ | exact (Ext.refl _).drew | exact (Ext.refl _).alloc _ | exact ((Ext.refl _).alloc _).drew | exact ((Ext.refl _).drew).alloc _ | exact (((Ext.refl _).drew).alloc _).drew | exact ((Ext.refl _).alloc _).alloc _ | exact (((Ext.refl _).alloc _).alloc _).drew)).rd 1 rfl, (HB1.out.ext (by with_reducible first | exact Ext.refl _ | exact (Ext.refl _).drew | exact (Ext.refl _).alloc _ | exact ((Ext.refl _).alloc _).drew | exact ((Ext.refl _).drew).alloc _ | exact (((Ext.refl _).drew).alloc _).drew | exact ((Ext.refl _).alloc _).alloc _ | exact (((Ext.refl _).alloc _).alloc _).drew)).rd 0 rfl, (HB1.out.ext (by with_reducible first | exact Ext.refl _ | exact (Ext.refl _).drew | exact (Ext.refl _).alloc _ | exact ((Ext.refl _).alloc _).drew | exact ((Ext.refl _).drew).alloc _ | exact (((Ext.refl _).drew).alloc _).drew | exact ((Ext.refl _).alloc _).alloc _ | exact (((Ext.refl _).alloc _).alloc _).drew)).rd 1 rfl, (HB1.out.ext (by with_reducible first | exact Ext.refl _ | exact (Ext.refl _).drew | exact (Ext.refl _).alloc _ | exact ((Ext.refl _).alloc _).drew | exact ((Ext.refl _).drew).alloc _ | exact (((Ext.refl _).drew).alloc _).drew | exact ((Ext.refl _).alloc _).alloc _ | exact (((Ext.refl _).alloc _).alloc _).drew)).rd 2 rfl, (HB1.out.ext (by with_reducible first | exact Ext.refl _ | exact (Ext.refl _).drew | exact (Ext.refl _).alloc _ | exact ((Ext.refl _).alloc _).drew | exact ((Ext.refl _).drew).alloc _ | exact (((Ext.refl _).drew).alloc _).drew | exact ((Ext.refl _).alloc _).alloc _ | exact (((Ext.refl _).alloc _).alloc _).drew)).rd 3 rfl⟩ | exact ⟨(C0.ext (by with_reducible first | exact Ext.refl _ | exact (Ext.refl _).drew | exact (Ext.refl _).alloc _ | exact ((Ext.refl _).alloc _).drew | exact ((Ext.refl _).drew).alloc _ | exact (((Ext.refl _).drew).alloc _).drew | exact ((Ext.refl _).alloc _).alloc _ | exact (((Ext.refl _).alloc _).alloc _).drew)).rd 0 rfl, (C0.ext (by with_reducible first | exact Ext.refl _ | exact (Ext.refl _).drew | exact (Ext.refl _).alloc _ | exact ((Ext.refl _).alloc _).drew | exact ((Ext.refl _).drew).alloc _ | exact (((Ext.refl _).drew).alloc _).drew | exact ((Ext.refl _).alloc _).alloc _ | exact (((Ext.refl _).alloc _).alloc _).drew)).rd 1 rfl, (C1.ext (by with_reducible first | exact Ext.refl _ | exact (Ext.refl _).drew | exact (Ext.refl _).alloc _ | exact ((Ext.refl _).alloc _).drew | exact ((Ext.refl _).drew).alloc _ | exact (((Ext.refl _).drew).alloc _).drew | exact ((Ext.refl _).alloc _).alloc _ | exact (((Ext.refl _).alloc _).alloc _).drew)).rd 0 rfl, (C1.ext (by with_reducible first | exact Ext.refl _ | exact (Ext.refl _).drew | exact (Ext.refl _).alloc _ | exact ((Ext.refl _).alloc _).drew | exact ((Ext.refl _).drew).alloc _ | exact (((Ext.refl _).drew).alloc _).drew | exact ((Ext.refl _).alloc _).alloc _ | exact (((Ext.refl _).alloc _).alloc _).drew)).rd 1 rfl, (C1.ext (by with_reducible first | exact Ext.refl _ | exact (Ext.refl _).drew | exact (Ext.refl _).alloc _ | exact ((Ext.refl _).alloc _).drew | exact ((Ext.refl _).drew).alloc _ | exact (((Ext.refl _).drew).alloc _).drew | exact ((Ext.refl _).alloc _).alloc _ | exact (((Ext.refl _).alloc _).alloc _).drew)).rd 2 rfl, (C1.ext (by with_reducible first | exact Ext.refl _ | exact (Ext.refl _).drew | exact (Ext.refl _).alloc _ | exact ((Ext.refl _).alloc _).drew | exact ((Ext.refl _).drew).alloc _ | exact (((Ext.refl _).drew).alloc _).drew | exact ((Ext.refl _).alloc _).alloc _ | exact (((Ext.refl _).alloc _).alloc _).drew)).rd 3 rfl⟩ | exact ⟨(D0.ext (by with_reducible first | exact Ext.refl _ | exact (Ext.refl _).drew | exact (Ext.refl _).alloc _ | exact ((Ext.refl _).alloc _).drew | exact ((Ext.refl _).drew).alloc _ | exact (((Ext.refl _).drew).alloc _).drew | exact ((Ext.refl _).alloc _).alloc _ | exact (((Ext.refl _).alloc _).alloc _).drew)).rd 0 rfl, (D0.ext (by with_reducible first | exact Ext.refl _ | exact (Ext.refl _).drew | exact (Ext.refl _).alloc _ | exact ((Ext.refl _).alloc _).drew | exact ((Ext.refl _).drew).alloc _ | exact (((Ext.refl _).drew).alloc _).drew | exact ((Ext.refl _).alloc _).alloc _ | exact (((Ext.refl _).alloc _).alloc _).drew)).rd 1 rfl, (D1.ext (by with_reducible first | exact Ext.refl _ | exact (Ext.refl _).drew | exact (Ext.refl _).alloc _ | exact ((Ext.refl _).alloc _).drew | exact ((Ext.refl _).drew).alloc _ | exact (((Ext.refl _).drew).alloc _).drew | exact ((Ext.refl _).alloc _).alloc _ | exact (((Ext.refl _).alloc _).alloc _).drew)).rd 0 rfl, (D1.ext (by with_reducible first | exact Ext.refl _ | exact (Ext.refl _).drew | exact (Ext.refl _).alloc _ | exact ((Ext.refl _).alloc _).drew | exact ((Ext.refl _).drew).alloc _ | exact (((Ext.refl _).drew).alloc _).drew | exact ((Ext.refl _).alloc _).alloc _ | exact (((Ext.refl _).alloc _).alloc _).drew)).rd 1 rfl, (D1.ext (by with_reducible first | exact Ext.refl _ | exact (Ext.refl _).drew | exact (Ext.refl _).alloc _ | exact ((Ext.refl _).alloc _).drew | exact ((Ext.refl _).drew).alloc _ | exact (((Ext.refl _).drew).alloc _).drew | exact ((Ext.refl _).alloc _).alloc _ | exact (((Ext.refl _).alloc _).alloc _).drew)).rd 2 rfl, (D1.ext (by with_reducible first | exact Ext.refl _ | exact (Ext.refl _).drew | exact (Ext.refl _).alloc _ | exact ((Ext.refl _).alloc _).drew | exact ((Ext.refl _).drew).alloc _ | exact (((Ext.refl _).drew).alloc _).drew | exact ((Ext.refl _).alloc _).alloc _ | exact (((Ext.refl _).alloc _).alloc _).drew)).rd 3 rfl⟩ | exact ⟨(F0.ext (by with_reducible first | exact Ext.refl _ | exact (Ext.refl _).drew | exact (Ext.refl _).alloc _ | exact ((Ext.refl _).alloc _).drew | exact ((Ext.refl _).drew).alloc _ | exact (((Ext.refl _).drew).alloc _).drew | exact ((Ext.refl _).alloc _).alloc _ | exact (((Ext.refl _).alloc _).alloc _).drew)).rd 0 rfl, (F0.ext (by with_reducible first | exact Ext.refl _ | exact (Ext.refl _).drew | exact (Ext.refl _).alloc _ | exact ((Ext.refl _).alloc _).drew | exact ((Ext.refl _).drew).alloc _ | exact (((Ext.refl _).drew).alloc _).drew | exact ((Ext.refl _).alloc _).alloc _ | exact (((Ext.refl _).alloc _).alloc _).drew)).rd 1 rfl, (F1.ext (by with_reducible first | exact Ext.refl _ | exact (Ext.refl _).drew | exact (Ext.refl _).alloc _ | exact ((Ext.refl _).alloc _).drew | exact ((Ext.refl _).drew).alloc _ | exact (((Ext.refl _).drew).alloc _).drew | exact ((Ext.refl _).alloc _).alloc _ | exact (((Ext.refl _).alloc _).alloc _).drew)).rd 0 rfl, (F1.ext (by with_reducible first | exact Ext.refl _ | exact (Ext.refl _).drew | exact (Ext.refl _).alloc _ | exact ((Ext.refl _).alloc _).drew | exact ((Ext.refl _).drew).alloc _ | exact (((Ext.refl _).drew).alloc _).drew | exact ((Ext.refl _).alloc _).alloc _ | exact (((Ext.refl _).alloc _).alloc _).drew)).rd 1 rfl, (F1.ext (by with_reducible first | exact Ext.refl _ | exact (Ext.refl _).drew | exact (Ext.refl _).alloc _ | exact ((Ext.refl _).alloc _).drew | exact ((Ext.refl _).drew).alloc _ | exact (((Ext.refl _).drew).alloc _).drew | exact ((Ext.refl _).alloc _).alloc _ | exact (((Ext.refl _).alloc _).alloc _).drew)).rd 2 rfl, (F1.ext (by with_reducible first | exact Ext.refl _ | exact (Ext.refl _).drew | exact (Ext.refl _).alloc _ | exact ((Ext.refl _).alloc _).drew | exact ((Ext.refl _).drew).alloc _ | exact (((Ext.refl _).drew).alloc _).drew | exact ((Ext.refl _).alloc _).alloc _ | exact (((Ext.refl _).alloc _).alloc _).drew)).rd 3 rfl⟩ | exact ⟨(F0.far2 hne0).rd 0 rfl, (F0.far2 hne0).rd 1 rfl, (F1.far2 hne1).rd 0 rfl, (F1.far2 hne1).rd 1 rfl, (F1.far2 hne1).rd 2 rfl, (F1.far2 hne1).rd 3 rfl⟩ | go_keep)
    (first
    | (go_at_call 23; refine (HCL.out _ (HK.out.trans ((below_next0 (Below.refl w3.heap.size w3) (by with_reducible first | exact Ext.refl _ | exact (Ext.refl _).drew | exact (Ext.refl _).alloc _ | exact ((Ext.refl _).alloc _).drew | exact ((Ext.refl _).drew).alloc _ | exact (((Ext.refl _).drew).alloc _).drew | exact ((Ext.refl _).alloc _).alloc _ | exact (((Ext.refl _).alloc _).alloc _).drew) (Nat.le_refl _)).mono HK.out.size))).mono ?_; rintro e w4 ⟨v4, rfl, hown4, hb4⟩; have hK4 := below_next (Below.refl w3.heap.size w3) (by with_reducible first | exact Ext.refl _ | exact (Ext.refl _).drew | exact (Ext.refl _).alloc _ | exact ((Ext.refl _).alloc _).drew | exact ((Ext.refl _).drew).alloc _ | exact (((Ext.refl _).drew).alloc _).drew | exact ((Ext.refl _).alloc _).alloc _ | exact (((Ext.refl _).alloc _).alloc _).drew) hb4 (Nat.le_refl _); have hsz4 := hK4.size; have hsc := below_pair (Below.refl w3.heap.size w3) (by with_reducible first | exact Ext.refl _ | exact (Ext.refl _).drew | exact (Ext.refl _).alloc _ | exact ((Ext.refl _).alloc _).drew | exact ((Ext.refl _).drew).alloc _ | exact (((Ext.refl _).drew).alloc _).drew | exact ((Ext.refl _).alloc _).alloc _ | exact (((Ext.refl _).alloc _).alloc _).drew) hb4 (Nat.le_refl _); have hscs := hsc.size; have hO4 := own_base hown4 (show w3.heap.size ≤ _ by exact hscs); have C0 := blk_next HB0.out (by with_reducible first | exact Ext.refl _ | exact (Ext.refl _).drew | exact (Ext.refl _).alloc _ | exact ((Ext.refl _).alloc _).drew | exact ((Ext.refl _).drew).alloc _ | exact (((Ext.refl _).drew).alloc _).drew | exact ((Ext.refl _).alloc _).alloc _ | exact (((Ext.refl _).alloc _).alloc _).drew) hb4; have C1 := blk_next HB1.out (by with_reducible first | exact Ext.refl _ | exact (Ext.refl _).drew | exact (Ext.refl _).alloc _ | exact ((Ext.refl _).alloc _).drew | exact ((Ext.refl _).drew).alloc _ | exact (((Ext.refl _).drew).alloc _).drew | exact ((Ext.refl _).alloc _).alloc _ | exact (((Ext.refl _).alloc _).alloc _).drew) hb4; have C2 := blk_next HB2.out (by with_reducible first | exact Ext.refl _ | exact (Ext.refl _).drew | exact (Ext.refl _).alloc _ | exact ((Ext.refl _).alloc _).drew | exact ((Ext.refl _).drew).alloc _ | exact (((Ext.refl _).drew).alloc _).drew | exact ((Ext.refl _).alloc _).alloc _ | exact (((Ext.refl _).alloc _).alloc _).drew) hb4; (try have nt := blk_next (Blk.new w3 33 #[.int .i64 x0, .int .i64 x1, .int .i64 x2, .int .i64 x3]) (by with_reducible first | exact Ext.refl _ | exact (Ext.refl _).drew | exact (Ext.refl _).alloc _ | exact ((Ext.refl _).alloc _).drew | exact ((Ext.refl _).drew).alloc _ | exact (((Ext.refl _).drew).alloc _).drew | exact ((Ext.refl _).alloc _).alloc _ | exact (((Ext.refl _).alloc _).alloc _).drew) hb4))
    | (refine step_pushT rfl (.tmp 29) (.tmp 31) rfl w3.heap.size v4 n0 (flat ts) (by go_simp) (own_ext hO4 (by with_reducible first | exact Ext.refl _ | exact (Ext.refl _).drew | exact (Ext.refl _).alloc _ | exact ((Ext.refl _).alloc _).drew | exact ((Ext.refl _).drew).alloc _ | exact (((Ext.refl _).drew).alloc _).drew | exact ((Ext.refl _).alloc _).alloc _ | exact (((Ext.refl _).alloc _).alloc _).drew)) (w3.heap.size) (x0, x1, x2, x3) (by go_simp) (nt.ext (by with_reducible first | exact Ext.refl _ | exact (Ext.refl _).drew | exact (Ext.refl _).alloc _ | exact ((Ext.refl _).alloc _).drew | exact ((Ext.refl _).drew).alloc _ | exact (((Ext.refl _).drew).alloc _).drew | exact ((Ext.refl _).alloc _).alloc _ | exact (((Ext.refl _).alloc _).alloc _).drew)) (by unfold maxLen; omega) (by omega) (by first | omega | (simp; done) | (simp; omega)) ?_; intro v5 w5 hown5 hgrow5 hat5; rw [← flat_snoc] at hown5; obtain ⟨A5, cap5, rfl, htw5⟩ := own_tw hown5 (by simp [hl0]); have hK5 := (below_pair0 hgrow5 (below_next0 hK4 (by with_reducible first | exact Ext.refl _ | exact (Ext.refl _).drew | exact (Ext.refl _).alloc _ | exact ((Ext.refl _).alloc _).drew | exact ((Ext.refl _).drew).alloc _ | exact (((Ext.refl _).drew).alloc _).drew | exact ((Ext.refl _).alloc _).alloc _ | exact (((Ext.refl _).alloc _).alloc _).drew) (Nat.le_refl _))).grown hgrow5 (by first | omega | (simp; done) | (simp; omega)) (fun k hk => (hO4.lt k hk).1); have D0 := HB0.out.below hK5 HB0.out.lt; have D1 := HB1.out.below hK5 HB1.out.lt; have D2 := HB2.out.below hK5 HB2.out.lt; have hsz5 := hK5.size)
    | (refine step_pushT rfl (.tmp 29) (.tmp 31) rfl w3.heap.size v4 n0 (flat ts) (by go_simp) (own_ext hO4 (by with_reducible first | exact Ext.refl _ | exact (Ext.refl _).drew | exact (Ext.refl _).alloc _ | exact ((Ext.refl _).alloc _).drew | exact ((Ext.refl _).drew).alloc _ | exact (((Ext.refl _).drew).alloc _).drew | exact ((Ext.refl _).alloc _).alloc _ | exact (((Ext.refl _).alloc _).alloc _).drew)) (w4.heap.size) (x0, x1, x2, x3) (by go_simp) ((Blk.new w4 33 #[.int .i64 x0, .int .i64 x1, .int .i64 x2, .int .i64 x3]).ext (by with_reducible first | exact Ext.refl _ | exact (Ext.refl _).drew | exact (Ext.refl _).alloc _ | exact ((Ext.refl _).alloc _).drew | exact ((Ext.refl _).drew).alloc _ | exact (((Ext.refl _).drew).alloc _).drew | exact ((Ext.refl _).alloc _).alloc _ | exact (((Ext.refl _).alloc _).alloc _).drew)) (by unfold maxLen; omega) (by omega) (by first | omega | (simp; done) | (simp; omega)) ?_; intro v5 w5 hown5 hgrow5 hat5; rw [← flat_snoc] at hown5; obtain ⟨A5, cap5, rfl, htw5⟩ := own_tw hown5 (by simp [hl0]); have hK5 := (below_pair0 hgrow5 (below_next0 hK4 (by with_reducible first | exact Ext.refl _ | exact (Ext.refl _).drew | exact (Ext.refl _).alloc _ | exact ((Ext.refl _).alloc _).drew | exact ((Ext.refl _).drew).alloc _ | exact (((Ext.refl _).drew).alloc _).drew | exact ((Ext.refl _).alloc _).alloc _ | exact (((Ext.refl _).alloc _).alloc _).drew) (Nat.le_refl _))).grown hgrow5 (by first | omega | (simp; done) | (simp; omega)) (fun k hk => (hO4.lt k hk).1); have D0 := HB0.out.below hK5 HB0.out.lt; have D1 := HB1.out.below hK5 HB1.out.lt; have D2 := HB2.out.below hK5 HB2.out.lt; have hsz5 := hK5.size)
    | (go_at_call 22; refine (sortedSet_any c0 (n0 + 1) cap5 A5 (ts ++ [(x0, x1, x2, x3)]) w3.heap.size _ (by simp [hl0]) (by omega) (by first | omega | (simp; done) | (simp; omega)) (own_ext hown5 (by with_reducible first | exact Ext.refl _ | exact (Ext.refl _).drew | exact (Ext.refl _).alloc _ | exact ((Ext.refl _).alloc _).drew | exact ((Ext.refl _).drew).alloc _ | exact (((Ext.refl _).drew).alloc _).drew | exact ((Ext.refl _).alloc _).alloc _ | exact (((Ext.refl _).alloc _).alloc _).drew))).mono ?_; rintro e w6 ⟨rfl, hown6, hb6⟩; rw [HSL.out.1] at hown6; have hK6 := (below_next0 hK5 (by with_reducible first | exact Ext.refl _ | exact (Ext.refl _).drew | exact (Ext.refl _).alloc _ | exact ((Ext.refl _).alloc _).drew | exact ((Ext.refl _).drew).alloc _ | exact (((Ext.refl _).drew).alloc _).drew | exact ((Ext.refl _).alloc _).alloc _ | exact (((Ext.refl _).alloc _).alloc _).drew) (Nat.le_refl _)).trans hb6; have F0 := HB0.out.below hK6 HB0.out.lt; have F1 := HB1.out.below hK6 HB1.out.lt; have F2 := HB2.out.below hK6 HB2.out.lt; have q0 := F2.rd 0 rfl; have q1 := F2.rd 1 rfl; have z0 := F2.frozen 0; have z1 := F2.frozen 1))
  all_goals
    obtain ⟨A7, cap7, hv7, htw7⟩ := own_tw hown6 (by rw [HSL.out.2])
    cases hv7
    go_wp2_with fail
    refine bodyPost_ret (v := .tuple #[.agg #[.int .i64 c0, .slice A5 (n0 + 1) cap5], .int .i64 0]) (by simp [results, Try.results8, go_sem, q0, q1, z0, z1]) rfl ⟨A5, cap5, by rw [HSL.out.2], ?_, ?_⟩
    · exact ((HK.out.trans (hK6.mono HK.out.size)).setCell (by simp; omega) _).setCell (by simp; omega) _
    · exact ((htw7.far (by show _ < _; simp; omega) _).far (by show _ < _; simp; omega) _).low (by omega)

end Go.Proofs.Ytfacdmkcklimjaa
