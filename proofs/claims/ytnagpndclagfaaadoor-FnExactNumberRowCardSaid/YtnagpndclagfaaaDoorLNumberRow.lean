/- The exact law over NumberRow: walked. -/
import Derived.Test.YtnagpndclagfaaaDoorNrC
import Derived.Test.YtnagpndclagfaaaDoorMark2
import Derived.Test.YtnagpndclagfaaaDoorHeld
import Derived.Test.YtnagpndclagfaaaDoorInts
import Derived.Deep.RegionHeld3
import Derived.Deep.RegionLaw
import Derived.Deep.DeepCutAuto
namespace Go.Proofs.YtnagpndclagfaaaDoor
set_option linter.unusedVariables false
set_option linter.unusedSimpArgs false
open Go.RowKit Go.Sort

set_option maxRecDepth 100000 in
set_option maxHeartbeats 4000000 in
theorem lawNumberRow_core (i0 : Int) (i1 : Int) (i2 : Int) (i3 : Int) (i4 : Int) (i5 : Int) (w : World)  (z0 : Int) (us0 : List Tl) (ys1 : List Int) (r2 : Int) (hus0 : us0.length ≤ 65536) (hus1 : ys1.length ≤ 65536)
    (hspec : True → ∀ (W : World) , Calls Tryd.prog 13 #[.int .i64 i0, .int .i64 i1, .int .i64 i2, .int .i64 i3, .int .i64 i4, .int .i64 i5] W (fun e w' => ∃ R0 p0 R1 p1, e = .returned (.tuple #[.agg #[.int .i64 z0, .slice R0 us0.length p0], .slice R1 ys1.length p1, .int .i64 r2]) ∧ Below W.heap.size W w' ∧ TWr w' W.heap.size w'.heap.size R0 us0 ∧ IWr w' W.heap.size w'.heap.size R1 ys1))
    (himpl : True → ∀ (W : World), Below w.heap.size w W → Calls Tryd.prog 14 #[.int .i64 i0, .int .i64 i1, .int .i64 i2, .int .i64 i3, .int .i64 i4, .int .i64 i5] W (fun e w' => ∃ R0 p0 R1 p1 ja jb jc jd, W.heap.size ≤ ja ∧ jb ≤ w'.heap.size ∧ W.heap.size ≤ jc ∧ jd ≤ w'.heap.size ∧ (jb ≤ jc ∨ jd ≤ ja) ∧ e = .returned (.tuple #[.agg #[.int .i64 z0, .slice R0 us0.length p0], .slice R1 ys1.length p1, .int .i64 r2]) ∧ Below W.heap.size W w' ∧ TWr w' ja jb R0 us0 ∧ IWr w' jc jd R1 ys1)) :
    Calls Tryd.prog 5 #[.int .i64 i0, .int .i64 i1, .int .i64 i2, .int .i64 i3, .int .i64 i4, .int .i64 i5] w fun e w' => e = .returned (.bool true) ∧ Below w.heap.size w w' := by
  have HS := Lib.hid (hspec trivial)
  have HI := Lib.hid (himpl trivial)
  clear hspec himpl 
  generalize hm0 : us0.length = m0 at *
  have HM0 := Lib.hid hm0
  clear hm0
  generalize hm1 : ys1.length = m1 at *
  have HM1 := Lib.hid hm1
  clear hm1
  have hcc2 : (r2 != r2) = false := by simp
  have hkn : ¬ (1 < 0) := by omega
  have hkm0 : ¬ (1 + 4 * (m0 : Int) < 0) := by omega
  have hkm1 : ¬ (1 + 4 * (m0 : Int) + (m1 : Int) < 0) := by omega
  go_enter Tryd.func5, Tryd.ntmps5
  go_wp2_with fail
  have K0 := Lib.hid (Below.refl w.heap.size w)
  refine (HS.out _ ).mono ?_
  rintro e w1 ⟨B1_0_, cap1_0, B1_1_, cap1_1, rfl, hb, hw0, hw1⟩
  have s1 := hb.size
  have t1_0 := Lib.hid hw0
  have t1_1 := Lib.hid hw1
  have K1 := Lib.hid (K0.out.trans (hb.mono K0.out.size))
  clear K0
  clear hb hw0 hw1
  go_wp2_with fail
  have hx : Ext w1 (w1.alloc (Obj.cells #[.int .i64 z0, .slice B1_0_ m0 cap1_0] 32)) := (Ext.refl _).alloc _
  have sa2 : w1.heap.size + 1 ≤ (w1.alloc (Obj.cells #[.int .i64 z0, .slice B1_0_ m0 cap1_0] 32)).heap.size := by simp
  have b2 := Lib.hid (Blk.new w1 32 #[.int .i64 z0, .slice B1_0_ m0 cap1_0])
  generalize w1.alloc (Obj.cells #[.int .i64 z0, .slice B1_0_ m0 cap1_0] 32) = w2 at *
  have K2 := Lib.hid (K1.out.trans (hx.below K1.out.size))
  have T1_0_2 := Lib.hid (t1_0.out.ext hx)
  have T1_1_2 := Lib.hid (t1_1.out.ext hx)
  clear K1 t1_0 t1_1
  clear hx
  refine (HI.out _ K2.out).mono ?_
  rintro e w3 ⟨B3_0_, cap3_0, B3_1_, cap3_1, ja3, jb3, jc3, jd3, hj1_3, hj2_3, hj3_3, hj4_3, hj5_3, rfl, hb, hw0, hw1⟩
  have s3 := hb.size
  have t3_0 := Lib.hid hw0
  have t3_1 := Lib.hid hw1
  have K3 := Lib.hid (K2.out.trans (hb.mono K2.out.size))
  have B2_3 := Lib.hid (b2.out.below hb b2.out.lt)
  have T1_0_3 := Lib.hid (T1_0_2.out.below hb)
  have T1_1_3 := Lib.hid (T1_1_2.out.below hb)
  clear K2 b2 T1_0_2 T1_1_2
  clear hb hw0 hw1
  have r2_0 := B2_3.out.rd 0 rfl
  have q2_0 := (B2_3.out.ext ((Ext.refl _).alloc (Obj.cells #[.int .i64 z0, .slice B3_0_ m0 cap3_0] 32))).rd 0 rfl
  have r2_1 := B2_3.out.rd 1 rfl
  have q2_1 := (B2_3.out.ext ((Ext.refl _).alloc (Obj.cells #[.int .i64 z0, .slice B3_0_ m0 cap3_0] 32))).rd 1 rfl
  go_wp2_with fail
  clear r2_0 q2_0 r2_1 q2_1
  have hx : Ext w3 (w3.alloc (Obj.cells #[.int .i64 z0, .slice B3_0_ m0 cap3_0] 32)) := (Ext.refl _).alloc _
  have sa4 : w3.heap.size + 1 ≤ (w3.alloc (Obj.cells #[.int .i64 z0, .slice B3_0_ m0 cap3_0] 32)).heap.size := by simp
  have b4 := Lib.hid (Blk.new w3 32 #[.int .i64 z0, .slice B3_0_ m0 cap3_0])
  generalize w3.alloc (Obj.cells #[.int .i64 z0, .slice B3_0_ m0 cap3_0] 32) = w4 at *
  have K4 := Lib.hid (K3.out.trans (hx.below K3.out.size))
  have B2_4 := Lib.hid (B2_3.out.ext hx)
  have T1_0_4 := Lib.hid (T1_0_3.out.ext hx)
  have T1_1_4 := Lib.hid (T1_1_3.out.ext hx)
  have T3_0_4 := Lib.hid (t3_0.out.ext hx)
  have T3_1_4 := Lib.hid (t3_1.out.ext hx)
  clear K3 B2_3 T1_0_3 T1_1_3 t3_0 t3_1
  clear hx
  refine (eqSet_any z0 z0 B3_0_ B1_0_ m0 m0 _ _ us0 us0 _ (by omega) HM0.out HM0.out T3_0_4.out.tr T1_0_4.out.tr).mono ?_
  rw [decide_eq_true (⟨rfl, rfl⟩ : z0 = z0 ∧ us0 = us0)]
  rintro e w5 ⟨rfl, hx⟩
  have s5 := (hx.below (Nat.le_refl _)).size
  have K5 := Lib.hid (K4.out.trans (hx.below K4.out.size))
  have B2_5 := Lib.hid (B2_4.out.ext hx)
  have B4_5 := Lib.hid (b4.out.ext hx)
  have T1_0_5 := Lib.hid (T1_0_4.out.ext hx)
  have T1_1_5 := Lib.hid (T1_1_4.out.ext hx)
  have T3_0_5 := Lib.hid (T3_0_4.out.ext hx)
  have T3_1_5 := Lib.hid (T3_1_4.out.ext hx)
  clear K4 B2_4 b4 T1_0_4 T1_1_4 T3_0_4 T3_1_4
  clear hx
  have r2_0 := B2_5.out.rd 0 rfl
  have r2_1 := B2_5.out.rd 1 rfl
  have r4_0 := B4_5.out.rd 0 rfl
  have r4_1 := B4_5.out.rd 1 rfl
  go_wp2_with fail
  clear r2_0 r2_1 r4_0 r4_1
  refine (eqInt64S_any B3_1_ B1_1_ m1 m1 _ _ ys1 ys1 _ (by omega) HM1.out HM1.out T3_1_5.out.ir T1_1_5.out.ir).mono ?_
  rw [decide_eq_true (rfl : ys1 = ys1)]
  rintro e w6 ⟨rfl, hx⟩
  have s6 := (hx.below (Nat.le_refl _)).size
  have K6 := Lib.hid (K5.out.trans (hx.below K5.out.size))
  have B2_6 := Lib.hid (B2_5.out.ext hx)
  have B4_6 := Lib.hid (B4_5.out.ext hx)
  have T1_0_6 := Lib.hid (T1_0_5.out.ext hx)
  have T1_1_6 := Lib.hid (T1_1_5.out.ext hx)
  have T3_0_6 := Lib.hid (T3_0_5.out.ext hx)
  have T3_1_6 := Lib.hid (T3_1_5.out.ext hx)
  clear K5 B2_5 B4_5 T1_0_5 T1_1_5 T3_0_5 T3_1_5
  clear hx
  have r2_0 := B2_6.out.rd 0 rfl
  have r2_1 := B2_6.out.rd 1 rfl
  have r4_0 := B4_6.out.rd 0 rfl
  have r4_1 := B4_6.out.rd 1 rfl
  go_wp2_with fail
  clear r2_0 r2_1 r4_0 r4_1
  refine (markSet_at z0 B3_0_ m0 _ (1) us0 _ _ _ (by omega) (by omega) (by omega) HM0.out T3_0_6.out).mono ?_
  rintro e w7 ⟨rfl, ho, hw⟩
  have s7 := ho.size
  have t7 := Lib.hid hw
  have K7 := Lib.hid (K6.out.trans (ho.below (by omega) K6.out.size))
  have B2_7 := Lib.hid (B2_6.out.only ho (by omega))
  have B4_7 := Lib.hid (B4_6.out.only ho (by omega))
  have T1_0_7 := Lib.hid (T1_0_6.out.only ho (by omega))
  have T1_1_7 := Lib.hid (T1_1_6.out.only ho (by omega))
  have T3_1_7 := Lib.hid (T3_1_6.out.only ho (by omega))
  clear K6 B2_6 B4_6 T1_0_6 T1_1_6 T3_1_6
  clear ho hw T3_0_6
  have r2_0 := B2_7.out.rd 0 rfl
  have r2_1 := B2_7.out.rd 1 rfl
  have r4_0 := B4_7.out.rd 0 rfl
  have r4_1 := B4_7.out.rd 1 rfl
  go_wp2_with fail
  clear r2_0 r2_1 r4_0 r4_1
  refine (markInt64S_any B3_1_ m1 _ (1 + 4 * (m0 : Int)) ys1 _ _ _ (by omega) (by omega) (by omega) HM1.out T3_1_7.out).mono ?_
  rintro e w8 ⟨rfl, ho, hw⟩
  have s8 := ho.size
  have t8 := Lib.hid hw
  have K8 := Lib.hid (K7.out.trans (ho.below (by omega) K7.out.size))
  have B2_8 := Lib.hid (B2_7.out.only ho (by omega))
  have B4_8 := Lib.hid (B4_7.out.only ho (by omega))
  have T1_0_8 := Lib.hid (T1_0_7.out.only ho (by omega))
  have T1_1_8 := Lib.hid (T1_1_7.out.only ho (by omega))
  have T3_0_8 := Lib.hid (t7.out.only ho (by omega))
  clear K7 B2_7 B4_7 T1_0_7 T1_1_7 t7
  clear ho hw T3_1_7
  have r2_0 := B2_8.out.rd 0 rfl
  have r2_1 := B2_8.out.rd 1 rfl
  have r4_0 := B4_8.out.rd 0 rfl
  have r4_1 := B4_8.out.rd 1 rfl
  go_wp2_with fail
  clear r2_0 r2_1 r4_0 r4_1
  refine (heldSet_at z0 B3_0_ m0 _ (1) _ (by omega) (by omega) (by omega) T3_0_8.out.tr).mono ?_
  rintro e w9 ⟨rfl, hx⟩
  have s9 := (hx.below (Nat.le_refl _)).size
  have K9 := Lib.hid (K8.out.trans (hx.below K8.out.size))
  have B2_9 := Lib.hid (B2_8.out.ext hx)
  have B4_9 := Lib.hid (B4_8.out.ext hx)
  have T1_0_9 := Lib.hid (T1_0_8.out.ext hx)
  have T1_1_9 := Lib.hid (T1_1_8.out.ext hx)
  have T3_0_9 := Lib.hid (T3_0_8.out.ext hx)
  have T3_1_9 := Lib.hid (t8.out.ext hx)
  clear K8 B2_8 B4_8 T1_0_8 T1_1_8 T3_0_8 t8
  clear hx
  have r2_0 := B2_9.out.rd 0 rfl
  have r2_1 := B2_9.out.rd 1 rfl
  have r4_0 := B4_9.out.rd 0 rfl
  have r4_1 := B4_9.out.rd 1 rfl
  go_wp2_with fail
  clear r2_0 r2_1 r4_0 r4_1
  refine (heldInt64S_any B3_1_ m1 _ (1 + 4 * (m0 : Int)) _ (by omega) (by omega) (by omega) T3_1_9.out.ir).mono ?_
  rintro e w10 ⟨rfl, hx⟩
  have s10 := (hx.below (Nat.le_refl _)).size
  have K10 := Lib.hid (K9.out.trans (hx.below K9.out.size))
  have B2_10 := Lib.hid (B2_9.out.ext hx)
  have B4_10 := Lib.hid (B4_9.out.ext hx)
  have T1_0_10 := Lib.hid (T1_0_9.out.ext hx)
  have T1_1_10 := Lib.hid (T1_1_9.out.ext hx)
  have T3_0_10 := Lib.hid (T3_0_9.out.ext hx)
  have T3_1_10 := Lib.hid (T3_1_9.out.ext hx)
  clear K9 B2_9 B4_9 T1_0_9 T1_1_9 T3_0_9 T3_1_9
  clear hx
  have r2_0 := B2_10.out.rd 0 rfl
  have r2_1 := B2_10.out.rd 1 rfl
  have r4_0 := B4_10.out.rd 0 rfl
  have r4_1 := B4_10.out.rd 1 rfl
  go_wp2_with fail
  clear r2_0 r2_1 r4_0 r4_1
  refine (HI.out _ K10.out).mono ?_
  rintro e w11 ⟨B11_0_, cap11_0, B11_1_, cap11_1, ja11, jb11, jc11, jd11, hj1_11, hj2_11, hj3_11, hj4_11, hj5_11, rfl, hb, hw0, hw1⟩
  have s11 := hb.size
  have t11_0 := Lib.hid hw0
  have t11_1 := Lib.hid hw1
  have K11 := Lib.hid (K10.out.trans (hb.mono K10.out.size))
  have B2_11 := Lib.hid (B2_10.out.below hb B2_10.out.lt)
  have B4_11 := Lib.hid (B4_10.out.below hb B4_10.out.lt)
  have T1_0_11 := Lib.hid (T1_0_10.out.below hb)
  have T1_1_11 := Lib.hid (T1_1_10.out.below hb)
  have T3_0_11 := Lib.hid (T3_0_10.out.below hb)
  have T3_1_11 := Lib.hid (T3_1_10.out.below hb)
  clear K10 B2_10 B4_10 T1_0_10 T1_1_10 T3_0_10 T3_1_10
  clear hb hw0 hw1
  have r2_0 := B2_11.out.rd 0 rfl
  have q2_0 := (B2_11.out.ext ((Ext.refl _).alloc (Obj.cells #[.int .i64 z0, .slice B11_0_ m0 cap11_0] 32))).rd 0 rfl
  have r2_1 := B2_11.out.rd 1 rfl
  have q2_1 := (B2_11.out.ext ((Ext.refl _).alloc (Obj.cells #[.int .i64 z0, .slice B11_0_ m0 cap11_0] 32))).rd 1 rfl
  have r4_0 := B4_11.out.rd 0 rfl
  have q4_0 := (B4_11.out.ext ((Ext.refl _).alloc (Obj.cells #[.int .i64 z0, .slice B11_0_ m0 cap11_0] 32))).rd 0 rfl
  have r4_1 := B4_11.out.rd 1 rfl
  have q4_1 := (B4_11.out.ext ((Ext.refl _).alloc (Obj.cells #[.int .i64 z0, .slice B11_0_ m0 cap11_0] 32))).rd 1 rfl
  go_wp2_with fail
  clear r2_0 q2_0 r2_1 q2_1 r4_0 q4_0 r4_1 q4_1
  have hx : Ext w11 (w11.alloc (Obj.cells #[.int .i64 z0, .slice B11_0_ m0 cap11_0] 32)) := (Ext.refl _).alloc _
  have sa12 : w11.heap.size + 1 ≤ (w11.alloc (Obj.cells #[.int .i64 z0, .slice B11_0_ m0 cap11_0] 32)).heap.size := by simp
  have b12 := Lib.hid (Blk.new w11 32 #[.int .i64 z0, .slice B11_0_ m0 cap11_0])
  generalize w11.alloc (Obj.cells #[.int .i64 z0, .slice B11_0_ m0 cap11_0] 32) = w12 at *
  have K12 := Lib.hid (K11.out.trans (hx.below K11.out.size))
  have B2_12 := Lib.hid (B2_11.out.ext hx)
  have B4_12 := Lib.hid (B4_11.out.ext hx)
  have T1_0_12 := Lib.hid (T1_0_11.out.ext hx)
  have T1_1_12 := Lib.hid (T1_1_11.out.ext hx)
  have T3_0_12 := Lib.hid (T3_0_11.out.ext hx)
  have T3_1_12 := Lib.hid (T3_1_11.out.ext hx)
  have T11_0_12 := Lib.hid (t11_0.out.ext hx)
  have T11_1_12 := Lib.hid (t11_1.out.ext hx)
  clear K11 B2_11 B4_11 T1_0_11 T1_1_11 T3_0_11 T3_1_11 t11_0 t11_1
  clear hx
  refine (eqSet_any z0 z0 B11_0_ B1_0_ m0 m0 _ _ us0 us0 _ (by omega) HM0.out HM0.out T11_0_12.out.tr T1_0_12.out.tr).mono ?_
  rw [decide_eq_true (⟨rfl, rfl⟩ : z0 = z0 ∧ us0 = us0)]
  rintro e w13 ⟨rfl, hx⟩
  have s13 := (hx.below (Nat.le_refl _)).size
  have K13 := Lib.hid (K12.out.trans (hx.below K12.out.size))
  have B2_13 := Lib.hid (B2_12.out.ext hx)
  have B4_13 := Lib.hid (B4_12.out.ext hx)
  have B12_13 := Lib.hid (b12.out.ext hx)
  have T1_0_13 := Lib.hid (T1_0_12.out.ext hx)
  have T1_1_13 := Lib.hid (T1_1_12.out.ext hx)
  have T3_0_13 := Lib.hid (T3_0_12.out.ext hx)
  have T3_1_13 := Lib.hid (T3_1_12.out.ext hx)
  have T11_0_13 := Lib.hid (T11_0_12.out.ext hx)
  have T11_1_13 := Lib.hid (T11_1_12.out.ext hx)
  clear K12 B2_12 B4_12 b12 T1_0_12 T1_1_12 T3_0_12 T3_1_12 T11_0_12 T11_1_12
  clear hx
  have r2_0 := B2_13.out.rd 0 rfl
  have r2_1 := B2_13.out.rd 1 rfl
  have r4_0 := B4_13.out.rd 0 rfl
  have r4_1 := B4_13.out.rd 1 rfl
  have r12_0 := B12_13.out.rd 0 rfl
  have r12_1 := B12_13.out.rd 1 rfl
  go_wp2_with fail
  clear r2_0 r2_1 r4_0 r4_1 r12_0 r12_1
  refine (eqInt64S_any B11_1_ B1_1_ m1 m1 _ _ ys1 ys1 _ (by omega) HM1.out HM1.out T11_1_13.out.ir T1_1_13.out.ir).mono ?_
  rw [decide_eq_true (rfl : ys1 = ys1)]
  rintro e w14 ⟨rfl, hx⟩
  have s14 := (hx.below (Nat.le_refl _)).size
  have K14 := Lib.hid (K13.out.trans (hx.below K13.out.size))
  have B2_14 := Lib.hid (B2_13.out.ext hx)
  have B4_14 := Lib.hid (B4_13.out.ext hx)
  have B12_14 := Lib.hid (B12_13.out.ext hx)
  have T1_0_14 := Lib.hid (T1_0_13.out.ext hx)
  have T1_1_14 := Lib.hid (T1_1_13.out.ext hx)
  have T3_0_14 := Lib.hid (T3_0_13.out.ext hx)
  have T3_1_14 := Lib.hid (T3_1_13.out.ext hx)
  have T11_0_14 := Lib.hid (T11_0_13.out.ext hx)
  have T11_1_14 := Lib.hid (T11_1_13.out.ext hx)
  clear K13 B2_13 B4_13 B12_13 T1_0_13 T1_1_13 T3_0_13 T3_1_13 T11_0_13 T11_1_13
  clear hx
  have r2_0 := B2_14.out.rd 0 rfl
  have r2_1 := B2_14.out.rd 1 rfl
  have r4_0 := B4_14.out.rd 0 rfl
  have r4_1 := B4_14.out.rd 1 rfl
  have r12_0 := B12_14.out.rd 0 rfl
  have r12_1 := B12_14.out.rd 1 rfl
  go_wp2_with fail
  clear r2_0 r2_1 r4_0 r4_1 r12_0 r12_1
  refine (heldSet_at z0 B3_0_ m0 _ (1) _ (by omega) (by omega) (by omega) T3_0_14.out.tr).mono ?_
  rintro e w15 ⟨rfl, hx⟩
  have s15 := (hx.below (Nat.le_refl _)).size
  have K15 := Lib.hid (K14.out.trans (hx.below K14.out.size))
  have B2_15 := Lib.hid (B2_14.out.ext hx)
  have B4_15 := Lib.hid (B4_14.out.ext hx)
  have B12_15 := Lib.hid (B12_14.out.ext hx)
  have T1_0_15 := Lib.hid (T1_0_14.out.ext hx)
  have T1_1_15 := Lib.hid (T1_1_14.out.ext hx)
  have T3_0_15 := Lib.hid (T3_0_14.out.ext hx)
  have T3_1_15 := Lib.hid (T3_1_14.out.ext hx)
  have T11_0_15 := Lib.hid (T11_0_14.out.ext hx)
  have T11_1_15 := Lib.hid (T11_1_14.out.ext hx)
  clear K14 B2_14 B4_14 B12_14 T1_0_14 T1_1_14 T3_0_14 T3_1_14 T11_0_14 T11_1_14
  clear hx
  have r2_0 := B2_15.out.rd 0 rfl
  have r2_1 := B2_15.out.rd 1 rfl
  have r4_0 := B4_15.out.rd 0 rfl
  have r4_1 := B4_15.out.rd 1 rfl
  have r12_0 := B12_15.out.rd 0 rfl
  have r12_1 := B12_15.out.rd 1 rfl
  go_wp2_with fail
  clear r2_0 r2_1 r4_0 r4_1 r12_0 r12_1
  refine (heldInt64S_any B3_1_ m1 _ (1 + 4 * (m0 : Int)) _ (by omega) (by omega) (by omega) T3_1_15.out.ir).mono ?_
  rintro e w16 ⟨rfl, hx⟩
  have s16 := (hx.below (Nat.le_refl _)).size
  have K16 := Lib.hid (K15.out.trans (hx.below K15.out.size))
  have B2_16 := Lib.hid (B2_15.out.ext hx)
  have B4_16 := Lib.hid (B4_15.out.ext hx)
  have B12_16 := Lib.hid (B12_15.out.ext hx)
  have T1_0_16 := Lib.hid (T1_0_15.out.ext hx)
  have T1_1_16 := Lib.hid (T1_1_15.out.ext hx)
  have T3_0_16 := Lib.hid (T3_0_15.out.ext hx)
  have T3_1_16 := Lib.hid (T3_1_15.out.ext hx)
  have T11_0_16 := Lib.hid (T11_0_15.out.ext hx)
  have T11_1_16 := Lib.hid (T11_1_15.out.ext hx)
  clear K15 B2_15 B4_15 B12_15 T1_0_15 T1_1_15 T3_0_15 T3_1_15 T11_0_15 T11_1_15
  clear hx
  have r2_0 := B2_16.out.rd 0 rfl
  have r2_1 := B2_16.out.rd 1 rfl
  have r4_0 := B4_16.out.rd 0 rfl
  have r4_1 := B4_16.out.rd 1 rfl
  have r12_0 := B12_16.out.rd 0 rfl
  have r12_1 := B12_16.out.rd 1 rfl
  go_wp2_with fail
  clear r2_0 r2_1 r4_0 r4_1 r12_0 r12_1
  go_ret
  exact ⟨rfl, K16.out⟩
theorem nres_spec {w : World} {c : Int} {us : List Tl} {ys : List Int} {code : Int} {e : Ending} {w' : World} (h : NRes w c us ys code e w') : ∃ R0 p0 R1 p1, e = .returned (.tuple #[.agg #[.int .i64 c, .slice R0 us.length p0], .slice R1 ys.length p1, .int .i64 code]) ∧ Below w.heap.size w w' ∧ TWr w' w.heap.size w'.heap.size R0 us ∧ IWr w' w.heap.size w'.heap.size R1 ys := by
  obtain ⟨R0, p0, R1, p1, mid, h1, h2, he, hb, ht, hi⟩ := h
  refine ⟨R0, p0, R1, p1, he, hb, fun h0 => ?_, hi.low h1⟩
  obtain ⟨b, off, t, cs, e, q1, q2, q3, q4⟩ := ht h0
  exact ⟨b, off, t, cs, e, q1, by omega, q3, q4⟩
theorem nres_impl {w : World} {c : Int} {us : List Tl} {ys : List Int} {code : Int} {e : Ending} {w' : World} (h : NRes w c us ys code e w') : ∃ R0 p0 R1 p1 ja jb jc jd, w.heap.size ≤ ja ∧ jb ≤ w'.heap.size ∧ w.heap.size ≤ jc ∧ jd ≤ w'.heap.size ∧ (jb ≤ jc ∨ jd ≤ ja) ∧ e = .returned (.tuple #[.agg #[.int .i64 c, .slice R0 us.length p0], .slice R1 ys.length p1, .int .i64 code]) ∧ Below w.heap.size w w' ∧ TWr w' ja jb R0 us ∧ IWr w' jc jd R1 ys := by
  obtain ⟨R0, p0, R1, p1, mid, h1, h2, he, hb, ht, hi⟩ := h
  exact ⟨R0, p0, R1, p1, w.heap.size, mid, mid, w'.heap.size, Nat.le_refl _, h2, h1, Nat.le_refl _, .inl (Nat.le_refl _), he, hb, ht, hi⟩
theorem law_NumberRow (i0 i1 i2 i3 i4 i5 : Int) (pf pp : Addr) (w : World) (hgf : w.cell? ⟨1, 0, none⟩ = some (errV pf)) (hgp : w.cell? ⟨0, 0, none⟩ = some (errV pp)) :
    Calls Tryd.prog 5 #[.int .i64 i0, .int .i64 i1, .int .i64 i2, .int .i64 i3, .int .i64 i4, .int .i64 i5] w fun e w' => e = .returned (.bool true) ∧ Below w.heap.size w w' := by
  cases h : numOk i0 i1 i2 i3 i4 i5 with
  | true =>
    obtain ⟨cc, L, ys, code, hl, hy, hi, hs⟩ := numberRow_good i0 i1 i2 i3 i4 i5 h
    exact lawNumberRow_core i0 i1 i2 i3 i4 i5 w cc L ys code (by omega) (by omega) (fun _ W => (hs W).mono fun e w' hh => nres_spec hh) (fun _ W _ => (hi W).mono fun e w' hh => nres_impl hh)
  | false =>
    exact lawNumberRow_core i0 i1 i2 i3 i4 i5 w 0 [] [] 2 (by simp) (by simp) (fun _ W => (specNumberRow_2 i0 i1 i2 i3 i4 i5 W h).mono fun e w' hh => nres_spec hh)
      (fun _ W hW => (implNumberRow_2 i0 i1 i2 i3 i4 i5 pf pp W h ((hW.cell (p := ⟨1, 0, none⟩) (lt_of_cell2 hgf)).trans hgf) ((hW.cell (p := ⟨0, 0, none⟩) (lt_of_cell2 hgp)).trans hgp)).mono fun e w' hh => nres_impl hh)
end Go.Proofs.YtnagpndclagfaaaDoor
