/- The exact law over MultiplyingSet: walked. -/
import Derived.Test.YtplbjnnicmcpdaaMu4
import Derived.Test.YtplbjnnicmcpdaaMark2
import Derived.Test.YtplbjnnicmcpdaaSBridge
import Derived.Deep.RegionHeld3
import Derived.Deep.RegionLaw
import Derived.Deep.DeepCutAuto
namespace Go.Proofs.Ytplbjnnicmcpdaa
set_option linter.unusedVariables false
set_option linter.unusedSimpArgs false
open Go.RowKit Go.Sort

set_option maxRecDepth 100000 in
set_option maxHeartbeats 4000000 in
theorem lawMultiplyingSet_core (i0 : Int) (i1 : Int) (i2 : Int) (i3 : Int) (i4 : Int) (i5 : Int) (w : World)  (z0 : Int) (us0 : List Tl) (r1 : Int) (hus0 : us0.length ≤ 65536)
    (hspec : True → ∀ (W : World) , Calls Try.prog 14 #[.int .i64 i0, .int .i64 i1, .int .i64 i2, .int .i64 i3, .int .i64 i4, .int .i64 i5] W (fun e w' => ∃ R0 p0, e = .returned (.tuple #[.agg #[.int .i64 z0, .slice R0 us0.length p0], .int .i64 r1]) ∧ Below W.heap.size W w' ∧ TW w' W.heap.size R0 us0))
    (himpl : True → ∀ (W : World) , Calls Try.prog 15 #[.int .i64 i0, .int .i64 i1, .int .i64 i2, .int .i64 i3, .int .i64 i4, .int .i64 i5] W (fun e w' => ∃ R0 p0, e = .returned (.tuple #[.agg #[.int .i64 z0, .slice R0 us0.length p0], .int .i64 r1]) ∧ Below W.heap.size W w' ∧ TW w' W.heap.size R0 us0)) :
    Calls Try.prog 4 #[.int .i64 i0, .int .i64 i1, .int .i64 i2, .int .i64 i3, .int .i64 i4, .int .i64 i5] w fun e w' => e = .returned (.bool true) ∧ Below w.heap.size w w' := by
  have HS := Lib.hid (hspec trivial)
  have HI := Lib.hid (himpl trivial)
  clear hspec himpl 
  generalize hm0 : us0.length = m0 at *
  have HM0 := Lib.hid hm0
  clear hm0
  have hcc1 : (r1 != r1) = false := by simp
  have hkn : ¬ (1 < 0) := by omega
  have hkm0 : ¬ (1 + 4 * (m0 : Int) < 0) := by omega
  go_enter Try.func4, Try.ntmps4
  go_wp2_with fail
  have K0 := Lib.hid (Below.refl w.heap.size w)
  refine (HS.out _ ).mono ?_
  rintro e w1 ⟨B1_0_, cap1_0, rfl, hb, hw0⟩
  have s1 := hb.size
  have t1_0 := Lib.hid hw0.r
  have K1 := Lib.hid (K0.out.trans (hb.mono K0.out.size))
  clear K0
  clear hb hw0
  go_wp2_with fail
  have hx : Ext w1 (w1.alloc (Obj.cells #[.int .i64 z0, .slice B1_0_ m0 cap1_0] 31)) := (Ext.refl _).alloc _
  have sa2 : w1.heap.size + 1 ≤ (w1.alloc (Obj.cells #[.int .i64 z0, .slice B1_0_ m0 cap1_0] 31)).heap.size := by simp
  have b2 := Lib.hid (Blk.new w1 31 #[.int .i64 z0, .slice B1_0_ m0 cap1_0])
  generalize w1.alloc (Obj.cells #[.int .i64 z0, .slice B1_0_ m0 cap1_0] 31) = w2 at *
  have K2 := Lib.hid (K1.out.trans (hx.below K1.out.size))
  have T1_0_2 := Lib.hid (t1_0.out.ext hx)
  clear K1 t1_0
  clear hx
  refine (HI.out _ ).mono ?_
  rintro e w3 ⟨B3_0_, cap3_0, rfl, hb, hw0⟩
  have s3 := hb.size
  have t3_0 := Lib.hid hw0.r
  have K3 := Lib.hid (K2.out.trans (hb.mono K2.out.size))
  have B2_3 := Lib.hid (b2.out.below hb b2.out.lt)
  have T1_0_3 := Lib.hid (T1_0_2.out.below hb)
  clear K2 b2 T1_0_2
  clear hb hw0
  have r2_0 := B2_3.out.rd 0 rfl
  have q2_0 := (B2_3.out.ext ((Ext.refl _).alloc (Obj.cells #[.int .i64 z0, .slice B3_0_ m0 cap3_0] 31))).rd 0 rfl
  have r2_1 := B2_3.out.rd 1 rfl
  have q2_1 := (B2_3.out.ext ((Ext.refl _).alloc (Obj.cells #[.int .i64 z0, .slice B3_0_ m0 cap3_0] 31))).rd 1 rfl
  go_wp2_with fail
  clear r2_0 q2_0 r2_1 q2_1
  have hx : Ext w3 (w3.alloc (Obj.cells #[.int .i64 z0, .slice B3_0_ m0 cap3_0] 31)) := (Ext.refl _).alloc _
  have sa4 : w3.heap.size + 1 ≤ (w3.alloc (Obj.cells #[.int .i64 z0, .slice B3_0_ m0 cap3_0] 31)).heap.size := by simp
  have b4 := Lib.hid (Blk.new w3 31 #[.int .i64 z0, .slice B3_0_ m0 cap3_0])
  generalize w3.alloc (Obj.cells #[.int .i64 z0, .slice B3_0_ m0 cap3_0] 31) = w4 at *
  have K4 := Lib.hid (K3.out.trans (hx.below K3.out.size))
  have B2_4 := Lib.hid (B2_3.out.ext hx)
  have T1_0_4 := Lib.hid (T1_0_3.out.ext hx)
  have T3_0_4 := Lib.hid (t3_0.out.ext hx)
  clear K3 B2_3 T1_0_3 t3_0
  clear hx
  refine (eqSet_any z0 z0 B3_0_ B1_0_ m0 m0 _ _ us0 us0 _ (by omega) HM0.out HM0.out T3_0_4.out.tr T1_0_4.out.tr).mono ?_
  rw [decide_eq_true (⟨rfl, rfl⟩ : z0 = z0 ∧ us0 = us0)]
  rintro e w5 ⟨rfl, hx⟩
  have s5 := (hx.below (Nat.le_refl _)).size
  have K5 := Lib.hid (K4.out.trans (hx.below K4.out.size))
  have B2_5 := Lib.hid (B2_4.out.ext hx)
  have B4_5 := Lib.hid (b4.out.ext hx)
  have T1_0_5 := Lib.hid (T1_0_4.out.ext hx)
  have T3_0_5 := Lib.hid (T3_0_4.out.ext hx)
  clear K4 B2_4 b4 T1_0_4 T3_0_4
  clear hx
  have r2_0 := B2_5.out.rd 0 rfl
  have r2_1 := B2_5.out.rd 1 rfl
  have r4_0 := B4_5.out.rd 0 rfl
  have r4_1 := B4_5.out.rd 1 rfl
  go_wp2_with fail
  clear r2_0 r2_1 r4_0 r4_1
  refine (markSet_at z0 B3_0_ m0 _ (1) us0 _ _ _ (by omega) (by omega) (by omega) HM0.out T3_0_5.out).mono ?_
  rintro e w6 ⟨rfl, ho, hw⟩
  have s6 := ho.size
  have t6 := Lib.hid hw
  have K6 := Lib.hid (K5.out.trans (ho.below (by omega) K5.out.size))
  have B2_6 := Lib.hid (B2_5.out.only ho (by omega))
  have B4_6 := Lib.hid (B4_5.out.only ho (by omega))
  have T1_0_6 := Lib.hid (T1_0_5.out.only ho (by omega))
  clear K5 B2_5 B4_5 T1_0_5
  clear ho hw T3_0_5
  have r2_0 := B2_6.out.rd 0 rfl
  have r2_1 := B2_6.out.rd 1 rfl
  have r4_0 := B4_6.out.rd 0 rfl
  have r4_1 := B4_6.out.rd 1 rfl
  go_wp2_with fail
  clear r2_0 r2_1 r4_0 r4_1
  refine (heldSet_at z0 B3_0_ m0 _ (1) _ (by omega) (by omega) (by omega) t6.out.tr).mono ?_
  rintro e w7 ⟨rfl, hx⟩
  have s7 := (hx.below (Nat.le_refl _)).size
  have K7 := Lib.hid (K6.out.trans (hx.below K6.out.size))
  have B2_7 := Lib.hid (B2_6.out.ext hx)
  have B4_7 := Lib.hid (B4_6.out.ext hx)
  have T1_0_7 := Lib.hid (T1_0_6.out.ext hx)
  have T3_0_7 := Lib.hid (t6.out.ext hx)
  clear K6 B2_6 B4_6 T1_0_6 t6
  clear hx
  have r2_0 := B2_7.out.rd 0 rfl
  have r2_1 := B2_7.out.rd 1 rfl
  have r4_0 := B4_7.out.rd 0 rfl
  have r4_1 := B4_7.out.rd 1 rfl
  go_wp2_with fail
  clear r2_0 r2_1 r4_0 r4_1
  refine (HI.out _ ).mono ?_
  rintro e w8 ⟨B8_0_, cap8_0, rfl, hb, hw0⟩
  have s8 := hb.size
  have t8_0 := Lib.hid hw0.r
  have K8 := Lib.hid (K7.out.trans (hb.mono K7.out.size))
  have B2_8 := Lib.hid (B2_7.out.below hb B2_7.out.lt)
  have B4_8 := Lib.hid (B4_7.out.below hb B4_7.out.lt)
  have T1_0_8 := Lib.hid (T1_0_7.out.below hb)
  have T3_0_8 := Lib.hid (T3_0_7.out.below hb)
  clear K7 B2_7 B4_7 T1_0_7 T3_0_7
  clear hb hw0
  have r2_0 := B2_8.out.rd 0 rfl
  have q2_0 := (B2_8.out.ext ((Ext.refl _).alloc (Obj.cells #[.int .i64 z0, .slice B8_0_ m0 cap8_0] 31))).rd 0 rfl
  have r2_1 := B2_8.out.rd 1 rfl
  have q2_1 := (B2_8.out.ext ((Ext.refl _).alloc (Obj.cells #[.int .i64 z0, .slice B8_0_ m0 cap8_0] 31))).rd 1 rfl
  have r4_0 := B4_8.out.rd 0 rfl
  have q4_0 := (B4_8.out.ext ((Ext.refl _).alloc (Obj.cells #[.int .i64 z0, .slice B8_0_ m0 cap8_0] 31))).rd 0 rfl
  have r4_1 := B4_8.out.rd 1 rfl
  have q4_1 := (B4_8.out.ext ((Ext.refl _).alloc (Obj.cells #[.int .i64 z0, .slice B8_0_ m0 cap8_0] 31))).rd 1 rfl
  go_wp2_with fail
  clear r2_0 q2_0 r2_1 q2_1 r4_0 q4_0 r4_1 q4_1
  have hx : Ext w8 (w8.alloc (Obj.cells #[.int .i64 z0, .slice B8_0_ m0 cap8_0] 31)) := (Ext.refl _).alloc _
  have sa9 : w8.heap.size + 1 ≤ (w8.alloc (Obj.cells #[.int .i64 z0, .slice B8_0_ m0 cap8_0] 31)).heap.size := by simp
  have b9 := Lib.hid (Blk.new w8 31 #[.int .i64 z0, .slice B8_0_ m0 cap8_0])
  generalize w8.alloc (Obj.cells #[.int .i64 z0, .slice B8_0_ m0 cap8_0] 31) = w9 at *
  have K9 := Lib.hid (K8.out.trans (hx.below K8.out.size))
  have B2_9 := Lib.hid (B2_8.out.ext hx)
  have B4_9 := Lib.hid (B4_8.out.ext hx)
  have T1_0_9 := Lib.hid (T1_0_8.out.ext hx)
  have T3_0_9 := Lib.hid (T3_0_8.out.ext hx)
  have T8_0_9 := Lib.hid (t8_0.out.ext hx)
  clear K8 B2_8 B4_8 T1_0_8 T3_0_8 t8_0
  clear hx
  refine (eqSet_any z0 z0 B8_0_ B1_0_ m0 m0 _ _ us0 us0 _ (by omega) HM0.out HM0.out T8_0_9.out.tr T1_0_9.out.tr).mono ?_
  rw [decide_eq_true (⟨rfl, rfl⟩ : z0 = z0 ∧ us0 = us0)]
  rintro e w10 ⟨rfl, hx⟩
  have s10 := (hx.below (Nat.le_refl _)).size
  have K10 := Lib.hid (K9.out.trans (hx.below K9.out.size))
  have B2_10 := Lib.hid (B2_9.out.ext hx)
  have B4_10 := Lib.hid (B4_9.out.ext hx)
  have B9_10 := Lib.hid (b9.out.ext hx)
  have T1_0_10 := Lib.hid (T1_0_9.out.ext hx)
  have T3_0_10 := Lib.hid (T3_0_9.out.ext hx)
  have T8_0_10 := Lib.hid (T8_0_9.out.ext hx)
  clear K9 B2_9 B4_9 b9 T1_0_9 T3_0_9 T8_0_9
  clear hx
  have r2_0 := B2_10.out.rd 0 rfl
  have r2_1 := B2_10.out.rd 1 rfl
  have r4_0 := B4_10.out.rd 0 rfl
  have r4_1 := B4_10.out.rd 1 rfl
  have r9_0 := B9_10.out.rd 0 rfl
  have r9_1 := B9_10.out.rd 1 rfl
  go_wp2_with fail
  clear r2_0 r2_1 r4_0 r4_1 r9_0 r9_1
  refine (heldSet_at z0 B3_0_ m0 _ (1) _ (by omega) (by omega) (by omega) T3_0_10.out.tr).mono ?_
  rintro e w11 ⟨rfl, hx⟩
  have s11 := (hx.below (Nat.le_refl _)).size
  have K11 := Lib.hid (K10.out.trans (hx.below K10.out.size))
  have B2_11 := Lib.hid (B2_10.out.ext hx)
  have B4_11 := Lib.hid (B4_10.out.ext hx)
  have B9_11 := Lib.hid (B9_10.out.ext hx)
  have T1_0_11 := Lib.hid (T1_0_10.out.ext hx)
  have T3_0_11 := Lib.hid (T3_0_10.out.ext hx)
  have T8_0_11 := Lib.hid (T8_0_10.out.ext hx)
  clear K10 B2_10 B4_10 B9_10 T1_0_10 T3_0_10 T8_0_10
  clear hx
  have r2_0 := B2_11.out.rd 0 rfl
  have r2_1 := B2_11.out.rd 1 rfl
  have r4_0 := B4_11.out.rd 0 rfl
  have r4_1 := B4_11.out.rd 1 rfl
  have r9_0 := B9_11.out.rd 0 rfl
  have r9_1 := B9_11.out.rd 1 rfl
  go_wp2_with fail
  clear r2_0 r2_1 r4_0 r4_1 r9_0 r9_1
  go_ret
  exact ⟨rfl, K11.out⟩
theorem law_MultiplyingSet (i0 i1 i2 i3 i4 i5 : Int) (w : World) :
    Calls Try.prog 4 #[.int .i64 i0, .int .i64 i1, .int .i64 i2, .int .i64 i3, .int .i64 i4, .int .i64 i5] w fun e w' => e = .returned (.bool true) ∧ Below w.heap.size w w' := by
  have hs := fun W => specMulSet_any i0 i1 i2 i3 i4 i5 W
  have hi := fun W => implMulSet_any i0 i1 i2 i3 i4 i5 W
  unfold MulDoor at hs hi
  by_cases ha : mulArgs i0 i1 i2 i3 i4 i5 = true
  · simp only [if_pos ha] at hs hi
    unfold MulRes at hs hi
    by_cases h16 : (mulL i0 i1 i2 i3 i4 i5).length ≤ 16
    · simp only [if_pos h16] at hs hi
      exact lawMultiplyingSet_core i0 i1 i2 i3 i4 i5 w _ _ 0 (by have := sortT_len (mulL i0 i1 i2 i3 i4 i5); omega) (fun _ W => hs W) (fun _ W => hi W)
    · simp only [if_neg h16] at hs hi
      exact lawMultiplyingSet_core i0 i1 i2 i3 i4 i5 w _ _ 3 (by simp) (fun _ W => hs W) (fun _ W => hi W)
  · simp only [if_neg ha] at hs hi
    exact lawMultiplyingSet_core i0 i1 i2 i3 i4 i5 w _ _ 2 (by simp) (fun _ W => hs W) (fun _ W => hi W)
end Go.Proofs.Ytplbjnnicmcpdaa
