/- The exact law over IntervalOf: walked. -/
import Derived.Test.YtplbjnnicmcpdaaIt5
import Derived.Test.YtplbjnnicmcpdaaMark2
import Derived.Deep.RegionHeld3
import Derived.Deep.RegionLaw
import Derived.Deep.DeepCutAuto
namespace Go.Proofs.Ytplbjnnicmcpdaa
set_option linter.unusedVariables false
set_option linter.unusedSimpArgs false
open Go.RowKit Go.Sort

set_option maxRecDepth 100000 in
set_option maxHeartbeats 4000000 in
theorem lawIntervalOf_core (A0 : Option Addr) (n0 q0 : Nat) (xs0 : List Int) (w : World) (hn0 : n0 ≤ 9223372036854775807) (hl0 : xs0.length = n0) (hA0 : IR w w.heap.size A0 xs0) (ys0 : List Int) (ys1 : List Int) (r2 : Int) (hus0 : ys0.length ≤ 65536) (hus1 : ys1.length ≤ 65536)
    (hspec : n0 ≤ 1048576 → ∀ (W : World) (B0 : Option Addr) (e0 : Nat), n0 ≤ e0 → IR W W.heap.size B0 xs0 → Calls Try.prog 8 #[.slice B0 n0 e0] W (fun e w' => ∃ R0 p0 R1 p1, e = .returned (.tuple #[.slice R0 ys0.length p0, .slice R1 ys1.length p1, .int .i64 r2]) ∧ Below W.heap.size W w' ∧ IWr w' W.heap.size w'.heap.size R0 ys0 ∧ IWr w' W.heap.size w'.heap.size R1 ys1))
    (himpl : n0 ≤ 1048576 → ∀ (W : World) (B0 : Option Addr) (e0 : Nat), n0 ≤ e0 → IR W W.heap.size B0 xs0 → Calls Try.prog 10 #[.slice B0 n0 e0] W (fun e w' => ∃ R0 p0 R1 p1 ja jb jc jd, W.heap.size ≤ ja ∧ jb ≤ w'.heap.size ∧ W.heap.size ≤ jc ∧ jd ≤ w'.heap.size ∧ (jb ≤ jc ∨ jd ≤ ja) ∧ e = .returned (.tuple #[.slice R0 ys0.length p0, .slice R1 ys1.length p1, .int .i64 r2]) ∧ Below W.heap.size W w' ∧ IWr w' ja jb R0 ys0 ∧ IWr w' jc jd R1 ys1)) :
    Calls Try.prog 3 #[.slice A0 n0 q0] w fun e w' => e = .returned (.bool true) ∧ Below w.heap.size w w' := by
  by_cases hbig0 : (1048576 : Int) < n0
  · clear hspec himpl
    go_enter Try.func3, Try.ntmps3
    go_wp2_with fail
    go_ret
    exact ⟨rfl, ((Ext.refl w)).below (Nat.le_refl _)⟩
  · skip
    have hn'0 : n0 ≤ 1048576 := by omega
    have hts0 : ∀ W, Below w.heap.size w W → Calls Try.prog 9 #[.slice A0 n0 q0] W _ := fun W hW => toInt64S_any A0 n0 q0 xs0 W hn'0 hl0 ((hA0.below hW (Nat.le_refl _)).more hW.size)
    have HT0 := Lib.hid hts0
    have HL0 := Lib.hid hl0
    have HS := Lib.hid (hspec hn'0)
    have HI := Lib.hid (himpl hn'0)
    clear hspec himpl hts0 hA0 hl0
    generalize hm0 : ys0.length = m0 at *
    have HM0 := Lib.hid hm0
    clear hm0
    generalize hm1 : ys1.length = m1 at *
    have HM1 := Lib.hid hm1
    clear hm1
    have hcc2 : (r2 != r2) = false := by simp
    have hkn : ¬ (1 + (n0 : Int) < 0) := by omega
    have hkm0 : ¬ (1 + (m0 : Int) < 0) := by omega
    have hkm1 : ¬ (1 + (m0 : Int) + (m1 : Int) < 0) := by omega
    go_enter Try.func3, Try.ntmps3
    go_wp2_with fail
    have K0 := Lib.hid (Below.refl w.heap.size w)
    go_wp2_with fail
    refine (HT0.out _ K0.out).mono ?_
    rintro e w1 ⟨A_1, rfl, hb, hw⟩
    have s1 := hb.size
    have t1 := Lib.hid hw
    have K1 := Lib.hid (K0.out.trans (hb.mono K0.out.size))
    clear K0
    clear hb hw
    go_wp2_with fail
    refine (HS.out _ A_1 _ (Nat.le_refl _) t1.out.ir).mono ?_
    rintro e w2 ⟨B2_0_, cap2_0, B2_1_, cap2_1, rfl, hb, hw0, hw1⟩
    have s2 := hb.size
    have t2_0 := Lib.hid hw0
    have t2_1 := Lib.hid hw1
    have K2 := Lib.hid (K1.out.trans (hb.mono K1.out.size))
    have T1_2 := Lib.hid (t1.out.below hb)
    clear K1 t1
    clear hb hw0 hw1
    clear T1_2
    go_wp2_with fail
    refine (HT0.out _ K2.out).mono ?_
    rintro e w3 ⟨A_3, rfl, hb, hw⟩
    have s3 := hb.size
    have t3 := Lib.hid hw
    have K3 := Lib.hid (K2.out.trans (hb.mono K2.out.size))
    have T2_0_3 := Lib.hid (t2_0.out.below hb)
    have T2_1_3 := Lib.hid (t2_1.out.below hb)
    clear K2 t2_0 t2_1
    clear hb hw
    go_wp2_with fail
    refine (HI.out _ A_3 _ (Nat.le_refl _) t3.out.ir).mono ?_
    rintro e w4 ⟨B4_0_, cap4_0, B4_1_, cap4_1, ja4, jb4, jc4, jd4, hj1_4, hj2_4, hj3_4, hj4_4, hj5_4, rfl, hb, hw0, hw1⟩
    have s4 := hb.size
    have t4_0 := Lib.hid hw0
    have t4_1 := Lib.hid hw1
    have K4 := Lib.hid (K3.out.trans (hb.mono K3.out.size))
    have T2_0_4 := Lib.hid (T2_0_3.out.below hb)
    have T2_1_4 := Lib.hid (T2_1_3.out.below hb)
    have T3_4 := Lib.hid (t3.out.below hb)
    clear K3 T2_0_3 T2_1_3 t3
    clear hb hw0 hw1
    go_wp2_with fail
    refine (eqInt64S_any B4_0_ B2_0_ m0 m0 _ _ ys0 ys0 _ (by omega) HM0.out HM0.out t4_0.out.ir T2_0_4.out.ir).mono ?_
    rw [decide_eq_true (rfl : ys0 = ys0)]
    rintro e w5 ⟨rfl, hx⟩
    have s5 := (hx.below (Nat.le_refl _)).size
    have K5 := Lib.hid (K4.out.trans (hx.below K4.out.size))
    have T2_0_5 := Lib.hid (T2_0_4.out.ext hx)
    have T2_1_5 := Lib.hid (T2_1_4.out.ext hx)
    have T3_5 := Lib.hid (T3_4.out.ext hx)
    have T4_0_5 := Lib.hid (t4_0.out.ext hx)
    have T4_1_5 := Lib.hid (t4_1.out.ext hx)
    clear K4 T2_0_4 T2_1_4 T3_4 t4_0 t4_1
    clear hx
    go_wp2_with fail
    refine (eqInt64S_any B4_1_ B2_1_ m1 m1 _ _ ys1 ys1 _ (by omega) HM1.out HM1.out T4_1_5.out.ir T2_1_5.out.ir).mono ?_
    rw [decide_eq_true (rfl : ys1 = ys1)]
    rintro e w6 ⟨rfl, hx⟩
    have s6 := (hx.below (Nat.le_refl _)).size
    have K6 := Lib.hid (K5.out.trans (hx.below K5.out.size))
    have T2_0_6 := Lib.hid (T2_0_5.out.ext hx)
    have T2_1_6 := Lib.hid (T2_1_5.out.ext hx)
    have T3_6 := Lib.hid (T3_5.out.ext hx)
    have T4_0_6 := Lib.hid (T4_0_5.out.ext hx)
    have T4_1_6 := Lib.hid (T4_1_5.out.ext hx)
    clear K5 T2_0_5 T2_1_5 T3_5 T4_0_5 T4_1_5
    clear hx
    go_wp2_with fail
    refine (HT0.out _ K6.out).mono ?_
    rintro e w7 ⟨A_7, rfl, hb, hw⟩
    have s7 := hb.size
    have t7 := Lib.hid hw
    have K7 := Lib.hid (K6.out.trans (hb.mono K6.out.size))
    have T2_0_7 := Lib.hid (T2_0_6.out.below hb)
    have T2_1_7 := Lib.hid (T2_1_6.out.below hb)
    have T3_7 := Lib.hid (T3_6.out.below hb)
    have T4_0_7 := Lib.hid (T4_0_6.out.below hb)
    have T4_1_7 := Lib.hid (T4_1_6.out.below hb)
    clear K6 T2_0_6 T2_1_6 T3_6 T4_0_6 T4_1_6
    clear hb hw
    go_wp2_with fail
    refine (eqInt64S_any A_3 A_7 n0 n0 _ _ xs0 xs0 _ (by omega) HL0.out HL0.out T3_7.out.ir t7.out.ir).mono ?_
    rw [decide_eq_true (rfl : xs0 = xs0)]
    rintro e w8 ⟨rfl, hx⟩
    have s8 := (hx.below (Nat.le_refl _)).size
    have K8 := Lib.hid (K7.out.trans (hx.below K7.out.size))
    have T2_0_8 := Lib.hid (T2_0_7.out.ext hx)
    have T2_1_8 := Lib.hid (T2_1_7.out.ext hx)
    have T3_8 := Lib.hid (T3_7.out.ext hx)
    have T4_0_8 := Lib.hid (T4_0_7.out.ext hx)
    have T4_1_8 := Lib.hid (T4_1_7.out.ext hx)
    have T7_8 := Lib.hid (t7.out.ext hx)
    clear K7 T2_0_7 T2_1_7 T3_7 T4_0_7 T4_1_7 t7
    clear hx
    clear T7_8
    go_wp2_with fail
    refine (markInt64S_any A_3 n0 _ (1) xs0 _ _ _ (by omega) (by omega) (by omega) HL0.out T3_8.out).mono ?_
    rintro e w9 ⟨rfl, ho, hw⟩
    have s9 := ho.size
    have t9 := Lib.hid hw
    have K9 := Lib.hid (K8.out.trans (ho.below (by omega) K8.out.size))
    have T2_0_9 := Lib.hid (T2_0_8.out.only ho (by omega))
    have T2_1_9 := Lib.hid (T2_1_8.out.only ho (by omega))
    have T4_0_9 := Lib.hid (T4_0_8.out.only ho (by omega))
    have T4_1_9 := Lib.hid (T4_1_8.out.only ho (by omega))
    clear K8 T2_0_8 T2_1_8 T4_0_8 T4_1_8
    clear ho hw T3_8
    go_wp2_with fail
    refine (eqInt64S_any B4_0_ B2_0_ m0 m0 _ _ ys0 ys0 _ (by omega) HM0.out HM0.out T4_0_9.out.ir T2_0_9.out.ir).mono ?_
    rw [decide_eq_true (rfl : ys0 = ys0)]
    rintro e w10 ⟨rfl, hx⟩
    have s10 := (hx.below (Nat.le_refl _)).size
    have K10 := Lib.hid (K9.out.trans (hx.below K9.out.size))
    have T2_0_10 := Lib.hid (T2_0_9.out.ext hx)
    have T2_1_10 := Lib.hid (T2_1_9.out.ext hx)
    have T3_10 := Lib.hid (t9.out.ext hx)
    have T4_0_10 := Lib.hid (T4_0_9.out.ext hx)
    have T4_1_10 := Lib.hid (T4_1_9.out.ext hx)
    clear K9 T2_0_9 T2_1_9 t9 T4_0_9 T4_1_9
    clear hx
    go_wp2_with fail
    refine (eqInt64S_any B4_1_ B2_1_ m1 m1 _ _ ys1 ys1 _ (by omega) HM1.out HM1.out T4_1_10.out.ir T2_1_10.out.ir).mono ?_
    rw [decide_eq_true (rfl : ys1 = ys1)]
    rintro e w11 ⟨rfl, hx⟩
    have s11 := (hx.below (Nat.le_refl _)).size
    have K11 := Lib.hid (K10.out.trans (hx.below K10.out.size))
    have T2_0_11 := Lib.hid (T2_0_10.out.ext hx)
    have T2_1_11 := Lib.hid (T2_1_10.out.ext hx)
    have T3_11 := Lib.hid (T3_10.out.ext hx)
    have T4_0_11 := Lib.hid (T4_0_10.out.ext hx)
    have T4_1_11 := Lib.hid (T4_1_10.out.ext hx)
    clear K10 T2_0_10 T2_1_10 T3_10 T4_0_10 T4_1_10
    clear hx
    go_wp2_with fail
    refine (markInt64S_any B4_0_ m0 _ (1) ys0 _ _ _ (by omega) (by omega) (by omega) HM0.out T4_0_11.out).mono ?_
    rintro e w12 ⟨rfl, ho, hw⟩
    have s12 := ho.size
    have t12 := Lib.hid hw
    have K12 := Lib.hid (K11.out.trans (ho.below (by omega) K11.out.size))
    have T2_0_12 := Lib.hid (T2_0_11.out.only ho (by omega))
    have T2_1_12 := Lib.hid (T2_1_11.out.only ho (by omega))
    have T3_12 := Lib.hid (T3_11.out.only ho (by omega))
    have T4_1_12 := Lib.hid (T4_1_11.out.only ho (by omega))
    clear K11 T2_0_11 T2_1_11 T3_11 T4_1_11
    clear ho hw T4_0_11
    go_wp2_with fail
    refine (markInt64S_any B4_1_ m1 _ (1 + (m0 : Int)) ys1 _ _ _ (by omega) (by omega) (by omega) HM1.out T4_1_12.out).mono ?_
    rintro e w13 ⟨rfl, ho, hw⟩
    have s13 := ho.size
    have t13 := Lib.hid hw
    have K13 := Lib.hid (K12.out.trans (ho.below (by omega) K12.out.size))
    have T2_0_13 := Lib.hid (T2_0_12.out.only ho (by omega))
    have T2_1_13 := Lib.hid (T2_1_12.out.only ho (by omega))
    have T3_13 := Lib.hid (T3_12.out.only ho (by omega))
    have T4_0_13 := Lib.hid (t12.out.only ho (by omega))
    clear K12 T2_0_12 T2_1_12 T3_12 t12
    clear ho hw T4_1_12
    go_wp2_with fail
    refine (heldInt64S_any B4_0_ m0 _ (1) _ (by omega) (by omega) (by omega) T4_0_13.out.ir).mono ?_
    rintro e w14 ⟨rfl, hx⟩
    have s14 := (hx.below (Nat.le_refl _)).size
    have K14 := Lib.hid (K13.out.trans (hx.below K13.out.size))
    have T2_0_14 := Lib.hid (T2_0_13.out.ext hx)
    have T2_1_14 := Lib.hid (T2_1_13.out.ext hx)
    have T3_14 := Lib.hid (T3_13.out.ext hx)
    have T4_0_14 := Lib.hid (T4_0_13.out.ext hx)
    have T4_1_14 := Lib.hid (t13.out.ext hx)
    clear K13 T2_0_13 T2_1_13 T3_13 T4_0_13 t13
    clear hx
    go_wp2_with fail
    refine (heldInt64S_any B4_1_ m1 _ (1 + (m0 : Int)) _ (by omega) (by omega) (by omega) T4_1_14.out.ir).mono ?_
    rintro e w15 ⟨rfl, hx⟩
    have s15 := (hx.below (Nat.le_refl _)).size
    have K15 := Lib.hid (K14.out.trans (hx.below K14.out.size))
    have T2_0_15 := Lib.hid (T2_0_14.out.ext hx)
    have T2_1_15 := Lib.hid (T2_1_14.out.ext hx)
    have T3_15 := Lib.hid (T3_14.out.ext hx)
    have T4_0_15 := Lib.hid (T4_0_14.out.ext hx)
    have T4_1_15 := Lib.hid (T4_1_14.out.ext hx)
    clear K14 T2_0_14 T2_1_14 T3_14 T4_0_14 T4_1_14
    clear hx
    go_wp2_with fail
    refine (HT0.out _ K15.out).mono ?_
    rintro e w16 ⟨A_16, rfl, hb, hw⟩
    have s16 := hb.size
    have t16 := Lib.hid hw
    have K16 := Lib.hid (K15.out.trans (hb.mono K15.out.size))
    have T2_0_16 := Lib.hid (T2_0_15.out.below hb)
    have T2_1_16 := Lib.hid (T2_1_15.out.below hb)
    have T3_16 := Lib.hid (T3_15.out.below hb)
    have T4_0_16 := Lib.hid (T4_0_15.out.below hb)
    have T4_1_16 := Lib.hid (T4_1_15.out.below hb)
    clear K15 T2_0_15 T2_1_15 T3_15 T4_0_15 T4_1_15
    clear hb hw
    go_wp2_with fail
    refine (HI.out _ A_16 _ (Nat.le_refl _) t16.out.ir).mono ?_
    rintro e w17 ⟨B17_0_, cap17_0, B17_1_, cap17_1, ja17, jb17, jc17, jd17, hj1_17, hj2_17, hj3_17, hj4_17, hj5_17, rfl, hb, hw0, hw1⟩
    have s17 := hb.size
    have t17_0 := Lib.hid hw0
    have t17_1 := Lib.hid hw1
    have K17 := Lib.hid (K16.out.trans (hb.mono K16.out.size))
    have T2_0_17 := Lib.hid (T2_0_16.out.below hb)
    have T2_1_17 := Lib.hid (T2_1_16.out.below hb)
    have T3_17 := Lib.hid (T3_16.out.below hb)
    have T4_0_17 := Lib.hid (T4_0_16.out.below hb)
    have T4_1_17 := Lib.hid (T4_1_16.out.below hb)
    have T16_17 := Lib.hid (t16.out.below hb)
    clear K16 T2_0_16 T2_1_16 T3_16 T4_0_16 T4_1_16 t16
    clear hb hw0 hw1
    clear T16_17
    go_wp2_with fail
    refine (eqInt64S_any B17_0_ B2_0_ m0 m0 _ _ ys0 ys0 _ (by omega) HM0.out HM0.out t17_0.out.ir T2_0_17.out.ir).mono ?_
    rw [decide_eq_true (rfl : ys0 = ys0)]
    rintro e w18 ⟨rfl, hx⟩
    have s18 := (hx.below (Nat.le_refl _)).size
    have K18 := Lib.hid (K17.out.trans (hx.below K17.out.size))
    have T2_0_18 := Lib.hid (T2_0_17.out.ext hx)
    have T2_1_18 := Lib.hid (T2_1_17.out.ext hx)
    have T3_18 := Lib.hid (T3_17.out.ext hx)
    have T4_0_18 := Lib.hid (T4_0_17.out.ext hx)
    have T4_1_18 := Lib.hid (T4_1_17.out.ext hx)
    have T17_0_18 := Lib.hid (t17_0.out.ext hx)
    have T17_1_18 := Lib.hid (t17_1.out.ext hx)
    clear K17 T2_0_17 T2_1_17 T3_17 T4_0_17 T4_1_17 t17_0 t17_1
    clear hx
    go_wp2_with fail
    refine (eqInt64S_any B17_1_ B2_1_ m1 m1 _ _ ys1 ys1 _ (by omega) HM1.out HM1.out T17_1_18.out.ir T2_1_18.out.ir).mono ?_
    rw [decide_eq_true (rfl : ys1 = ys1)]
    rintro e w19 ⟨rfl, hx⟩
    have s19 := (hx.below (Nat.le_refl _)).size
    have K19 := Lib.hid (K18.out.trans (hx.below K18.out.size))
    have T2_0_19 := Lib.hid (T2_0_18.out.ext hx)
    have T2_1_19 := Lib.hid (T2_1_18.out.ext hx)
    have T3_19 := Lib.hid (T3_18.out.ext hx)
    have T4_0_19 := Lib.hid (T4_0_18.out.ext hx)
    have T4_1_19 := Lib.hid (T4_1_18.out.ext hx)
    have T17_0_19 := Lib.hid (T17_0_18.out.ext hx)
    have T17_1_19 := Lib.hid (T17_1_18.out.ext hx)
    clear K18 T2_0_18 T2_1_18 T3_18 T4_0_18 T4_1_18 T17_0_18 T17_1_18
    clear hx
    go_wp2_with fail
    refine (heldInt64S_any B4_0_ m0 _ (1) _ (by omega) (by omega) (by omega) T4_0_19.out.ir).mono ?_
    rintro e w20 ⟨rfl, hx⟩
    have s20 := (hx.below (Nat.le_refl _)).size
    have K20 := Lib.hid (K19.out.trans (hx.below K19.out.size))
    have T2_0_20 := Lib.hid (T2_0_19.out.ext hx)
    have T2_1_20 := Lib.hid (T2_1_19.out.ext hx)
    have T3_20 := Lib.hid (T3_19.out.ext hx)
    have T4_0_20 := Lib.hid (T4_0_19.out.ext hx)
    have T4_1_20 := Lib.hid (T4_1_19.out.ext hx)
    have T17_0_20 := Lib.hid (T17_0_19.out.ext hx)
    have T17_1_20 := Lib.hid (T17_1_19.out.ext hx)
    clear K19 T2_0_19 T2_1_19 T3_19 T4_0_19 T4_1_19 T17_0_19 T17_1_19
    clear hx
    go_wp2_with fail
    refine (heldInt64S_any B4_1_ m1 _ (1 + (m0 : Int)) _ (by omega) (by omega) (by omega) T4_1_20.out.ir).mono ?_
    rintro e w21 ⟨rfl, hx⟩
    have s21 := (hx.below (Nat.le_refl _)).size
    have K21 := Lib.hid (K20.out.trans (hx.below K20.out.size))
    have T2_0_21 := Lib.hid (T2_0_20.out.ext hx)
    have T2_1_21 := Lib.hid (T2_1_20.out.ext hx)
    have T3_21 := Lib.hid (T3_20.out.ext hx)
    have T4_0_21 := Lib.hid (T4_0_20.out.ext hx)
    have T4_1_21 := Lib.hid (T4_1_20.out.ext hx)
    have T17_0_21 := Lib.hid (T17_0_20.out.ext hx)
    have T17_1_21 := Lib.hid (T17_1_20.out.ext hx)
    clear K20 T2_0_20 T2_1_20 T3_20 T4_0_20 T4_1_20 T17_0_20 T17_1_20
    clear hx
    go_wp2_with fail
    go_ret
    exact ⟨rfl, K21.out⟩
theorem twoOwn {w w' : World} {ys zs : List Int} {code : Int} {e : Ending} (h : LLOwn w ys zs code e w') :
    ∃ R0 p0 R1 p1 ja jb jc jd, w.heap.size ≤ ja ∧ jb ≤ w'.heap.size ∧ w.heap.size ≤ jc ∧ jd ≤ w'.heap.size ∧ (jb ≤ jc ∨ jd ≤ ja) ∧ e = .returned (.tuple #[.slice R0 ys.length p0, .slice R1 zs.length p1, .int .i64 code]) ∧ Below w.heap.size w w' ∧ IWr w' ja jb R0 ys ∧ IWr w' jc jd R1 zs := by
  obtain ⟨R0, p0, R1, p1, mid, h1, h2, h3, h4, h5, h6⟩ := h
  exact ⟨R0, p0, R1, p1, _, _, _, _, Nat.le_refl _, h2, h1, Nat.le_refl _, Or.inl (Nat.le_refl _), h3, h4, h5, h6⟩
theorem law_IntervalOf (A0 : Option Addr) (n0 q0 : Nat) (xs0 : List Int) (w : World) (hn0 : n0 ≤ 9223372036854775807) (hl0 : xs0.length = n0) (hA0 : IR w w.heap.size A0 xs0) :
    Calls Try.prog 3 #[.slice A0 n0 q0] w fun e w' => e = .returned (.bool true) ∧ Below w.heap.size w w' := by
  by_cases h : itOk xs0 = true
  · by_cases hh : itHas xs0 = true
    · exact lawIntervalOf_core A0 n0 q0 xs0 w hn0 hl0 hA0 (lowT (lowE xs0)) (lowT (highE xs0)) 0 (by simp [lowT]) (by simp [lowT])
        (fun _ W B e _ hB => specInterval_ok B n0 e xs0 W hl0 hB h _ (fun _ e w' hx => hx) (fun hx => absurd (hh.symm.trans hx) (by decide)))
        (fun _ W B e _ hB => (implInterval_0 B n0 e xs0 W hl0 hB h hh).mono fun _ _ hx => twoOwn hx)
    · have hh2 : itHas xs0 = false := by simpa using hh
      exact lawIntervalOf_core A0 n0 q0 xs0 w hn0 hl0 hA0 [] [] 4 (by simp) (by simp)
        (fun _ W B e _ hB => specInterval_ok B n0 e xs0 W hl0 hB h _ (fun hx => absurd hx hh) (fun _ e w' hx => hx))
        (fun _ W B e _ hB => (implInterval_4 B n0 e xs0 W hl0 hB h hh2).mono fun _ _ hx => twoOwn hx)
  · have h2 : itOk xs0 = false := by simpa using h
    exact lawIntervalOf_core A0 n0 q0 xs0 w hn0 hl0 hA0 [] [] 2 (by simp) (by simp)
      (fun hn W B e _ hB => specInterval_2 B n0 e xs0 W hn hl0 hB h2)
      (fun hn W B e _ hB => (implInterval_2 B n0 e xs0 W hn hl0 hB h2).mono fun _ _ hx => twoOwn hx)
end Go.Proofs.Ytplbjnnicmcpdaa
