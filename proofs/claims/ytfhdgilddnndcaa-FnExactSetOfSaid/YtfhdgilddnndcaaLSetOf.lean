/- The exact law over SetOf: walked. -/
import Derived.Test.YtfhdgilddnndcaaSo2
import Derived.Test.YtfhdgilddnndcaaSBridge
import Derived.Test.YtfhdgilddnndcaaMark2
import Derived.Test.YtfhdgilddnndcaaGrow
import Derived.Deep.RegionHeld3
namespace Go.Proofs.Ytfhdgilddnndcaa
set_option linter.unusedVariables false
set_option linter.unusedSimpArgs false
open Go.RowKit Go.Sort

set_option maxRecDepth 100000 in
set_option maxHeartbeats 4000000 in
theorem lawSetOf_core (i0 : Int) (A1 : Option Addr) (n1 q1 : Nat) (ts1 : List Tl) (w : World) (hn1 : n1 ≤ 9223372036854775807) (hl1 : ts1.length = n1) (hA1 : TR w w.heap.size A1 ts1) (z0 : Int) (us0 : List Tl) (r1 : Int) (hus0 : us0.length ≤ 65536)
    (hspec : n1 ≤ 1048576 → ∀ (W : World) (B1 : Option Addr) (e1 : Nat), n1 ≤ e1 → TR W W.heap.size B1 ts1 → Calls Try.prog 16 #[.int .i64 i0, .slice B1 n1 e1] W (fun e w' => ∃ R0 p0, e = .returned (.tuple #[.agg #[.int .i64 z0, .slice R0 us0.length p0], .int .i64 r1]) ∧ Below W.heap.size W w' ∧ TW w' W.heap.size R0 us0))
    (himpl : n1 ≤ 1048576 → ∀ (W : World) (B1 : Option Addr) (e1 : Nat), n1 ≤ e1 → TR W W.heap.size B1 ts1 → Calls Try.prog 18 #[.int .i64 i0, .slice B1 n1 e1] W (fun e w' => ∃ R0 p0, e = .returned (.tuple #[.agg #[.int .i64 z0, .slice R0 us0.length p0], .int .i64 r1]) ∧ Below W.heap.size W w' ∧ TW w' W.heap.size R0 us0)) :
    Calls Try.prog 3 #[.int .i64 i0, .slice A1 n1 q1] w fun e w' => e = .returned (.bool true) ∧ Below w.heap.size w w' := by
  have hsz1 : (0 : Int) ≤ 1048576 → ∀ W, Calls Try.prog 15 #[.slice A1 n1 q1, .int .i64 1048576] W _ := fun h W => szTileS_any A1 n1 q1 1048576 W hn1 h (by omega)
  by_cases hbig1 : (1048576 : Int) < n1
  · replace hsz1 := hsz1 (by omega)
    simp only [if_pos hbig1] at hsz1
    clear hspec himpl
    go_enter Try.func3, Try.ntmps3
    go_wp2_with fail
    have K0 := Lib.hid (Below.refl w.heap.size w)
    refine (hsz1 _).mono ?_
    rintro e w1 ⟨rfl, hx⟩
    have s1 := (hx.below (Nat.le_refl _)).size
    have K1 := Lib.hid (K0.out.trans (hx.below K0.out.size))
    clear K0
    clear hx
    go_wp2_with fail
    go_ret
    exact ⟨rfl, K1.out⟩
  · skip
    replace hsz1 := hsz1 (by omega)
    simp only [if_neg hbig1] at hsz1
    have hneg1 : ¬ (1048576 - (n1 : Int) < 0) := by omega
    have hn'1 : n1 ≤ 1048576 := by omega
    have hts1 : ∀ W, Below w.heap.size w W → Calls Try.prog 17 #[.slice A1 n1 q1] W _ := fun W hW => toTileS_any A1 n1 q1 ts1 W hn'1 hl1 ((hA1.below hW (Nat.le_refl _)).more hW.size)
    have HT1 := Lib.hid hts1
    have HL1 := Lib.hid hl1
    have HS := Lib.hid (hspec hn'1)
    have HI := Lib.hid (himpl hn'1)
    clear hspec himpl hts1 hA1 hl1
    generalize hm0 : us0.length = m0 at *
    have HM0 := Lib.hid hm0
    clear hm0
    have hcc1 : (r1 != r1) = false := by simp
    have hkn : ¬ (1 + 4 * (n1 : Int) < 0) := by omega
    have hkm0 : ¬ (1 + 4 * (m0 : Int) < 0) := by omega
    go_enter Try.func3, Try.ntmps3
    go_wp2_with fail
    have K0 := Lib.hid (Below.refl w.heap.size w)
    refine (hsz1 _).mono ?_
    rintro e w1 ⟨rfl, hx⟩
    have s1 := (hx.below (Nat.le_refl _)).size
    have K1 := Lib.hid (K0.out.trans (hx.below K0.out.size))
    clear K0
    clear hx
    go_wp2_with fail
    refine (HT1.out _ K1.out).mono ?_
    rintro e w2 ⟨A_2, rfl, hb, hw⟩
    have s2 := hb.size
    have t2 := Lib.hid hw.r
    have K2 := Lib.hid (K1.out.trans (hb.mono K1.out.size))
    clear K1
    clear hb hw
    go_wp2_with fail
    refine (HS.out _ A_2 _ (Nat.le_refl _) t2.out.tr).mono ?_
    rintro e w3 ⟨B3_0_, cap3_0, rfl, hb, hw0⟩
    have s3 := hb.size
    have t3_0 := Lib.hid hw0.r
    have K3 := Lib.hid (K2.out.trans (hb.mono K2.out.size))
    have T2_3 := Lib.hid (t2.out.below hb)
    clear K2 t2
    clear hb hw0
    clear T2_3
    go_wp2_with fail
    have hx : Ext w3 (w3.alloc (Obj.cells #[.int .i64 z0, .slice B3_0_ m0 cap3_0] 26)) := (Ext.refl _).alloc _
    have sa4 : w3.heap.size + 1 ≤ (w3.alloc (Obj.cells #[.int .i64 z0, .slice B3_0_ m0 cap3_0] 26)).heap.size := by simp
    have b4 := Lib.hid (Blk.new w3 26 #[.int .i64 z0, .slice B3_0_ m0 cap3_0])
    generalize w3.alloc (Obj.cells #[.int .i64 z0, .slice B3_0_ m0 cap3_0] 26) = w4 at *
    have K4 := Lib.hid (K3.out.trans (hx.below K3.out.size))
    have T3_0_4 := Lib.hid (t3_0.out.ext hx)
    clear K3 t3_0
    clear hx
    refine (HT1.out _ K4.out).mono ?_
    rintro e w5 ⟨A_5, rfl, hb, hw⟩
    have s5 := hb.size
    have t5 := Lib.hid hw.r
    have K5 := Lib.hid (K4.out.trans (hb.mono K4.out.size))
    have B4_5 := Lib.hid (b4.out.below hb b4.out.lt)
    have T3_0_5 := Lib.hid (T3_0_4.out.below hb)
    clear K4 b4 T3_0_4
    clear hb hw
    have r4_0 := B4_5.out.rd 0 rfl
    have r4_1 := B4_5.out.rd 1 rfl
    go_wp2_with fail
    clear r4_0 r4_1
    refine (HI.out _ A_5 _ (Nat.le_refl _) t5.out.tr).mono ?_
    rintro e w6 ⟨B6_0_, cap6_0, rfl, hb, hw0⟩
    have s6 := hb.size
    have t6_0 := Lib.hid hw0.r
    have K6 := Lib.hid (K5.out.trans (hb.mono K5.out.size))
    have B4_6 := Lib.hid (B4_5.out.below hb B4_5.out.lt)
    have T3_0_6 := Lib.hid (T3_0_5.out.below hb)
    have T5_6 := Lib.hid (t5.out.below hb)
    clear K5 B4_5 T3_0_5 t5
    clear hb hw0
    have r4_0 := B4_6.out.rd 0 rfl
    have r4_1 := B4_6.out.rd 1 rfl
    have q4_0 := (B4_6.out.ext ((Ext.refl _).alloc (Obj.cells #[.int .i64 z0, .slice B6_0_ m0 cap6_0] 26))).rd 0 rfl
    have q4_1 := (B4_6.out.ext ((Ext.refl _).alloc (Obj.cells #[.int .i64 z0, .slice B6_0_ m0 cap6_0] 26))).rd 1 rfl
    go_wp2_with fail
    clear r4_0 r4_1 q4_0 q4_1
    have hx : Ext w6 (w6.alloc (Obj.cells #[.int .i64 z0, .slice B6_0_ m0 cap6_0] 26)) := (Ext.refl _).alloc _
    have sa7 : w6.heap.size + 1 ≤ (w6.alloc (Obj.cells #[.int .i64 z0, .slice B6_0_ m0 cap6_0] 26)).heap.size := by simp
    have b7 := Lib.hid (Blk.new w6 26 #[.int .i64 z0, .slice B6_0_ m0 cap6_0])
    generalize w6.alloc (Obj.cells #[.int .i64 z0, .slice B6_0_ m0 cap6_0] 26) = w7 at *
    have K7 := Lib.hid (K6.out.trans (hx.below K6.out.size))
    have B4_7 := Lib.hid (B4_6.out.ext hx)
    have T3_0_7 := Lib.hid (T3_0_6.out.ext hx)
    have T5_7 := Lib.hid (T5_6.out.ext hx)
    have T6_0_7 := Lib.hid (t6_0.out.ext hx)
    clear K6 B4_6 T3_0_6 T5_6 t6_0
    clear hx
    refine (eqSet_any z0 z0 B6_0_ B3_0_ m0 m0 _ _ us0 us0 _ (by omega) HM0.out HM0.out T6_0_7.out.tr T3_0_7.out.tr).mono ?_
    rw [decide_eq_true (⟨rfl, rfl⟩ : z0 = z0 ∧ us0 = us0)]
    rintro e w8 ⟨rfl, hx⟩
    have s8 := (hx.below (Nat.le_refl _)).size
    have K8 := Lib.hid (K7.out.trans (hx.below K7.out.size))
    have B4_8 := Lib.hid (B4_7.out.ext hx)
    have B7_8 := Lib.hid (b7.out.ext hx)
    have T3_0_8 := Lib.hid (T3_0_7.out.ext hx)
    have T5_8 := Lib.hid (T5_7.out.ext hx)
    have T6_0_8 := Lib.hid (T6_0_7.out.ext hx)
    clear K7 B4_7 b7 T3_0_7 T5_7 T6_0_7
    clear hx
    have r4_0 := B4_8.out.rd 0 rfl
    have r4_1 := B4_8.out.rd 1 rfl
    have r7_0 := B7_8.out.rd 0 rfl
    have r7_1 := B7_8.out.rd 1 rfl
    go_wp2_with fail
    clear r4_0 r4_1 r7_0 r7_1
    refine (HT1.out _ K8.out).mono ?_
    rintro e w9 ⟨A_9, rfl, hb, hw⟩
    have s9 := hb.size
    have t9 := Lib.hid hw.r
    have K9 := Lib.hid (K8.out.trans (hb.mono K8.out.size))
    have B4_9 := Lib.hid (B4_8.out.below hb B4_8.out.lt)
    have B7_9 := Lib.hid (B7_8.out.below hb B7_8.out.lt)
    have T3_0_9 := Lib.hid (T3_0_8.out.below hb)
    have T5_9 := Lib.hid (T5_8.out.below hb)
    have T6_0_9 := Lib.hid (T6_0_8.out.below hb)
    clear K8 B4_8 B7_8 T3_0_8 T5_8 T6_0_8
    clear hb hw
    have r4_0 := B4_9.out.rd 0 rfl
    have r4_1 := B4_9.out.rd 1 rfl
    have r7_0 := B7_9.out.rd 0 rfl
    have r7_1 := B7_9.out.rd 1 rfl
    go_wp2_with fail
    clear r4_0 r4_1 r7_0 r7_1
    refine (eqTileS_any A_5 A_9 n1 n1 _ _ ts1 ts1 _ (by omega) HL1.out HL1.out T5_9.out.tr t9.out.tr).mono ?_
    rw [decide_eq_true (rfl : ts1 = ts1)]
    rintro e w10 ⟨rfl, hx⟩
    have s10 := (hx.below (Nat.le_refl _)).size
    have K10 := Lib.hid (K9.out.trans (hx.below K9.out.size))
    have B4_10 := Lib.hid (B4_9.out.ext hx)
    have B7_10 := Lib.hid (B7_9.out.ext hx)
    have T3_0_10 := Lib.hid (T3_0_9.out.ext hx)
    have T5_10 := Lib.hid (T5_9.out.ext hx)
    have T6_0_10 := Lib.hid (T6_0_9.out.ext hx)
    have T9_10 := Lib.hid (t9.out.ext hx)
    clear K9 B4_9 B7_9 T3_0_9 T5_9 T6_0_9 t9
    clear hx
    clear T9_10
    have r4_0 := B4_10.out.rd 0 rfl
    have r4_1 := B4_10.out.rd 1 rfl
    have r7_0 := B7_10.out.rd 0 rfl
    have r7_1 := B7_10.out.rd 1 rfl
    go_wp2_with fail
    clear r4_0 r4_1 r7_0 r7_1
    refine (markTileS_any A_5 n1 _ (1) ts1 _ _ _ (by omega) (by omega) (by omega) HL1.out T5_10.out).mono ?_
    rintro e w11 ⟨rfl, ho, hw⟩
    have s11 := ho.size
    have t11 := Lib.hid hw
    have K11 := Lib.hid (K10.out.trans (ho.below (by omega) K10.out.size))
    have B4_11 := Lib.hid (B4_10.out.only ho (by omega))
    have B7_11 := Lib.hid (B7_10.out.only ho (by omega))
    have T3_0_11 := Lib.hid (T3_0_10.out.only ho (by omega))
    have T6_0_11 := Lib.hid (T6_0_10.out.only ho (by omega))
    clear K10 B4_10 B7_10 T3_0_10 T6_0_10
    clear ho hw T5_10
    have r4_0 := B4_11.out.rd 0 rfl
    have r4_1 := B4_11.out.rd 1 rfl
    have r7_0 := B7_11.out.rd 0 rfl
    have r7_1 := B7_11.out.rd 1 rfl
    go_wp2_with fail
    clear r4_0 r4_1 r7_0 r7_1
    refine (eqSet_any z0 z0 B6_0_ B3_0_ m0 m0 _ _ us0 us0 _ (by omega) HM0.out HM0.out T6_0_11.out.tr T3_0_11.out.tr).mono ?_
    rw [decide_eq_true (⟨rfl, rfl⟩ : z0 = z0 ∧ us0 = us0)]
    rintro e w12 ⟨rfl, hx⟩
    have s12 := (hx.below (Nat.le_refl _)).size
    have K12 := Lib.hid (K11.out.trans (hx.below K11.out.size))
    have B4_12 := Lib.hid (B4_11.out.ext hx)
    have B7_12 := Lib.hid (B7_11.out.ext hx)
    have T3_0_12 := Lib.hid (T3_0_11.out.ext hx)
    have T5_12 := Lib.hid (t11.out.ext hx)
    have T6_0_12 := Lib.hid (T6_0_11.out.ext hx)
    clear K11 B4_11 B7_11 T3_0_11 t11 T6_0_11
    clear hx
    have r4_0 := B4_12.out.rd 0 rfl
    have r4_1 := B4_12.out.rd 1 rfl
    have r7_0 := B7_12.out.rd 0 rfl
    have r7_1 := B7_12.out.rd 1 rfl
    go_wp2_with fail
    clear r4_0 r4_1 r7_0 r7_1
    refine (markSet_at z0 B6_0_ m0 _ (1) us0 _ _ _ (by omega) (by omega) (by omega) HM0.out T6_0_12.out).mono ?_
    rintro e w13 ⟨rfl, ho, hw⟩
    have s13 := ho.size
    have t13 := Lib.hid hw
    have K13 := Lib.hid (K12.out.trans (ho.below (by omega) K12.out.size))
    have B4_13 := Lib.hid (B4_12.out.only ho (by omega))
    have B7_13 := Lib.hid (B7_12.out.only ho (by omega))
    have T3_0_13 := Lib.hid (T3_0_12.out.only ho (by omega))
    have T5_13 := Lib.hid (T5_12.out.only ho (by omega))
    clear K12 B4_12 B7_12 T3_0_12 T5_12
    clear ho hw T6_0_12
    have r4_0 := B4_13.out.rd 0 rfl
    have r4_1 := B4_13.out.rd 1 rfl
    have r7_0 := B7_13.out.rd 0 rfl
    have r7_1 := B7_13.out.rd 1 rfl
    go_wp2_with fail
    clear r4_0 r4_1 r7_0 r7_1
    refine (heldSet_at z0 B6_0_ m0 _ (1) _ (by omega) (by omega) (by omega) t13.out.tr).mono ?_
    rintro e w14 ⟨rfl, hx⟩
    have s14 := (hx.below (Nat.le_refl _)).size
    have K14 := Lib.hid (K13.out.trans (hx.below K13.out.size))
    have B4_14 := Lib.hid (B4_13.out.ext hx)
    have B7_14 := Lib.hid (B7_13.out.ext hx)
    have T3_0_14 := Lib.hid (T3_0_13.out.ext hx)
    have T5_14 := Lib.hid (T5_13.out.ext hx)
    have T6_0_14 := Lib.hid (t13.out.ext hx)
    clear K13 B4_13 B7_13 T3_0_13 T5_13 t13
    clear hx
    have r4_0 := B4_14.out.rd 0 rfl
    have r4_1 := B4_14.out.rd 1 rfl
    have r7_0 := B7_14.out.rd 0 rfl
    have r7_1 := B7_14.out.rd 1 rfl
    go_wp2_with fail
    clear r4_0 r4_1 r7_0 r7_1
    refine (HT1.out _ K14.out).mono ?_
    rintro e w15 ⟨A_15, rfl, hb, hw⟩
    have s15 := hb.size
    have t15 := Lib.hid hw.r
    have K15 := Lib.hid (K14.out.trans (hb.mono K14.out.size))
    have B4_15 := Lib.hid (B4_14.out.below hb B4_14.out.lt)
    have B7_15 := Lib.hid (B7_14.out.below hb B7_14.out.lt)
    have T3_0_15 := Lib.hid (T3_0_14.out.below hb)
    have T5_15 := Lib.hid (T5_14.out.below hb)
    have T6_0_15 := Lib.hid (T6_0_14.out.below hb)
    clear K14 B4_14 B7_14 T3_0_14 T5_14 T6_0_14
    clear hb hw
    have r4_0 := B4_15.out.rd 0 rfl
    have r4_1 := B4_15.out.rd 1 rfl
    have r7_0 := B7_15.out.rd 0 rfl
    have r7_1 := B7_15.out.rd 1 rfl
    go_wp2_with fail
    clear r4_0 r4_1 r7_0 r7_1
    refine (HI.out _ A_15 _ (Nat.le_refl _) t15.out.tr).mono ?_
    rintro e w16 ⟨B16_0_, cap16_0, rfl, hb, hw0⟩
    have s16 := hb.size
    have t16_0 := Lib.hid hw0.r
    have K16 := Lib.hid (K15.out.trans (hb.mono K15.out.size))
    have B4_16 := Lib.hid (B4_15.out.below hb B4_15.out.lt)
    have B7_16 := Lib.hid (B7_15.out.below hb B7_15.out.lt)
    have T3_0_16 := Lib.hid (T3_0_15.out.below hb)
    have T5_16 := Lib.hid (T5_15.out.below hb)
    have T6_0_16 := Lib.hid (T6_0_15.out.below hb)
    have T15_16 := Lib.hid (t15.out.below hb)
    clear K15 B4_15 B7_15 T3_0_15 T5_15 T6_0_15 t15
    clear hb hw0
    clear T15_16
    have r4_0 := B4_16.out.rd 0 rfl
    have r4_1 := B4_16.out.rd 1 rfl
    have q4_0 := (B4_16.out.ext ((Ext.refl _).alloc (Obj.cells #[.int .i64 z0, .slice B16_0_ m0 cap16_0] 26))).rd 0 rfl
    have q4_1 := (B4_16.out.ext ((Ext.refl _).alloc (Obj.cells #[.int .i64 z0, .slice B16_0_ m0 cap16_0] 26))).rd 1 rfl
    have r7_0 := B7_16.out.rd 0 rfl
    have r7_1 := B7_16.out.rd 1 rfl
    have q7_0 := (B7_16.out.ext ((Ext.refl _).alloc (Obj.cells #[.int .i64 z0, .slice B16_0_ m0 cap16_0] 26))).rd 0 rfl
    have q7_1 := (B7_16.out.ext ((Ext.refl _).alloc (Obj.cells #[.int .i64 z0, .slice B16_0_ m0 cap16_0] 26))).rd 1 rfl
    go_wp2_with fail
    clear r4_0 r4_1 q4_0 q4_1 r7_0 r7_1 q7_0 q7_1
    have hx : Ext w16 (w16.alloc (Obj.cells #[.int .i64 z0, .slice B16_0_ m0 cap16_0] 26)) := (Ext.refl _).alloc _
    have sa17 : w16.heap.size + 1 ≤ (w16.alloc (Obj.cells #[.int .i64 z0, .slice B16_0_ m0 cap16_0] 26)).heap.size := by simp
    have b17 := Lib.hid (Blk.new w16 26 #[.int .i64 z0, .slice B16_0_ m0 cap16_0])
    generalize w16.alloc (Obj.cells #[.int .i64 z0, .slice B16_0_ m0 cap16_0] 26) = w17 at *
    have K17 := Lib.hid (K16.out.trans (hx.below K16.out.size))
    have B4_17 := Lib.hid (B4_16.out.ext hx)
    have B7_17 := Lib.hid (B7_16.out.ext hx)
    have T3_0_17 := Lib.hid (T3_0_16.out.ext hx)
    have T5_17 := Lib.hid (T5_16.out.ext hx)
    have T6_0_17 := Lib.hid (T6_0_16.out.ext hx)
    have T16_0_17 := Lib.hid (t16_0.out.ext hx)
    clear K16 B4_16 B7_16 T3_0_16 T5_16 T6_0_16 t16_0
    clear hx
    refine (eqSet_any z0 z0 B16_0_ B3_0_ m0 m0 _ _ us0 us0 _ (by omega) HM0.out HM0.out T16_0_17.out.tr T3_0_17.out.tr).mono ?_
    rw [decide_eq_true (⟨rfl, rfl⟩ : z0 = z0 ∧ us0 = us0)]
    rintro e w18 ⟨rfl, hx⟩
    have s18 := (hx.below (Nat.le_refl _)).size
    have K18 := Lib.hid (K17.out.trans (hx.below K17.out.size))
    have B4_18 := Lib.hid (B4_17.out.ext hx)
    have B7_18 := Lib.hid (B7_17.out.ext hx)
    have B17_18 := Lib.hid (b17.out.ext hx)
    have T3_0_18 := Lib.hid (T3_0_17.out.ext hx)
    have T5_18 := Lib.hid (T5_17.out.ext hx)
    have T6_0_18 := Lib.hid (T6_0_17.out.ext hx)
    have T16_0_18 := Lib.hid (T16_0_17.out.ext hx)
    clear K17 B4_17 B7_17 b17 T3_0_17 T5_17 T6_0_17 T16_0_17
    clear hx
    have r4_0 := B4_18.out.rd 0 rfl
    have r4_1 := B4_18.out.rd 1 rfl
    have r7_0 := B7_18.out.rd 0 rfl
    have r7_1 := B7_18.out.rd 1 rfl
    have r17_0 := B17_18.out.rd 0 rfl
    have r17_1 := B17_18.out.rd 1 rfl
    go_wp2_with fail
    clear r4_0 r4_1 r7_0 r7_1 r17_0 r17_1
    refine (heldSet_at z0 B6_0_ m0 _ (1) _ (by omega) (by omega) (by omega) T6_0_18.out.tr).mono ?_
    rintro e w19 ⟨rfl, hx⟩
    have s19 := (hx.below (Nat.le_refl _)).size
    have K19 := Lib.hid (K18.out.trans (hx.below K18.out.size))
    have B4_19 := Lib.hid (B4_18.out.ext hx)
    have B7_19 := Lib.hid (B7_18.out.ext hx)
    have B17_19 := Lib.hid (B17_18.out.ext hx)
    have T3_0_19 := Lib.hid (T3_0_18.out.ext hx)
    have T5_19 := Lib.hid (T5_18.out.ext hx)
    have T6_0_19 := Lib.hid (T6_0_18.out.ext hx)
    have T16_0_19 := Lib.hid (T16_0_18.out.ext hx)
    clear K18 B4_18 B7_18 B17_18 T3_0_18 T5_18 T6_0_18 T16_0_18
    clear hx
    have r4_0 := B4_19.out.rd 0 rfl
    have r4_1 := B4_19.out.rd 1 rfl
    have r7_0 := B7_19.out.rd 0 rfl
    have r7_1 := B7_19.out.rd 1 rfl
    have r17_0 := B17_19.out.rd 0 rfl
    have r17_1 := B17_19.out.rd 1 rfl
    go_wp2_with fail
    clear r4_0 r4_1 r7_0 r7_1 r17_0 r17_1
    go_ret
    exact ⟨rfl, K19.out⟩
theorem law_SetOf (i0 : Int) (A1 : Option Addr) (n1 q1 : Nat) (ts1 : List Tl) (w : World)
    (hn1 : n1 ≤ 9223372036854775807) (hl1 : ts1.length = n1) (hA1 : TR w w.heap.size A1 ts1) :
    Calls Try.prog 3 #[.int .i64 i0, .slice A1 n1 q1] w fun e w' => e = .returned (.bool true) ∧ Below w.heap.size w w' := by
  by_cases hc : 1 ≤ i0 ∧ i0 ≤ 6
  · by_cases h100 : 100 < n1
    · exact lawSetOf_core i0 A1 n1 q1 ts1 w hn1 hl1 hA1 0 [] 2 (by simp)
        (fun h W B1 e1 _ hB1 => specSetOf_2b i0 B1 n1 e1 W h hc.1 hc.2 h100)
        (fun h W B1 e1 _ hB1 => implSetOf_2b i0 B1 n1 e1 W h hc.1 hc.2 h100)
    · by_cases hall : allOk i0 ts1 = true
      · by_cases h16 : (sortT ts1).length ≤ 16
        · exact lawSetOf_core i0 A1 n1 q1 ts1 w hn1 hl1 hA1 i0 (sortT ts1) 0 (by omega)
            (fun h W B1 e1 _ hB1 => by have := specSetOf_0 i0 B1 n1 e1 ts1 W (by omega) hl1 hB1 hc.1 hc.2; unfold SetOfRes at this; rw [if_pos hall, if_pos h16] at this; exact this)
            (fun h W B1 e1 _ hB1 => by have := implSetOf_0 i0 B1 n1 e1 ts1 W (by omega) hl1 hB1 hc.1 hc.2; unfold SetOfRes at this; rw [if_pos hall, if_pos h16] at this; exact this)
        · exact lawSetOf_core i0 A1 n1 q1 ts1 w hn1 hl1 hA1 0 [] 3 (by simp)
            (fun h W B1 e1 _ hB1 => by have := specSetOf_0 i0 B1 n1 e1 ts1 W (by omega) hl1 hB1 hc.1 hc.2; unfold SetOfRes at this; rw [if_pos hall, if_neg h16] at this; exact this)
            (fun h W B1 e1 _ hB1 => by have := implSetOf_0 i0 B1 n1 e1 ts1 W (by omega) hl1 hB1 hc.1 hc.2; unfold SetOfRes at this; rw [if_pos hall, if_neg h16] at this; exact this)
      · exact lawSetOf_core i0 A1 n1 q1 ts1 w hn1 hl1 hA1 0 [] 2 (by simp)
          (fun h W B1 e1 _ hB1 => by have := specSetOf_0 i0 B1 n1 e1 ts1 W (by omega) hl1 hB1 hc.1 hc.2; unfold SetOfRes at this; rw [if_neg hall] at this; exact this)
          (fun h W B1 e1 _ hB1 => by have := implSetOf_0 i0 B1 n1 e1 ts1 W (by omega) hl1 hB1 hc.1 hc.2; unfold SetOfRes at this; rw [if_neg hall] at this; exact this)
  · exact lawSetOf_core i0 A1 n1 q1 ts1 w hn1 hl1 hA1 0 [] 2 (by simp)
      (fun h W B1 e1 _ hB1 => specSetOf_2a i0 B1 n1 e1 W h hc)
      (fun h W B1 e1 _ hB1 => implSetOf_2a i0 B1 n1 e1 W h hc)
end Go.Proofs.Ytfhdgilddnndcaa
