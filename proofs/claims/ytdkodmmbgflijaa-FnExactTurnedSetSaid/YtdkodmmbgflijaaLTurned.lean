/- The exact law over TurnedSet: walked. -/
import Derived.Test.YtdkodmmbgflijaaHeld
import Derived.Test.YtdkodmmbgflijaaFlips
import Derived.Deep.RegionHeld3
namespace Go.Proofs.Ytdkodmmbgflijaa
set_option linter.unusedVariables false
set_option linter.unusedSimpArgs false
open Go.RowKit Go.Sort

set_option maxRecDepth 100000 in
set_option maxHeartbeats 4000000 in
theorem lawTurnedSet_core (c0 : Int) (A : Option Addr) (n c : Nat) (ts : List Tl) (w : World) (hn : n ≤ 9223372036854775807) (hl : ts.length = n) (hA : TR w w.heap.size A ts) (c1 : Int) (us : List Tl) (code : Int) (hus : us.length ≤ 65536)
    (hspec : n ≤ 1048576 → ∀ (W : World) (A : Option Addr) (c : Nat), TR W W.heap.size A ts → Calls Try.prog 26 #[.agg #[.int .i64 c0, .slice A n c]] W (SetRes W c1 us code))
    (himpl : n ≤ 1048576 → ∀ (W : World) (A : Option Addr) (c : Nat), TR W W.heap.size A ts → Calls Try.prog 27 #[.agg #[.int .i64 c0, .slice A n c]] W (SetRes W c1 us code)) :
    Calls Try.prog 6 #[.agg #[.int .i64 c0, .slice A n c]] w fun e w' => e = .returned (.bool true) ∧ Below w.heap.size w w' := by
  have hsz : ∀ W, Calls Try.prog 15 #[.agg #[.int .i64 c0, .slice A n c], .int .i64 1048576] W _ := fun W => szSet_any c0 A n c 1048576 W hn (by omega) (by omega)
  by_cases hbig : (1048576 : Int) < n
  · simp only [if_pos hbig] at hsz
    clear hspec himpl
    go_enter Try.func6, Try.ntmps6
    go_wp2_with fail
    refine (hsz _).mono ?_
    rintro e w1 ⟨rfl, hx⟩
    have HX := Lib.hid hx
    clear hx
    go_wp2_with fail
    go_ret
    exact ⟨rfl, (((Ext.refl w).alloc _).trans HX.out).below (Nat.le_refl _)⟩
  · simp only [if_neg hbig] at hsz
    have hn' : n ≤ 1048576 := by omega
    have hneg : ¬ (1048576 - (n : Int) < 0) := by omega
    have hts : ∀ W, Below w.heap.size w W → Calls Try.prog 17 #[.agg #[.int .i64 c0, .slice A n c]] W _ := fun W hW => toSet_any c0 A n c ts W hn' hl ((hA.below hW (Nat.le_refl _)).more hW.size)
    have HT := Lib.hid hts
    have HS := Lib.hid (hspec hn')
    have HI := Lib.hid (himpl hn')
    clear hts hA hspec himpl
    unfold SetRes at HS HI
    generalize hm : us.length = m at *
    have HM := Lib.hid hm
    have HL := Lib.hid hl
    have hkn : ¬ (1 + 4 * (n : Int) < 0) := by omega
    have hkm : ¬ (1 + 4 * (m : Int) < 0) := by omega
    have hcc : (code != code) = false := by simp
    clear hm hl
    go_enter Try.func6, Try.ntmps6
    go_wp2_with fail
    refine (hsz _).mono ?_
    rintro e w0 ⟨rfl, hx⟩
    have K0 := Lib.hid ((((Ext.refl w).alloc _).trans hx).below (Nat.le_refl _))
    have b0 := Lib.hid ((Blk.new w _ _).ext hx)
    have s0 : w.heap.size + 1 ≤ w0.heap.size := by have := (hx.below (Nat.le_refl _)).size; simpa using this
    clear hx hsz
    have r0_0 := b0.out.rd 0 rfl
    have r0_1 := b0.out.rd 1 rfl
    go_wp2_with fail
    clear r0_0 r0_1
    refine (HT.out _ K0.out).mono ?_
    rintro e w1 ⟨A1, rfl, hb, hw⟩
    have s1 := hb.size
    have t1 := Lib.hid hw.r
    have K1 := Lib.hid (K0.out.trans (hb.mono K0.out.size))
    have B0_1 := Lib.hid (b0.out.below hb b0.out.lt)
    clear K0 b0
    clear hb hw
    have r0_0 := B0_1.out.rd 0 rfl
    have r0_1 := B0_1.out.rd 1 rfl
    go_wp2_with fail
    clear r0_0 r0_1
    refine (HS.out _ A1 _ t1.out.tr).mono ?_
    rintro e w2 ⟨A2, cap2, rfl, hb, hw⟩
    have s2 := hb.size
    have t2 := Lib.hid hw.r
    have K2 := Lib.hid (K1.out.trans (hb.mono K1.out.size))
    have B0_2 := Lib.hid (B0_1.out.below hb B0_1.out.lt)
    have T1_2 := Lib.hid (t1.out.below hb)
    clear K1 B0_1 t1
    clear hb hw
    clear T1_2
    have r0_0 := B0_2.out.rd 0 rfl
    have r0_1 := B0_2.out.rd 1 rfl
    have q0_0 := (B0_2.out.ext ((Ext.refl _).alloc (Obj.cells #[.int .i64 c1, .slice A2 m cap2] 29))).rd 0 rfl
    have q0_1 := (B0_2.out.ext ((Ext.refl _).alloc (Obj.cells #[.int .i64 c1, .slice A2 m cap2] 29))).rd 1 rfl
    go_wp2_with fail
    clear r0_0 r0_1 q0_0 q0_1
    have hx : Ext w2 (w2.alloc (Obj.cells #[.int .i64 c1, .slice A2 m cap2] 29)) := (Ext.refl _).alloc _
    have sa3 : w2.heap.size + 1 ≤ (w2.alloc (Obj.cells #[.int .i64 c1, .slice A2 m cap2] 29)).heap.size := by simp
    have b3 := Lib.hid (Blk.new w2 29 #[.int .i64 c1, .slice A2 m cap2])
    generalize w2.alloc (Obj.cells #[.int .i64 c1, .slice A2 m cap2] 29) = w3 at *
    have K3 := Lib.hid (K2.out.trans (hx.below K2.out.size))
    have B0_3 := Lib.hid (B0_2.out.ext hx)
    have T2_3 := Lib.hid (t2.out.ext hx)
    clear K2 B0_2 t2
    clear hx
    refine (HT.out _ K3.out).mono ?_
    rintro e w4 ⟨A4, rfl, hb, hw⟩
    have s4 := hb.size
    have t4 := Lib.hid hw.r
    have K4 := Lib.hid (K3.out.trans (hb.mono K3.out.size))
    have B0_4 := Lib.hid (B0_3.out.below hb B0_3.out.lt)
    have B3_4 := Lib.hid (b3.out.below hb b3.out.lt)
    have T2_4 := Lib.hid (T2_3.out.below hb)
    clear K3 B0_3 b3 T2_3
    clear hb hw
    have r0_0 := B0_4.out.rd 0 rfl
    have r0_1 := B0_4.out.rd 1 rfl
    have q0_0 := (B0_4.out.ext ((Ext.refl _).alloc (Obj.cells #[.int .i64 c0, .slice A4 n n] 29))).rd 0 rfl
    have q0_1 := (B0_4.out.ext ((Ext.refl _).alloc (Obj.cells #[.int .i64 c0, .slice A4 n n] 29))).rd 1 rfl
    have r3_0 := B3_4.out.rd 0 rfl
    have r3_1 := B3_4.out.rd 1 rfl
    have q3_0 := (B3_4.out.ext ((Ext.refl _).alloc (Obj.cells #[.int .i64 c0, .slice A4 n n] 29))).rd 0 rfl
    have q3_1 := (B3_4.out.ext ((Ext.refl _).alloc (Obj.cells #[.int .i64 c0, .slice A4 n n] 29))).rd 1 rfl
    go_wp2_with fail
    clear r0_0 r0_1 q0_0 q0_1 r3_0 r3_1 q3_0 q3_1
    have hx : Ext w4 (w4.alloc (Obj.cells #[.int .i64 c0, .slice A4 n n] 29)) := (Ext.refl _).alloc _
    have sa5 : w4.heap.size + 1 ≤ (w4.alloc (Obj.cells #[.int .i64 c0, .slice A4 n n] 29)).heap.size := by simp
    have b5 := Lib.hid (Blk.new w4 29 #[.int .i64 c0, .slice A4 n n])
    generalize w4.alloc (Obj.cells #[.int .i64 c0, .slice A4 n n] 29) = w5 at *
    have K5 := Lib.hid (K4.out.trans (hx.below K4.out.size))
    have B0_5 := Lib.hid (B0_4.out.ext hx)
    have B3_5 := Lib.hid (B3_4.out.ext hx)
    have T2_5 := Lib.hid (T2_4.out.ext hx)
    have T4_5 := Lib.hid (t4.out.ext hx)
    clear K4 B0_4 B3_4 T2_4 t4
    clear hx
    refine (HI.out _ A4 _ T4_5.out.tr).mono ?_
    rintro e w6 ⟨A6, cap6, rfl, hb, hw⟩
    have s6 := hb.size
    have t6 := Lib.hid hw.r
    have K6 := Lib.hid (K5.out.trans (hb.mono K5.out.size))
    have B0_6 := Lib.hid (B0_5.out.below hb B0_5.out.lt)
    have B3_6 := Lib.hid (B3_5.out.below hb B3_5.out.lt)
    have B5_6 := Lib.hid (b5.out.below hb b5.out.lt)
    have T2_6 := Lib.hid (T2_5.out.below hb)
    have T4_6 := Lib.hid (T4_5.out.below hb)
    clear K5 B0_5 B3_5 b5 T2_5 T4_5
    clear hb hw
    have r0_0 := B0_6.out.rd 0 rfl
    have r0_1 := B0_6.out.rd 1 rfl
    have q0_0 := (B0_6.out.ext ((Ext.refl _).alloc (Obj.cells #[.int .i64 c1, .slice A6 m cap6] 29))).rd 0 rfl
    have q0_1 := (B0_6.out.ext ((Ext.refl _).alloc (Obj.cells #[.int .i64 c1, .slice A6 m cap6] 29))).rd 1 rfl
    have r3_0 := B3_6.out.rd 0 rfl
    have r3_1 := B3_6.out.rd 1 rfl
    have q3_0 := (B3_6.out.ext ((Ext.refl _).alloc (Obj.cells #[.int .i64 c1, .slice A6 m cap6] 29))).rd 0 rfl
    have q3_1 := (B3_6.out.ext ((Ext.refl _).alloc (Obj.cells #[.int .i64 c1, .slice A6 m cap6] 29))).rd 1 rfl
    have r5_0 := B5_6.out.rd 0 rfl
    have r5_1 := B5_6.out.rd 1 rfl
    have q5_0 := (B5_6.out.ext ((Ext.refl _).alloc (Obj.cells #[.int .i64 c1, .slice A6 m cap6] 29))).rd 0 rfl
    have q5_1 := (B5_6.out.ext ((Ext.refl _).alloc (Obj.cells #[.int .i64 c1, .slice A6 m cap6] 29))).rd 1 rfl
    go_wp2_with fail
    clear r0_0 r0_1 q0_0 q0_1 r3_0 r3_1 q3_0 q3_1 r5_0 r5_1 q5_0 q5_1
    have hx : Ext w6 (w6.alloc (Obj.cells #[.int .i64 c1, .slice A6 m cap6] 29)) := (Ext.refl _).alloc _
    have sa7 : w6.heap.size + 1 ≤ (w6.alloc (Obj.cells #[.int .i64 c1, .slice A6 m cap6] 29)).heap.size := by simp
    have b7 := Lib.hid (Blk.new w6 29 #[.int .i64 c1, .slice A6 m cap6])
    generalize w6.alloc (Obj.cells #[.int .i64 c1, .slice A6 m cap6] 29) = w7 at *
    have K7 := Lib.hid (K6.out.trans (hx.below K6.out.size))
    have B0_7 := Lib.hid (B0_6.out.ext hx)
    have B3_7 := Lib.hid (B3_6.out.ext hx)
    have B5_7 := Lib.hid (B5_6.out.ext hx)
    have T2_7 := Lib.hid (T2_6.out.ext hx)
    have T4_7 := Lib.hid (T4_6.out.ext hx)
    have T6_7 := Lib.hid (t6.out.ext hx)
    clear K6 B0_6 B3_6 B5_6 T2_6 T4_6 t6
    clear hx
    refine (eqSet_any c1 c1 A6 A2 m m _ _ us us _ (by omega) HM.out HM.out T6_7.out.tr T2_7.out.tr).mono ?_
    rw [decide_eq_true (⟨rfl, rfl⟩ : c1 = c1 ∧ us = us)]
    rintro e w8 ⟨rfl, hx⟩
    have s8 := (hx.below (Nat.le_refl _)).size
    have K8 := Lib.hid (K7.out.trans (hx.below K7.out.size))
    have B0_8 := Lib.hid (B0_7.out.ext hx)
    have B3_8 := Lib.hid (B3_7.out.ext hx)
    have B5_8 := Lib.hid (B5_7.out.ext hx)
    have B7_8 := Lib.hid (b7.out.ext hx)
    have T2_8 := Lib.hid (T2_7.out.ext hx)
    have T4_8 := Lib.hid (T4_7.out.ext hx)
    have T6_8 := Lib.hid (T6_7.out.ext hx)
    clear K7 B0_7 B3_7 B5_7 b7 T2_7 T4_7 T6_7
    clear hx
    have r0_0 := B0_8.out.rd 0 rfl
    have r0_1 := B0_8.out.rd 1 rfl
    have r3_0 := B3_8.out.rd 0 rfl
    have r3_1 := B3_8.out.rd 1 rfl
    have r5_0 := B5_8.out.rd 0 rfl
    have r5_1 := B5_8.out.rd 1 rfl
    have r7_0 := B7_8.out.rd 0 rfl
    have r7_1 := B7_8.out.rd 1 rfl
    go_wp2_with fail
    go_region_held3 (fun w' => w'.cell? ⟨w.heap.size, 0, none⟩ = some (.int .i64 c0) ∧ w'.cell? ⟨w.heap.size, 1, none⟩ = some (.slice A n c) ∧ w'.cell? ⟨w4.heap.size, 0, none⟩ = some (.int .i64 c0) ∧ w'.cell? ⟨w4.heap.size, 1, none⟩ = some (.slice A4 n n))
      (first | exact ⟨k0_0, k0_1, k5_0, k5_1⟩ | exact ⟨l0_0, l0_1, l5_0, l5_1⟩ | go_keep)
      (first
        | (go_at_call 17; refine (HT.out _ K8.out.drew).mono ?_; rintro e w9 ⟨A9, rfl, hb, hw⟩; have s9 := hb.size; simp only [World.size_drew] at s9; have t9 := Lib.hid hw.r; have K9 := Lib.hid (K8.out.drew.trans (hb.mono K8.out.size)); have B0_9 := Lib.hid (Blk.below (w := w8.drew) B0_8.out hb B0_8.out.lt); have B3_9 := Lib.hid (Blk.below (w := w8.drew) B3_8.out hb B3_8.out.lt); have B5_9 := Lib.hid (Blk.below (w := w8.drew) B5_8.out hb B5_8.out.lt); have B7_9 := Lib.hid (Blk.below (w := w8.drew) B7_8.out hb B7_8.out.lt); have T2_9 := Lib.hid (TWr.below (w := w8.drew) T2_8.out hb); have T4_9 := Lib.hid (TWr.below (w := w8.drew) T4_8.out hb); have T6_9 := Lib.hid (TWr.below (w := w8.drew) T6_8.out hb); clear K8 B0_8 B3_8 B5_8 B7_8 T2_8 T4_8 T6_8; clear hb hw; have k0_0 := B0_9.out.rd 0 rfl; have k0_1 := B0_9.out.rd 1 rfl; have k5_0 := B5_9.out.rd 0 rfl; have k5_1 := B5_9.out.rd 1 rfl)
        | (go_at_call 19; refine (eqSet_any c0 c0 A4 A9 n n _ _ ts ts _ (by omega) HL.out HL.out T4_9.out.tr t9.out.tr).mono ?_; rw [decide_eq_true (⟨rfl, rfl⟩ : c0 = c0 ∧ ts = ts)]; rintro e w10 ⟨rfl, hx⟩; have s10 := (hx.below (Nat.le_refl _)).size; clear k0_0 k0_1 k5_0 k5_1; have K10 := Lib.hid (K9.out.trans (hx.below K9.out.size)); have B0_10 := Lib.hid (B0_9.out.ext hx); have B3_10 := Lib.hid (B3_9.out.ext hx); have B5_10 := Lib.hid (B5_9.out.ext hx); have B7_10 := Lib.hid (B7_9.out.ext hx); have T2_10 := Lib.hid (T2_9.out.ext hx); have T4_10 := Lib.hid (T4_9.out.ext hx); have T6_10 := Lib.hid (T6_9.out.ext hx); have T9_10 := Lib.hid (t9.out.ext hx); clear K9 B0_9 B3_9 B5_9 B7_9 T2_9 T4_9 T6_9 t9; clear hx; have l0_0 := B0_10.out.rd 0 rfl; have l0_1 := B0_10.out.rd 1 rfl; have l5_0 := B5_10.out.rd 0 rfl; have l5_1 := B5_10.out.rd 1 rfl))
    clear l0_0 l0_1 l5_0 l5_1 r0_0 r0_1 r3_0 r3_1 r5_0 r5_1 r7_0 r7_1
    clear T9_10
    have r0_0 := B0_10.out.rd 0 rfl
    have r0_1 := B0_10.out.rd 1 rfl
    have r3_0 := B3_10.out.rd 0 rfl
    have r3_1 := B3_10.out.rd 1 rfl
    have r5_0 := B5_10.out.rd 0 rfl
    have r5_1 := B5_10.out.rd 1 rfl
    have r7_0 := B7_10.out.rd 0 rfl
    have r7_1 := B7_10.out.rd 1 rfl
    go_wp2_with fail
    clear r0_0 r0_1 r3_0 r3_1 r5_0 r5_1 r7_0 r7_1
    refine (markSet_any c0 A4 n _ ts _ _ _ (by omega) HL.out T4_10.out).mono ?_
    rintro e w11 ⟨rfl, ho, hw⟩
    have s11 := ho.size
    have t11 := Lib.hid hw
    have K11 := Lib.hid (K10.out.trans (ho.below (by omega) K10.out.size))
    have B0_11 := Lib.hid (B0_10.out.only ho (by omega))
    have B3_11 := Lib.hid (B3_10.out.only ho (by omega))
    have B5_11 := Lib.hid (B5_10.out.only ho (by omega))
    have B7_11 := Lib.hid (B7_10.out.only ho (by omega))
    have T2_11 := Lib.hid (T2_10.out.only ho (by omega))
    have T6_11 := Lib.hid (T6_10.out.only ho (by omega))
    clear K10 B0_10 B3_10 B5_10 B7_10 T2_10 T6_10
    clear ho hw T4_10
    have r0_0 := B0_11.out.rd 0 rfl
    have r0_1 := B0_11.out.rd 1 rfl
    have r3_0 := B3_11.out.rd 0 rfl
    have r3_1 := B3_11.out.rd 1 rfl
    have r5_0 := B5_11.out.rd 0 rfl
    have r5_1 := B5_11.out.rd 1 rfl
    have r7_0 := B7_11.out.rd 0 rfl
    have r7_1 := B7_11.out.rd 1 rfl
    go_wp2_with fail
    clear r0_0 r0_1 r3_0 r3_1 r5_0 r5_1 r7_0 r7_1
    refine (eqSet_any c1 c1 A6 A2 m m _ _ us us _ (by omega) HM.out HM.out T6_11.out.tr T2_11.out.tr).mono ?_
    rw [decide_eq_true (⟨rfl, rfl⟩ : c1 = c1 ∧ us = us)]
    rintro e w12 ⟨rfl, hx⟩
    have s12 := (hx.below (Nat.le_refl _)).size
    have K12 := Lib.hid (K11.out.trans (hx.below K11.out.size))
    have B0_12 := Lib.hid (B0_11.out.ext hx)
    have B3_12 := Lib.hid (B3_11.out.ext hx)
    have B5_12 := Lib.hid (B5_11.out.ext hx)
    have B7_12 := Lib.hid (B7_11.out.ext hx)
    have T2_12 := Lib.hid (T2_11.out.ext hx)
    have T4_12 := Lib.hid (t11.out.ext hx)
    have T6_12 := Lib.hid (T6_11.out.ext hx)
    clear K11 B0_11 B3_11 B5_11 B7_11 T2_11 t11 T6_11
    clear hx
    have r0_0 := B0_12.out.rd 0 rfl
    have r0_1 := B0_12.out.rd 1 rfl
    have r3_0 := B3_12.out.rd 0 rfl
    have r3_1 := B3_12.out.rd 1 rfl
    have r5_0 := B5_12.out.rd 0 rfl
    have r5_1 := B5_12.out.rd 1 rfl
    have r7_0 := B7_12.out.rd 0 rfl
    have r7_1 := B7_12.out.rd 1 rfl
    go_wp2_with fail
    clear r0_0 r0_1 r3_0 r3_1 r5_0 r5_1 r7_0 r7_1
    refine (markSet_any c1 A6 m _ us _ _ _ (by omega) HM.out T6_12.out).mono ?_
    rintro e w13 ⟨rfl, ho, hw⟩
    have s13 := ho.size
    have t13 := Lib.hid hw
    have K13 := Lib.hid (K12.out.trans (ho.below (by omega) K12.out.size))
    have B0_13 := Lib.hid (B0_12.out.only ho (by omega))
    have B3_13 := Lib.hid (B3_12.out.only ho (by omega))
    have B5_13 := Lib.hid (B5_12.out.only ho (by omega))
    have B7_13 := Lib.hid (B7_12.out.only ho (by omega))
    have T2_13 := Lib.hid (T2_12.out.only ho (by omega))
    have T4_13 := Lib.hid (T4_12.out.only ho (by omega))
    clear K12 B0_12 B3_12 B5_12 B7_12 T2_12 T4_12
    clear ho hw T6_12
    have r0_0 := B0_13.out.rd 0 rfl
    have r0_1 := B0_13.out.rd 1 rfl
    have r3_0 := B3_13.out.rd 0 rfl
    have r3_1 := B3_13.out.rd 1 rfl
    have r5_0 := B5_13.out.rd 0 rfl
    have r5_1 := B5_13.out.rd 1 rfl
    have r7_0 := B7_13.out.rd 0 rfl
    have r7_1 := B7_13.out.rd 1 rfl
    go_wp2_with fail
    clear r0_0 r0_1 r3_0 r3_1 r5_0 r5_1 r7_0 r7_1
    refine (heldSet_any c1 A6 m _ _ (by omega) t13.out.tr).mono ?_
    rintro e w14 ⟨rfl, hx⟩
    have s14 := (hx.below (Nat.le_refl _)).size
    have K14 := Lib.hid (K13.out.trans (hx.below K13.out.size))
    have B0_14 := Lib.hid (B0_13.out.ext hx)
    have B3_14 := Lib.hid (B3_13.out.ext hx)
    have B5_14 := Lib.hid (B5_13.out.ext hx)
    have B7_14 := Lib.hid (B7_13.out.ext hx)
    have T2_14 := Lib.hid (T2_13.out.ext hx)
    have T4_14 := Lib.hid (T4_13.out.ext hx)
    have T6_14 := Lib.hid (t13.out.ext hx)
    clear K13 B0_13 B3_13 B5_13 B7_13 T2_13 T4_13 t13
    clear hx
    have r0_0 := B0_14.out.rd 0 rfl
    have r0_1 := B0_14.out.rd 1 rfl
    have r3_0 := B3_14.out.rd 0 rfl
    have r3_1 := B3_14.out.rd 1 rfl
    have r5_0 := B5_14.out.rd 0 rfl
    have r5_1 := B5_14.out.rd 1 rfl
    have r7_0 := B7_14.out.rd 0 rfl
    have r7_1 := B7_14.out.rd 1 rfl
    go_wp2_with fail
    clear r0_0 r0_1 r3_0 r3_1 r5_0 r5_1 r7_0 r7_1
    refine (HT.out _ K14.out).mono ?_
    rintro e w15 ⟨A15, rfl, hb, hw⟩
    have s15 := hb.size
    have t15 := Lib.hid hw.r
    have K15 := Lib.hid (K14.out.trans (hb.mono K14.out.size))
    have B0_15 := Lib.hid (B0_14.out.below hb B0_14.out.lt)
    have B3_15 := Lib.hid (B3_14.out.below hb B3_14.out.lt)
    have B5_15 := Lib.hid (B5_14.out.below hb B5_14.out.lt)
    have B7_15 := Lib.hid (B7_14.out.below hb B7_14.out.lt)
    have T2_15 := Lib.hid (T2_14.out.below hb)
    have T4_15 := Lib.hid (T4_14.out.below hb)
    have T6_15 := Lib.hid (T6_14.out.below hb)
    clear K14 B0_14 B3_14 B5_14 B7_14 T2_14 T4_14 T6_14
    clear hb hw
    have r0_0 := B0_15.out.rd 0 rfl
    have r0_1 := B0_15.out.rd 1 rfl
    have r3_0 := B3_15.out.rd 0 rfl
    have r3_1 := B3_15.out.rd 1 rfl
    have r5_0 := B5_15.out.rd 0 rfl
    have r5_1 := B5_15.out.rd 1 rfl
    have r7_0 := B7_15.out.rd 0 rfl
    have r7_1 := B7_15.out.rd 1 rfl
    go_wp2_with fail
    clear r0_0 r0_1 r3_0 r3_1 r5_0 r5_1 r7_0 r7_1
    refine (HI.out _ A15 _ t15.out.tr).mono ?_
    rintro e w16 ⟨A16, cap16, rfl, hb, hw⟩
    have s16 := hb.size
    have t16 := Lib.hid hw.r
    have K16 := Lib.hid (K15.out.trans (hb.mono K15.out.size))
    have B0_16 := Lib.hid (B0_15.out.below hb B0_15.out.lt)
    have B3_16 := Lib.hid (B3_15.out.below hb B3_15.out.lt)
    have B5_16 := Lib.hid (B5_15.out.below hb B5_15.out.lt)
    have B7_16 := Lib.hid (B7_15.out.below hb B7_15.out.lt)
    have T2_16 := Lib.hid (T2_15.out.below hb)
    have T4_16 := Lib.hid (T4_15.out.below hb)
    have T6_16 := Lib.hid (T6_15.out.below hb)
    have T15_16 := Lib.hid (t15.out.below hb)
    clear K15 B0_15 B3_15 B5_15 B7_15 T2_15 T4_15 T6_15 t15
    clear hb hw
    clear T15_16
    have r0_0 := B0_16.out.rd 0 rfl
    have r0_1 := B0_16.out.rd 1 rfl
    have q0_0 := (B0_16.out.ext ((Ext.refl _).alloc (Obj.cells #[.int .i64 c1, .slice A16 m cap16] 29))).rd 0 rfl
    have q0_1 := (B0_16.out.ext ((Ext.refl _).alloc (Obj.cells #[.int .i64 c1, .slice A16 m cap16] 29))).rd 1 rfl
    have r3_0 := B3_16.out.rd 0 rfl
    have r3_1 := B3_16.out.rd 1 rfl
    have q3_0 := (B3_16.out.ext ((Ext.refl _).alloc (Obj.cells #[.int .i64 c1, .slice A16 m cap16] 29))).rd 0 rfl
    have q3_1 := (B3_16.out.ext ((Ext.refl _).alloc (Obj.cells #[.int .i64 c1, .slice A16 m cap16] 29))).rd 1 rfl
    have r5_0 := B5_16.out.rd 0 rfl
    have r5_1 := B5_16.out.rd 1 rfl
    have q5_0 := (B5_16.out.ext ((Ext.refl _).alloc (Obj.cells #[.int .i64 c1, .slice A16 m cap16] 29))).rd 0 rfl
    have q5_1 := (B5_16.out.ext ((Ext.refl _).alloc (Obj.cells #[.int .i64 c1, .slice A16 m cap16] 29))).rd 1 rfl
    have r7_0 := B7_16.out.rd 0 rfl
    have r7_1 := B7_16.out.rd 1 rfl
    have q7_0 := (B7_16.out.ext ((Ext.refl _).alloc (Obj.cells #[.int .i64 c1, .slice A16 m cap16] 29))).rd 0 rfl
    have q7_1 := (B7_16.out.ext ((Ext.refl _).alloc (Obj.cells #[.int .i64 c1, .slice A16 m cap16] 29))).rd 1 rfl
    go_wp2_with fail
    clear r0_0 r0_1 q0_0 q0_1 r3_0 r3_1 q3_0 q3_1 r5_0 r5_1 q5_0 q5_1 r7_0 r7_1 q7_0 q7_1
    have hx : Ext w16 (w16.alloc (Obj.cells #[.int .i64 c1, .slice A16 m cap16] 29)) := (Ext.refl _).alloc _
    have sa17 : w16.heap.size + 1 ≤ (w16.alloc (Obj.cells #[.int .i64 c1, .slice A16 m cap16] 29)).heap.size := by simp
    have b17 := Lib.hid (Blk.new w16 29 #[.int .i64 c1, .slice A16 m cap16])
    generalize w16.alloc (Obj.cells #[.int .i64 c1, .slice A16 m cap16] 29) = w17 at *
    have K17 := Lib.hid (K16.out.trans (hx.below K16.out.size))
    have B0_17 := Lib.hid (B0_16.out.ext hx)
    have B3_17 := Lib.hid (B3_16.out.ext hx)
    have B5_17 := Lib.hid (B5_16.out.ext hx)
    have B7_17 := Lib.hid (B7_16.out.ext hx)
    have T2_17 := Lib.hid (T2_16.out.ext hx)
    have T4_17 := Lib.hid (T4_16.out.ext hx)
    have T6_17 := Lib.hid (T6_16.out.ext hx)
    have T16_17 := Lib.hid (t16.out.ext hx)
    clear K16 B0_16 B3_16 B5_16 B7_16 T2_16 T4_16 T6_16 t16
    clear hx
    refine (eqSet_any c1 c1 A16 A2 m m _ _ us us _ (by omega) HM.out HM.out T16_17.out.tr T2_17.out.tr).mono ?_
    rw [decide_eq_true (⟨rfl, rfl⟩ : c1 = c1 ∧ us = us)]
    rintro e w18 ⟨rfl, hx⟩
    have s18 := (hx.below (Nat.le_refl _)).size
    have K18 := Lib.hid (K17.out.trans (hx.below K17.out.size))
    have B0_18 := Lib.hid (B0_17.out.ext hx)
    have B3_18 := Lib.hid (B3_17.out.ext hx)
    have B5_18 := Lib.hid (B5_17.out.ext hx)
    have B7_18 := Lib.hid (B7_17.out.ext hx)
    have B17_18 := Lib.hid (b17.out.ext hx)
    have T2_18 := Lib.hid (T2_17.out.ext hx)
    have T4_18 := Lib.hid (T4_17.out.ext hx)
    have T6_18 := Lib.hid (T6_17.out.ext hx)
    have T16_18 := Lib.hid (T16_17.out.ext hx)
    clear K17 B0_17 B3_17 B5_17 B7_17 b17 T2_17 T4_17 T6_17 T16_17
    clear hx
    have r0_0 := B0_18.out.rd 0 rfl
    have r0_1 := B0_18.out.rd 1 rfl
    have r3_0 := B3_18.out.rd 0 rfl
    have r3_1 := B3_18.out.rd 1 rfl
    have r5_0 := B5_18.out.rd 0 rfl
    have r5_1 := B5_18.out.rd 1 rfl
    have r7_0 := B7_18.out.rd 0 rfl
    have r7_1 := B7_18.out.rd 1 rfl
    have r17_0 := B17_18.out.rd 0 rfl
    have r17_1 := B17_18.out.rd 1 rfl
    go_wp2_with fail
    clear r0_0 r0_1 r3_0 r3_1 r5_0 r5_1 r7_0 r7_1 r17_0 r17_1
    refine (heldSet_any c1 A6 m _ _ (by omega) T6_18.out.tr).mono ?_
    rintro e w19 ⟨rfl, hx⟩
    have s19 := (hx.below (Nat.le_refl _)).size
    have K19 := Lib.hid (K18.out.trans (hx.below K18.out.size))
    have B0_19 := Lib.hid (B0_18.out.ext hx)
    have B3_19 := Lib.hid (B3_18.out.ext hx)
    have B5_19 := Lib.hid (B5_18.out.ext hx)
    have B7_19 := Lib.hid (B7_18.out.ext hx)
    have B17_19 := Lib.hid (B17_18.out.ext hx)
    have T2_19 := Lib.hid (T2_18.out.ext hx)
    have T4_19 := Lib.hid (T4_18.out.ext hx)
    have T6_19 := Lib.hid (T6_18.out.ext hx)
    have T16_19 := Lib.hid (T16_18.out.ext hx)
    clear K18 B0_18 B3_18 B5_18 B7_18 B17_18 T2_18 T4_18 T6_18 T16_18
    clear hx
    have r0_0 := B0_19.out.rd 0 rfl
    have r0_1 := B0_19.out.rd 1 rfl
    have r3_0 := B3_19.out.rd 0 rfl
    have r3_1 := B3_19.out.rd 1 rfl
    have r5_0 := B5_19.out.rd 0 rfl
    have r5_1 := B5_19.out.rd 1 rfl
    have r7_0 := B7_19.out.rd 0 rfl
    have r7_1 := B7_19.out.rd 1 rfl
    have r17_0 := B17_19.out.rd 0 rfl
    have r17_1 := B17_19.out.rd 1 rfl
    go_wp2_with fail
    clear r0_0 r0_1 r3_0 r3_1 r5_0 r5_1 r7_0 r7_1 r17_0 r17_1
    go_ret
    exact ⟨rfl, K19.out⟩

theorem law_turned (c0 : Int) (A : Option Addr) (n c : Nat) (ts : List Tl) (w : World) (hn : n ≤ 9223372036854775807) (hl : ts.length = n) (hA : TR w w.heap.size A ts) :
    Calls Try.prog 6 #[.agg #[.int .i64 c0, .slice A n c]] w fun e w' => e = .returned (.bool true) ∧ Below w.heap.size w w' := by
  cases hs : isSet c0 ts with
  | true =>
    refine lawTurnedSet_core c0 A n c ts w hn hl hA c0 (sortT (ts.map turnedT)) 0 (by have := sortT_len (ts.map turnedT); have := isSet_len hs; simp at *; omega) (fun h W A' c' hT => ?_) (fun h W A' c' hT => ?_)
    · have := specTurned_any c0 A' n c' ts W h hl hT
      rwa [if_pos hs] at this
    · have := implTurned_any c0 A' n c' ts W h hl hT
      rwa [if_pos hs] at this
  | false =>
    refine lawTurnedSet_core c0 A n c ts w hn hl hA 0 [] 1 (by simp) (fun h W A' c' hT => ?_) (fun h W A' c' hT => ?_)
    · have := specTurned_any c0 A' n c' ts W h hl hT
      rwa [if_neg (by simp [hs])] at this
    · have := implTurned_any c0 A' n c' ts W h hl hT
      rwa [if_neg (by simp [hs])] at this
end Go.Proofs.Ytdkodmmbgflijaa
