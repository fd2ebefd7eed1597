/- The exact law over RenameColours: walked. -/
import Derived.Test.YtjbnmkiidongmaaRen3
import Derived.Test.YtjbnmkiidongmaaInts
import Derived.Test.YtjbnmkiidongmaaMark2
import Derived.Test.YtjbnmkiidongmaaGrow
import Derived.Deep.RegionHeld3
namespace Go.Proofs.Ytjbnmkiidongmaa
set_option linter.unusedVariables false
set_option linter.unusedSimpArgs false
open Go.RowKit Go.Sort

set_option maxRecDepth 100000 in
set_option maxHeartbeats 4000000 in
theorem lawRenameColours_core (c0 : Int) (A0 : Option Addr) (n0 q0 : Nat) (ts0 : List Tl) (A1 : Option Addr) (n1 q1 : Nat) (xs1 : List Int) (w : World) (hn0 : n0 ≤ 9223372036854775807) (hl0 : ts0.length = n0) (hA0 : TR w w.heap.size A0 ts0) (hn1 : n1 ≤ 9223372036854775807) (hl1 : xs1.length = n1) (hA1 : IR w w.heap.size A1 xs1) (z0 : Int) (us0 : List Tl) (r1 : Int) (hus0 : us0.length ≤ 65536)
    (hspec : n0 ≤ 1048576 ∧ n1 ≤ 1048576 → ∀ (W : World) (B0 : Option Addr) (e0 : Nat) (B1 : Option Addr) (e1 : Nat), n0 ≤ e0 → TR W W.heap.size B0 ts0 → n1 ≤ e1 → IR W W.heap.size B1 xs1 → Calls Try.prog 39 #[.agg #[.int .i64 c0, .slice B0 n0 e0], .slice B1 n1 e1] W (fun e w' => ∃ R0 p0, e = .returned (.tuple #[.agg #[.int .i64 z0, .slice R0 us0.length p0], .int .i64 r1]) ∧ Below W.heap.size W w' ∧ TW w' W.heap.size R0 us0))
    (himpl : n0 ≤ 1048576 ∧ n1 ≤ 1048576 → ∀ (W : World) (B0 : Option Addr) (e0 : Nat) (B1 : Option Addr) (e1 : Nat), n0 ≤ e0 → TR W W.heap.size B0 ts0 → n1 ≤ e1 → IR W W.heap.size B1 xs1 → Calls Try.prog 41 #[.agg #[.int .i64 c0, .slice B0 n0 e0], .slice B1 n1 e1] W (fun e w' => ∃ R0 p0, e = .returned (.tuple #[.agg #[.int .i64 z0, .slice R0 us0.length p0], .int .i64 r1]) ∧ Below W.heap.size W w' ∧ TW w' W.heap.size R0 us0)) :
    Calls Try.prog 9 #[.agg #[.int .i64 c0, .slice A0 n0 q0], .slice A1 n1 q1] w fun e w' => e = .returned (.bool true) ∧ Below w.heap.size w w' := by
  have hsz0 : (0 : Int) ≤ 1048576 → ∀ W, Calls Try.prog 20 #[.agg #[.int .i64 c0, .slice A0 n0 q0], .int .i64 1048576] W _ := fun h W => szSet_any c0 A0 n0 q0 1048576 W hn0 h (by omega)
  by_cases hbig1 : (1048576 : Int) < n1
  · clear hsz0
    clear hspec himpl
    go_enter Try.func9, Try.ntmps9
    go_wp2_with fail
    go_ret
    exact ⟨rfl, (((Ext.refl w).alloc _)).below (Nat.le_refl _)⟩
  · skip
    by_cases hbig0 : (1048576 : Int) < n0
    · replace hsz0 := hsz0 (by omega)
      simp only [if_pos hbig0] at hsz0
      clear hspec himpl
      go_enter Try.func9, Try.ntmps9
      go_wp2_with fail
      have hx0 : Ext w (w.alloc (Obj.cells #[.int .i64 c0, .slice A0 n0 q0] 30)) := ((Ext.refl w).alloc _)
      have b00 : Blk (w.alloc (Obj.cells #[.int .i64 c0, .slice A0 n0 q0] 30)) w.heap.size 30 #[.int .i64 c0, .slice A0 n0 q0] := (Blk.new w 30 #[.int .i64 c0, .slice A0 n0 q0])
      have s0 : w.heap.size + 1 ≤ (w.alloc (Obj.cells #[.int .i64 c0, .slice A0 n0 q0] 30)).heap.size := by simp
      have K0 := Lib.hid (hx0.below (Nat.le_refl _))
      have C00 := Lib.hid b00
      clear hx0 b00
      generalize (w.alloc (Obj.cells #[.int .i64 c0, .slice A0 n0 q0] 30)) = w0 at *
      refine (hsz0 _).mono ?_
      rintro e w1 ⟨rfl, hx⟩
      have s1 := (hx.below (Nat.le_refl _)).size
      have K1 := Lib.hid (K0.out.trans (hx.below K0.out.size))
      have Ba0_1 := Lib.hid (C00.out.ext hx)
      clear K0 C00
      clear hx
      have ra0_0 := Ba0_1.out.rd 0 rfl
      have ra0_1 := Ba0_1.out.rd 1 rfl
      go_wp2_with fail
      clear ra0_0 ra0_1
      go_ret
      exact ⟨rfl, K1.out⟩
    · skip
      replace hsz0 := hsz0 (by omega)
      simp only [if_neg hbig0] at hsz0
      have hneg0 : ¬ (1048576 - (n0 : Int) < 0) := by omega
      have hn'0 : n0 ≤ 1048576 := by omega
      have hts0 : ∀ W, Below w.heap.size w W → Calls Try.prog 23 #[.agg #[.int .i64 c0, .slice A0 n0 q0]] W _ := fun W hW => toSet_any c0 A0 n0 q0 ts0 W hn'0 hl0 ((hA0.below hW (Nat.le_refl _)).more hW.size)
      have hn'1 : n1 ≤ 1048576 := by omega
      have hts1 : ∀ W, Below w.heap.size w W → Calls Try.prog 40 #[.slice A1 n1 q1] W _ := fun W hW => toInt64S_any A1 n1 q1 xs1 W hn'1 hl1 ((hA1.below hW (Nat.le_refl _)).more hW.size)
      have HT0 := Lib.hid hts0
      have HL0 := Lib.hid hl0
      have HT1 := Lib.hid hts1
      have HL1 := Lib.hid hl1
      have HS := Lib.hid (hspec ⟨hn'0, hn'1⟩)
      have HI := Lib.hid (himpl ⟨hn'0, hn'1⟩)
      clear hspec himpl hts0 hA0 hl0 hts1 hA1 hl1
      generalize hm0 : us0.length = m0 at *
      have HM0 := Lib.hid hm0
      clear hm0
      have hcc1 : (r1 != r1) = false := by simp
      have hkn : ¬ (1 + 4 * (n0 : Int) + (n1 : Int) < 0) := by omega
      have hkm0 : ¬ (1 + 4 * (m0 : Int) < 0) := by omega
      go_enter Try.func9, Try.ntmps9
      go_wp2_with fail
      have hx0 : Ext w (w.alloc (Obj.cells #[.int .i64 c0, .slice A0 n0 q0] 30)) := ((Ext.refl w).alloc _)
      have b00 : Blk (w.alloc (Obj.cells #[.int .i64 c0, .slice A0 n0 q0] 30)) w.heap.size 30 #[.int .i64 c0, .slice A0 n0 q0] := (Blk.new w 30 #[.int .i64 c0, .slice A0 n0 q0])
      have s0 : w.heap.size + 1 ≤ (w.alloc (Obj.cells #[.int .i64 c0, .slice A0 n0 q0] 30)).heap.size := by simp
      have K0 := Lib.hid (hx0.below (Nat.le_refl _))
      have C00 := Lib.hid b00
      clear hx0 b00
      generalize (w.alloc (Obj.cells #[.int .i64 c0, .slice A0 n0 q0] 30)) = w0 at *
      refine (hsz0 _).mono ?_
      rintro e w1 ⟨rfl, hx⟩
      have s1 := (hx.below (Nat.le_refl _)).size
      have K1 := Lib.hid (K0.out.trans (hx.below K0.out.size))
      have Ba0_1 := Lib.hid (C00.out.ext hx)
      clear K0 C00
      clear hx
      have ra0_0 := Ba0_1.out.rd 0 rfl
      have ra0_1 := Ba0_1.out.rd 1 rfl
      go_wp2_with fail
      clear ra0_0 ra0_1
      refine (HT0.out _ K1.out).mono ?_
      rintro e w2 ⟨A_2, rfl, hb, hw⟩
      have s2 := hb.size
      have t2 := Lib.hid hw.r
      have K2 := Lib.hid (K1.out.trans (hb.mono K1.out.size))
      have Ba0_2 := Lib.hid (Ba0_1.out.below hb Ba0_1.out.lt)
      clear K1 Ba0_1
      clear hb hw
      have ra0_0 := Ba0_2.out.rd 0 rfl
      have ra0_1 := Ba0_2.out.rd 1 rfl
      go_wp2_with fail
      clear ra0_0 ra0_1
      refine (HT1.out _ K2.out).mono ?_
      rintro e w3 ⟨A_3, rfl, hb, hw⟩
      have s3 := hb.size
      have t3 := Lib.hid hw
      have K3 := Lib.hid (K2.out.trans (hb.mono K2.out.size))
      have Ba0_3 := Lib.hid (Ba0_2.out.below hb Ba0_2.out.lt)
      have T2_3 := Lib.hid (t2.out.below hb)
      clear K2 Ba0_2 t2
      clear hb hw
      have ra0_0 := Ba0_3.out.rd 0 rfl
      have ra0_1 := Ba0_3.out.rd 1 rfl
      go_wp2_with fail
      clear ra0_0 ra0_1
      refine (HS.out _ A_2 _ A_3 _ (Nat.le_refl _) T2_3.out.tr (Nat.le_refl _) t3.out.ir).mono ?_
      rintro e w4 ⟨B4_0_, cap4_0, rfl, hb, hw0⟩
      have s4 := hb.size
      have t4_0 := Lib.hid hw0.r
      have K4 := Lib.hid (K3.out.trans (hb.mono K3.out.size))
      have Ba0_4 := Lib.hid (Ba0_3.out.below hb Ba0_3.out.lt)
      have T2_4 := Lib.hid (T2_3.out.below hb)
      have T3_4 := Lib.hid (t3.out.below hb)
      clear K3 Ba0_3 T2_3 t3
      clear hb hw0
      clear T2_4 T3_4
      have ra0_0 := Ba0_4.out.rd 0 rfl
      have ra0_1 := Ba0_4.out.rd 1 rfl
      have qa0_0 := (Ba0_4.out.ext ((Ext.refl _).alloc (Obj.cells #[.int .i64 z0, .slice B4_0_ m0 cap4_0] 35))).rd 0 rfl
      have qa0_1 := (Ba0_4.out.ext ((Ext.refl _).alloc (Obj.cells #[.int .i64 z0, .slice B4_0_ m0 cap4_0] 35))).rd 1 rfl
      go_wp2_with fail
      clear ra0_0 ra0_1 qa0_0 qa0_1
      have hx : Ext w4 (w4.alloc (Obj.cells #[.int .i64 z0, .slice B4_0_ m0 cap4_0] 35)) := (Ext.refl _).alloc _
      have sa5 : w4.heap.size + 1 ≤ (w4.alloc (Obj.cells #[.int .i64 z0, .slice B4_0_ m0 cap4_0] 35)).heap.size := by simp
      have b5 := Lib.hid (Blk.new w4 35 #[.int .i64 z0, .slice B4_0_ m0 cap4_0])
      generalize w4.alloc (Obj.cells #[.int .i64 z0, .slice B4_0_ m0 cap4_0] 35) = w5 at *
      have K5 := Lib.hid (K4.out.trans (hx.below K4.out.size))
      have Ba0_5 := Lib.hid (Ba0_4.out.ext hx)
      have T4_0_5 := Lib.hid (t4_0.out.ext hx)
      clear K4 Ba0_4 t4_0
      clear hx
      refine (HT0.out _ K5.out).mono ?_
      rintro e w6 ⟨A_6, rfl, hb, hw⟩
      have s6 := hb.size
      have t6 := Lib.hid hw.r
      have K6 := Lib.hid (K5.out.trans (hb.mono K5.out.size))
      have Ba0_6 := Lib.hid (Ba0_5.out.below hb Ba0_5.out.lt)
      have B5_6 := Lib.hid (b5.out.below hb b5.out.lt)
      have T4_0_6 := Lib.hid (T4_0_5.out.below hb)
      clear K5 Ba0_5 b5 T4_0_5
      clear hb hw
      have ra0_0 := Ba0_6.out.rd 0 rfl
      have ra0_1 := Ba0_6.out.rd 1 rfl
      have qa0_0 := (Ba0_6.out.ext ((Ext.refl _).alloc (Obj.cells #[.int .i64 c0, .slice A_6 n0 n0] 35))).rd 0 rfl
      have qa0_1 := (Ba0_6.out.ext ((Ext.refl _).alloc (Obj.cells #[.int .i64 c0, .slice A_6 n0 n0] 35))).rd 1 rfl
      have r5_0 := B5_6.out.rd 0 rfl
      have r5_1 := B5_6.out.rd 1 rfl
      have q5_0 := (B5_6.out.ext ((Ext.refl _).alloc (Obj.cells #[.int .i64 c0, .slice A_6 n0 n0] 35))).rd 0 rfl
      have q5_1 := (B5_6.out.ext ((Ext.refl _).alloc (Obj.cells #[.int .i64 c0, .slice A_6 n0 n0] 35))).rd 1 rfl
      go_wp2_with fail
      clear ra0_0 ra0_1 qa0_0 qa0_1 r5_0 r5_1 q5_0 q5_1
      have hx : Ext w6 (w6.alloc (Obj.cells #[.int .i64 c0, .slice A_6 n0 n0] 35)) := (Ext.refl _).alloc _
      have sa7 : w6.heap.size + 1 ≤ (w6.alloc (Obj.cells #[.int .i64 c0, .slice A_6 n0 n0] 35)).heap.size := by simp
      have b7 := Lib.hid (Blk.new w6 35 #[.int .i64 c0, .slice A_6 n0 n0])
      generalize w6.alloc (Obj.cells #[.int .i64 c0, .slice A_6 n0 n0] 35) = w7 at *
      have K7 := Lib.hid (K6.out.trans (hx.below K6.out.size))
      have Ba0_7 := Lib.hid (Ba0_6.out.ext hx)
      have B5_7 := Lib.hid (B5_6.out.ext hx)
      have T4_0_7 := Lib.hid (T4_0_6.out.ext hx)
      have T6_7 := Lib.hid (t6.out.ext hx)
      clear K6 Ba0_6 B5_6 T4_0_6 t6
      clear hx
      refine (HT1.out _ K7.out).mono ?_
      rintro e w8 ⟨A_8, rfl, hb, hw⟩
      have s8 := hb.size
      have t8 := Lib.hid hw
      have K8 := Lib.hid (K7.out.trans (hb.mono K7.out.size))
      have Ba0_8 := Lib.hid (Ba0_7.out.below hb Ba0_7.out.lt)
      have B5_8 := Lib.hid (B5_7.out.below hb B5_7.out.lt)
      have B7_8 := Lib.hid (b7.out.below hb b7.out.lt)
      have T4_0_8 := Lib.hid (T4_0_7.out.below hb)
      have T6_8 := Lib.hid (T6_7.out.below hb)
      clear K7 Ba0_7 B5_7 b7 T4_0_7 T6_7
      clear hb hw
      have ra0_0 := Ba0_8.out.rd 0 rfl
      have ra0_1 := Ba0_8.out.rd 1 rfl
      have r5_0 := B5_8.out.rd 0 rfl
      have r5_1 := B5_8.out.rd 1 rfl
      have r7_0 := B7_8.out.rd 0 rfl
      have r7_1 := B7_8.out.rd 1 rfl
      go_wp2_with fail
      clear ra0_0 ra0_1 r5_0 r5_1 r7_0 r7_1
      refine (HI.out _ A_6 _ A_8 _ (Nat.le_refl _) T6_8.out.tr (Nat.le_refl _) t8.out.ir).mono ?_
      rintro e w9 ⟨B9_0_, cap9_0, rfl, hb, hw0⟩
      have s9 := hb.size
      have t9_0 := Lib.hid hw0.r
      have K9 := Lib.hid (K8.out.trans (hb.mono K8.out.size))
      have Ba0_9 := Lib.hid (Ba0_8.out.below hb Ba0_8.out.lt)
      have B5_9 := Lib.hid (B5_8.out.below hb B5_8.out.lt)
      have B7_9 := Lib.hid (B7_8.out.below hb B7_8.out.lt)
      have T4_0_9 := Lib.hid (T4_0_8.out.below hb)
      have T6_9 := Lib.hid (T6_8.out.below hb)
      have T8_9 := Lib.hid (t8.out.below hb)
      clear K8 Ba0_8 B5_8 B7_8 T4_0_8 T6_8 t8
      clear hb hw0
      have ra0_0 := Ba0_9.out.rd 0 rfl
      have ra0_1 := Ba0_9.out.rd 1 rfl
      have qa0_0 := (Ba0_9.out.ext ((Ext.refl _).alloc (Obj.cells #[.int .i64 z0, .slice B9_0_ m0 cap9_0] 35))).rd 0 rfl
      have qa0_1 := (Ba0_9.out.ext ((Ext.refl _).alloc (Obj.cells #[.int .i64 z0, .slice B9_0_ m0 cap9_0] 35))).rd 1 rfl
      have r5_0 := B5_9.out.rd 0 rfl
      have r5_1 := B5_9.out.rd 1 rfl
      have q5_0 := (B5_9.out.ext ((Ext.refl _).alloc (Obj.cells #[.int .i64 z0, .slice B9_0_ m0 cap9_0] 35))).rd 0 rfl
      have q5_1 := (B5_9.out.ext ((Ext.refl _).alloc (Obj.cells #[.int .i64 z0, .slice B9_0_ m0 cap9_0] 35))).rd 1 rfl
      have r7_0 := B7_9.out.rd 0 rfl
      have r7_1 := B7_9.out.rd 1 rfl
      have q7_0 := (B7_9.out.ext ((Ext.refl _).alloc (Obj.cells #[.int .i64 z0, .slice B9_0_ m0 cap9_0] 35))).rd 0 rfl
      have q7_1 := (B7_9.out.ext ((Ext.refl _).alloc (Obj.cells #[.int .i64 z0, .slice B9_0_ m0 cap9_0] 35))).rd 1 rfl
      go_wp2_with fail
      clear ra0_0 ra0_1 qa0_0 qa0_1 r5_0 r5_1 q5_0 q5_1 r7_0 r7_1 q7_0 q7_1
      have hx : Ext w9 (w9.alloc (Obj.cells #[.int .i64 z0, .slice B9_0_ m0 cap9_0] 35)) := (Ext.refl _).alloc _
      have sa10 : w9.heap.size + 1 ≤ (w9.alloc (Obj.cells #[.int .i64 z0, .slice B9_0_ m0 cap9_0] 35)).heap.size := by simp
      have b10 := Lib.hid (Blk.new w9 35 #[.int .i64 z0, .slice B9_0_ m0 cap9_0])
      generalize w9.alloc (Obj.cells #[.int .i64 z0, .slice B9_0_ m0 cap9_0] 35) = w10 at *
      have K10 := Lib.hid (K9.out.trans (hx.below K9.out.size))
      have Ba0_10 := Lib.hid (Ba0_9.out.ext hx)
      have B5_10 := Lib.hid (B5_9.out.ext hx)
      have B7_10 := Lib.hid (B7_9.out.ext hx)
      have T4_0_10 := Lib.hid (T4_0_9.out.ext hx)
      have T6_10 := Lib.hid (T6_9.out.ext hx)
      have T8_10 := Lib.hid (T8_9.out.ext hx)
      have T9_0_10 := Lib.hid (t9_0.out.ext hx)
      clear K9 Ba0_9 B5_9 B7_9 T4_0_9 T6_9 T8_9 t9_0
      clear hx
      refine (eqSet_any z0 z0 B9_0_ B4_0_ m0 m0 _ _ us0 us0 _ (by omega) HM0.out HM0.out T9_0_10.out.tr T4_0_10.out.tr).mono ?_
      rw [decide_eq_true (⟨rfl, rfl⟩ : z0 = z0 ∧ us0 = us0)]
      rintro e w11 ⟨rfl, hx⟩
      have s11 := (hx.below (Nat.le_refl _)).size
      have K11 := Lib.hid (K10.out.trans (hx.below K10.out.size))
      have Ba0_11 := Lib.hid (Ba0_10.out.ext hx)
      have B5_11 := Lib.hid (B5_10.out.ext hx)
      have B7_11 := Lib.hid (B7_10.out.ext hx)
      have B10_11 := Lib.hid (b10.out.ext hx)
      have T4_0_11 := Lib.hid (T4_0_10.out.ext hx)
      have T6_11 := Lib.hid (T6_10.out.ext hx)
      have T8_11 := Lib.hid (T8_10.out.ext hx)
      have T9_0_11 := Lib.hid (T9_0_10.out.ext hx)
      clear K10 Ba0_10 B5_10 B7_10 b10 T4_0_10 T6_10 T8_10 T9_0_10
      clear hx
      have ra0_0 := Ba0_11.out.rd 0 rfl
      have ra0_1 := Ba0_11.out.rd 1 rfl
      have r5_0 := B5_11.out.rd 0 rfl
      have r5_1 := B5_11.out.rd 1 rfl
      have r7_0 := B7_11.out.rd 0 rfl
      have r7_1 := B7_11.out.rd 1 rfl
      have r10_0 := B10_11.out.rd 0 rfl
      have r10_1 := B10_11.out.rd 1 rfl
      go_wp2_with fail
      clear ra0_0 ra0_1 r5_0 r5_1 r7_0 r7_1 r10_0 r10_1
      have ra0_0 := Ba0_11.out.rd 0 rfl
      have ra0_1 := Ba0_11.out.rd 1 rfl
      have r5_0 := B5_11.out.rd 0 rfl
      have r5_1 := B5_11.out.rd 1 rfl
      have r7_0 := B7_11.out.rd 0 rfl
      have r7_1 := B7_11.out.rd 1 rfl
      have r10_0 := B10_11.out.rd 0 rfl
      have r10_1 := B10_11.out.rd 1 rfl
      go_region_held3 (fun w' => w'.cell? ⟨w.heap.size, 0, none⟩ = some (.int .i64 c0) ∧ w'.cell? ⟨w.heap.size, 1, none⟩ = some (.slice A0 n0 q0) ∧ w'.cell? ⟨w6.heap.size, 0, none⟩ = some (.int .i64 c0) ∧ w'.cell? ⟨w6.heap.size, 1, none⟩ = some (.slice A_6 n0 n0))
        (first | exact ⟨ka0_0, ka0_1, k7_0, k7_1⟩ | exact ⟨la0_0, la0_1, l7_0, l7_1⟩ | go_keep)
        (first
          | (go_at_call 23; refine (HT0.out _ K11.out.drew).mono ?_; rintro e w12 ⟨A_12, rfl, hb, hw⟩; have s12 := hb.size; simp only [World.size_drew] at s12; have t12 := Lib.hid hw.r; have K12 := Lib.hid (K11.out.drew.trans (hb.mono K11.out.size)); have Ba0_12 := Lib.hid (Blk.below (w := w11.drew) Ba0_11.out hb Ba0_11.out.lt); have B5_12 := Lib.hid (Blk.below (w := w11.drew) B5_11.out hb B5_11.out.lt); have B7_12 := Lib.hid (Blk.below (w := w11.drew) B7_11.out hb B7_11.out.lt); have B10_12 := Lib.hid (Blk.below (w := w11.drew) B10_11.out hb B10_11.out.lt); have T4_0_12 := Lib.hid (TWr.below (w := w11.drew) T4_0_11.out hb); have T6_12 := Lib.hid (TWr.below (w := w11.drew) T6_11.out hb); have T8_12 := Lib.hid (IWr.below (w := w11.drew) T8_11.out hb); have T9_0_12 := Lib.hid (TWr.below (w := w11.drew) T9_0_11.out hb); clear K11 Ba0_11 B5_11 B7_11 B10_11 T4_0_11 T6_11 T8_11 T9_0_11; clear hb hw; have ka0_0 := Ba0_12.out.rd 0 rfl; have ka0_1 := Ba0_12.out.rd 1 rfl; have k7_0 := B7_12.out.rd 0 rfl; have k7_1 := B7_12.out.rd 1 rfl)
          | (go_at_call 26; refine (eqSet_any c0 c0 A_6 A_12 n0 n0 _ _ ts0 ts0 _ (by omega) HL0.out HL0.out T6_12.out.tr t12.out.tr).mono ?_; rw [decide_eq_true (⟨rfl, rfl⟩ : c0 = c0 ∧ ts0 = ts0)]; rintro e w13 ⟨rfl, hx⟩; have s13 := (hx.below (Nat.le_refl _)).size; clear ka0_0 ka0_1 k7_0 k7_1; have K13 := Lib.hid (K12.out.trans (hx.below K12.out.size)); have Ba0_13 := Lib.hid (Ba0_12.out.ext hx); have B5_13 := Lib.hid (B5_12.out.ext hx); have B7_13 := Lib.hid (B7_12.out.ext hx); have B10_13 := Lib.hid (B10_12.out.ext hx); have T4_0_13 := Lib.hid (T4_0_12.out.ext hx); have T6_13 := Lib.hid (T6_12.out.ext hx); have T8_13 := Lib.hid (T8_12.out.ext hx); have T9_0_13 := Lib.hid (T9_0_12.out.ext hx); have T12_13 := Lib.hid (t12.out.ext hx); clear K12 Ba0_12 B5_12 B7_12 B10_12 T4_0_12 T6_12 T8_12 T9_0_12 t12; clear hx; have la0_0 := Ba0_13.out.rd 0 rfl; have la0_1 := Ba0_13.out.rd 1 rfl; have l7_0 := B7_13.out.rd 0 rfl; have l7_1 := B7_13.out.rd 1 rfl))
      clear la0_0 la0_1 l7_0 l7_1 ra0_0 ra0_1 r5_0 r5_1 r7_0 r7_1 r10_0 r10_1
      clear T12_13
      have ra0_0 := Ba0_13.out.rd 0 rfl
      have ra0_1 := Ba0_13.out.rd 1 rfl
      have r5_0 := B5_13.out.rd 0 rfl
      have r5_1 := B5_13.out.rd 1 rfl
      have r7_0 := B7_13.out.rd 0 rfl
      have r7_1 := B7_13.out.rd 1 rfl
      have r10_0 := B10_13.out.rd 0 rfl
      have r10_1 := B10_13.out.rd 1 rfl
      go_wp2_with fail
      clear ra0_0 ra0_1 r5_0 r5_1 r7_0 r7_1 r10_0 r10_1
      refine (HT1.out _ K13.out).mono ?_
      rintro e w14 ⟨A_14, rfl, hb, hw⟩
      have s14 := hb.size
      have t14 := Lib.hid hw
      have K14 := Lib.hid (K13.out.trans (hb.mono K13.out.size))
      have Ba0_14 := Lib.hid (Ba0_13.out.below hb Ba0_13.out.lt)
      have B5_14 := Lib.hid (B5_13.out.below hb B5_13.out.lt)
      have B7_14 := Lib.hid (B7_13.out.below hb B7_13.out.lt)
      have B10_14 := Lib.hid (B10_13.out.below hb B10_13.out.lt)
      have T4_0_14 := Lib.hid (T4_0_13.out.below hb)
      have T6_14 := Lib.hid (T6_13.out.below hb)
      have T8_14 := Lib.hid (T8_13.out.below hb)
      have T9_0_14 := Lib.hid (T9_0_13.out.below hb)
      clear K13 Ba0_13 B5_13 B7_13 B10_13 T4_0_13 T6_13 T8_13 T9_0_13
      clear hb hw
      have ra0_0 := Ba0_14.out.rd 0 rfl
      have ra0_1 := Ba0_14.out.rd 1 rfl
      have r5_0 := B5_14.out.rd 0 rfl
      have r5_1 := B5_14.out.rd 1 rfl
      have r7_0 := B7_14.out.rd 0 rfl
      have r7_1 := B7_14.out.rd 1 rfl
      have r10_0 := B10_14.out.rd 0 rfl
      have r10_1 := B10_14.out.rd 1 rfl
      go_wp2_with fail
      clear ra0_0 ra0_1 r5_0 r5_1 r7_0 r7_1 r10_0 r10_1
      refine (eqInt64S_any A_8 A_14 n1 n1 _ _ xs1 xs1 _ (by omega) HL1.out HL1.out T8_14.out.ir t14.out.ir).mono ?_
      rw [decide_eq_true (rfl : xs1 = xs1)]
      rintro e w15 ⟨rfl, hx⟩
      have s15 := (hx.below (Nat.le_refl _)).size
      have K15 := Lib.hid (K14.out.trans (hx.below K14.out.size))
      have Ba0_15 := Lib.hid (Ba0_14.out.ext hx)
      have B5_15 := Lib.hid (B5_14.out.ext hx)
      have B7_15 := Lib.hid (B7_14.out.ext hx)
      have B10_15 := Lib.hid (B10_14.out.ext hx)
      have T4_0_15 := Lib.hid (T4_0_14.out.ext hx)
      have T6_15 := Lib.hid (T6_14.out.ext hx)
      have T8_15 := Lib.hid (T8_14.out.ext hx)
      have T9_0_15 := Lib.hid (T9_0_14.out.ext hx)
      have T14_15 := Lib.hid (t14.out.ext hx)
      clear K14 Ba0_14 B5_14 B7_14 B10_14 T4_0_14 T6_14 T8_14 T9_0_14 t14
      clear hx
      clear T14_15
      have ra0_0 := Ba0_15.out.rd 0 rfl
      have ra0_1 := Ba0_15.out.rd 1 rfl
      have r5_0 := B5_15.out.rd 0 rfl
      have r5_1 := B5_15.out.rd 1 rfl
      have r7_0 := B7_15.out.rd 0 rfl
      have r7_1 := B7_15.out.rd 1 rfl
      have r10_0 := B10_15.out.rd 0 rfl
      have r10_1 := B10_15.out.rd 1 rfl
      go_wp2_with fail
      clear ra0_0 ra0_1 r5_0 r5_1 r7_0 r7_1 r10_0 r10_1
      refine (markSet_at c0 A_6 n0 _ (1) ts0 _ _ _ (by omega) (by omega) (by omega) HL0.out T6_15.out).mono ?_
      rintro e w16 ⟨rfl, ho, hw⟩
      have s16 := ho.size
      have t16 := Lib.hid hw
      have K16 := Lib.hid (K15.out.trans (ho.below (by omega) K15.out.size))
      have Ba0_16 := Lib.hid (Ba0_15.out.only ho (by omega))
      have B5_16 := Lib.hid (B5_15.out.only ho (by omega))
      have B7_16 := Lib.hid (B7_15.out.only ho (by omega))
      have B10_16 := Lib.hid (B10_15.out.only ho (by omega))
      have T4_0_16 := Lib.hid (T4_0_15.out.only ho (by omega))
      have T8_16 := Lib.hid (T8_15.out.only ho (by omega))
      have T9_0_16 := Lib.hid (T9_0_15.out.only ho (by omega))
      clear K15 Ba0_15 B5_15 B7_15 B10_15 T4_0_15 T8_15 T9_0_15
      clear ho hw T6_15
      have ra0_0 := Ba0_16.out.rd 0 rfl
      have ra0_1 := Ba0_16.out.rd 1 rfl
      have r5_0 := B5_16.out.rd 0 rfl
      have r5_1 := B5_16.out.rd 1 rfl
      have r7_0 := B7_16.out.rd 0 rfl
      have r7_1 := B7_16.out.rd 1 rfl
      have r10_0 := B10_16.out.rd 0 rfl
      have r10_1 := B10_16.out.rd 1 rfl
      go_wp2_with fail
      clear ra0_0 ra0_1 r5_0 r5_1 r7_0 r7_1 r10_0 r10_1
      refine (markInt64S_any A_8 n1 _ (1 + 4 * (n0 : Int)) xs1 _ _ _ (by omega) (by omega) (by omega) HL1.out T8_16.out).mono ?_
      rintro e w17 ⟨rfl, ho, hw⟩
      have s17 := ho.size
      have t17 := Lib.hid hw
      have K17 := Lib.hid (K16.out.trans (ho.below (by omega) K16.out.size))
      have Ba0_17 := Lib.hid (Ba0_16.out.only ho (by omega))
      have B5_17 := Lib.hid (B5_16.out.only ho (by omega))
      have B7_17 := Lib.hid (B7_16.out.only ho (by omega))
      have B10_17 := Lib.hid (B10_16.out.only ho (by omega))
      have T4_0_17 := Lib.hid (T4_0_16.out.only ho (by omega))
      have T6_17 := Lib.hid (t16.out.only ho (by omega))
      have T9_0_17 := Lib.hid (T9_0_16.out.only ho (by omega))
      clear K16 Ba0_16 B5_16 B7_16 B10_16 T4_0_16 t16 T9_0_16
      clear ho hw T8_16
      have ra0_0 := Ba0_17.out.rd 0 rfl
      have ra0_1 := Ba0_17.out.rd 1 rfl
      have r5_0 := B5_17.out.rd 0 rfl
      have r5_1 := B5_17.out.rd 1 rfl
      have r7_0 := B7_17.out.rd 0 rfl
      have r7_1 := B7_17.out.rd 1 rfl
      have r10_0 := B10_17.out.rd 0 rfl
      have r10_1 := B10_17.out.rd 1 rfl
      go_wp2_with fail
      clear ra0_0 ra0_1 r5_0 r5_1 r7_0 r7_1 r10_0 r10_1
      refine (eqSet_any z0 z0 B9_0_ B4_0_ m0 m0 _ _ us0 us0 _ (by omega) HM0.out HM0.out T9_0_17.out.tr T4_0_17.out.tr).mono ?_
      rw [decide_eq_true (⟨rfl, rfl⟩ : z0 = z0 ∧ us0 = us0)]
      rintro e w18 ⟨rfl, hx⟩
      have s18 := (hx.below (Nat.le_refl _)).size
      have K18 := Lib.hid (K17.out.trans (hx.below K17.out.size))
      have Ba0_18 := Lib.hid (Ba0_17.out.ext hx)
      have B5_18 := Lib.hid (B5_17.out.ext hx)
      have B7_18 := Lib.hid (B7_17.out.ext hx)
      have B10_18 := Lib.hid (B10_17.out.ext hx)
      have T4_0_18 := Lib.hid (T4_0_17.out.ext hx)
      have T6_18 := Lib.hid (T6_17.out.ext hx)
      have T8_18 := Lib.hid (t17.out.ext hx)
      have T9_0_18 := Lib.hid (T9_0_17.out.ext hx)
      clear K17 Ba0_17 B5_17 B7_17 B10_17 T4_0_17 T6_17 t17 T9_0_17
      clear hx
      have ra0_0 := Ba0_18.out.rd 0 rfl
      have ra0_1 := Ba0_18.out.rd 1 rfl
      have r5_0 := B5_18.out.rd 0 rfl
      have r5_1 := B5_18.out.rd 1 rfl
      have r7_0 := B7_18.out.rd 0 rfl
      have r7_1 := B7_18.out.rd 1 rfl
      have r10_0 := B10_18.out.rd 0 rfl
      have r10_1 := B10_18.out.rd 1 rfl
      go_wp2_with fail
      clear ra0_0 ra0_1 r5_0 r5_1 r7_0 r7_1 r10_0 r10_1
      refine (markSet_at z0 B9_0_ m0 _ (1) us0 _ _ _ (by omega) (by omega) (by omega) HM0.out T9_0_18.out).mono ?_
      rintro e w19 ⟨rfl, ho, hw⟩
      have s19 := ho.size
      have t19 := Lib.hid hw
      have K19 := Lib.hid (K18.out.trans (ho.below (by omega) K18.out.size))
      have Ba0_19 := Lib.hid (Ba0_18.out.only ho (by omega))
      have B5_19 := Lib.hid (B5_18.out.only ho (by omega))
      have B7_19 := Lib.hid (B7_18.out.only ho (by omega))
      have B10_19 := Lib.hid (B10_18.out.only ho (by omega))
      have T4_0_19 := Lib.hid (T4_0_18.out.only ho (by omega))
      have T6_19 := Lib.hid (T6_18.out.only ho (by omega))
      have T8_19 := Lib.hid (T8_18.out.only ho (by omega))
      clear K18 Ba0_18 B5_18 B7_18 B10_18 T4_0_18 T6_18 T8_18
      clear ho hw T9_0_18
      have ra0_0 := Ba0_19.out.rd 0 rfl
      have ra0_1 := Ba0_19.out.rd 1 rfl
      have r5_0 := B5_19.out.rd 0 rfl
      have r5_1 := B5_19.out.rd 1 rfl
      have r7_0 := B7_19.out.rd 0 rfl
      have r7_1 := B7_19.out.rd 1 rfl
      have r10_0 := B10_19.out.rd 0 rfl
      have r10_1 := B10_19.out.rd 1 rfl
      go_wp2_with fail
      clear ra0_0 ra0_1 r5_0 r5_1 r7_0 r7_1 r10_0 r10_1
      refine (heldSet_at z0 B9_0_ m0 _ (1) _ (by omega) (by omega) (by omega) t19.out.tr).mono ?_
      rintro e w20 ⟨rfl, hx⟩
      have s20 := (hx.below (Nat.le_refl _)).size
      have K20 := Lib.hid (K19.out.trans (hx.below K19.out.size))
      have Ba0_20 := Lib.hid (Ba0_19.out.ext hx)
      have B5_20 := Lib.hid (B5_19.out.ext hx)
      have B7_20 := Lib.hid (B7_19.out.ext hx)
      have B10_20 := Lib.hid (B10_19.out.ext hx)
      have T4_0_20 := Lib.hid (T4_0_19.out.ext hx)
      have T6_20 := Lib.hid (T6_19.out.ext hx)
      have T8_20 := Lib.hid (T8_19.out.ext hx)
      have T9_0_20 := Lib.hid (t19.out.ext hx)
      clear K19 Ba0_19 B5_19 B7_19 B10_19 T4_0_19 T6_19 T8_19 t19
      clear hx
      have ra0_0 := Ba0_20.out.rd 0 rfl
      have ra0_1 := Ba0_20.out.rd 1 rfl
      have r5_0 := B5_20.out.rd 0 rfl
      have r5_1 := B5_20.out.rd 1 rfl
      have r7_0 := B7_20.out.rd 0 rfl
      have r7_1 := B7_20.out.rd 1 rfl
      have r10_0 := B10_20.out.rd 0 rfl
      have r10_1 := B10_20.out.rd 1 rfl
      go_wp2_with fail
      clear ra0_0 ra0_1 r5_0 r5_1 r7_0 r7_1 r10_0 r10_1
      refine (HT0.out _ K20.out).mono ?_
      rintro e w21 ⟨A_21, rfl, hb, hw⟩
      have s21 := hb.size
      have t21 := Lib.hid hw.r
      have K21 := Lib.hid (K20.out.trans (hb.mono K20.out.size))
      have Ba0_21 := Lib.hid (Ba0_20.out.below hb Ba0_20.out.lt)
      have B5_21 := Lib.hid (B5_20.out.below hb B5_20.out.lt)
      have B7_21 := Lib.hid (B7_20.out.below hb B7_20.out.lt)
      have B10_21 := Lib.hid (B10_20.out.below hb B10_20.out.lt)
      have T4_0_21 := Lib.hid (T4_0_20.out.below hb)
      have T6_21 := Lib.hid (T6_20.out.below hb)
      have T8_21 := Lib.hid (T8_20.out.below hb)
      have T9_0_21 := Lib.hid (T9_0_20.out.below hb)
      clear K20 Ba0_20 B5_20 B7_20 B10_20 T4_0_20 T6_20 T8_20 T9_0_20
      clear hb hw
      have ra0_0 := Ba0_21.out.rd 0 rfl
      have ra0_1 := Ba0_21.out.rd 1 rfl
      have r5_0 := B5_21.out.rd 0 rfl
      have r5_1 := B5_21.out.rd 1 rfl
      have r7_0 := B7_21.out.rd 0 rfl
      have r7_1 := B7_21.out.rd 1 rfl
      have r10_0 := B10_21.out.rd 0 rfl
      have r10_1 := B10_21.out.rd 1 rfl
      go_wp2_with fail
      clear ra0_0 ra0_1 r5_0 r5_1 r7_0 r7_1 r10_0 r10_1
      refine (HT1.out _ K21.out).mono ?_
      rintro e w22 ⟨A_22, rfl, hb, hw⟩
      have s22 := hb.size
      have t22 := Lib.hid hw
      have K22 := Lib.hid (K21.out.trans (hb.mono K21.out.size))
      have Ba0_22 := Lib.hid (Ba0_21.out.below hb Ba0_21.out.lt)
      have B5_22 := Lib.hid (B5_21.out.below hb B5_21.out.lt)
      have B7_22 := Lib.hid (B7_21.out.below hb B7_21.out.lt)
      have B10_22 := Lib.hid (B10_21.out.below hb B10_21.out.lt)
      have T4_0_22 := Lib.hid (T4_0_21.out.below hb)
      have T6_22 := Lib.hid (T6_21.out.below hb)
      have T8_22 := Lib.hid (T8_21.out.below hb)
      have T9_0_22 := Lib.hid (T9_0_21.out.below hb)
      have T21_22 := Lib.hid (t21.out.below hb)
      clear K21 Ba0_21 B5_21 B7_21 B10_21 T4_0_21 T6_21 T8_21 T9_0_21 t21
      clear hb hw
      have ra0_0 := Ba0_22.out.rd 0 rfl
      have ra0_1 := Ba0_22.out.rd 1 rfl
      have r5_0 := B5_22.out.rd 0 rfl
      have r5_1 := B5_22.out.rd 1 rfl
      have r7_0 := B7_22.out.rd 0 rfl
      have r7_1 := B7_22.out.rd 1 rfl
      have r10_0 := B10_22.out.rd 0 rfl
      have r10_1 := B10_22.out.rd 1 rfl
      go_wp2_with fail
      clear ra0_0 ra0_1 r5_0 r5_1 r7_0 r7_1 r10_0 r10_1
      refine (HI.out _ A_21 _ A_22 _ (Nat.le_refl _) T21_22.out.tr (Nat.le_refl _) t22.out.ir).mono ?_
      rintro e w23 ⟨B23_0_, cap23_0, rfl, hb, hw0⟩
      have s23 := hb.size
      have t23_0 := Lib.hid hw0.r
      have K23 := Lib.hid (K22.out.trans (hb.mono K22.out.size))
      have Ba0_23 := Lib.hid (Ba0_22.out.below hb Ba0_22.out.lt)
      have B5_23 := Lib.hid (B5_22.out.below hb B5_22.out.lt)
      have B7_23 := Lib.hid (B7_22.out.below hb B7_22.out.lt)
      have B10_23 := Lib.hid (B10_22.out.below hb B10_22.out.lt)
      have T4_0_23 := Lib.hid (T4_0_22.out.below hb)
      have T6_23 := Lib.hid (T6_22.out.below hb)
      have T8_23 := Lib.hid (T8_22.out.below hb)
      have T9_0_23 := Lib.hid (T9_0_22.out.below hb)
      have T21_23 := Lib.hid (T21_22.out.below hb)
      have T22_23 := Lib.hid (t22.out.below hb)
      clear K22 Ba0_22 B5_22 B7_22 B10_22 T4_0_22 T6_22 T8_22 T9_0_22 T21_22 t22
      clear hb hw0
      clear T21_23 T22_23
      have ra0_0 := Ba0_23.out.rd 0 rfl
      have ra0_1 := Ba0_23.out.rd 1 rfl
      have qa0_0 := (Ba0_23.out.ext ((Ext.refl _).alloc (Obj.cells #[.int .i64 z0, .slice B23_0_ m0 cap23_0] 35))).rd 0 rfl
      have qa0_1 := (Ba0_23.out.ext ((Ext.refl _).alloc (Obj.cells #[.int .i64 z0, .slice B23_0_ m0 cap23_0] 35))).rd 1 rfl
      have r5_0 := B5_23.out.rd 0 rfl
      have r5_1 := B5_23.out.rd 1 rfl
      have q5_0 := (B5_23.out.ext ((Ext.refl _).alloc (Obj.cells #[.int .i64 z0, .slice B23_0_ m0 cap23_0] 35))).rd 0 rfl
      have q5_1 := (B5_23.out.ext ((Ext.refl _).alloc (Obj.cells #[.int .i64 z0, .slice B23_0_ m0 cap23_0] 35))).rd 1 rfl
      have r7_0 := B7_23.out.rd 0 rfl
      have r7_1 := B7_23.out.rd 1 rfl
      have q7_0 := (B7_23.out.ext ((Ext.refl _).alloc (Obj.cells #[.int .i64 z0, .slice B23_0_ m0 cap23_0] 35))).rd 0 rfl
      have q7_1 := (B7_23.out.ext ((Ext.refl _).alloc (Obj.cells #[.int .i64 z0, .slice B23_0_ m0 cap23_0] 35))).rd 1 rfl
      have r10_0 := B10_23.out.rd 0 rfl
      have r10_1 := B10_23.out.rd 1 rfl
      have q10_0 := (B10_23.out.ext ((Ext.refl _).alloc (Obj.cells #[.int .i64 z0, .slice B23_0_ m0 cap23_0] 35))).rd 0 rfl
      have q10_1 := (B10_23.out.ext ((Ext.refl _).alloc (Obj.cells #[.int .i64 z0, .slice B23_0_ m0 cap23_0] 35))).rd 1 rfl
      go_wp2_with fail
      clear ra0_0 ra0_1 qa0_0 qa0_1 r5_0 r5_1 q5_0 q5_1 r7_0 r7_1 q7_0 q7_1 r10_0 r10_1 q10_0 q10_1
      have hx : Ext w23 (w23.alloc (Obj.cells #[.int .i64 z0, .slice B23_0_ m0 cap23_0] 35)) := (Ext.refl _).alloc _
      have sa24 : w23.heap.size + 1 ≤ (w23.alloc (Obj.cells #[.int .i64 z0, .slice B23_0_ m0 cap23_0] 35)).heap.size := by simp
      have b24 := Lib.hid (Blk.new w23 35 #[.int .i64 z0, .slice B23_0_ m0 cap23_0])
      generalize w23.alloc (Obj.cells #[.int .i64 z0, .slice B23_0_ m0 cap23_0] 35) = w24 at *
      have K24 := Lib.hid (K23.out.trans (hx.below K23.out.size))
      have Ba0_24 := Lib.hid (Ba0_23.out.ext hx)
      have B5_24 := Lib.hid (B5_23.out.ext hx)
      have B7_24 := Lib.hid (B7_23.out.ext hx)
      have B10_24 := Lib.hid (B10_23.out.ext hx)
      have T4_0_24 := Lib.hid (T4_0_23.out.ext hx)
      have T6_24 := Lib.hid (T6_23.out.ext hx)
      have T8_24 := Lib.hid (T8_23.out.ext hx)
      have T9_0_24 := Lib.hid (T9_0_23.out.ext hx)
      have T23_0_24 := Lib.hid (t23_0.out.ext hx)
      clear K23 Ba0_23 B5_23 B7_23 B10_23 T4_0_23 T6_23 T8_23 T9_0_23 t23_0
      clear hx
      refine (eqSet_any z0 z0 B23_0_ B4_0_ m0 m0 _ _ us0 us0 _ (by omega) HM0.out HM0.out T23_0_24.out.tr T4_0_24.out.tr).mono ?_
      rw [decide_eq_true (⟨rfl, rfl⟩ : z0 = z0 ∧ us0 = us0)]
      rintro e w25 ⟨rfl, hx⟩
      have s25 := (hx.below (Nat.le_refl _)).size
      have K25 := Lib.hid (K24.out.trans (hx.below K24.out.size))
      have Ba0_25 := Lib.hid (Ba0_24.out.ext hx)
      have B5_25 := Lib.hid (B5_24.out.ext hx)
      have B7_25 := Lib.hid (B7_24.out.ext hx)
      have B10_25 := Lib.hid (B10_24.out.ext hx)
      have B24_25 := Lib.hid (b24.out.ext hx)
      have T4_0_25 := Lib.hid (T4_0_24.out.ext hx)
      have T6_25 := Lib.hid (T6_24.out.ext hx)
      have T8_25 := Lib.hid (T8_24.out.ext hx)
      have T9_0_25 := Lib.hid (T9_0_24.out.ext hx)
      have T23_0_25 := Lib.hid (T23_0_24.out.ext hx)
      clear K24 Ba0_24 B5_24 B7_24 B10_24 b24 T4_0_24 T6_24 T8_24 T9_0_24 T23_0_24
      clear hx
      have ra0_0 := Ba0_25.out.rd 0 rfl
      have ra0_1 := Ba0_25.out.rd 1 rfl
      have r5_0 := B5_25.out.rd 0 rfl
      have r5_1 := B5_25.out.rd 1 rfl
      have r7_0 := B7_25.out.rd 0 rfl
      have r7_1 := B7_25.out.rd 1 rfl
      have r10_0 := B10_25.out.rd 0 rfl
      have r10_1 := B10_25.out.rd 1 rfl
      have r24_0 := B24_25.out.rd 0 rfl
      have r24_1 := B24_25.out.rd 1 rfl
      go_wp2_with fail
      clear ra0_0 ra0_1 r5_0 r5_1 r7_0 r7_1 r10_0 r10_1 r24_0 r24_1
      refine (heldSet_at z0 B9_0_ m0 _ (1) _ (by omega) (by omega) (by omega) T9_0_25.out.tr).mono ?_
      rintro e w26 ⟨rfl, hx⟩
      have s26 := (hx.below (Nat.le_refl _)).size
      have K26 := Lib.hid (K25.out.trans (hx.below K25.out.size))
      have Ba0_26 := Lib.hid (Ba0_25.out.ext hx)
      have B5_26 := Lib.hid (B5_25.out.ext hx)
      have B7_26 := Lib.hid (B7_25.out.ext hx)
      have B10_26 := Lib.hid (B10_25.out.ext hx)
      have B24_26 := Lib.hid (B24_25.out.ext hx)
      have T4_0_26 := Lib.hid (T4_0_25.out.ext hx)
      have T6_26 := Lib.hid (T6_25.out.ext hx)
      have T8_26 := Lib.hid (T8_25.out.ext hx)
      have T9_0_26 := Lib.hid (T9_0_25.out.ext hx)
      have T23_0_26 := Lib.hid (T23_0_25.out.ext hx)
      clear K25 Ba0_25 B5_25 B7_25 B10_25 B24_25 T4_0_25 T6_25 T8_25 T9_0_25 T23_0_25
      clear hx
      have ra0_0 := Ba0_26.out.rd 0 rfl
      have ra0_1 := Ba0_26.out.rd 1 rfl
      have r5_0 := B5_26.out.rd 0 rfl
      have r5_1 := B5_26.out.rd 1 rfl
      have r7_0 := B7_26.out.rd 0 rfl
      have r7_1 := B7_26.out.rd 1 rfl
      have r10_0 := B10_26.out.rd 0 rfl
      have r10_1 := B10_26.out.rd 1 rfl
      have r24_0 := B24_26.out.rd 0 rfl
      have r24_1 := B24_26.out.rd 1 rfl
      go_wp2_with fail
      clear ra0_0 ra0_1 r5_0 r5_1 r7_0 r7_1 r10_0 r10_1 r24_0 r24_1
      go_ret
      exact ⟨rfl, K26.out⟩

theorem law_rename (c0 : Int) (A0 : Option Addr) (n0 q0 : Nat) (ts0 : List Tl) (A1 : Option Addr) (n1 q1 : Nat) (xs1 : List Int) (w : World)
    (hn0 : n0 ≤ 9223372036854775807) (hl0 : ts0.length = n0) (hA0 : TR w w.heap.size A0 ts0) (hn1 : n1 ≤ 9223372036854775807) (hl1 : xs1.length = n1) (hA1 : IR w w.heap.size A1 xs1) :
    Calls Try.prog 9 #[.agg #[.int .i64 c0, .slice A0 n0 q0], .slice A1 n1 q1] w fun e w' => e = .returned (.bool true) ∧ Below w.heap.size w w' := by
  cases hs : isSet c0 ts0 with
  | false =>
    exact lawRenameColours_core c0 A0 n0 q0 ts0 A1 n1 q1 xs1 w hn0 hl0 hA0 hn1 hl1 hA1 0 [] 1 (by simp)
      (fun h W B0 e0 B1 e1 _ hB0 _ hB1 => specRename_1 c0 B0 n0 e0 ts0 B1 n1 e1 xs1 W h.1 hl0 hB0 h.2 hl1 hB1 hs)
      (fun h W B0 e0 B1 e1 _ hB0 _ hB1 => implRename_1 c0 B0 n0 e0 ts0 B1 n1 e1 xs1 W h.1 hl0 hB0 h.2 hl1 hB1 hs)
  | true =>
    cases hr : isRen xs1 c0 with
    | false =>
      exact lawRenameColours_core c0 A0 n0 q0 ts0 A1 n1 q1 xs1 w hn0 hl0 hA0 hn1 hl1 hA1 0 [] 2 (by simp)
        (fun h W B0 e0 B1 e1 _ hB0 _ hB1 => specRename_2 c0 B0 n0 e0 ts0 B1 n1 e1 xs1 W h.1 hl0 hB0 h.2 hl1 hB1 hs hr)
        (fun h W B0 e0 B1 e1 _ hB0 _ hB1 => implRename_2 c0 B0 n0 e0 ts0 B1 n1 e1 xs1 W h.1 hl0 hB0 h.2 hl1 hB1 hs hr)
    | true =>
      exact lawRenameColours_core c0 A0 n0 q0 ts0 A1 n1 q1 xs1 w hn0 hl0 hA0 hn1 hl1 hA1 c0 (sortT (ts0.map (renT xs1))) 0 (by have h1 := sortT_len (ts0.map (renT xs1)); have h2 := isSet_len hs; simp at h1; omega)
        (fun h W B0 e0 B1 e1 _ hB0 _ hB1 => specRename_0 c0 B0 n0 e0 ts0 B1 n1 e1 xs1 W h.1 hl0 hB0 h.2 hl1 hB1 hs hr)
        (fun h W B0 e0 B1 e1 _ hB0 _ hB1 => implRename_0 c0 B0 n0 e0 ts0 B1 n1 e1 xs1 W h.1 hl0 hB0 h.2 hl1 hB1 hs hr)
end Go.Proofs.Ytjbnmkiidongmaa
