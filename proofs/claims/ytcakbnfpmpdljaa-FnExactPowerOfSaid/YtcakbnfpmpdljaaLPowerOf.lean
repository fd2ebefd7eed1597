/- The exact law over PowerOf: walked. -/
import Derived.Test.YtcakbnfpmpdljaaPw4
import Derived.Test.YtcakbnfpmpdljaaPw2
import Derived.Test.YtcakbnfpmpdljaaSBridge
import Derived.Test.YtcakbnfpmpdljaaMark2
import Derived.Test.YtcakbnfpmpdljaaGrow
import Derived.Test.YtcakbnfpmpdljaaCut2
import Derived.Deep.RegionHeld3
import Derived.Deep.RegionLaw
import Derived.Deep.DeepCutAuto
namespace Go.Proofs.Ytcakbnfpmpdljaa
set_option linter.unusedVariables false
set_option linter.unusedSimpArgs false
open Go.RowKit Go.Sort

set_option maxRecDepth 100000 in
set_option maxHeartbeats 4000000 in
theorem lawPowerOf_core (c0 : Int) (A0 : Option Addr) (n0 q0 : Nat) (ts0 : List Tl) (i1 : Int) (w : World) (hn0 : n0 ≤ 9223372036854775807) (hl0 : ts0.length = n0) (hA0 : TR w w.heap.size A0 ts0) (z0 : Int) (us0 : List Tl) (r1 : Int) (hus0 : us0.length ≤ 65536)
    (hspec : n0 ≤ 1048576 → ∀ (W : World) (B0 : Option Addr) (e0 : Nat), n0 ≤ e0 → TR W W.heap.size B0 ts0 → Calls Try.prog 28 #[.agg #[.int .i64 c0, .slice B0 n0 e0], .int .i64 i1] W (fun e w' => ∃ R0 p0, e = .returned (.tuple #[.agg #[.int .i64 z0, .slice R0 us0.length p0], .int .i64 r1]) ∧ Below W.heap.size W w' ∧ TW w' W.heap.size R0 us0))
    (himpl : n0 ≤ 1048576 → ∀ (W : World) (B0 : Option Addr) (e0 : Nat), n0 ≤ e0 → TR W W.heap.size B0 ts0 → Calls Try.prog 29 #[.agg #[.int .i64 c0, .slice B0 n0 e0], .int .i64 i1] W (fun e w' => ∃ R0 p0, e = .returned (.tuple #[.agg #[.int .i64 z0, .slice R0 us0.length p0], .int .i64 r1]) ∧ Below W.heap.size W w' ∧ TW w' W.heap.size R0 us0)) :
    Calls Try.prog 6 #[.agg #[.int .i64 c0, .slice A0 n0 q0], .int .i64 i1] w fun e w' => e = .returned (.bool true) ∧ Below w.heap.size w w' := by
  have hsz0 : (0 : Int) ≤ 1048576 → ∀ W, Calls Try.prog 13 #[.agg #[.int .i64 c0, .slice A0 n0 q0], .int .i64 1048576] W _ := fun h W => szSet_any c0 A0 n0 q0 1048576 W hn0 h (by omega)
  by_cases hbig0 : (1048576 : Int) < n0
  · replace hsz0 := hsz0 (by omega)
    simp only [if_pos hbig0] at hsz0
    clear hspec himpl
    go_enter Try.func6, Try.ntmps6
    go_wp2_with fail
    have hx0 : Ext w (w.alloc (Obj.cells #[.int .i64 c0, .slice A0 n0 q0] 24)) := ((Ext.refl w).alloc _)
    have b00 : Blk (w.alloc (Obj.cells #[.int .i64 c0, .slice A0 n0 q0] 24)) w.heap.size 24 #[.int .i64 c0, .slice A0 n0 q0] := (Blk.new w 24 #[.int .i64 c0, .slice A0 n0 q0])
    have s0 : w.heap.size + 1 ≤ (w.alloc (Obj.cells #[.int .i64 c0, .slice A0 n0 q0] 24)).heap.size := by simp
    have K0 := Lib.hid (hx0.below (Nat.le_refl _))
    have C00 := Lib.hid b00
    clear hx0 b00
    generalize (w.alloc (Obj.cells #[.int .i64 c0, .slice A0 n0 q0] 24)) = w0 at *
    refine (hsz0 _).mono ?_
    rintro e w1 ⟨rfl, hx⟩
    have s1 := (hx.below (Nat.le_refl _)).size
    have K1 := Lib.hid (K0.out.trans (hx.below K0.out.size))
    have Ba0_1 := Lib.hid (C00.out.ext hx)
    clear K0 C00
    clear hx
    have ra0_0 := Ba0_1.out.rd 0 rfl
    have ra0_1 := Ba0_1.out.rd 1 rfl
    go_wp2_with fail
    clear ra0_0 ra0_1
    go_ret
    exact ⟨rfl, K1.out⟩
  · skip
    replace hsz0 := hsz0 (by omega)
    simp only [if_neg hbig0] at hsz0
    have hneg0 : ¬ (1048576 - (n0 : Int) < 0) := by omega
    have hn'0 : n0 ≤ 1048576 := by omega
    have hts0 : ∀ W, Below w.heap.size w W → Calls Try.prog 15 #[.agg #[.int .i64 c0, .slice A0 n0 q0]] W _ := fun W hW => toSet_any c0 A0 n0 q0 ts0 W hn'0 hl0 ((hA0.below hW (Nat.le_refl _)).more hW.size)
    have HT0 := Lib.hid hts0
    have HL0 := Lib.hid hl0
    have HS := Lib.hid (hspec hn'0)
    have HI := Lib.hid (himpl hn'0)
    clear hspec himpl hts0 hA0 hl0
    generalize hm0 : us0.length = m0 at *
    have HM0 := Lib.hid hm0
    clear hm0
    have hcc1 : (r1 != r1) = false := by simp
    have hkn : ¬ (1 + 4 * (n0 : Int) < 0) := by omega
    have hkm0 : ¬ (1 + 4 * (m0 : Int) < 0) := by omega
    go_enter Try.func6, Try.ntmps6
    go_wp2_with fail
    have hx0 : Ext w (w.alloc (Obj.cells #[.int .i64 c0, .slice A0 n0 q0] 24)) := ((Ext.refl w).alloc _)
    have b00 : Blk (w.alloc (Obj.cells #[.int .i64 c0, .slice A0 n0 q0] 24)) w.heap.size 24 #[.int .i64 c0, .slice A0 n0 q0] := (Blk.new w 24 #[.int .i64 c0, .slice A0 n0 q0])
    have s0 : w.heap.size + 1 ≤ (w.alloc (Obj.cells #[.int .i64 c0, .slice A0 n0 q0] 24)).heap.size := by simp
    have K0 := Lib.hid (hx0.below (Nat.le_refl _))
    have C00 := Lib.hid b00
    clear hx0 b00
    generalize (w.alloc (Obj.cells #[.int .i64 c0, .slice A0 n0 q0] 24)) = w0 at *
    refine (hsz0 _).mono ?_
    rintro e w1 ⟨rfl, hx⟩
    have s1 := (hx.below (Nat.le_refl _)).size
    have K1 := Lib.hid (K0.out.trans (hx.below K0.out.size))
    have Ba0_1 := Lib.hid (C00.out.ext hx)
    clear K0 C00
    clear hx
    have ra0_0 := Ba0_1.out.rd 0 rfl
    have ra0_1 := Ba0_1.out.rd 1 rfl
    go_wp2_with fail
    clear ra0_0 ra0_1
    refine (HT0.out _ K1.out).mono ?_
    rintro e w2 ⟨A_2, rfl, hb, hw⟩
    have s2 := hb.size
    have t2 := Lib.hid hw.r
    have K2 := Lib.hid (K1.out.trans (hb.mono K1.out.size))
    have Ba0_2 := Lib.hid (Ba0_1.out.below hb Ba0_1.out.lt)
    clear K1 Ba0_1
    clear hb hw
    have ra0_0 := Ba0_2.out.rd 0 rfl
    have ra0_1 := Ba0_2.out.rd 1 rfl
    go_wp2_with fail
    clear ra0_0 ra0_1
    refine (HS.out _ A_2 _ (Nat.le_refl _) t2.out.tr).mono ?_
    rintro e w3 ⟨B3_0_, cap3_0, rfl, hb, hw0⟩
    have s3 := hb.size
    have t3_0 := Lib.hid hw0.r
    have K3 := Lib.hid (K2.out.trans (hb.mono K2.out.size))
    have Ba0_3 := Lib.hid (Ba0_2.out.below hb Ba0_2.out.lt)
    have T2_3 := Lib.hid (t2.out.below hb)
    clear K2 Ba0_2 t2
    clear hb hw0
    clear T2_3
    have ra0_0 := Ba0_3.out.rd 0 rfl
    have qa0_0 := (Ba0_3.out.ext ((Ext.refl _).alloc (Obj.cells #[.int .i64 z0, .slice B3_0_ m0 cap3_0] 29))).rd 0 rfl
    have ra0_1 := Ba0_3.out.rd 1 rfl
    have qa0_1 := (Ba0_3.out.ext ((Ext.refl _).alloc (Obj.cells #[.int .i64 z0, .slice B3_0_ m0 cap3_0] 29))).rd 1 rfl
    go_wp2_with fail
    clear ra0_0 qa0_0 ra0_1 qa0_1
    have hx : Ext w3 (w3.alloc (Obj.cells #[.int .i64 z0, .slice B3_0_ m0 cap3_0] 29)) := (Ext.refl _).alloc _
    have sa4 : w3.heap.size + 1 ≤ (w3.alloc (Obj.cells #[.int .i64 z0, .slice B3_0_ m0 cap3_0] 29)).heap.size := by simp
    have b4 := Lib.hid (Blk.new w3 29 #[.int .i64 z0, .slice B3_0_ m0 cap3_0])
    generalize w3.alloc (Obj.cells #[.int .i64 z0, .slice B3_0_ m0 cap3_0] 29) = w4 at *
    have K4 := Lib.hid (K3.out.trans (hx.below K3.out.size))
    have Ba0_4 := Lib.hid (Ba0_3.out.ext hx)
    have T3_0_4 := Lib.hid (t3_0.out.ext hx)
    clear K3 Ba0_3 t3_0
    clear hx
    refine (HT0.out _ K4.out).mono ?_
    rintro e w5 ⟨A_5, rfl, hb, hw⟩
    have s5 := hb.size
    have t5 := Lib.hid hw.r
    have K5 := Lib.hid (K4.out.trans (hb.mono K4.out.size))
    have Ba0_5 := Lib.hid (Ba0_4.out.below hb Ba0_4.out.lt)
    have B4_5 := Lib.hid (b4.out.below hb b4.out.lt)
    have T3_0_5 := Lib.hid (T3_0_4.out.below hb)
    clear K4 Ba0_4 b4 T3_0_4
    clear hb hw
    have ra0_0 := Ba0_5.out.rd 0 rfl
    have qa0_0 := (Ba0_5.out.ext ((Ext.refl _).alloc (Obj.cells #[.int .i64 c0, .slice A_5 n0 n0] 29))).rd 0 rfl
    have ra0_1 := Ba0_5.out.rd 1 rfl
    have qa0_1 := (Ba0_5.out.ext ((Ext.refl _).alloc (Obj.cells #[.int .i64 c0, .slice A_5 n0 n0] 29))).rd 1 rfl
    have r4_0 := B4_5.out.rd 0 rfl
    have q4_0 := (B4_5.out.ext ((Ext.refl _).alloc (Obj.cells #[.int .i64 c0, .slice A_5 n0 n0] 29))).rd 0 rfl
    have r4_1 := B4_5.out.rd 1 rfl
    have q4_1 := (B4_5.out.ext ((Ext.refl _).alloc (Obj.cells #[.int .i64 c0, .slice A_5 n0 n0] 29))).rd 1 rfl
    go_wp2_with fail
    clear ra0_0 qa0_0 ra0_1 qa0_1 r4_0 q4_0 r4_1 q4_1
    have hx : Ext w5 (w5.alloc (Obj.cells #[.int .i64 c0, .slice A_5 n0 n0] 29)) := (Ext.refl _).alloc _
    have sa6 : w5.heap.size + 1 ≤ (w5.alloc (Obj.cells #[.int .i64 c0, .slice A_5 n0 n0] 29)).heap.size := by simp
    have b6 := Lib.hid (Blk.new w5 29 #[.int .i64 c0, .slice A_5 n0 n0])
    generalize w5.alloc (Obj.cells #[.int .i64 c0, .slice A_5 n0 n0] 29) = w6 at *
    have K6 := Lib.hid (K5.out.trans (hx.below K5.out.size))
    have Ba0_6 := Lib.hid (Ba0_5.out.ext hx)
    have B4_6 := Lib.hid (B4_5.out.ext hx)
    have T3_0_6 := Lib.hid (T3_0_5.out.ext hx)
    have T5_6 := Lib.hid (t5.out.ext hx)
    clear K5 Ba0_5 B4_5 T3_0_5 t5
    clear hx
    refine (HI.out _ A_5 _ (Nat.le_refl _) T5_6.out.tr).mono ?_
    rintro e w7 ⟨B7_0_, cap7_0, rfl, hb, hw0⟩
    have s7 := hb.size
    have t7_0 := Lib.hid hw0.r
    have K7 := Lib.hid (K6.out.trans (hb.mono K6.out.size))
    have Ba0_7 := Lib.hid (Ba0_6.out.below hb Ba0_6.out.lt)
    have B4_7 := Lib.hid (B4_6.out.below hb B4_6.out.lt)
    have B6_7 := Lib.hid (b6.out.below hb b6.out.lt)
    have T3_0_7 := Lib.hid (T3_0_6.out.below hb)
    have T5_7 := Lib.hid (T5_6.out.below hb)
    clear K6 Ba0_6 B4_6 b6 T3_0_6 T5_6
    clear hb hw0
    have ra0_0 := Ba0_7.out.rd 0 rfl
    have qa0_0 := (Ba0_7.out.ext ((Ext.refl _).alloc (Obj.cells #[.int .i64 z0, .slice B7_0_ m0 cap7_0] 29))).rd 0 rfl
    have ra0_1 := Ba0_7.out.rd 1 rfl
    have qa0_1 := (Ba0_7.out.ext ((Ext.refl _).alloc (Obj.cells #[.int .i64 z0, .slice B7_0_ m0 cap7_0] 29))).rd 1 rfl
    have r4_0 := B4_7.out.rd 0 rfl
    have q4_0 := (B4_7.out.ext ((Ext.refl _).alloc (Obj.cells #[.int .i64 z0, .slice B7_0_ m0 cap7_0] 29))).rd 0 rfl
    have r4_1 := B4_7.out.rd 1 rfl
    have q4_1 := (B4_7.out.ext ((Ext.refl _).alloc (Obj.cells #[.int .i64 z0, .slice B7_0_ m0 cap7_0] 29))).rd 1 rfl
    have r6_0 := B6_7.out.rd 0 rfl
    have q6_0 := (B6_7.out.ext ((Ext.refl _).alloc (Obj.cells #[.int .i64 z0, .slice B7_0_ m0 cap7_0] 29))).rd 0 rfl
    have r6_1 := B6_7.out.rd 1 rfl
    have q6_1 := (B6_7.out.ext ((Ext.refl _).alloc (Obj.cells #[.int .i64 z0, .slice B7_0_ m0 cap7_0] 29))).rd 1 rfl
    go_wp2_with fail
    clear ra0_0 qa0_0 ra0_1 qa0_1 r4_0 q4_0 r4_1 q4_1 r6_0 q6_0 r6_1 q6_1
    have hx : Ext w7 (w7.alloc (Obj.cells #[.int .i64 z0, .slice B7_0_ m0 cap7_0] 29)) := (Ext.refl _).alloc _
    have sa8 : w7.heap.size + 1 ≤ (w7.alloc (Obj.cells #[.int .i64 z0, .slice B7_0_ m0 cap7_0] 29)).heap.size := by simp
    have b8 := Lib.hid (Blk.new w7 29 #[.int .i64 z0, .slice B7_0_ m0 cap7_0])
    generalize w7.alloc (Obj.cells #[.int .i64 z0, .slice B7_0_ m0 cap7_0] 29) = w8 at *
    have K8 := Lib.hid (K7.out.trans (hx.below K7.out.size))
    have Ba0_8 := Lib.hid (Ba0_7.out.ext hx)
    have B4_8 := Lib.hid (B4_7.out.ext hx)
    have B6_8 := Lib.hid (B6_7.out.ext hx)
    have T3_0_8 := Lib.hid (T3_0_7.out.ext hx)
    have T5_8 := Lib.hid (T5_7.out.ext hx)
    have T7_0_8 := Lib.hid (t7_0.out.ext hx)
    clear K7 Ba0_7 B4_7 B6_7 T3_0_7 T5_7 t7_0
    clear hx
    refine (eqSet_any z0 z0 B7_0_ B3_0_ m0 m0 _ _ us0 us0 _ (by omega) HM0.out HM0.out T7_0_8.out.tr T3_0_8.out.tr).mono ?_
    rw [decide_eq_true (⟨rfl, rfl⟩ : z0 = z0 ∧ us0 = us0)]
    rintro e w9 ⟨rfl, hx⟩
    have s9 := (hx.below (Nat.le_refl _)).size
    have K9 := Lib.hid (K8.out.trans (hx.below K8.out.size))
    have Ba0_9 := Lib.hid (Ba0_8.out.ext hx)
    have B4_9 := Lib.hid (B4_8.out.ext hx)
    have B6_9 := Lib.hid (B6_8.out.ext hx)
    have B8_9 := Lib.hid (b8.out.ext hx)
    have T3_0_9 := Lib.hid (T3_0_8.out.ext hx)
    have T5_9 := Lib.hid (T5_8.out.ext hx)
    have T7_0_9 := Lib.hid (T7_0_8.out.ext hx)
    clear K8 Ba0_8 B4_8 B6_8 b8 T3_0_8 T5_8 T7_0_8
    clear hx
    have ra0_0 := Ba0_9.out.rd 0 rfl
    have ra0_1 := Ba0_9.out.rd 1 rfl
    have r4_0 := B4_9.out.rd 0 rfl
    have r4_1 := B4_9.out.rd 1 rfl
    have r6_0 := B6_9.out.rd 0 rfl
    have r6_1 := B6_9.out.rd 1 rfl
    have r8_0 := B8_9.out.rd 0 rfl
    have r8_1 := B8_9.out.rd 1 rfl
    go_wp2_with fail
    clear ra0_0 ra0_1 r4_0 r4_1 r6_0 r6_1 r8_0 r8_1
    have ra0_0 := Ba0_9.out.rd 0 rfl
    have ra0_1 := Ba0_9.out.rd 1 rfl
    have r4_0 := B4_9.out.rd 0 rfl
    have r4_1 := B4_9.out.rd 1 rfl
    have r6_0 := B6_9.out.rd 0 rfl
    have r6_1 := B6_9.out.rd 1 rfl
    have r8_0 := B8_9.out.rd 0 rfl
    have r8_1 := B8_9.out.rd 1 rfl
    go_region_held3 (fun w' => w'.cell? ⟨w.heap.size, 0, none⟩ = some (.int .i64 c0) ∧ w'.cell? ⟨w.heap.size, 1, none⟩ = some (.slice A0 n0 q0) ∧ w'.cell? ⟨w5.heap.size, 0, none⟩ = some (.int .i64 c0) ∧ w'.cell? ⟨w5.heap.size, 1, none⟩ = some (.slice A_5 n0 n0))
      (first | exact ⟨ka0_0, ka0_1, k6_0, k6_1⟩ | exact ⟨la0_0, la0_1, l6_0, l6_1⟩ | go_keep)
      (first
        | (go_at_call 15; refine (HT0.out _ K9.out.drew).mono ?_; rintro e w10 ⟨A_10, rfl, hb, hw⟩; have s10 := hb.size; simp only [World.size_drew] at s10; have t10 := Lib.hid hw.r; have K10 := Lib.hid (K9.out.drew.trans (hb.mono K9.out.size)); have Ba0_10 := Lib.hid (Blk.below (w := w9.drew) Ba0_9.out hb Ba0_9.out.lt); have B4_10 := Lib.hid (Blk.below (w := w9.drew) B4_9.out hb B4_9.out.lt); have B6_10 := Lib.hid (Blk.below (w := w9.drew) B6_9.out hb B6_9.out.lt); have B8_10 := Lib.hid (Blk.below (w := w9.drew) B8_9.out hb B8_9.out.lt); have T3_0_10 := Lib.hid (TWr.below (w := w9.drew) T3_0_9.out hb); have T5_10 := Lib.hid (TWr.below (w := w9.drew) T5_9.out hb); have T7_0_10 := Lib.hid (TWr.below (w := w9.drew) T7_0_9.out hb); clear K9 Ba0_9 B4_9 B6_9 B8_9 T3_0_9 T5_9 T7_0_9; clear hb hw; have ka0_0 := Ba0_10.out.rd 0 rfl; have ka0_1 := Ba0_10.out.rd 1 rfl; have k6_0 := B6_10.out.rd 0 rfl; have k6_1 := B6_10.out.rd 1 rfl)
        | (go_at_call 18; refine (eqSet_any c0 c0 A_5 A_10 n0 n0 _ _ ts0 ts0 _ (by omega) HL0.out HL0.out T5_10.out.tr t10.out.tr).mono ?_; rw [decide_eq_true (⟨rfl, rfl⟩ : c0 = c0 ∧ ts0 = ts0)]; rintro e w11 ⟨rfl, hx⟩; have s11 := (hx.below (Nat.le_refl _)).size; clear ka0_0 ka0_1 k6_0 k6_1; have K11 := Lib.hid (K10.out.trans (hx.below K10.out.size)); have Ba0_11 := Lib.hid (Ba0_10.out.ext hx); have B4_11 := Lib.hid (B4_10.out.ext hx); have B6_11 := Lib.hid (B6_10.out.ext hx); have B8_11 := Lib.hid (B8_10.out.ext hx); have T3_0_11 := Lib.hid (T3_0_10.out.ext hx); have T5_11 := Lib.hid (T5_10.out.ext hx); have T7_0_11 := Lib.hid (T7_0_10.out.ext hx); have T10_11 := Lib.hid (t10.out.ext hx); clear K10 Ba0_10 B4_10 B6_10 B8_10 T3_0_10 T5_10 T7_0_10 t10; clear hx; have la0_0 := Ba0_11.out.rd 0 rfl; have la0_1 := Ba0_11.out.rd 1 rfl; have l6_0 := B6_11.out.rd 0 rfl; have l6_1 := B6_11.out.rd 1 rfl))
    clear la0_0 la0_1 l6_0 l6_1 ra0_0 ra0_1 r4_0 r4_1 r6_0 r6_1 r8_0 r8_1
    clear T10_11
    have ra0_0 := Ba0_11.out.rd 0 rfl
    have ra0_1 := Ba0_11.out.rd 1 rfl
    have r4_0 := B4_11.out.rd 0 rfl
    have r4_1 := B4_11.out.rd 1 rfl
    have r6_0 := B6_11.out.rd 0 rfl
    have r6_1 := B6_11.out.rd 1 rfl
    have r8_0 := B8_11.out.rd 0 rfl
    have r8_1 := B8_11.out.rd 1 rfl
    go_wp2_with fail
    clear ra0_0 ra0_1 r4_0 r4_1 r6_0 r6_1 r8_0 r8_1
    refine (markSet_at c0 A_5 n0 _ (1) ts0 _ _ _ (by omega) (by omega) (by omega) HL0.out T5_11.out).mono ?_
    rintro e w12 ⟨rfl, ho, hw⟩
    have s12 := ho.size
    have t12 := Lib.hid hw
    have K12 := Lib.hid (K11.out.trans (ho.below (by omega) K11.out.size))
    have Ba0_12 := Lib.hid (Ba0_11.out.only ho (by omega))
    have B4_12 := Lib.hid (B4_11.out.only ho (by omega))
    have B6_12 := Lib.hid (B6_11.out.only ho (by omega))
    have B8_12 := Lib.hid (B8_11.out.only ho (by omega))
    have T3_0_12 := Lib.hid (T3_0_11.out.only ho (by omega))
    have T7_0_12 := Lib.hid (T7_0_11.out.only ho (by omega))
    clear K11 Ba0_11 B4_11 B6_11 B8_11 T3_0_11 T7_0_11
    clear ho hw T5_11
    have ra0_0 := Ba0_12.out.rd 0 rfl
    have ra0_1 := Ba0_12.out.rd 1 rfl
    have r4_0 := B4_12.out.rd 0 rfl
    have r4_1 := B4_12.out.rd 1 rfl
    have r6_0 := B6_12.out.rd 0 rfl
    have r6_1 := B6_12.out.rd 1 rfl
    have r8_0 := B8_12.out.rd 0 rfl
    have r8_1 := B8_12.out.rd 1 rfl
    go_wp2_with fail
    clear ra0_0 ra0_1 r4_0 r4_1 r6_0 r6_1 r8_0 r8_1
    refine (eqSet_any z0 z0 B7_0_ B3_0_ m0 m0 _ _ us0 us0 _ (by omega) HM0.out HM0.out T7_0_12.out.tr T3_0_12.out.tr).mono ?_
    rw [decide_eq_true (⟨rfl, rfl⟩ : z0 = z0 ∧ us0 = us0)]
    rintro e w13 ⟨rfl, hx⟩
    have s13 := (hx.below (Nat.le_refl _)).size
    have K13 := Lib.hid (K12.out.trans (hx.below K12.out.size))
    have Ba0_13 := Lib.hid (Ba0_12.out.ext hx)
    have B4_13 := Lib.hid (B4_12.out.ext hx)
    have B6_13 := Lib.hid (B6_12.out.ext hx)
    have B8_13 := Lib.hid (B8_12.out.ext hx)
    have T3_0_13 := Lib.hid (T3_0_12.out.ext hx)
    have T5_13 := Lib.hid (t12.out.ext hx)
    have T7_0_13 := Lib.hid (T7_0_12.out.ext hx)
    clear K12 Ba0_12 B4_12 B6_12 B8_12 T3_0_12 t12 T7_0_12
    clear hx
    have ra0_0 := Ba0_13.out.rd 0 rfl
    have ra0_1 := Ba0_13.out.rd 1 rfl
    have r4_0 := B4_13.out.rd 0 rfl
    have r4_1 := B4_13.out.rd 1 rfl
    have r6_0 := B6_13.out.rd 0 rfl
    have r6_1 := B6_13.out.rd 1 rfl
    have r8_0 := B8_13.out.rd 0 rfl
    have r8_1 := B8_13.out.rd 1 rfl
    go_wp2_with fail
    clear ra0_0 ra0_1 r4_0 r4_1 r6_0 r6_1 r8_0 r8_1
    refine (markSet_at z0 B7_0_ m0 _ (1) us0 _ _ _ (by omega) (by omega) (by omega) HM0.out T7_0_13.out).mono ?_
    rintro e w14 ⟨rfl, ho, hw⟩
    have s14 := ho.size
    have t14 := Lib.hid hw
    have K14 := Lib.hid (K13.out.trans (ho.below (by omega) K13.out.size))
    have Ba0_14 := Lib.hid (Ba0_13.out.only ho (by omega))
    have B4_14 := Lib.hid (B4_13.out.only ho (by omega))
    have B6_14 := Lib.hid (B6_13.out.only ho (by omega))
    have B8_14 := Lib.hid (B8_13.out.only ho (by omega))
    have T3_0_14 := Lib.hid (T3_0_13.out.only ho (by omega))
    have T5_14 := Lib.hid (T5_13.out.only ho (by omega))
    clear K13 Ba0_13 B4_13 B6_13 B8_13 T3_0_13 T5_13
    clear ho hw T7_0_13
    have ra0_0 := Ba0_14.out.rd 0 rfl
    have ra0_1 := Ba0_14.out.rd 1 rfl
    have r4_0 := B4_14.out.rd 0 rfl
    have r4_1 := B4_14.out.rd 1 rfl
    have r6_0 := B6_14.out.rd 0 rfl
    have r6_1 := B6_14.out.rd 1 rfl
    have r8_0 := B8_14.out.rd 0 rfl
    have r8_1 := B8_14.out.rd 1 rfl
    go_wp2_with fail
    clear ra0_0 ra0_1 r4_0 r4_1 r6_0 r6_1 r8_0 r8_1
    refine (heldSet_at z0 B7_0_ m0 _ (1) _ (by omega) (by omega) (by omega) t14.out.tr).mono ?_
    rintro e w15 ⟨rfl, hx⟩
    have s15 := (hx.below (Nat.le_refl _)).size
    have K15 := Lib.hid (K14.out.trans (hx.below K14.out.size))
    have Ba0_15 := Lib.hid (Ba0_14.out.ext hx)
    have B4_15 := Lib.hid (B4_14.out.ext hx)
    have B6_15 := Lib.hid (B6_14.out.ext hx)
    have B8_15 := Lib.hid (B8_14.out.ext hx)
    have T3_0_15 := Lib.hid (T3_0_14.out.ext hx)
    have T5_15 := Lib.hid (T5_14.out.ext hx)
    have T7_0_15 := Lib.hid (t14.out.ext hx)
    clear K14 Ba0_14 B4_14 B6_14 B8_14 T3_0_14 T5_14 t14
    clear hx
    have ra0_0 := Ba0_15.out.rd 0 rfl
    have ra0_1 := Ba0_15.out.rd 1 rfl
    have r4_0 := B4_15.out.rd 0 rfl
    have r4_1 := B4_15.out.rd 1 rfl
    have r6_0 := B6_15.out.rd 0 rfl
    have r6_1 := B6_15.out.rd 1 rfl
    have r8_0 := B8_15.out.rd 0 rfl
    have r8_1 := B8_15.out.rd 1 rfl
    go_wp2_with fail
    clear ra0_0 ra0_1 r4_0 r4_1 r6_0 r6_1 r8_0 r8_1
    refine (HT0.out _ K15.out).mono ?_
    rintro e w16 ⟨A_16, rfl, hb, hw⟩
    have s16 := hb.size
    have t16 := Lib.hid hw.r
    have K16 := Lib.hid (K15.out.trans (hb.mono K15.out.size))
    have Ba0_16 := Lib.hid (Ba0_15.out.below hb Ba0_15.out.lt)
    have B4_16 := Lib.hid (B4_15.out.below hb B4_15.out.lt)
    have B6_16 := Lib.hid (B6_15.out.below hb B6_15.out.lt)
    have B8_16 := Lib.hid (B8_15.out.below hb B8_15.out.lt)
    have T3_0_16 := Lib.hid (T3_0_15.out.below hb)
    have T5_16 := Lib.hid (T5_15.out.below hb)
    have T7_0_16 := Lib.hid (T7_0_15.out.below hb)
    clear K15 Ba0_15 B4_15 B6_15 B8_15 T3_0_15 T5_15 T7_0_15
    clear hb hw
    have ra0_0 := Ba0_16.out.rd 0 rfl
    have ra0_1 := Ba0_16.out.rd 1 rfl
    have r4_0 := B4_16.out.rd 0 rfl
    have r4_1 := B4_16.out.rd 1 rfl
    have r6_0 := B6_16.out.rd 0 rfl
    have r6_1 := B6_16.out.rd 1 rfl
    have r8_0 := B8_16.out.rd 0 rfl
    have r8_1 := B8_16.out.rd 1 rfl
    go_wp2_with fail
    clear ra0_0 ra0_1 r4_0 r4_1 r6_0 r6_1 r8_0 r8_1
    refine (HI.out _ A_16 _ (Nat.le_refl _) t16.out.tr).mono ?_
    rintro e w17 ⟨B17_0_, cap17_0, rfl, hb, hw0⟩
    have s17 := hb.size
    have t17_0 := Lib.hid hw0.r
    have K17 := Lib.hid (K16.out.trans (hb.mono K16.out.size))
    have Ba0_17 := Lib.hid (Ba0_16.out.below hb Ba0_16.out.lt)
    have B4_17 := Lib.hid (B4_16.out.below hb B4_16.out.lt)
    have B6_17 := Lib.hid (B6_16.out.below hb B6_16.out.lt)
    have B8_17 := Lib.hid (B8_16.out.below hb B8_16.out.lt)
    have T3_0_17 := Lib.hid (T3_0_16.out.below hb)
    have T5_17 := Lib.hid (T5_16.out.below hb)
    have T7_0_17 := Lib.hid (T7_0_16.out.below hb)
    have T16_17 := Lib.hid (t16.out.below hb)
    clear K16 Ba0_16 B4_16 B6_16 B8_16 T3_0_16 T5_16 T7_0_16 t16
    clear hb hw0
    clear T16_17
    have ra0_0 := Ba0_17.out.rd 0 rfl
    have qa0_0 := (Ba0_17.out.ext ((Ext.refl _).alloc (Obj.cells #[.int .i64 z0, .slice B17_0_ m0 cap17_0] 29))).rd 0 rfl
    have ra0_1 := Ba0_17.out.rd 1 rfl
    have qa0_1 := (Ba0_17.out.ext ((Ext.refl _).alloc (Obj.cells #[.int .i64 z0, .slice B17_0_ m0 cap17_0] 29))).rd 1 rfl
    have r4_0 := B4_17.out.rd 0 rfl
    have q4_0 := (B4_17.out.ext ((Ext.refl _).alloc (Obj.cells #[.int .i64 z0, .slice B17_0_ m0 cap17_0] 29))).rd 0 rfl
    have r4_1 := B4_17.out.rd 1 rfl
    have q4_1 := (B4_17.out.ext ((Ext.refl _).alloc (Obj.cells #[.int .i64 z0, .slice B17_0_ m0 cap17_0] 29))).rd 1 rfl
    have r6_0 := B6_17.out.rd 0 rfl
    have q6_0 := (B6_17.out.ext ((Ext.refl _).alloc (Obj.cells #[.int .i64 z0, .slice B17_0_ m0 cap17_0] 29))).rd 0 rfl
    have r6_1 := B6_17.out.rd 1 rfl
    have q6_1 := (B6_17.out.ext ((Ext.refl _).alloc (Obj.cells #[.int .i64 z0, .slice B17_0_ m0 cap17_0] 29))).rd 1 rfl
    have r8_0 := B8_17.out.rd 0 rfl
    have q8_0 := (B8_17.out.ext ((Ext.refl _).alloc (Obj.cells #[.int .i64 z0, .slice B17_0_ m0 cap17_0] 29))).rd 0 rfl
    have r8_1 := B8_17.out.rd 1 rfl
    have q8_1 := (B8_17.out.ext ((Ext.refl _).alloc (Obj.cells #[.int .i64 z0, .slice B17_0_ m0 cap17_0] 29))).rd 1 rfl
    go_wp2_with fail
    clear ra0_0 qa0_0 ra0_1 qa0_1 r4_0 q4_0 r4_1 q4_1 r6_0 q6_0 r6_1 q6_1 r8_0 q8_0 r8_1 q8_1
    have hx : Ext w17 (w17.alloc (Obj.cells #[.int .i64 z0, .slice B17_0_ m0 cap17_0] 29)) := (Ext.refl _).alloc _
    have sa18 : w17.heap.size + 1 ≤ (w17.alloc (Obj.cells #[.int .i64 z0, .slice B17_0_ m0 cap17_0] 29)).heap.size := by simp
    have b18 := Lib.hid (Blk.new w17 29 #[.int .i64 z0, .slice B17_0_ m0 cap17_0])
    generalize w17.alloc (Obj.cells #[.int .i64 z0, .slice B17_0_ m0 cap17_0] 29) = w18 at *
    have K18 := Lib.hid (K17.out.trans (hx.below K17.out.size))
    have Ba0_18 := Lib.hid (Ba0_17.out.ext hx)
    have B4_18 := Lib.hid (B4_17.out.ext hx)
    have B6_18 := Lib.hid (B6_17.out.ext hx)
    have B8_18 := Lib.hid (B8_17.out.ext hx)
    have T3_0_18 := Lib.hid (T3_0_17.out.ext hx)
    have T5_18 := Lib.hid (T5_17.out.ext hx)
    have T7_0_18 := Lib.hid (T7_0_17.out.ext hx)
    have T17_0_18 := Lib.hid (t17_0.out.ext hx)
    clear K17 Ba0_17 B4_17 B6_17 B8_17 T3_0_17 T5_17 T7_0_17 t17_0
    clear hx
    refine (eqSet_any z0 z0 B17_0_ B3_0_ m0 m0 _ _ us0 us0 _ (by omega) HM0.out HM0.out T17_0_18.out.tr T3_0_18.out.tr).mono ?_
    rw [decide_eq_true (⟨rfl, rfl⟩ : z0 = z0 ∧ us0 = us0)]
    rintro e w19 ⟨rfl, hx⟩
    have s19 := (hx.below (Nat.le_refl _)).size
    have K19 := Lib.hid (K18.out.trans (hx.below K18.out.size))
    have Ba0_19 := Lib.hid (Ba0_18.out.ext hx)
    have B4_19 := Lib.hid (B4_18.out.ext hx)
    have B6_19 := Lib.hid (B6_18.out.ext hx)
    have B8_19 := Lib.hid (B8_18.out.ext hx)
    have B18_19 := Lib.hid (b18.out.ext hx)
    have T3_0_19 := Lib.hid (T3_0_18.out.ext hx)
    have T5_19 := Lib.hid (T5_18.out.ext hx)
    have T7_0_19 := Lib.hid (T7_0_18.out.ext hx)
    have T17_0_19 := Lib.hid (T17_0_18.out.ext hx)
    clear K18 Ba0_18 B4_18 B6_18 B8_18 b18 T3_0_18 T5_18 T7_0_18 T17_0_18
    clear hx
    have ra0_0 := Ba0_19.out.rd 0 rfl
    have ra0_1 := Ba0_19.out.rd 1 rfl
    have r4_0 := B4_19.out.rd 0 rfl
    have r4_1 := B4_19.out.rd 1 rfl
    have r6_0 := B6_19.out.rd 0 rfl
    have r6_1 := B6_19.out.rd 1 rfl
    have r8_0 := B8_19.out.rd 0 rfl
    have r8_1 := B8_19.out.rd 1 rfl
    have r18_0 := B18_19.out.rd 0 rfl
    have r18_1 := B18_19.out.rd 1 rfl
    go_wp2_with fail
    clear ra0_0 ra0_1 r4_0 r4_1 r6_0 r6_1 r8_0 r8_1 r18_0 r18_1
    refine (heldSet_at z0 B7_0_ m0 _ (1) _ (by omega) (by omega) (by omega) T7_0_19.out.tr).mono ?_
    rintro e w20 ⟨rfl, hx⟩
    have s20 := (hx.below (Nat.le_refl _)).size
    have K20 := Lib.hid (K19.out.trans (hx.below K19.out.size))
    have Ba0_20 := Lib.hid (Ba0_19.out.ext hx)
    have B4_20 := Lib.hid (B4_19.out.ext hx)
    have B6_20 := Lib.hid (B6_19.out.ext hx)
    have B8_20 := Lib.hid (B8_19.out.ext hx)
    have B18_20 := Lib.hid (B18_19.out.ext hx)
    have T3_0_20 := Lib.hid (T3_0_19.out.ext hx)
    have T5_20 := Lib.hid (T5_19.out.ext hx)
    have T7_0_20 := Lib.hid (T7_0_19.out.ext hx)
    have T17_0_20 := Lib.hid (T17_0_19.out.ext hx)
    clear K19 Ba0_19 B4_19 B6_19 B8_19 B18_19 T3_0_19 T5_19 T7_0_19 T17_0_19
    clear hx
    have ra0_0 := Ba0_20.out.rd 0 rfl
    have ra0_1 := Ba0_20.out.rd 1 rfl
    have r4_0 := B4_20.out.rd 0 rfl
    have r4_1 := B4_20.out.rd 1 rfl
    have r6_0 := B6_20.out.rd 0 rfl
    have r6_1 := B6_20.out.rd 1 rfl
    have r8_0 := B8_20.out.rd 0 rfl
    have r8_1 := B8_20.out.rd 1 rfl
    have r18_0 := B18_20.out.rd 0 rfl
    have r18_1 := B18_20.out.rd 1 rfl
    go_wp2_with fail
    clear ra0_0 ra0_1 r4_0 r4_1 r6_0 r6_1 r8_0 r8_1 r18_0 r18_1
    go_ret
    exact ⟨rfl, K20.out⟩
theorem pw_set {c : Int} {ts : List Tl} (h : isSet c ts = true) : ∀ (j : Nat) (d : Int) (vs : List Tl), pw c ts j = some (d, vs) → isSet d vs = true := by
  intro j
  induction j with
  | zero =>
    intro d vs e
    have e1 : some (c, lastingT ts) = some (d, vs) := e
    cases e1
    exact isSet_lasting h
  | succ j ih =>
    intro d vs e
    cases hp : pw c ts j with
    | none => rw [pw_none hp (j + 1) (by omega)] at e; cases e
    | some s =>
      obtain ⟨d', vs'⟩ := s
      have hs := ih d' vs' hp
      by_cases hlim : stkC d' c vs' ts ≤ 6 ∧ (stkT vs' ts).length ≤ 16
      · rw [pw_yes hp hlim] at e
        cases e
        exact isSet_lasting (isSet_stack hs h hlim.1 hlim.2)
      · rw [pw_no hp hlim] at e
        cases e
theorem law_Power (c0 : Int) (A0 : Option Addr) (n0 q0 : Nat) (ts0 : List Tl) (i1 : Int) (w : World)
    (hn0 : n0 ≤ 9223372036854775807) (hl0 : ts0.length = n0) (hA0 : TR w w.heap.size A0 ts0) :
    Calls Try.prog 6 #[.agg #[.int .i64 c0, .slice A0 n0 q0], .int .i64 i1] w fun e w' => e = .returned (.bool true) ∧ Below w.heap.size w w' := by
  cases hs : isSet c0 ts0 with
  | false =>
    exact lawPowerOf_core c0 A0 n0 q0 ts0 i1 w hn0 hl0 hA0 0 [] 1 (by simp)
      (fun h W B0 e0 _ hB0 => specPowerOf_1 c0 B0 n0 e0 ts0 i1 W h hl0 hB0 hs)
      (fun h W B0 e0 _ hB0 => implPowerOf_1 c0 B0 n0 e0 ts0 i1 W h hl0 hB0 hs)
  | true =>
    by_cases hk : 1 ≤ i1 ∧ i1 ≤ 4
    · obtain ⟨m, rfl⟩ : ∃ m : Nat, i1 = (m : Int) + 1 := ⟨(i1 - 1).toNat, by omega⟩
      have hm : m ≤ 3 := by omega
      cases hp : pw c0 ts0 m with
      | none =>
        exact lawPowerOf_core c0 A0 n0 q0 ts0 _ w hn0 hl0 hA0 0 [] 3 (by simp)
          (fun h W B0 e0 _ hB0 => by have := specPowerOf_0 c0 B0 n0 e0 ts0 m W h hl0 hB0 hs hm; rw [pwRes_none hp] at this; exact this)
          (fun h W B0 e0 _ hB0 => by have := implPowerOf_0 c0 B0 n0 e0 ts0 m W h hl0 hB0 hs hm; rw [pwRes_none hp] at this; exact this)
      | some s =>
        obtain ⟨d, vs⟩ := s
        have hlen := isSet_len (pw_set hs m d vs hp)
        exact lawPowerOf_core c0 A0 n0 q0 ts0 _ w hn0 hl0 hA0 d vs 0 (by omega)
          (fun h W B0 e0 _ hB0 => by have := specPowerOf_0 c0 B0 n0 e0 ts0 m W h hl0 hB0 hs hm; rw [pwRes_some hp] at this; exact this)
          (fun h W B0 e0 _ hB0 => by have := implPowerOf_0 c0 B0 n0 e0 ts0 m W h hl0 hB0 hs hm; rw [pwRes_some hp] at this; exact this)
    · exact lawPowerOf_core c0 A0 n0 q0 ts0 i1 w hn0 hl0 hA0 0 [] 2 (by simp)
        (fun h W B0 e0 _ hB0 => specPowerOf_2 c0 B0 n0 e0 ts0 i1 W h hl0 hB0 hs (decide_eq_false hk))
        (fun h W B0 e0 _ hB0 => by
          by_cases h1 : i1 < 1
          · exact implPowerOf_2a c0 B0 n0 e0 ts0 i1 W h hl0 hB0 hs h1
          · exact implPowerOf_2b c0 B0 n0 e0 ts0 i1 W h hl0 hB0 hs h1 (by omega))
end Go.Proofs.Ytcakbnfpmpdljaa
