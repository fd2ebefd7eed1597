/- The exact law over ColumnWords: walked. -/
import Derived.Test.YtleabblnikbmpaaGuA
import Derived.Test.YtleabblnikbmpaaGtA
import Derived.Test.YtleabblnikbmpaaMark2
import Derived.Test.YtleabblnikbmpaaSBridge
import Derived.Test.YtleabblnikbmpaaRs2
import Derived.Test.YtleabblnikbmpaaRs3
import Derived.Test.YtleabblnikbmpaaCw1
import Derived.Deep.RegionHeld3
import Derived.Deep.RegionLaw
import Derived.Deep.DeepCutAuto
namespace Go.Proofs.Ytleabblnikbmpaa
set_option linter.unusedVariables false
set_option linter.unusedSimpArgs false
open Go.RowKit Go.Sort

set_option maxRecDepth 100000 in
set_option maxHeartbeats 4000000 in
theorem lawColumnWords_core (c0 : Int) (A0 : Option Addr) (n0 q0 : Nat) (ts0 : List Tl) (i1 : Int) (w : World) (hn0 : n0 ≤ 9223372036854775807) (hl0 : ts0.length = n0) (hA0 : TR w w.heap.size A0 ts0) (vs0 : List (List Int)) (r1 : Int) (hus0 : need vs0 ≤ 65536)
    (hspec : n0 ≤ 1048576 → ∀ (W : World) (B0 : Option Addr) (e0 : Nat), n0 ≤ e0 → TR W W.heap.size B0 ts0 → Calls Try.prog 21 #[.agg #[.int .i64 c0, .slice B0 n0 e0], .int .i64 i1] W (fun e w' => ∃ R0 p0, e = .returned (.tuple #[.slice R0 vs0.length p0, .int .i64 r1]) ∧ Below W.heap.size W w' ∧ IWW w' W.heap.size w'.heap.size R0 vs0))
    (himpl : n0 ≤ 1048576 → ∀ (W : World) (B0 : Option Addr) (e0 : Nat), n0 ≤ e0 → TR W W.heap.size B0 ts0 → Calls Try.prog 22 #[.agg #[.int .i64 c0, .slice B0 n0 e0], .int .i64 i1] W (fun e w' => ∃ R0 p0, e = .returned (.tuple #[.slice R0 vs0.length p0, .int .i64 r1]) ∧ Below W.heap.size W w' ∧ IWW w' W.heap.size w'.heap.size R0 vs0)) :
    Calls Try.prog 4 #[.agg #[.int .i64 c0, .slice A0 n0 q0], .int .i64 i1] w fun e w' => e = .returned (.bool true) ∧ Below w.heap.size w w' := by
  have hsz0 : (0 : Int) ≤ 1048576 → ∀ W, Calls Try.prog 16 #[.agg #[.int .i64 c0, .slice A0 n0 q0], .int .i64 1048576] W _ := fun h W => szSet_any c0 A0 n0 q0 1048576 W hn0 h (by omega)
  by_cases hbig0 : (1048576 : Int) < n0
  · replace hsz0 := hsz0 (by omega)
    simp only [if_pos hbig0] at hsz0
    clear hspec himpl
    go_enter Try.func4, Try.ntmps4
    go_wp2_with fail
    have hx0 : Ext w (w.alloc (Obj.cells #[.int .i64 c0, .slice A0 n0 q0] 24)) := ((Ext.refl w).alloc _)
    have b00 : Blk (w.alloc (Obj.cells #[.int .i64 c0, .slice A0 n0 q0] 24)) w.heap.size 24 #[.int .i64 c0, .slice A0 n0 q0] := (Blk.new w 24 #[.int .i64 c0, .slice A0 n0 q0])
    have s0 : w.heap.size + 1 ≤ (w.alloc (Obj.cells #[.int .i64 c0, .slice A0 n0 q0] 24)).heap.size := by simp
    have K0 := Lib.hid (hx0.below (Nat.le_refl _))
    have C00 := Lib.hid b00
    clear hx0 b00
    generalize (w.alloc (Obj.cells #[.int .i64 c0, .slice A0 n0 q0] 24)) = w0 at *
    refine (hsz0 _).mono ?_
    rintro e w1 ⟨rfl, hx⟩
    have s1 := (hx.below (Nat.le_refl _)).size
    have K1 := Lib.hid (K0.out.trans (hx.below K0.out.size))
    have Ba0_1 := Lib.hid (C00.out.ext hx)
    clear K0 C00
    clear hx
    have ra0_0 := Ba0_1.out.rd 0 rfl
    have ra0_1 := Ba0_1.out.rd 1 rfl
    go_wp2_with fail
    clear ra0_0 ra0_1
    go_ret
    exact ⟨rfl, K1.out⟩
  · skip
    replace hsz0 := hsz0 (by omega)
    simp only [if_neg hbig0] at hsz0
    have hneg0 : ¬ (1048576 - (n0 : Int) < 0) := by omega
    have hn'0 : n0 ≤ 1048576 := by omega
    have hts0 : ∀ W, Below w.heap.size w W → Calls Try.prog 18 #[.agg #[.int .i64 c0, .slice A0 n0 q0]] W _ := fun W hW => toSet_any c0 A0 n0 q0 ts0 W hn'0 hl0 ((hA0.below hW (Nat.le_refl _)).more hW.size)
    have HT0 := Lib.hid hts0
    have HL0 := Lib.hid hl0
    have HS := Lib.hid (hspec hn'0)
    have HI := Lib.hid (himpl hn'0)
    clear hspec himpl hts0 hA0 hl0
    obtain ⟨pm0, hpm0⟩ : ∃ p, pre vs0 vs0.length = p := ⟨_, rfl⟩
    have hpb0 : vs0.length + pm0 ≤ 65536 := by unfold need at hus0; omega
    have hrw0 : ∀ k, k < vs0.length → (vs0.getD k []).length ≤ 1152921504606846976 := fun k hk => by have := need_row hk; omega
    generalize hm0 : vs0.length = m0 at *
    have HM0 := Lib.hid hm0
    clear hm0
    have HPM0 := Lib.hid hpm0
    have HRW0 := Lib.hid hrw0
    clear hpm0 hrw0 hus0
    have hcc1 : (r1 != r1) = false := by simp
    have hkn : ¬ (1 + 4 * (n0 : Int) < 0) := by omega
    have hkm0 : ¬ (1 + (pm0 : Nat) < 0) := by omega
    go_enter Try.func4, Try.ntmps4
    go_wp2_with fail
    have hx0 : Ext w (w.alloc (Obj.cells #[.int .i64 c0, .slice A0 n0 q0] 24)) := ((Ext.refl w).alloc _)
    have b00 : Blk (w.alloc (Obj.cells #[.int .i64 c0, .slice A0 n0 q0] 24)) w.heap.size 24 #[.int .i64 c0, .slice A0 n0 q0] := (Blk.new w 24 #[.int .i64 c0, .slice A0 n0 q0])
    have s0 : w.heap.size + 1 ≤ (w.alloc (Obj.cells #[.int .i64 c0, .slice A0 n0 q0] 24)).heap.size := by simp
    have K0 := Lib.hid (hx0.below (Nat.le_refl _))
    have C00 := Lib.hid b00
    clear hx0 b00
    generalize (w.alloc (Obj.cells #[.int .i64 c0, .slice A0 n0 q0] 24)) = w0 at *
    refine (hsz0 _).mono ?_
    rintro e w1 ⟨rfl, hx⟩
    have s1 := (hx.below (Nat.le_refl _)).size
    have K1 := Lib.hid (K0.out.trans (hx.below K0.out.size))
    have Ba0_1 := Lib.hid (C00.out.ext hx)
    clear K0 C00
    clear hx
    have ra0_0 := Ba0_1.out.rd 0 rfl
    have ra0_1 := Ba0_1.out.rd 1 rfl
    go_wp2_with fail
    clear ra0_0 ra0_1
    refine (HT0.out _ K1.out).mono ?_
    rintro e w2 ⟨A_2, rfl, hb, hw⟩
    have s2 := hb.size
    have t2 := Lib.hid hw.r
    have K2 := Lib.hid (K1.out.trans (hb.mono K1.out.size))
    have Ba0_2 := Lib.hid (Ba0_1.out.below hb Ba0_1.out.lt)
    clear K1 Ba0_1
    clear hb hw
    have ra0_0 := Ba0_2.out.rd 0 rfl
    have ra0_1 := Ba0_2.out.rd 1 rfl
    go_wp2_with fail
    clear ra0_0 ra0_1
    refine (HS.out _ A_2 _ (Nat.le_refl _) t2.out.tr).mono ?_
    rintro e w3 ⟨B3_0_, cap3_0, rfl, hb, hw0⟩
    have s3 := hb.size
    have t3_0 := Lib.hid hw0
    have K3 := Lib.hid (K2.out.trans (hb.mono K2.out.size))
    have Ba0_3 := Lib.hid (Ba0_2.out.below hb Ba0_2.out.lt)
    have T2_3 := Lib.hid (t2.out.below hb)
    clear K2 Ba0_2 t2
    clear hb hw0
    clear T2_3
    have ra0_0 := Ba0_3.out.rd 0 rfl
    have ra0_1 := Ba0_3.out.rd 1 rfl
    go_wp2_with fail
    clear ra0_0 ra0_1
    refine (HT0.out _ K3.out).mono ?_
    rintro e w4 ⟨A_4, rfl, hb, hw⟩
    have s4 := hb.size
    have t4 := Lib.hid hw.r
    have K4 := Lib.hid (K3.out.trans (hb.mono K3.out.size))
    have Ba0_4 := Lib.hid (Ba0_3.out.below hb Ba0_3.out.lt)
    have T3_0_4 := Lib.hid (t3_0.out.below hb)
    clear K3 Ba0_3 t3_0
    clear hb hw
    have ra0_0 := Ba0_4.out.rd 0 rfl
    have qa0_0 := (Ba0_4.out.ext ((Ext.refl _).alloc (Obj.cells #[.int .i64 c0, .slice A_4 n0 n0] 30))).rd 0 rfl
    have ra0_1 := Ba0_4.out.rd 1 rfl
    have qa0_1 := (Ba0_4.out.ext ((Ext.refl _).alloc (Obj.cells #[.int .i64 c0, .slice A_4 n0 n0] 30))).rd 1 rfl
    go_wp2_with fail
    clear ra0_0 qa0_0 ra0_1 qa0_1
    have hx : Ext w4 (w4.alloc (Obj.cells #[.int .i64 c0, .slice A_4 n0 n0] 30)) := (Ext.refl _).alloc _
    have sa5 : w4.heap.size + 1 ≤ (w4.alloc (Obj.cells #[.int .i64 c0, .slice A_4 n0 n0] 30)).heap.size := by simp
    have b5 := Lib.hid (Blk.new w4 30 #[.int .i64 c0, .slice A_4 n0 n0])
    generalize w4.alloc (Obj.cells #[.int .i64 c0, .slice A_4 n0 n0] 30) = w5 at *
    have K5 := Lib.hid (K4.out.trans (hx.below K4.out.size))
    have Ba0_5 := Lib.hid (Ba0_4.out.ext hx)
    have T3_0_5 := Lib.hid (T3_0_4.out.ext hx)
    have T4_5 := Lib.hid (t4.out.ext hx)
    clear K4 Ba0_4 T3_0_4 t4
    clear hx
    refine (HI.out _ A_4 _ (Nat.le_refl _) T4_5.out.tr).mono ?_
    rintro e w6 ⟨B6_0_, cap6_0, rfl, hb, hw0⟩
    have s6 := hb.size
    have t6_0 := Lib.hid hw0
    have K6 := Lib.hid (K5.out.trans (hb.mono K5.out.size))
    have Ba0_6 := Lib.hid (Ba0_5.out.below hb Ba0_5.out.lt)
    have B5_6 := Lib.hid (b5.out.below hb b5.out.lt)
    have T3_0_6 := Lib.hid (T3_0_5.out.below hb)
    have T4_6 := Lib.hid (T4_5.out.below hb)
    clear K5 Ba0_5 b5 T3_0_5 T4_5
    clear hb hw0
    have ra0_0 := Ba0_6.out.rd 0 rfl
    have ra0_1 := Ba0_6.out.rd 1 rfl
    have r5_0 := B5_6.out.rd 0 rfl
    have r5_1 := B5_6.out.rd 1 rfl
    go_wp2_with fail
    clear ra0_0 ra0_1 r5_0 r5_1
    refine (eqInt64SS_any B6_0_ B3_0_ m0 m0 _ _ vs0 vs0 _ (by omega) HM0.out HM0.out HRW0.out t6_0.out.irr T3_0_6.out.irr).mono ?_
    rw [decide_eq_true (rfl : vs0 = vs0)]
    rintro e w7 ⟨rfl, hx⟩
    have s7 := (hx.below (Nat.le_refl _)).size
    have K7 := Lib.hid (K6.out.trans (hx.below K6.out.size))
    have Ba0_7 := Lib.hid (Ba0_6.out.ext hx)
    have B5_7 := Lib.hid (B5_6.out.ext hx)
    have T3_0_7 := Lib.hid (T3_0_6.out.ext hx)
    have T4_7 := Lib.hid (T4_6.out.ext hx)
    have T6_0_7 := Lib.hid (t6_0.out.ext hx)
    clear K6 Ba0_6 B5_6 T3_0_6 T4_6 t6_0
    clear hx
    have ra0_0 := Ba0_7.out.rd 0 rfl
    have ra0_1 := Ba0_7.out.rd 1 rfl
    have r5_0 := B5_7.out.rd 0 rfl
    have r5_1 := B5_7.out.rd 1 rfl
    go_wp2_with fail
    clear ra0_0 ra0_1 r5_0 r5_1
    have ra0_0 := Ba0_7.out.rd 0 rfl
    have ra0_1 := Ba0_7.out.rd 1 rfl
    have r5_0 := B5_7.out.rd 0 rfl
    have r5_1 := B5_7.out.rd 1 rfl
    go_region_held3 (fun w' => w'.cell? ⟨w.heap.size, 0, none⟩ = some (.int .i64 c0) ∧ w'.cell? ⟨w.heap.size, 1, none⟩ = some (.slice A0 n0 q0) ∧ w'.cell? ⟨w4.heap.size, 0, none⟩ = some (.int .i64 c0) ∧ w'.cell? ⟨w4.heap.size, 1, none⟩ = some (.slice A_4 n0 n0))
      (first | exact ⟨ka0_0, ka0_1, k5_0, k5_1⟩ | exact ⟨la0_0, la0_1, l5_0, l5_1⟩ | go_keep)
      (first
        | (go_at_call 18; refine (HT0.out _ K7.out.drew).mono ?_; rintro e w8 ⟨A_8, rfl, hb, hw⟩; have s8 := hb.size; simp only [World.size_drew] at s8; have t8 := Lib.hid hw.r; have K8 := Lib.hid (K7.out.drew.trans (hb.mono K7.out.size)); have Ba0_8 := Lib.hid (Blk.below (w := w7.drew) Ba0_7.out hb Ba0_7.out.lt); have B5_8 := Lib.hid (Blk.below (w := w7.drew) B5_7.out hb B5_7.out.lt); have T3_0_8 := Lib.hid (IWW.below (w := w7.drew) T3_0_7.out hb); have T4_8 := Lib.hid (TWr.below (w := w7.drew) T4_7.out hb); have T6_0_8 := Lib.hid (IWW.below (w := w7.drew) T6_0_7.out hb); clear K7 Ba0_7 B5_7 T3_0_7 T4_7 T6_0_7; clear hb hw; have ka0_0 := Ba0_8.out.rd 0 rfl; have ka0_1 := Ba0_8.out.rd 1 rfl; have k5_0 := B5_8.out.rd 0 rfl; have k5_1 := B5_8.out.rd 1 rfl)
        | (go_at_call 20; refine (eqSet_any c0 c0 A_4 A_8 n0 n0 _ _ ts0 ts0 _ (by omega) HL0.out HL0.out T4_8.out.tr t8.out.tr).mono ?_; rw [decide_eq_true (⟨rfl, rfl⟩ : c0 = c0 ∧ ts0 = ts0)]; rintro e w9 ⟨rfl, hx⟩; have s9 := (hx.below (Nat.le_refl _)).size; clear ka0_0 ka0_1 k5_0 k5_1; have K9 := Lib.hid (K8.out.trans (hx.below K8.out.size)); have Ba0_9 := Lib.hid (Ba0_8.out.ext hx); have B5_9 := Lib.hid (B5_8.out.ext hx); have T3_0_9 := Lib.hid (T3_0_8.out.ext hx); have T4_9 := Lib.hid (T4_8.out.ext hx); have T6_0_9 := Lib.hid (T6_0_8.out.ext hx); have T8_9 := Lib.hid (t8.out.ext hx); clear K8 Ba0_8 B5_8 T3_0_8 T4_8 T6_0_8 t8; clear hx; have la0_0 := Ba0_9.out.rd 0 rfl; have la0_1 := Ba0_9.out.rd 1 rfl; have l5_0 := B5_9.out.rd 0 rfl; have l5_1 := B5_9.out.rd 1 rfl))
    clear la0_0 la0_1 l5_0 l5_1 ra0_0 ra0_1 r5_0 r5_1
    clear T8_9
    have ra0_0 := Ba0_9.out.rd 0 rfl
    have ra0_1 := Ba0_9.out.rd 1 rfl
    have r5_0 := B5_9.out.rd 0 rfl
    have r5_1 := B5_9.out.rd 1 rfl
    go_wp2_with fail
    clear ra0_0 ra0_1 r5_0 r5_1
    refine (markSet_at c0 A_4 n0 _ (1) ts0 _ _ _ (by omega) (by omega) (by omega) HL0.out T4_9.out).mono ?_
    rintro e w10 ⟨rfl, ho, hw⟩
    have s10 := ho.size
    have t10 := Lib.hid hw
    have K10 := Lib.hid (K9.out.trans (ho.below (by omega) K9.out.size))
    have Ba0_10 := Lib.hid (Ba0_9.out.only ho (by omega))
    have B5_10 := Lib.hid (B5_9.out.only ho (by omega))
    have T3_0_10 := Lib.hid (T3_0_9.out.only ho (by omega))
    have T6_0_10 := Lib.hid (T6_0_9.out.only ho (by omega))
    clear K9 Ba0_9 B5_9 T3_0_9 T6_0_9
    clear ho hw T4_9
    have ra0_0 := Ba0_10.out.rd 0 rfl
    have ra0_1 := Ba0_10.out.rd 1 rfl
    have r5_0 := B5_10.out.rd 0 rfl
    have r5_1 := B5_10.out.rd 1 rfl
    go_wp2_with fail
    clear ra0_0 ra0_1 r5_0 r5_1
    refine (eqInt64SS_any B6_0_ B3_0_ m0 m0 _ _ vs0 vs0 _ (by omega) HM0.out HM0.out HRW0.out T6_0_10.out.irr T3_0_10.out.irr).mono ?_
    rw [decide_eq_true (rfl : vs0 = vs0)]
    rintro e w11 ⟨rfl, hx⟩
    have s11 := (hx.below (Nat.le_refl _)).size
    have K11 := Lib.hid (K10.out.trans (hx.below K10.out.size))
    have Ba0_11 := Lib.hid (Ba0_10.out.ext hx)
    have B5_11 := Lib.hid (B5_10.out.ext hx)
    have T3_0_11 := Lib.hid (T3_0_10.out.ext hx)
    have T4_11 := Lib.hid (t10.out.ext hx)
    have T6_0_11 := Lib.hid (T6_0_10.out.ext hx)
    clear K10 Ba0_10 B5_10 T3_0_10 t10 T6_0_10
    clear hx
    have ra0_0 := Ba0_11.out.rd 0 rfl
    have ra0_1 := Ba0_11.out.rd 1 rfl
    have r5_0 := B5_11.out.rd 0 rfl
    have r5_1 := B5_11.out.rd 1 rfl
    go_wp2_with fail
    clear ra0_0 ra0_1 r5_0 r5_1
    refine (markRows_at B6_0_ m0 _ pm0 (1) vs0 _ _ _ HPM0.out (by omega) (by omega) (by omega) (by omega) HM0.out T6_0_11.out).mono ?_
    rintro e w12 ⟨rfl, ho, hw⟩
    have s12 := ho.size
    have t12 := Lib.hid hw
    have K12 := Lib.hid (K11.out.trans (ho.below (by omega) K11.out.size))
    have Ba0_12 := Lib.hid (Ba0_11.out.only ho (by omega))
    have B5_12 := Lib.hid (B5_11.out.only ho (by omega))
    have T3_0_12 := Lib.hid (T3_0_11.out.only ho (by omega))
    have T4_12 := Lib.hid (T4_11.out.only ho (by omega))
    clear K11 Ba0_11 B5_11 T3_0_11 T4_11
    clear ho hw T6_0_11
    have ra0_0 := Ba0_12.out.rd 0 rfl
    have ra0_1 := Ba0_12.out.rd 1 rfl
    have r5_0 := B5_12.out.rd 0 rfl
    have r5_1 := B5_12.out.rd 1 rfl
    go_wp2_with fail
    clear ra0_0 ra0_1 r5_0 r5_1
    refine (heldRows_at B6_0_ m0 _ pm0 (1) vs0 _ HPM0.out (by omega) (by omega) (by omega) (by omega) HM0.out t12.out.irr).mono ?_
    rintro e w13 ⟨rfl, hx⟩
    have s13 := (hx.below (Nat.le_refl _)).size
    have K13 := Lib.hid (K12.out.trans (hx.below K12.out.size))
    have Ba0_13 := Lib.hid (Ba0_12.out.ext hx)
    have B5_13 := Lib.hid (B5_12.out.ext hx)
    have T3_0_13 := Lib.hid (T3_0_12.out.ext hx)
    have T4_13 := Lib.hid (T4_12.out.ext hx)
    have T6_0_13 := Lib.hid (t12.out.ext hx)
    clear K12 Ba0_12 B5_12 T3_0_12 T4_12 t12
    clear hx
    have ra0_0 := Ba0_13.out.rd 0 rfl
    have ra0_1 := Ba0_13.out.rd 1 rfl
    have r5_0 := B5_13.out.rd 0 rfl
    have r5_1 := B5_13.out.rd 1 rfl
    go_wp2_with fail
    clear ra0_0 ra0_1 r5_0 r5_1
    refine (HT0.out _ K13.out).mono ?_
    rintro e w14 ⟨A_14, rfl, hb, hw⟩
    have s14 := hb.size
    have t14 := Lib.hid hw.r
    have K14 := Lib.hid (K13.out.trans (hb.mono K13.out.size))
    have Ba0_14 := Lib.hid (Ba0_13.out.below hb Ba0_13.out.lt)
    have B5_14 := Lib.hid (B5_13.out.below hb B5_13.out.lt)
    have T3_0_14 := Lib.hid (T3_0_13.out.below hb)
    have T4_14 := Lib.hid (T4_13.out.below hb)
    have T6_0_14 := Lib.hid (T6_0_13.out.below hb)
    clear K13 Ba0_13 B5_13 T3_0_13 T4_13 T6_0_13
    clear hb hw
    have ra0_0 := Ba0_14.out.rd 0 rfl
    have ra0_1 := Ba0_14.out.rd 1 rfl
    have r5_0 := B5_14.out.rd 0 rfl
    have r5_1 := B5_14.out.rd 1 rfl
    go_wp2_with fail
    clear ra0_0 ra0_1 r5_0 r5_1
    refine (HI.out _ A_14 _ (Nat.le_refl _) t14.out.tr).mono ?_
    rintro e w15 ⟨B15_0_, cap15_0, rfl, hb, hw0⟩
    have s15 := hb.size
    have t15_0 := Lib.hid hw0
    have K15 := Lib.hid (K14.out.trans (hb.mono K14.out.size))
    have Ba0_15 := Lib.hid (Ba0_14.out.below hb Ba0_14.out.lt)
    have B5_15 := Lib.hid (B5_14.out.below hb B5_14.out.lt)
    have T3_0_15 := Lib.hid (T3_0_14.out.below hb)
    have T4_15 := Lib.hid (T4_14.out.below hb)
    have T6_0_15 := Lib.hid (T6_0_14.out.below hb)
    have T14_15 := Lib.hid (t14.out.below hb)
    clear K14 Ba0_14 B5_14 T3_0_14 T4_14 T6_0_14 t14
    clear hb hw0
    clear T14_15
    have ra0_0 := Ba0_15.out.rd 0 rfl
    have ra0_1 := Ba0_15.out.rd 1 rfl
    have r5_0 := B5_15.out.rd 0 rfl
    have r5_1 := B5_15.out.rd 1 rfl
    go_wp2_with fail
    clear ra0_0 ra0_1 r5_0 r5_1
    refine (eqInt64SS_any B15_0_ B3_0_ m0 m0 _ _ vs0 vs0 _ (by omega) HM0.out HM0.out HRW0.out t15_0.out.irr T3_0_15.out.irr).mono ?_
    rw [decide_eq_true (rfl : vs0 = vs0)]
    rintro e w16 ⟨rfl, hx⟩
    have s16 := (hx.below (Nat.le_refl _)).size
    have K16 := Lib.hid (K15.out.trans (hx.below K15.out.size))
    have Ba0_16 := Lib.hid (Ba0_15.out.ext hx)
    have B5_16 := Lib.hid (B5_15.out.ext hx)
    have T3_0_16 := Lib.hid (T3_0_15.out.ext hx)
    have T4_16 := Lib.hid (T4_15.out.ext hx)
    have T6_0_16 := Lib.hid (T6_0_15.out.ext hx)
    have T15_0_16 := Lib.hid (t15_0.out.ext hx)
    clear K15 Ba0_15 B5_15 T3_0_15 T4_15 T6_0_15 t15_0
    clear hx
    have ra0_0 := Ba0_16.out.rd 0 rfl
    have ra0_1 := Ba0_16.out.rd 1 rfl
    have r5_0 := B5_16.out.rd 0 rfl
    have r5_1 := B5_16.out.rd 1 rfl
    go_wp2_with fail
    clear ra0_0 ra0_1 r5_0 r5_1
    refine (heldRows_at B6_0_ m0 _ pm0 (1) vs0 _ HPM0.out (by omega) (by omega) (by omega) (by omega) HM0.out T6_0_16.out.irr).mono ?_
    rintro e w17 ⟨rfl, hx⟩
    have s17 := (hx.below (Nat.le_refl _)).size
    have K17 := Lib.hid (K16.out.trans (hx.below K16.out.size))
    have Ba0_17 := Lib.hid (Ba0_16.out.ext hx)
    have B5_17 := Lib.hid (B5_16.out.ext hx)
    have T3_0_17 := Lib.hid (T3_0_16.out.ext hx)
    have T4_17 := Lib.hid (T4_16.out.ext hx)
    have T6_0_17 := Lib.hid (T6_0_16.out.ext hx)
    have T15_0_17 := Lib.hid (T15_0_16.out.ext hx)
    clear K16 Ba0_16 B5_16 T3_0_16 T4_16 T6_0_16 T15_0_16
    clear hx
    have ra0_0 := Ba0_17.out.rd 0 rfl
    have ra0_1 := Ba0_17.out.rd 1 rfl
    have r5_0 := B5_17.out.rd 0 rfl
    have r5_1 := B5_17.out.rd 1 rfl
    go_wp2_with fail
    clear ra0_0 ra0_1 r5_0 r5_1
    go_ret
    exact ⟨rfl, K17.out⟩
theorem need_rowsW {C h : Nat} {ws : List Int} (hl : ws.length ≤ 40) (hh : h ≤ 4) : need (rowsW C h ws) ≤ 65536 := by
  have hs : ∀ l : List Int, ((rowsW C h l).map List.length).sum = l.length * h := by
    intro l
    induction l with
    | nil => simp [rowsW]
    | cons r l ih =>
      have e : rowsW C h (r :: l) = rowW C h r :: rowsW C h l := rfl
      rw [e, List.map_cons, List.sum_cons, ih, rowW_len, List.length_cons, Nat.add_mul]
      omega
  unfold need pre
  rw [List.take_length, hs, rowsW_len]
  have : ws.length * h ≤ 40 * 4 := Nat.mul_le_mul hl hh
  omega
theorem law_ColumnWords (c0 : Int) (A0 : Option Addr) (n0 q0 : Nat) (ts0 : List Tl) (i1 : Int) (w : World) (hn0 : n0 ≤ 9223372036854775807) (hl0 : ts0.length = n0) (hA0 : TR w w.heap.size A0 ts0) :
    Calls Try.prog 4 #[.agg #[.int .i64 c0, .slice A0 n0 q0], .int .i64 i1] w fun e w' => e = .returned (.bool true) ∧ Below w.heap.size w w' := by
  by_cases hz : tCode c0 ts0 i1 = 0
  · obtain ⟨hs, hh, hc7, hN, h40⟩ := tCode_zero hz
    have hcc := isSet_col hs
    obtain ⟨C, rfl⟩ : ∃ C : Nat, c0 = (C : Int) := ⟨c0.toNat, by omega⟩
    obtain ⟨h, rfl⟩ : ∃ h : Nat, i1 = (h : Int) := ⟨i1.toNat, by omega⟩
    rw [Int.toNat_natCast] at hc7 hN h40
    have hc8 : C ^ h ≤ 700 := by
      have e : ((C ^ h : Nat) : Int) = (C : Int) ^ h := by push_cast; rfl
      omega
    exact lawColumnWords_core (C : Int) A0 n0 q0 ts0 (h : Int) w hn0 hl0 hA0 (rowsW C h (wordsL (edgesL (C : Int) ts0 h))) 0 (need_rowsW h40 (by omega))
      (fun _ W B0 e0 _ hB0 => specColumnWords_0 C B0 n0 e0 ts0 h W hl0 hB0 hs (by omega) (by omega) hc8 hN h40)
      (fun _ W B0 e0 _ hB0 => implColumnWords_0 C B0 n0 e0 ts0 h W hl0 hB0 hs (by omega) (by omega) hc8 hN h40)
  · exact lawColumnWords_core c0 A0 n0 q0 ts0 i1 w hn0 hl0 hA0 [] (tCode c0 ts0 i1) (by decide)
      (fun h W B0 e0 _ hB0 => specColumnWords_no c0 B0 n0 e0 ts0 i1 W h hl0 hB0 hz)
      (fun h W B0 e0 _ hB0 => implColumnWords_no c0 B0 n0 e0 ts0 i1 W h hl0 hB0 hz)
end Go.Proofs.Ytleabblnikbmpaa
