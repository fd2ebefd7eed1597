/- The exact law over WordsOfRow: walked. -/
import Derived.Test.YtdkodmmbgflijaaWords3
import Derived.Test.YtdkodmmbgflijaaMark2
import Derived.Deep.RegionHeld3
namespace Go.Proofs.Ytdkodmmbgflijaa
set_option linter.unusedVariables false
set_option linter.unusedSimpArgs false
open Go.RowKit Go.Sort

theorem okRow_len {c0 : Int} {ts : List Tl} {xs : List Int} (h : okRow c0 ts xs = true) : xs.length ≤ 20 := by
  simp only [okRow, isRow, Bool.and_eq_true, decide_eq_true_eq] at h
  omega
theorem wordN_len (c0 : Int) (ts : List Tl) (xs : List Int) : (wordN c0 ts xs).length ≤ 65536 := by
  unfold wordN
  by_cases h : okRow c0 ts xs = true
  · rw [if_pos h, colN_len]; have := okRow_len h; omega
  · rw [if_neg h]; simp
theorem wordS_len (c0 : Int) (ts : List Tl) (xs : List Int) : (wordS c0 ts xs).length ≤ 65536 := by
  unfold wordS
  by_cases h : okRow c0 ts xs = true
  · rw [if_pos h, colS_len]; have := okRow_len h; omega
  · rw [if_neg h]; simp

set_option maxRecDepth 100000 in
set_option maxHeartbeats 4000000 in
theorem lawWordsOfRow_core (c0 : Int) (A0 : Option Addr) (n0 q0 : Nat) (ts0 : List Tl) (A1 : Option Addr) (n1 q1 : Nat) (xs1 : List Int) (w : World) (hn0 : n0 ≤ 9223372036854775807) (hl0 : ts0.length = n0) (hA0 : TR w w.heap.size A0 ts0) (hn1 : n1 ≤ 9223372036854775807) (hl1 : xs1.length = n1) (hA1 : IR w w.heap.size A1 xs1) (ys0 : List Int) (ys1 : List Int) (r2 : Int) (hus0 : ys0.length ≤ 65536) (hus1 : ys1.length ≤ 65536)
    (hspec : n0 ≤ 1048576 ∧ n1 ≤ 1048576 → ∀ (W : World) (B0 : Option Addr) (e0 : Nat) (B1 : Option Addr) (e1 : Nat), n0 ≤ e0 → TR W W.heap.size B0 ts0 → n1 ≤ e1 → IR W W.heap.size B1 xs1 → Calls Try.prog 36 #[.agg #[.int .i64 c0, .slice B0 n0 e0], .slice B1 n1 e1] W (fun e w' => ∃ R0 p0 R1 p1, e = .returned (.tuple #[.slice R0 ys0.length p0, .slice R1 ys1.length p1, .int .i64 r2]) ∧ Below W.heap.size W w' ∧ IWr w' W.heap.size w'.heap.size R0 ys0 ∧ IWr w' W.heap.size w'.heap.size R1 ys1))
    (himpl : n0 ≤ 1048576 ∧ n1 ≤ 1048576 → ∀ (W : World) (B0 : Option Addr) (e0 : Nat) (B1 : Option Addr) (e1 : Nat), n0 ≤ e0 → TR W W.heap.size B0 ts0 → n1 ≤ e1 → IR W W.heap.size B1 xs1 → Calls Try.prog 37 #[.agg #[.int .i64 c0, .slice B0 n0 e0], .slice B1 n1 e1] W (fun e w' => ∃ R0 p0 R1 p1 mid, W.heap.size ≤ mid ∧ mid ≤ w'.heap.size ∧ e = .returned (.tuple #[.slice R0 ys0.length p0, .slice R1 ys1.length p1, .int .i64 r2]) ∧ Below W.heap.size W w' ∧ IWr w' W.heap.size mid R0 ys0 ∧ IWr w' mid w'.heap.size R1 ys1)) :
    Calls Try.prog 10 #[.agg #[.int .i64 c0, .slice A0 n0 q0], .slice A1 n1 q1] w fun e w' => e = .returned (.bool true) ∧ Below w.heap.size w w' := by
  have hsz0 : (0 : Int) ≤ 1048576 → ∀ W, Calls Try.prog 15 #[.agg #[.int .i64 c0, .slice A0 n0 q0], .int .i64 1048576] W _ := fun h W => szSet_any c0 A0 n0 q0 1048576 W hn0 h (by omega)
  by_cases hbig1 : (1048576 : Int) < n1
  · clear hsz0
    clear hspec himpl
    go_enter Try.func10, Try.ntmps10
    go_wp2_with fail
    go_ret
    exact ⟨rfl, (((Ext.refl w).alloc _)).below (Nat.le_refl _)⟩
  · skip
    by_cases hbig0 : (1048576 : Int) < n0
    · replace hsz0 := hsz0 (by omega)
      simp only [if_pos hbig0] at hsz0
      clear hspec himpl
      go_enter Try.func10, Try.ntmps10
      go_wp2_with fail
      have hx0 : Ext w (w.alloc (Obj.cells #[.int .i64 c0, .slice A0 n0 q0] 24)) := ((Ext.refl w).alloc _)
      have b00 : Blk (w.alloc (Obj.cells #[.int .i64 c0, .slice A0 n0 q0] 24)) w.heap.size 24 #[.int .i64 c0, .slice A0 n0 q0] := (Blk.new w 24 #[.int .i64 c0, .slice A0 n0 q0])
      have s0 : w.heap.size + 1 ≤ (w.alloc (Obj.cells #[.int .i64 c0, .slice A0 n0 q0] 24)).heap.size := by simp
      have K0 := Lib.hid (hx0.below (Nat.le_refl _))
      have C00 := Lib.hid b00
      clear hx0 b00
      generalize (w.alloc (Obj.cells #[.int .i64 c0, .slice A0 n0 q0] 24)) = w0 at *
      refine (hsz0 _).mono ?_
      rintro e w1 ⟨rfl, hx⟩
      have s1 := (hx.below (Nat.le_refl _)).size
      have K1 := Lib.hid (K0.out.trans (hx.below K0.out.size))
      have Ba0_1 := Lib.hid (C00.out.ext hx)
      clear K0 C00
      clear hx
      have ra0_0 := Ba0_1.out.rd 0 rfl
      have ra0_1 := Ba0_1.out.rd 1 rfl
      go_wp2_with fail
      clear ra0_0 ra0_1
      go_ret
      exact ⟨rfl, K1.out⟩
    · skip
      replace hsz0 := hsz0 (by omega)
      simp only [if_neg hbig0] at hsz0
      have hneg0 : ¬ (1048576 - (n0 : Int) < 0) := by omega
      have hn'0 : n0 ≤ 1048576 := by omega
      have hts0 : ∀ W, Below w.heap.size w W → Calls Try.prog 17 #[.agg #[.int .i64 c0, .slice A0 n0 q0]] W _ := fun W hW => toSet_any c0 A0 n0 q0 ts0 W hn'0 hl0 ((hA0.below hW (Nat.le_refl _)).more hW.size)
      have hn'1 : n1 ≤ 1048576 := by omega
      have hts1 : ∀ W, Below w.heap.size w W → Calls Try.prog 33 #[.slice A1 n1 q1] W _ := fun W hW => toInt64S_any A1 n1 q1 xs1 W hn'1 hl1 ((hA1.below hW (Nat.le_refl _)).more hW.size)
      have HT0 := Lib.hid hts0
      have HL0 := Lib.hid hl0
      have HT1 := Lib.hid hts1
      have HL1 := Lib.hid hl1
      have HS := Lib.hid (hspec ⟨hn'0, hn'1⟩)
      have HI := Lib.hid (himpl ⟨hn'0, hn'1⟩)
      clear hspec himpl hts0 hA0 hl0 hts1 hA1 hl1
      generalize hm0 : ys0.length = m0 at *
      have HM0 := Lib.hid hm0
      clear hm0
      generalize hm1 : ys1.length = m1 at *
      have HM1 := Lib.hid hm1
      clear hm1
      have hcc2 : (r2 != r2) = false := by simp
      have hkn : ¬ (1 + 4 * (n0 : Int) + (n1 : Int) < 0) := by omega
      have hkm0 : ¬ (1 + (m0 : Int) < 0) := by omega
      have hkm1 : ¬ (1 + (m0 : Int) + (m1 : Int) < 0) := by omega
      go_enter Try.func10, Try.ntmps10
      go_wp2_with fail
      have hx0 : Ext w (w.alloc (Obj.cells #[.int .i64 c0, .slice A0 n0 q0] 24)) := ((Ext.refl w).alloc _)
      have b00 : Blk (w.alloc (Obj.cells #[.int .i64 c0, .slice A0 n0 q0] 24)) w.heap.size 24 #[.int .i64 c0, .slice A0 n0 q0] := (Blk.new w 24 #[.int .i64 c0, .slice A0 n0 q0])
      have s0 : w.heap.size + 1 ≤ (w.alloc (Obj.cells #[.int .i64 c0, .slice A0 n0 q0] 24)).heap.size := by simp
      have K0 := Lib.hid (hx0.below (Nat.le_refl _))
      have C00 := Lib.hid b00
      clear hx0 b00
      generalize (w.alloc (Obj.cells #[.int .i64 c0, .slice A0 n0 q0] 24)) = w0 at *
      refine (hsz0 _).mono ?_
      rintro e w1 ⟨rfl, hx⟩
      have s1 := (hx.below (Nat.le_refl _)).size
      have K1 := Lib.hid (K0.out.trans (hx.below K0.out.size))
      have Ba0_1 := Lib.hid (C00.out.ext hx)
      clear K0 C00
      clear hx
      have ra0_0 := Ba0_1.out.rd 0 rfl
      have ra0_1 := Ba0_1.out.rd 1 rfl
      go_wp2_with fail
      clear ra0_0 ra0_1
      refine (HT0.out _ K1.out).mono ?_
      rintro e w2 ⟨A_2, rfl, hb, hw⟩
      have s2 := hb.size
      have t2 := Lib.hid hw.r
      have K2 := Lib.hid (K1.out.trans (hb.mono K1.out.size))
      have Ba0_2 := Lib.hid (Ba0_1.out.below hb Ba0_1.out.lt)
      clear K1 Ba0_1
      clear hb hw
      have ra0_0 := Ba0_2.out.rd 0 rfl
      have ra0_1 := Ba0_2.out.rd 1 rfl
      go_wp2_with fail
      clear ra0_0 ra0_1
      refine (HT1.out _ K2.out).mono ?_
      rintro e w3 ⟨A_3, rfl, hb, hw⟩
      have s3 := hb.size
      have t3 := Lib.hid hw
      have K3 := Lib.hid (K2.out.trans (hb.mono K2.out.size))
      have Ba0_3 := Lib.hid (Ba0_2.out.below hb Ba0_2.out.lt)
      have T2_3 := Lib.hid (t2.out.below hb)
      clear K2 Ba0_2 t2
      clear hb hw
      have ra0_0 := Ba0_3.out.rd 0 rfl
      have ra0_1 := Ba0_3.out.rd 1 rfl
      go_wp2_with fail
      clear ra0_0 ra0_1
      refine (HS.out _ A_2 _ A_3 _ (Nat.le_refl _) T2_3.out.tr (Nat.le_refl _) t3.out.ir).mono ?_
      rintro e w4 ⟨B4_0_, cap4_0, B4_1_, cap4_1, rfl, hb, hw0, hw1⟩
      have s4 := hb.size
      have t4_0 := Lib.hid hw0
      have t4_1 := Lib.hid hw1
      have K4 := Lib.hid (K3.out.trans (hb.mono K3.out.size))
      have Ba0_4 := Lib.hid (Ba0_3.out.below hb Ba0_3.out.lt)
      have T2_4 := Lib.hid (T2_3.out.below hb)
      have T3_4 := Lib.hid (t3.out.below hb)
      clear K3 Ba0_3 T2_3 t3
      clear hb hw0 hw1
      clear T2_4 T3_4
      have ra0_0 := Ba0_4.out.rd 0 rfl
      have ra0_1 := Ba0_4.out.rd 1 rfl
      go_wp2_with fail
      clear ra0_0 ra0_1
      refine (HT0.out _ K4.out).mono ?_
      rintro e w5 ⟨A_5, rfl, hb, hw⟩
      have s5 := hb.size
      have t5 := Lib.hid hw.r
      have K5 := Lib.hid (K4.out.trans (hb.mono K4.out.size))
      have Ba0_5 := Lib.hid (Ba0_4.out.below hb Ba0_4.out.lt)
      have T4_0_5 := Lib.hid (t4_0.out.below hb)
      have T4_1_5 := Lib.hid (t4_1.out.below hb)
      clear K4 Ba0_4 t4_0 t4_1
      clear hb hw
      have ra0_0 := Ba0_5.out.rd 0 rfl
      have ra0_1 := Ba0_5.out.rd 1 rfl
      have qa0_0 := (Ba0_5.out.ext ((Ext.refl _).alloc (Obj.cells #[.int .i64 c0, .slice A_5 n0 n0] 29))).rd 0 rfl
      have qa0_1 := (Ba0_5.out.ext ((Ext.refl _).alloc (Obj.cells #[.int .i64 c0, .slice A_5 n0 n0] 29))).rd 1 rfl
      go_wp2_with fail
      clear ra0_0 ra0_1 qa0_0 qa0_1
      have hx : Ext w5 (w5.alloc (Obj.cells #[.int .i64 c0, .slice A_5 n0 n0] 29)) := (Ext.refl _).alloc _
      have sa6 : w5.heap.size + 1 ≤ (w5.alloc (Obj.cells #[.int .i64 c0, .slice A_5 n0 n0] 29)).heap.size := by simp
      have b6 := Lib.hid (Blk.new w5 29 #[.int .i64 c0, .slice A_5 n0 n0])
      generalize w5.alloc (Obj.cells #[.int .i64 c0, .slice A_5 n0 n0] 29) = w6 at *
      have K6 := Lib.hid (K5.out.trans (hx.below K5.out.size))
      have Ba0_6 := Lib.hid (Ba0_5.out.ext hx)
      have T4_0_6 := Lib.hid (T4_0_5.out.ext hx)
      have T4_1_6 := Lib.hid (T4_1_5.out.ext hx)
      have T5_6 := Lib.hid (t5.out.ext hx)
      clear K5 Ba0_5 T4_0_5 T4_1_5 t5
      clear hx
      refine (HT1.out _ K6.out).mono ?_
      rintro e w7 ⟨A_7, rfl, hb, hw⟩
      have s7 := hb.size
      have t7 := Lib.hid hw
      have K7 := Lib.hid (K6.out.trans (hb.mono K6.out.size))
      have Ba0_7 := Lib.hid (Ba0_6.out.below hb Ba0_6.out.lt)
      have B6_7 := Lib.hid (b6.out.below hb b6.out.lt)
      have T4_0_7 := Lib.hid (T4_0_6.out.below hb)
      have T4_1_7 := Lib.hid (T4_1_6.out.below hb)
      have T5_7 := Lib.hid (T5_6.out.below hb)
      clear K6 Ba0_6 b6 T4_0_6 T4_1_6 T5_6
      clear hb hw
      have ra0_0 := Ba0_7.out.rd 0 rfl
      have ra0_1 := Ba0_7.out.rd 1 rfl
      have r6_0 := B6_7.out.rd 0 rfl
      have r6_1 := B6_7.out.rd 1 rfl
      go_wp2_with fail
      clear ra0_0 ra0_1 r6_0 r6_1
      refine (HI.out _ A_5 _ A_7 _ (Nat.le_refl _) T5_7.out.tr (Nat.le_refl _) t7.out.ir).mono ?_
      rintro e w8 ⟨B8_0_, cap8_0, B8_1_, cap8_1, mid8, hm1_8, hm2_8, rfl, hb, hw0, hw1⟩
      have s8 := hb.size
      have t8_0 := Lib.hid hw0
      have t8_1 := Lib.hid hw1
      have K8 := Lib.hid (K7.out.trans (hb.mono K7.out.size))
      have Ba0_8 := Lib.hid (Ba0_7.out.below hb Ba0_7.out.lt)
      have B6_8 := Lib.hid (B6_7.out.below hb B6_7.out.lt)
      have T4_0_8 := Lib.hid (T4_0_7.out.below hb)
      have T4_1_8 := Lib.hid (T4_1_7.out.below hb)
      have T5_8 := Lib.hid (T5_7.out.below hb)
      have T7_8 := Lib.hid (t7.out.below hb)
      clear K7 Ba0_7 B6_7 T4_0_7 T4_1_7 T5_7 t7
      clear hb hw0 hw1
      have ra0_0 := Ba0_8.out.rd 0 rfl
      have ra0_1 := Ba0_8.out.rd 1 rfl
      have r6_0 := B6_8.out.rd 0 rfl
      have r6_1 := B6_8.out.rd 1 rfl
      go_wp2_with fail
      clear ra0_0 ra0_1 r6_0 r6_1
      refine (eqInt64S_any B8_0_ B4_0_ m0 m0 _ _ ys0 ys0 _ (by omega) HM0.out HM0.out t8_0.out.ir T4_0_8.out.ir).mono ?_
      rw [decide_eq_true (rfl : ys0 = ys0)]
      rintro e w9 ⟨rfl, hx⟩
      have s9 := (hx.below (Nat.le_refl _)).size
      have K9 := Lib.hid (K8.out.trans (hx.below K8.out.size))
      have Ba0_9 := Lib.hid (Ba0_8.out.ext hx)
      have B6_9 := Lib.hid (B6_8.out.ext hx)
      have T4_0_9 := Lib.hid (T4_0_8.out.ext hx)
      have T4_1_9 := Lib.hid (T4_1_8.out.ext hx)
      have T5_9 := Lib.hid (T5_8.out.ext hx)
      have T7_9 := Lib.hid (T7_8.out.ext hx)
      have T8_0_9 := Lib.hid (t8_0.out.ext hx)
      have T8_1_9 := Lib.hid (t8_1.out.ext hx)
      clear K8 Ba0_8 B6_8 T4_0_8 T4_1_8 T5_8 T7_8 t8_0 t8_1
      clear hx
      have ra0_0 := Ba0_9.out.rd 0 rfl
      have ra0_1 := Ba0_9.out.rd 1 rfl
      have r6_0 := B6_9.out.rd 0 rfl
      have r6_1 := B6_9.out.rd 1 rfl
      go_wp2_with fail
      clear ra0_0 ra0_1 r6_0 r6_1
      refine (eqInt64S_any B8_1_ B4_1_ m1 m1 _ _ ys1 ys1 _ (by omega) HM1.out HM1.out T8_1_9.out.ir T4_1_9.out.ir).mono ?_
      rw [decide_eq_true (rfl : ys1 = ys1)]
      rintro e w10 ⟨rfl, hx⟩
      have s10 := (hx.below (Nat.le_refl _)).size
      have K10 := Lib.hid (K9.out.trans (hx.below K9.out.size))
      have Ba0_10 := Lib.hid (Ba0_9.out.ext hx)
      have B6_10 := Lib.hid (B6_9.out.ext hx)
      have T4_0_10 := Lib.hid (T4_0_9.out.ext hx)
      have T4_1_10 := Lib.hid (T4_1_9.out.ext hx)
      have T5_10 := Lib.hid (T5_9.out.ext hx)
      have T7_10 := Lib.hid (T7_9.out.ext hx)
      have T8_0_10 := Lib.hid (T8_0_9.out.ext hx)
      have T8_1_10 := Lib.hid (T8_1_9.out.ext hx)
      clear K9 Ba0_9 B6_9 T4_0_9 T4_1_9 T5_9 T7_9 T8_0_9 T8_1_9
      clear hx
      have ra0_0 := Ba0_10.out.rd 0 rfl
      have ra0_1 := Ba0_10.out.rd 1 rfl
      have r6_0 := B6_10.out.rd 0 rfl
      have r6_1 := B6_10.out.rd 1 rfl
      go_wp2_with fail
      clear ra0_0 ra0_1 r6_0 r6_1
      have ra0_0 := Ba0_10.out.rd 0 rfl
      have ra0_1 := Ba0_10.out.rd 1 rfl
      have r6_0 := B6_10.out.rd 0 rfl
      have r6_1 := B6_10.out.rd 1 rfl
      go_region_held3 (fun w' => w'.cell? ⟨w.heap.size, 0, none⟩ = some (.int .i64 c0) ∧ w'.cell? ⟨w.heap.size, 1, none⟩ = some (.slice A0 n0 q0) ∧ w'.cell? ⟨w5.heap.size, 0, none⟩ = some (.int .i64 c0) ∧ w'.cell? ⟨w5.heap.size, 1, none⟩ = some (.slice A_5 n0 n0))
        (first | exact ⟨ka0_0, ka0_1, k6_0, k6_1⟩ | exact ⟨la0_0, la0_1, l6_0, l6_1⟩ | go_keep)
        (first
          | (go_at_call 17; refine (HT0.out _ K10.out.drew).mono ?_; rintro e w11 ⟨A_11, rfl, hb, hw⟩; have s11 := hb.size; simp only [World.size_drew] at s11; have t11 := Lib.hid hw.r; have K11 := Lib.hid (K10.out.drew.trans (hb.mono K10.out.size)); have Ba0_11 := Lib.hid (Blk.below (w := w10.drew) Ba0_10.out hb Ba0_10.out.lt); have B6_11 := Lib.hid (Blk.below (w := w10.drew) B6_10.out hb B6_10.out.lt); have T4_0_11 := Lib.hid (IWr.below (w := w10.drew) T4_0_10.out hb); have T4_1_11 := Lib.hid (IWr.below (w := w10.drew) T4_1_10.out hb); have T5_11 := Lib.hid (TWr.below (w := w10.drew) T5_10.out hb); have T7_11 := Lib.hid (IWr.below (w := w10.drew) T7_10.out hb); have T8_0_11 := Lib.hid (IWr.below (w := w10.drew) T8_0_10.out hb); have T8_1_11 := Lib.hid (IWr.below (w := w10.drew) T8_1_10.out hb); clear K10 Ba0_10 B6_10 T4_0_10 T4_1_10 T5_10 T7_10 T8_0_10 T8_1_10; clear hb hw; have ka0_0 := Ba0_11.out.rd 0 rfl; have ka0_1 := Ba0_11.out.rd 1 rfl; have k6_0 := B6_11.out.rd 0 rfl; have k6_1 := B6_11.out.rd 1 rfl)
          | (go_at_call 19; refine (eqSet_any c0 c0 A_5 A_11 n0 n0 _ _ ts0 ts0 _ (by omega) HL0.out HL0.out T5_11.out.tr t11.out.tr).mono ?_; rw [decide_eq_true (⟨rfl, rfl⟩ : c0 = c0 ∧ ts0 = ts0)]; rintro e w12 ⟨rfl, hx⟩; have s12 := (hx.below (Nat.le_refl _)).size; clear ka0_0 ka0_1 k6_0 k6_1; have K12 := Lib.hid (K11.out.trans (hx.below K11.out.size)); have Ba0_12 := Lib.hid (Ba0_11.out.ext hx); have B6_12 := Lib.hid (B6_11.out.ext hx); have T4_0_12 := Lib.hid (T4_0_11.out.ext hx); have T4_1_12 := Lib.hid (T4_1_11.out.ext hx); have T5_12 := Lib.hid (T5_11.out.ext hx); have T7_12 := Lib.hid (T7_11.out.ext hx); have T8_0_12 := Lib.hid (T8_0_11.out.ext hx); have T8_1_12 := Lib.hid (T8_1_11.out.ext hx); have T11_12 := Lib.hid (t11.out.ext hx); clear K11 Ba0_11 B6_11 T4_0_11 T4_1_11 T5_11 T7_11 T8_0_11 T8_1_11 t11; clear hx; have la0_0 := Ba0_12.out.rd 0 rfl; have la0_1 := Ba0_12.out.rd 1 rfl; have l6_0 := B6_12.out.rd 0 rfl; have l6_1 := B6_12.out.rd 1 rfl))
      clear la0_0 la0_1 l6_0 l6_1 ra0_0 ra0_1 r6_0 r6_1
      clear T11_12
      have ra0_0 := Ba0_12.out.rd 0 rfl
      have ra0_1 := Ba0_12.out.rd 1 rfl
      have r6_0 := B6_12.out.rd 0 rfl
      have r6_1 := B6_12.out.rd 1 rfl
      go_wp2_with fail
      clear ra0_0 ra0_1 r6_0 r6_1
      refine (HT1.out _ K12.out).mono ?_
      rintro e w13 ⟨A_13, rfl, hb, hw⟩
      have s13 := hb.size
      have t13 := Lib.hid hw
      have K13 := Lib.hid (K12.out.trans (hb.mono K12.out.size))
      have Ba0_13 := Lib.hid (Ba0_12.out.below hb Ba0_12.out.lt)
      have B6_13 := Lib.hid (B6_12.out.below hb B6_12.out.lt)
      have T4_0_13 := Lib.hid (T4_0_12.out.below hb)
      have T4_1_13 := Lib.hid (T4_1_12.out.below hb)
      have T5_13 := Lib.hid (T5_12.out.below hb)
      have T7_13 := Lib.hid (T7_12.out.below hb)
      have T8_0_13 := Lib.hid (T8_0_12.out.below hb)
      have T8_1_13 := Lib.hid (T8_1_12.out.below hb)
      clear K12 Ba0_12 B6_12 T4_0_12 T4_1_12 T5_12 T7_12 T8_0_12 T8_1_12
      clear hb hw
      have ra0_0 := Ba0_13.out.rd 0 rfl
      have ra0_1 := Ba0_13.out.rd 1 rfl
      have r6_0 := B6_13.out.rd 0 rfl
      have r6_1 := B6_13.out.rd 1 rfl
      go_wp2_with fail
      clear ra0_0 ra0_1 r6_0 r6_1
      refine (eqInt64S_any A_7 A_13 n1 n1 _ _ xs1 xs1 _ (by omega) HL1.out HL1.out T7_13.out.ir t13.out.ir).mono ?_
      rw [decide_eq_true (rfl : xs1 = xs1)]
      rintro e w14 ⟨rfl, hx⟩
      have s14 := (hx.below (Nat.le_refl _)).size
      have K14 := Lib.hid (K13.out.trans (hx.below K13.out.size))
      have Ba0_14 := Lib.hid (Ba0_13.out.ext hx)
      have B6_14 := Lib.hid (B6_13.out.ext hx)
      have T4_0_14 := Lib.hid (T4_0_13.out.ext hx)
      have T4_1_14 := Lib.hid (T4_1_13.out.ext hx)
      have T5_14 := Lib.hid (T5_13.out.ext hx)
      have T7_14 := Lib.hid (T7_13.out.ext hx)
      have T8_0_14 := Lib.hid (T8_0_13.out.ext hx)
      have T8_1_14 := Lib.hid (T8_1_13.out.ext hx)
      have T13_14 := Lib.hid (t13.out.ext hx)
      clear K13 Ba0_13 B6_13 T4_0_13 T4_1_13 T5_13 T7_13 T8_0_13 T8_1_13 t13
      clear hx
      clear T13_14
      have ra0_0 := Ba0_14.out.rd 0 rfl
      have ra0_1 := Ba0_14.out.rd 1 rfl
      have r6_0 := B6_14.out.rd 0 rfl
      have r6_1 := B6_14.out.rd 1 rfl
      go_wp2_with fail
      clear ra0_0 ra0_1 r6_0 r6_1
      refine (markSet_at c0 A_5 n0 _ (1) ts0 _ _ _ (by omega) (by omega) (by omega) HL0.out T5_14.out).mono ?_
      rintro e w15 ⟨rfl, ho, hw⟩
      have s15 := ho.size
      have t15 := Lib.hid hw
      have K15 := Lib.hid (K14.out.trans (ho.below (by omega) K14.out.size))
      have Ba0_15 := Lib.hid (Ba0_14.out.only ho (by omega))
      have B6_15 := Lib.hid (B6_14.out.only ho (by omega))
      have T4_0_15 := Lib.hid (T4_0_14.out.only ho (by omega))
      have T4_1_15 := Lib.hid (T4_1_14.out.only ho (by omega))
      have T7_15 := Lib.hid (T7_14.out.only ho (by omega))
      have T8_0_15 := Lib.hid (T8_0_14.out.only ho (by omega))
      have T8_1_15 := Lib.hid (T8_1_14.out.only ho (by omega))
      clear K14 Ba0_14 B6_14 T4_0_14 T4_1_14 T7_14 T8_0_14 T8_1_14
      clear ho hw T5_14
      have ra0_0 := Ba0_15.out.rd 0 rfl
      have ra0_1 := Ba0_15.out.rd 1 rfl
      have r6_0 := B6_15.out.rd 0 rfl
      have r6_1 := B6_15.out.rd 1 rfl
      go_wp2_with fail
      clear ra0_0 ra0_1 r6_0 r6_1
      refine (markInt64S_any A_7 n1 _ (1 + 4 * (n0 : Int)) xs1 _ _ _ (by omega) (by omega) (by omega) HL1.out T7_15.out).mono ?_
      rintro e w16 ⟨rfl, ho, hw⟩
      have s16 := ho.size
      have t16 := Lib.hid hw
      have K16 := Lib.hid (K15.out.trans (ho.below (by omega) K15.out.size))
      have Ba0_16 := Lib.hid (Ba0_15.out.only ho (by omega))
      have B6_16 := Lib.hid (B6_15.out.only ho (by omega))
      have T4_0_16 := Lib.hid (T4_0_15.out.only ho (by omega))
      have T4_1_16 := Lib.hid (T4_1_15.out.only ho (by omega))
      have T5_16 := Lib.hid (t15.out.only ho (by omega))
      have T8_0_16 := Lib.hid (T8_0_15.out.only ho (by omega))
      have T8_1_16 := Lib.hid (T8_1_15.out.only ho (by omega))
      clear K15 Ba0_15 B6_15 T4_0_15 T4_1_15 t15 T8_0_15 T8_1_15
      clear ho hw T7_15
      have ra0_0 := Ba0_16.out.rd 0 rfl
      have ra0_1 := Ba0_16.out.rd 1 rfl
      have r6_0 := B6_16.out.rd 0 rfl
      have r6_1 := B6_16.out.rd 1 rfl
      go_wp2_with fail
      clear ra0_0 ra0_1 r6_0 r6_1
      refine (eqInt64S_any B8_0_ B4_0_ m0 m0 _ _ ys0 ys0 _ (by omega) HM0.out HM0.out T8_0_16.out.ir T4_0_16.out.ir).mono ?_
      rw [decide_eq_true (rfl : ys0 = ys0)]
      rintro e w17 ⟨rfl, hx⟩
      have s17 := (hx.below (Nat.le_refl _)).size
      have K17 := Lib.hid (K16.out.trans (hx.below K16.out.size))
      have Ba0_17 := Lib.hid (Ba0_16.out.ext hx)
      have B6_17 := Lib.hid (B6_16.out.ext hx)
      have T4_0_17 := Lib.hid (T4_0_16.out.ext hx)
      have T4_1_17 := Lib.hid (T4_1_16.out.ext hx)
      have T5_17 := Lib.hid (T5_16.out.ext hx)
      have T7_17 := Lib.hid (t16.out.ext hx)
      have T8_0_17 := Lib.hid (T8_0_16.out.ext hx)
      have T8_1_17 := Lib.hid (T8_1_16.out.ext hx)
      clear K16 Ba0_16 B6_16 T4_0_16 T4_1_16 T5_16 t16 T8_0_16 T8_1_16
      clear hx
      have ra0_0 := Ba0_17.out.rd 0 rfl
      have ra0_1 := Ba0_17.out.rd 1 rfl
      have r6_0 := B6_17.out.rd 0 rfl
      have r6_1 := B6_17.out.rd 1 rfl
      go_wp2_with fail
      clear ra0_0 ra0_1 r6_0 r6_1
      refine (eqInt64S_any B8_1_ B4_1_ m1 m1 _ _ ys1 ys1 _ (by omega) HM1.out HM1.out T8_1_17.out.ir T4_1_17.out.ir).mono ?_
      rw [decide_eq_true (rfl : ys1 = ys1)]
      rintro e w18 ⟨rfl, hx⟩
      have s18 := (hx.below (Nat.le_refl _)).size
      have K18 := Lib.hid (K17.out.trans (hx.below K17.out.size))
      have Ba0_18 := Lib.hid (Ba0_17.out.ext hx)
      have B6_18 := Lib.hid (B6_17.out.ext hx)
      have T4_0_18 := Lib.hid (T4_0_17.out.ext hx)
      have T4_1_18 := Lib.hid (T4_1_17.out.ext hx)
      have T5_18 := Lib.hid (T5_17.out.ext hx)
      have T7_18 := Lib.hid (T7_17.out.ext hx)
      have T8_0_18 := Lib.hid (T8_0_17.out.ext hx)
      have T8_1_18 := Lib.hid (T8_1_17.out.ext hx)
      clear K17 Ba0_17 B6_17 T4_0_17 T4_1_17 T5_17 T7_17 T8_0_17 T8_1_17
      clear hx
      have ra0_0 := Ba0_18.out.rd 0 rfl
      have ra0_1 := Ba0_18.out.rd 1 rfl
      have r6_0 := B6_18.out.rd 0 rfl
      have r6_1 := B6_18.out.rd 1 rfl
      go_wp2_with fail
      clear ra0_0 ra0_1 r6_0 r6_1
      refine (markInt64S_any B8_0_ m0 _ (1) ys0 _ _ _ (by omega) (by omega) (by omega) HM0.out T8_0_18.out).mono ?_
      rintro e w19 ⟨rfl, ho, hw⟩
      have s19 := ho.size
      have t19 := Lib.hid hw
      have K19 := Lib.hid (K18.out.trans (ho.below (by omega) K18.out.size))
      have Ba0_19 := Lib.hid (Ba0_18.out.only ho (by omega))
      have B6_19 := Lib.hid (B6_18.out.only ho (by omega))
      have T4_0_19 := Lib.hid (T4_0_18.out.only ho (by omega))
      have T4_1_19 := Lib.hid (T4_1_18.out.only ho (by omega))
      have T5_19 := Lib.hid (T5_18.out.only ho (by omega))
      have T7_19 := Lib.hid (T7_18.out.only ho (by omega))
      have T8_1_19 := Lib.hid (T8_1_18.out.only ho (by omega))
      clear K18 Ba0_18 B6_18 T4_0_18 T4_1_18 T5_18 T7_18 T8_1_18
      clear ho hw T8_0_18
      have ra0_0 := Ba0_19.out.rd 0 rfl
      have ra0_1 := Ba0_19.out.rd 1 rfl
      have r6_0 := B6_19.out.rd 0 rfl
      have r6_1 := B6_19.out.rd 1 rfl
      go_wp2_with fail
      clear ra0_0 ra0_1 r6_0 r6_1
      refine (markInt64S_any B8_1_ m1 _ (1 + (m0 : Int)) ys1 _ _ _ (by omega) (by omega) (by omega) HM1.out T8_1_19.out).mono ?_
      rintro e w20 ⟨rfl, ho, hw⟩
      have s20 := ho.size
      have t20 := Lib.hid hw
      have K20 := Lib.hid (K19.out.trans (ho.below (by omega) K19.out.size))
      have Ba0_20 := Lib.hid (Ba0_19.out.only ho (by omega))
      have B6_20 := Lib.hid (B6_19.out.only ho (by omega))
      have T4_0_20 := Lib.hid (T4_0_19.out.only ho (by omega))
      have T4_1_20 := Lib.hid (T4_1_19.out.only ho (by omega))
      have T5_20 := Lib.hid (T5_19.out.only ho (by omega))
      have T7_20 := Lib.hid (T7_19.out.only ho (by omega))
      have T8_0_20 := Lib.hid (t19.out.only ho (by omega))
      clear K19 Ba0_19 B6_19 T4_0_19 T4_1_19 T5_19 T7_19 t19
      clear ho hw T8_1_19
      have ra0_0 := Ba0_20.out.rd 0 rfl
      have ra0_1 := Ba0_20.out.rd 1 rfl
      have r6_0 := B6_20.out.rd 0 rfl
      have r6_1 := B6_20.out.rd 1 rfl
      go_wp2_with fail
      clear ra0_0 ra0_1 r6_0 r6_1
      refine (heldInt64S_any B8_0_ m0 _ (1) _ (by omega) (by omega) (by omega) T8_0_20.out.ir).mono ?_
      rintro e w21 ⟨rfl, hx⟩
      have s21 := (hx.below (Nat.le_refl _)).size
      have K21 := Lib.hid (K20.out.trans (hx.below K20.out.size))
      have Ba0_21 := Lib.hid (Ba0_20.out.ext hx)
      have B6_21 := Lib.hid (B6_20.out.ext hx)
      have T4_0_21 := Lib.hid (T4_0_20.out.ext hx)
      have T4_1_21 := Lib.hid (T4_1_20.out.ext hx)
      have T5_21 := Lib.hid (T5_20.out.ext hx)
      have T7_21 := Lib.hid (T7_20.out.ext hx)
      have T8_0_21 := Lib.hid (T8_0_20.out.ext hx)
      have T8_1_21 := Lib.hid (t20.out.ext hx)
      clear K20 Ba0_20 B6_20 T4_0_20 T4_1_20 T5_20 T7_20 T8_0_20 t20
      clear hx
      have ra0_0 := Ba0_21.out.rd 0 rfl
      have ra0_1 := Ba0_21.out.rd 1 rfl
      have r6_0 := B6_21.out.rd 0 rfl
      have r6_1 := B6_21.out.rd 1 rfl
      go_wp2_with fail
      clear ra0_0 ra0_1 r6_0 r6_1
      refine (heldInt64S_any B8_1_ m1 _ (1 + (m0 : Int)) _ (by omega) (by omega) (by omega) T8_1_21.out.ir).mono ?_
      rintro e w22 ⟨rfl, hx⟩
      have s22 := (hx.below (Nat.le_refl _)).size
      have K22 := Lib.hid (K21.out.trans (hx.below K21.out.size))
      have Ba0_22 := Lib.hid (Ba0_21.out.ext hx)
      have B6_22 := Lib.hid (B6_21.out.ext hx)
      have T4_0_22 := Lib.hid (T4_0_21.out.ext hx)
      have T4_1_22 := Lib.hid (T4_1_21.out.ext hx)
      have T5_22 := Lib.hid (T5_21.out.ext hx)
      have T7_22 := Lib.hid (T7_21.out.ext hx)
      have T8_0_22 := Lib.hid (T8_0_21.out.ext hx)
      have T8_1_22 := Lib.hid (T8_1_21.out.ext hx)
      clear K21 Ba0_21 B6_21 T4_0_21 T4_1_21 T5_21 T7_21 T8_0_21 T8_1_21
      clear hx
      have ra0_0 := Ba0_22.out.rd 0 rfl
      have ra0_1 := Ba0_22.out.rd 1 rfl
      have r6_0 := B6_22.out.rd 0 rfl
      have r6_1 := B6_22.out.rd 1 rfl
      go_wp2_with fail
      clear ra0_0 ra0_1 r6_0 r6_1
      refine (HT0.out _ K22.out).mono ?_
      rintro e w23 ⟨A_23, rfl, hb, hw⟩
      have s23 := hb.size
      have t23 := Lib.hid hw.r
      have K23 := Lib.hid (K22.out.trans (hb.mono K22.out.size))
      have Ba0_23 := Lib.hid (Ba0_22.out.below hb Ba0_22.out.lt)
      have B6_23 := Lib.hid (B6_22.out.below hb B6_22.out.lt)
      have T4_0_23 := Lib.hid (T4_0_22.out.below hb)
      have T4_1_23 := Lib.hid (T4_1_22.out.below hb)
      have T5_23 := Lib.hid (T5_22.out.below hb)
      have T7_23 := Lib.hid (T7_22.out.below hb)
      have T8_0_23 := Lib.hid (T8_0_22.out.below hb)
      have T8_1_23 := Lib.hid (T8_1_22.out.below hb)
      clear K22 Ba0_22 B6_22 T4_0_22 T4_1_22 T5_22 T7_22 T8_0_22 T8_1_22
      clear hb hw
      have ra0_0 := Ba0_23.out.rd 0 rfl
      have ra0_1 := Ba0_23.out.rd 1 rfl
      have r6_0 := B6_23.out.rd 0 rfl
      have r6_1 := B6_23.out.rd 1 rfl
      go_wp2_with fail
      clear ra0_0 ra0_1 r6_0 r6_1
      refine (HT1.out _ K23.out).mono ?_
      rintro e w24 ⟨A_24, rfl, hb, hw⟩
      have s24 := hb.size
      have t24 := Lib.hid hw
      have K24 := Lib.hid (K23.out.trans (hb.mono K23.out.size))
      have Ba0_24 := Lib.hid (Ba0_23.out.below hb Ba0_23.out.lt)
      have B6_24 := Lib.hid (B6_23.out.below hb B6_23.out.lt)
      have T4_0_24 := Lib.hid (T4_0_23.out.below hb)
      have T4_1_24 := Lib.hid (T4_1_23.out.below hb)
      have T5_24 := Lib.hid (T5_23.out.below hb)
      have T7_24 := Lib.hid (T7_23.out.below hb)
      have T8_0_24 := Lib.hid (T8_0_23.out.below hb)
      have T8_1_24 := Lib.hid (T8_1_23.out.below hb)
      have T23_24 := Lib.hid (t23.out.below hb)
      clear K23 Ba0_23 B6_23 T4_0_23 T4_1_23 T5_23 T7_23 T8_0_23 T8_1_23 t23
      clear hb hw
      have ra0_0 := Ba0_24.out.rd 0 rfl
      have ra0_1 := Ba0_24.out.rd 1 rfl
      have r6_0 := B6_24.out.rd 0 rfl
      have r6_1 := B6_24.out.rd 1 rfl
      go_wp2_with fail
      clear ra0_0 ra0_1 r6_0 r6_1
      refine (HI.out _ A_23 _ A_24 _ (Nat.le_refl _) T23_24.out.tr (Nat.le_refl _) t24.out.ir).mono ?_
      rintro e w25 ⟨B25_0_, cap25_0, B25_1_, cap25_1, mid25, hm1_25, hm2_25, rfl, hb, hw0, hw1⟩
      have s25 := hb.size
      have t25_0 := Lib.hid hw0
      have t25_1 := Lib.hid hw1
      have K25 := Lib.hid (K24.out.trans (hb.mono K24.out.size))
      have Ba0_25 := Lib.hid (Ba0_24.out.below hb Ba0_24.out.lt)
      have B6_25 := Lib.hid (B6_24.out.below hb B6_24.out.lt)
      have T4_0_25 := Lib.hid (T4_0_24.out.below hb)
      have T4_1_25 := Lib.hid (T4_1_24.out.below hb)
      have T5_25 := Lib.hid (T5_24.out.below hb)
      have T7_25 := Lib.hid (T7_24.out.below hb)
      have T8_0_25 := Lib.hid (T8_0_24.out.below hb)
      have T8_1_25 := Lib.hid (T8_1_24.out.below hb)
      have T23_25 := Lib.hid (T23_24.out.below hb)
      have T24_25 := Lib.hid (t24.out.below hb)
      clear K24 Ba0_24 B6_24 T4_0_24 T4_1_24 T5_24 T7_24 T8_0_24 T8_1_24 T23_24 t24
      clear hb hw0 hw1
      clear T23_25 T24_25
      have ra0_0 := Ba0_25.out.rd 0 rfl
      have ra0_1 := Ba0_25.out.rd 1 rfl
      have r6_0 := B6_25.out.rd 0 rfl
      have r6_1 := B6_25.out.rd 1 rfl
      go_wp2_with fail
      clear ra0_0 ra0_1 r6_0 r6_1
      refine (eqInt64S_any B25_0_ B4_0_ m0 m0 _ _ ys0 ys0 _ (by omega) HM0.out HM0.out t25_0.out.ir T4_0_25.out.ir).mono ?_
      rw [decide_eq_true (rfl : ys0 = ys0)]
      rintro e w26 ⟨rfl, hx⟩
      have s26 := (hx.below (Nat.le_refl _)).size
      have K26 := Lib.hid (K25.out.trans (hx.below K25.out.size))
      have Ba0_26 := Lib.hid (Ba0_25.out.ext hx)
      have B6_26 := Lib.hid (B6_25.out.ext hx)
      have T4_0_26 := Lib.hid (T4_0_25.out.ext hx)
      have T4_1_26 := Lib.hid (T4_1_25.out.ext hx)
      have T5_26 := Lib.hid (T5_25.out.ext hx)
      have T7_26 := Lib.hid (T7_25.out.ext hx)
      have T8_0_26 := Lib.hid (T8_0_25.out.ext hx)
      have T8_1_26 := Lib.hid (T8_1_25.out.ext hx)
      have T25_0_26 := Lib.hid (t25_0.out.ext hx)
      have T25_1_26 := Lib.hid (t25_1.out.ext hx)
      clear K25 Ba0_25 B6_25 T4_0_25 T4_1_25 T5_25 T7_25 T8_0_25 T8_1_25 t25_0 t25_1
      clear hx
      have ra0_0 := Ba0_26.out.rd 0 rfl
      have ra0_1 := Ba0_26.out.rd 1 rfl
      have r6_0 := B6_26.out.rd 0 rfl
      have r6_1 := B6_26.out.rd 1 rfl
      go_wp2_with fail
      clear ra0_0 ra0_1 r6_0 r6_1
      refine (eqInt64S_any B25_1_ B4_1_ m1 m1 _ _ ys1 ys1 _ (by omega) HM1.out HM1.out T25_1_26.out.ir T4_1_26.out.ir).mono ?_
      rw [decide_eq_true (rfl : ys1 = ys1)]
      rintro e w27 ⟨rfl, hx⟩
      have s27 := (hx.below (Nat.le_refl _)).size
      have K27 := Lib.hid (K26.out.trans (hx.below K26.out.size))
      have Ba0_27 := Lib.hid (Ba0_26.out.ext hx)
      have B6_27 := Lib.hid (B6_26.out.ext hx)
      have T4_0_27 := Lib.hid (T4_0_26.out.ext hx)
      have T4_1_27 := Lib.hid (T4_1_26.out.ext hx)
      have T5_27 := Lib.hid (T5_26.out.ext hx)
      have T7_27 := Lib.hid (T7_26.out.ext hx)
      have T8_0_27 := Lib.hid (T8_0_26.out.ext hx)
      have T8_1_27 := Lib.hid (T8_1_26.out.ext hx)
      have T25_0_27 := Lib.hid (T25_0_26.out.ext hx)
      have T25_1_27 := Lib.hid (T25_1_26.out.ext hx)
      clear K26 Ba0_26 B6_26 T4_0_26 T4_1_26 T5_26 T7_26 T8_0_26 T8_1_26 T25_0_26 T25_1_26
      clear hx
      have ra0_0 := Ba0_27.out.rd 0 rfl
      have ra0_1 := Ba0_27.out.rd 1 rfl
      have r6_0 := B6_27.out.rd 0 rfl
      have r6_1 := B6_27.out.rd 1 rfl
      go_wp2_with fail
      clear ra0_0 ra0_1 r6_0 r6_1
      refine (heldInt64S_any B8_0_ m0 _ (1) _ (by omega) (by omega) (by omega) T8_0_27.out.ir).mono ?_
      rintro e w28 ⟨rfl, hx⟩
      have s28 := (hx.below (Nat.le_refl _)).size
      have K28 := Lib.hid (K27.out.trans (hx.below K27.out.size))
      have Ba0_28 := Lib.hid (Ba0_27.out.ext hx)
      have B6_28 := Lib.hid (B6_27.out.ext hx)
      have T4_0_28 := Lib.hid (T4_0_27.out.ext hx)
      have T4_1_28 := Lib.hid (T4_1_27.out.ext hx)
      have T5_28 := Lib.hid (T5_27.out.ext hx)
      have T7_28 := Lib.hid (T7_27.out.ext hx)
      have T8_0_28 := Lib.hid (T8_0_27.out.ext hx)
      have T8_1_28 := Lib.hid (T8_1_27.out.ext hx)
      have T25_0_28 := Lib.hid (T25_0_27.out.ext hx)
      have T25_1_28 := Lib.hid (T25_1_27.out.ext hx)
      clear K27 Ba0_27 B6_27 T4_0_27 T4_1_27 T5_27 T7_27 T8_0_27 T8_1_27 T25_0_27 T25_1_27
      clear hx
      have ra0_0 := Ba0_28.out.rd 0 rfl
      have ra0_1 := Ba0_28.out.rd 1 rfl
      have r6_0 := B6_28.out.rd 0 rfl
      have r6_1 := B6_28.out.rd 1 rfl
      go_wp2_with fail
      clear ra0_0 ra0_1 r6_0 r6_1
      refine (heldInt64S_any B8_1_ m1 _ (1 + (m0 : Int)) _ (by omega) (by omega) (by omega) T8_1_28.out.ir).mono ?_
      rintro e w29 ⟨rfl, hx⟩
      have s29 := (hx.below (Nat.le_refl _)).size
      have K29 := Lib.hid (K28.out.trans (hx.below K28.out.size))
      have Ba0_29 := Lib.hid (Ba0_28.out.ext hx)
      have B6_29 := Lib.hid (B6_28.out.ext hx)
      have T4_0_29 := Lib.hid (T4_0_28.out.ext hx)
      have T4_1_29 := Lib.hid (T4_1_28.out.ext hx)
      have T5_29 := Lib.hid (T5_28.out.ext hx)
      have T7_29 := Lib.hid (T7_28.out.ext hx)
      have T8_0_29 := Lib.hid (T8_0_28.out.ext hx)
      have T8_1_29 := Lib.hid (T8_1_28.out.ext hx)
      have T25_0_29 := Lib.hid (T25_0_28.out.ext hx)
      have T25_1_29 := Lib.hid (T25_1_28.out.ext hx)
      clear K28 Ba0_28 B6_28 T4_0_28 T4_1_28 T5_28 T7_28 T8_0_28 T8_1_28 T25_0_28 T25_1_28
      clear hx
      have ra0_0 := Ba0_29.out.rd 0 rfl
      have ra0_1 := Ba0_29.out.rd 1 rfl
      have r6_0 := B6_29.out.rd 0 rfl
      have r6_1 := B6_29.out.rd 1 rfl
      go_wp2_with fail
      clear ra0_0 ra0_1 r6_0 r6_1
      go_ret
      exact ⟨rfl, K29.out⟩

theorem law_words (c0 : Int) (A0 : Option Addr) (n0 q0 : Nat) (ts0 : List Tl) (A1 : Option Addr) (n1 q1 : Nat) (xs1 : List Int) (w : World)
    (hn0 : n0 ≤ 9223372036854775807) (hl0 : ts0.length = n0) (hA0 : TR w w.heap.size A0 ts0) (hn1 : n1 ≤ 9223372036854775807) (hl1 : xs1.length = n1) (hA1 : IR w w.heap.size A1 xs1) :
    Calls Try.prog 10 #[.agg #[.int .i64 c0, .slice A0 n0 q0], .slice A1 n1 q1] w fun e w' => e = .returned (.bool true) ∧ Below w.heap.size w w' :=
  lawWordsOfRow_core c0 A0 n0 q0 ts0 A1 n1 q1 xs1 w hn0 hl0 hA0 hn1 hl1 hA1 (wordN c0 ts0 xs1) (wordS c0 ts0 xs1) _ (wordN_len c0 ts0 xs1) (wordS_len c0 ts0 xs1)
    (fun h W B0 e0 B1 e1 _ hB0 h1 hB1 => specWords_any c0 B0 n0 e0 ts0 B1 n1 e1 xs1 W h.1 hl0 hB0 h.2 hl1 hB1)
    (fun h W B0 e0 B1 e1 _ hB0 h1 hB1 => implWords_any c0 B0 n0 e0 ts0 B1 n1 e1 xs1 W h.1 hl0 hB0 h.2 h1 hl1 hB1)
end Go.Proofs.Ytdkodmmbgflijaa
