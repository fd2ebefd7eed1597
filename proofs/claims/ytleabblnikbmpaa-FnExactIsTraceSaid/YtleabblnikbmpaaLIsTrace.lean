/- The exact law over IsTrace: walked. -/
import Derived.Test.YtleabblnikbmpaaTm3
import Derived.Test.YtleabblnikbmpaaMark2
import Derived.Test.YtleabblnikbmpaaHeld
import Derived.Test.YtleabblnikbmpaaInts
import Derived.Deep.RegionHeld3
import Derived.Deep.RegionLaw
import Derived.Deep.DeepCutAuto
namespace Go.Proofs.Ytleabblnikbmpaa
set_option linter.unusedVariables false
set_option linter.unusedSimpArgs false
open Go.RowKit Go.Sort

set_option maxRecDepth 100000 in
set_option maxHeartbeats 4000000 in
theorem lawIsTrace_core (c0 : Int) (A0 : Option Addr) (n0 q0 : Nat) (ts0 : List Tl) (i1 : Int) (A2 : Option Addr) (n2 q2 : Nat) (xs2 : List Int) (w : World) (hn0 : n0 ≤ 9223372036854775807) (hl0 : ts0.length = n0) (hA0 : TR w w.heap.size A0 ts0) (hn2 : n2 ≤ 9223372036854775807) (hl2 : xs2.length = n2) (hA2 : IR w w.heap.size A2 xs2) (r0 : Bool) (r1 : Int) 
    (hspec : n0 ≤ 1048576 ∧ n2 ≤ 1048576 → ∀ (W : World) (B0 : Option Addr) (e0 : Nat) (B2 : Option Addr) (e2 : Nat), n0 ≤ e0 → TR W W.heap.size B0 ts0 → n2 ≤ e2 → IR W W.heap.size B2 xs2 → Calls Try.prog 35 #[.agg #[.int .i64 c0, .slice B0 n0 e0], .int .i64 i1, .slice B2 n2 e2] W (fun e w' => e = .returned (.tuple #[.bool r0, .int .i64 r1]) ∧ Below W.heap.size W w'))
    (himpl : n0 ≤ 1048576 ∧ n2 ≤ 1048576 → ∀ (W : World) (B0 : Option Addr) (e0 : Nat) (B2 : Option Addr) (e2 : Nat), n0 ≤ e0 → TR W W.heap.size B0 ts0 → n2 ≤ e2 → IR W W.heap.size B2 xs2 → Calls Try.prog 37 #[.agg #[.int .i64 c0, .slice B0 n0 e0], .int .i64 i1, .slice B2 n2 e2] W (fun e w' => e = .returned (.tuple #[.bool r0, .int .i64 r1]) ∧ Below W.heap.size W w')) :
    Calls Try.prog 9 #[.agg #[.int .i64 c0, .slice A0 n0 q0], .int .i64 i1, .slice A2 n2 q2] w fun e w' => e = .returned (.bool true) ∧ Below w.heap.size w w' := by
  have hsz0 : (0 : Int) ≤ 1048576 → ∀ W, Calls Try.prog 16 #[.agg #[.int .i64 c0, .slice A0 n0 q0], .int .i64 1048576] W _ := fun h W => szSet_any c0 A0 n0 q0 1048576 W hn0 h (by omega)
  by_cases hbig2 : (1048576 : Int) < n2
  · clear hsz0
    clear hspec himpl
    go_enter Try.func9, Try.ntmps9
    go_wp2_with fail
    go_ret
    exact ⟨rfl, (((Ext.refl w).alloc _)).below (Nat.le_refl _)⟩
  · skip
    by_cases hbig0 : (1048576 : Int) < n0
    · replace hsz0 := hsz0 (by omega)
      simp only [if_pos hbig0] at hsz0
      clear hspec himpl
      go_enter Try.func9, Try.ntmps9
      go_wp2_with fail
      have hx0 : Ext w (w.alloc (Obj.cells #[.int .i64 c0, .slice A0 n0 q0] 24)) := ((Ext.refl w).alloc _)
      have b00 : Blk (w.alloc (Obj.cells #[.int .i64 c0, .slice A0 n0 q0] 24)) w.heap.size 24 #[.int .i64 c0, .slice A0 n0 q0] := (Blk.new w 24 #[.int .i64 c0, .slice A0 n0 q0])
      have s0 : w.heap.size + 1 ≤ (w.alloc (Obj.cells #[.int .i64 c0, .slice A0 n0 q0] 24)).heap.size := by simp
      have K0 := Lib.hid (hx0.below (Nat.le_refl _))
      have C00 := Lib.hid b00
      clear hx0 b00
      generalize (w.alloc (Obj.cells #[.int .i64 c0, .slice A0 n0 q0] 24)) = w0 at *
      refine (hsz0 _).mono ?_
      rintro e w1 ⟨rfl, hx⟩
      have s1 := (hx.below (Nat.le_refl _)).size
      have K1 := Lib.hid (K0.out.trans (hx.below K0.out.size))
      have Ba0_1 := Lib.hid (C00.out.ext hx)
      clear K0 C00
      clear hx
      have ra0_0 := Ba0_1.out.rd 0 rfl
      have ra0_1 := Ba0_1.out.rd 1 rfl
      go_wp2_with fail
      clear ra0_0 ra0_1
      go_ret
      exact ⟨rfl, K1.out⟩
    · skip
      replace hsz0 := hsz0 (by omega)
      simp only [if_neg hbig0] at hsz0
      have hneg0 : ¬ (1048576 - (n0 : Int) < 0) := by omega
      have hn'0 : n0 ≤ 1048576 := by omega
      have hts0 : ∀ W, Below w.heap.size w W → Calls Try.prog 18 #[.agg #[.int .i64 c0, .slice A0 n0 q0]] W _ := fun W hW => toSet_any c0 A0 n0 q0 ts0 W hn'0 hl0 ((hA0.below hW (Nat.le_refl _)).more hW.size)
      have hn'2 : n2 ≤ 1048576 := by omega
      have hts2 : ∀ W, Below w.heap.size w W → Calls Try.prog 36 #[.slice A2 n2 q2] W _ := fun W hW => toInt64S_any A2 n2 q2 xs2 W hn'2 hl2 ((hA2.below hW (Nat.le_refl _)).more hW.size)
      have HT0 := Lib.hid hts0
      have HL0 := Lib.hid hl0
      have HT2 := Lib.hid hts2
      have HL2 := Lib.hid hl2
      have HS := Lib.hid (hspec ⟨hn'0, hn'2⟩)
      have HI := Lib.hid (himpl ⟨hn'0, hn'2⟩)
      clear hspec himpl hts0 hA0 hl0 hts2 hA2 hl2
      have hcc0 : (r0 != r0) = false := by simp
      have hcc1 : (r1 != r1) = false := by simp
      go_enter Try.func9, Try.ntmps9
      go_wp2_with fail
      have hx0 : Ext w (w.alloc (Obj.cells #[.int .i64 c0, .slice A0 n0 q0] 24)) := ((Ext.refl w).alloc _)
      have b00 : Blk (w.alloc (Obj.cells #[.int .i64 c0, .slice A0 n0 q0] 24)) w.heap.size 24 #[.int .i64 c0, .slice A0 n0 q0] := (Blk.new w 24 #[.int .i64 c0, .slice A0 n0 q0])
      have s0 : w.heap.size + 1 ≤ (w.alloc (Obj.cells #[.int .i64 c0, .slice A0 n0 q0] 24)).heap.size := by simp
      have K0 := Lib.hid (hx0.below (Nat.le_refl _))
      have C00 := Lib.hid b00
      clear hx0 b00
      generalize (w.alloc (Obj.cells #[.int .i64 c0, .slice A0 n0 q0] 24)) = w0 at *
      refine (hsz0 _).mono ?_
      rintro e w1 ⟨rfl, hx⟩
      have s1 := (hx.below (Nat.le_refl _)).size
      have K1 := Lib.hid (K0.out.trans (hx.below K0.out.size))
      have Ba0_1 := Lib.hid (C00.out.ext hx)
      clear K0 C00
      clear hx
      have ra0_0 := Ba0_1.out.rd 0 rfl
      have ra0_1 := Ba0_1.out.rd 1 rfl
      go_wp2_with fail
      clear ra0_0 ra0_1
      refine (HT0.out _ K1.out).mono ?_
      rintro e w2 ⟨A_2, rfl, hb, hw⟩
      have s2 := hb.size
      have t2 := Lib.hid hw.r
      have K2 := Lib.hid (K1.out.trans (hb.mono K1.out.size))
      have Ba0_2 := Lib.hid (Ba0_1.out.below hb Ba0_1.out.lt)
      clear K1 Ba0_1
      clear hb hw
      have ra0_0 := Ba0_2.out.rd 0 rfl
      have ra0_1 := Ba0_2.out.rd 1 rfl
      go_wp2_with fail
      clear ra0_0 ra0_1
      refine (HT2.out _ K2.out).mono ?_
      rintro e w3 ⟨A_3, rfl, hb, hw⟩
      have s3 := hb.size
      have t3 := Lib.hid hw
      have K3 := Lib.hid (K2.out.trans (hb.mono K2.out.size))
      have Ba0_3 := Lib.hid (Ba0_2.out.below hb Ba0_2.out.lt)
      have T2_3 := Lib.hid (t2.out.below hb)
      clear K2 Ba0_2 t2
      clear hb hw
      have ra0_0 := Ba0_3.out.rd 0 rfl
      have ra0_1 := Ba0_3.out.rd 1 rfl
      go_wp2_with fail
      clear ra0_0 ra0_1
      refine (HS.out _ A_2 _ A_3 _ (Nat.le_refl _) T2_3.out.tr (Nat.le_refl _) t3.out.ir).mono ?_
      rintro e w4 ⟨rfl, hb⟩
      have s4 := hb.size
      have K4 := Lib.hid (K3.out.trans (hb.mono K3.out.size))
      have Ba0_4 := Lib.hid (Ba0_3.out.below hb Ba0_3.out.lt)
      have T2_4 := Lib.hid (T2_3.out.below hb)
      have T3_4 := Lib.hid (t3.out.below hb)
      clear K3 Ba0_3 T2_3 t3
      clear hb
      clear T2_4 T3_4
      have ra0_0 := Ba0_4.out.rd 0 rfl
      have ra0_1 := Ba0_4.out.rd 1 rfl
      go_wp2_with fail
      clear ra0_0 ra0_1
      refine (HT0.out _ K4.out).mono ?_
      rintro e w5 ⟨A_5, rfl, hb, hw⟩
      have s5 := hb.size
      have t5 := Lib.hid hw.r
      have K5 := Lib.hid (K4.out.trans (hb.mono K4.out.size))
      have Ba0_5 := Lib.hid (Ba0_4.out.below hb Ba0_4.out.lt)
      clear K4 Ba0_4
      clear hb hw
      have ra0_0 := Ba0_5.out.rd 0 rfl
      have qa0_0 := (Ba0_5.out.ext ((Ext.refl _).alloc (Obj.cells #[.int .i64 c0, .slice A_5 n0 n0] 30))).rd 0 rfl
      have ra0_1 := Ba0_5.out.rd 1 rfl
      have qa0_1 := (Ba0_5.out.ext ((Ext.refl _).alloc (Obj.cells #[.int .i64 c0, .slice A_5 n0 n0] 30))).rd 1 rfl
      go_wp2_with fail
      clear ra0_0 qa0_0 ra0_1 qa0_1
      have hx : Ext w5 (w5.alloc (Obj.cells #[.int .i64 c0, .slice A_5 n0 n0] 30)) := (Ext.refl _).alloc _
      have sa6 : w5.heap.size + 1 ≤ (w5.alloc (Obj.cells #[.int .i64 c0, .slice A_5 n0 n0] 30)).heap.size := by simp
      have b6 := Lib.hid (Blk.new w5 30 #[.int .i64 c0, .slice A_5 n0 n0])
      generalize w5.alloc (Obj.cells #[.int .i64 c0, .slice A_5 n0 n0] 30) = w6 at *
      have K6 := Lib.hid (K5.out.trans (hx.below K5.out.size))
      have Ba0_6 := Lib.hid (Ba0_5.out.ext hx)
      have T5_6 := Lib.hid (t5.out.ext hx)
      clear K5 Ba0_5 t5
      clear hx
      refine (HT2.out _ K6.out).mono ?_
      rintro e w7 ⟨A_7, rfl, hb, hw⟩
      have s7 := hb.size
      have t7 := Lib.hid hw
      have K7 := Lib.hid (K6.out.trans (hb.mono K6.out.size))
      have Ba0_7 := Lib.hid (Ba0_6.out.below hb Ba0_6.out.lt)
      have B6_7 := Lib.hid (b6.out.below hb b6.out.lt)
      have T5_7 := Lib.hid (T5_6.out.below hb)
      clear K6 Ba0_6 b6 T5_6
      clear hb hw
      have ra0_0 := Ba0_7.out.rd 0 rfl
      have ra0_1 := Ba0_7.out.rd 1 rfl
      have r6_0 := B6_7.out.rd 0 rfl
      have r6_1 := B6_7.out.rd 1 rfl
      go_wp2_with fail
      clear ra0_0 ra0_1 r6_0 r6_1
      refine (HI.out _ A_5 _ A_7 _ (Nat.le_refl _) T5_7.out.tr (Nat.le_refl _) t7.out.ir).mono ?_
      rintro e w8 ⟨rfl, hb⟩
      have s8 := hb.size
      have K8 := Lib.hid (K7.out.trans (hb.mono K7.out.size))
      have Ba0_8 := Lib.hid (Ba0_7.out.below hb Ba0_7.out.lt)
      have B6_8 := Lib.hid (B6_7.out.below hb B6_7.out.lt)
      have T5_8 := Lib.hid (T5_7.out.below hb)
      have T7_8 := Lib.hid (t7.out.below hb)
      clear K7 Ba0_7 B6_7 T5_7 t7
      clear hb
      have ra0_0 := Ba0_8.out.rd 0 rfl
      have ra0_1 := Ba0_8.out.rd 1 rfl
      have r6_0 := B6_8.out.rd 0 rfl
      have r6_1 := B6_8.out.rd 1 rfl
      go_wp2_with fail
      clear ra0_0 ra0_1 r6_0 r6_1
      have ra0_0 := Ba0_8.out.rd 0 rfl
      have ra0_1 := Ba0_8.out.rd 1 rfl
      have r6_0 := B6_8.out.rd 0 rfl
      have r6_1 := B6_8.out.rd 1 rfl
      go_region_held3 (fun w' => w'.cell? ⟨w.heap.size, 0, none⟩ = some (.int .i64 c0) ∧ w'.cell? ⟨w.heap.size, 1, none⟩ = some (.slice A0 n0 q0) ∧ w'.cell? ⟨w5.heap.size, 0, none⟩ = some (.int .i64 c0) ∧ w'.cell? ⟨w5.heap.size, 1, none⟩ = some (.slice A_5 n0 n0))
        (first | exact ⟨ka0_0, ka0_1, k6_0, k6_1⟩ | exact ⟨la0_0, la0_1, l6_0, l6_1⟩ | go_keep)
        (first
          | (go_at_call 18; refine (HT0.out _ K8.out.drew).mono ?_; rintro e w9 ⟨A_9, rfl, hb, hw⟩; have s9 := hb.size; simp only [World.size_drew] at s9; have t9 := Lib.hid hw.r; have K9 := Lib.hid (K8.out.drew.trans (hb.mono K8.out.size)); have Ba0_9 := Lib.hid (Blk.below (w := w8.drew) Ba0_8.out hb Ba0_8.out.lt); have B6_9 := Lib.hid (Blk.below (w := w8.drew) B6_8.out hb B6_8.out.lt); have T5_9 := Lib.hid (TWr.below (w := w8.drew) T5_8.out hb); have T7_9 := Lib.hid (IWr.below (w := w8.drew) T7_8.out hb); clear K8 Ba0_8 B6_8 T5_8 T7_8; clear hb hw; have ka0_0 := Ba0_9.out.rd 0 rfl; have ka0_1 := Ba0_9.out.rd 1 rfl; have k6_0 := B6_9.out.rd 0 rfl; have k6_1 := B6_9.out.rd 1 rfl)
          | (go_at_call 20; refine (eqSet_any c0 c0 A_5 A_9 n0 n0 _ _ ts0 ts0 _ (by omega) HL0.out HL0.out T5_9.out.tr t9.out.tr).mono ?_; rw [decide_eq_true (⟨rfl, rfl⟩ : c0 = c0 ∧ ts0 = ts0)]; rintro e w10 ⟨rfl, hx⟩; have s10 := (hx.below (Nat.le_refl _)).size; clear ka0_0 ka0_1 k6_0 k6_1; have K10 := Lib.hid (K9.out.trans (hx.below K9.out.size)); have Ba0_10 := Lib.hid (Ba0_9.out.ext hx); have B6_10 := Lib.hid (B6_9.out.ext hx); have T5_10 := Lib.hid (T5_9.out.ext hx); have T7_10 := Lib.hid (T7_9.out.ext hx); have T9_10 := Lib.hid (t9.out.ext hx); clear K9 Ba0_9 B6_9 T5_9 T7_9 t9; clear hx; have la0_0 := Ba0_10.out.rd 0 rfl; have la0_1 := Ba0_10.out.rd 1 rfl; have l6_0 := B6_10.out.rd 0 rfl; have l6_1 := B6_10.out.rd 1 rfl))
      clear la0_0 la0_1 l6_0 l6_1 ra0_0 ra0_1 r6_0 r6_1
      clear T9_10
      have ra0_0 := Ba0_10.out.rd 0 rfl
      have ra0_1 := Ba0_10.out.rd 1 rfl
      have r6_0 := B6_10.out.rd 0 rfl
      have r6_1 := B6_10.out.rd 1 rfl
      go_wp2_with fail
      clear ra0_0 ra0_1 r6_0 r6_1
      refine (HT2.out _ K10.out).mono ?_
      rintro e w11 ⟨A_11, rfl, hb, hw⟩
      have s11 := hb.size
      have t11 := Lib.hid hw
      have K11 := Lib.hid (K10.out.trans (hb.mono K10.out.size))
      have Ba0_11 := Lib.hid (Ba0_10.out.below hb Ba0_10.out.lt)
      have B6_11 := Lib.hid (B6_10.out.below hb B6_10.out.lt)
      have T5_11 := Lib.hid (T5_10.out.below hb)
      have T7_11 := Lib.hid (T7_10.out.below hb)
      clear K10 Ba0_10 B6_10 T5_10 T7_10
      clear hb hw
      have ra0_0 := Ba0_11.out.rd 0 rfl
      have ra0_1 := Ba0_11.out.rd 1 rfl
      have r6_0 := B6_11.out.rd 0 rfl
      have r6_1 := B6_11.out.rd 1 rfl
      go_wp2_with fail
      clear ra0_0 ra0_1 r6_0 r6_1
      refine (eqInt64S_any A_7 A_11 n2 n2 _ _ xs2 xs2 _ (by omega) HL2.out HL2.out T7_11.out.ir t11.out.ir).mono ?_
      rw [decide_eq_true (rfl : xs2 = xs2)]
      rintro e w12 ⟨rfl, hx⟩
      have s12 := (hx.below (Nat.le_refl _)).size
      have K12 := Lib.hid (K11.out.trans (hx.below K11.out.size))
      have Ba0_12 := Lib.hid (Ba0_11.out.ext hx)
      have B6_12 := Lib.hid (B6_11.out.ext hx)
      have T5_12 := Lib.hid (T5_11.out.ext hx)
      have T7_12 := Lib.hid (T7_11.out.ext hx)
      have T11_12 := Lib.hid (t11.out.ext hx)
      clear K11 Ba0_11 B6_11 T5_11 T7_11 t11
      clear hx
      clear T11_12
      have ra0_0 := Ba0_12.out.rd 0 rfl
      have ra0_1 := Ba0_12.out.rd 1 rfl
      have r6_0 := B6_12.out.rd 0 rfl
      have r6_1 := B6_12.out.rd 1 rfl
      go_wp2_with fail
      clear ra0_0 ra0_1 r6_0 r6_1
      go_ret
      exact ⟨rfl, K12.out⟩
theorem law_IsTrace (c0 : Int) (A0 : Option Addr) (n0 q0 : Nat) (ts0 : List Tl) (i1 : Int) (A2 : Option Addr) (n2 q2 : Nat) (xs2 : List Int) (w : World) (hn0 : n0 ≤ 9223372036854775807) (hl0 : ts0.length = n0) (hA0 : TR w w.heap.size A0 ts0) (hn2 : n2 ≤ 9223372036854775807) (hl2 : xs2.length = n2) (hA2 : IR w w.heap.size A2 xs2) :
    Calls Try.prog 9 #[.agg #[.int .i64 c0, .slice A0 n0 q0], .int .i64 i1, .slice A2 n2 q2] w fun e w' => e = .returned (.bool true) ∧ Below w.heap.size w w' := by
  by_cases hz : itCode c0 ts0 i1 xs2 = 0
  · obtain ⟨hs, h1, h3, -⟩ := tcCode_zero hz
    have hcc := isSet_col hs
    obtain ⟨C, rfl⟩ : ∃ C : Nat, c0 = (C : Int) := ⟨c0.toNat, by omega⟩
    obtain ⟨h, rfl⟩ : ∃ h : Nat, i1 = (h : Int) := ⟨i1.toNat, by omega⟩
    exact lawIsTrace_core (C : Int) A0 n0 q0 ts0 (h : Int) A2 n2 q2 xs2 w hn0 hl0 hA0 hn2 hl2 hA2 (itB C ts0 h xs2) 0
      (fun _ W B0 e0 B2 e2 _ hB0 _ hB2 => specIsTrace_0 C B0 n0 e0 ts0 h B2 n2 e2 xs2 W hl0 hB0 hl2 hB2 hz)
      (fun _ W B0 e0 B2 e2 _ hB0 _ hB2 => implIsTrace_0 C B0 n0 e0 ts0 h B2 n2 e2 xs2 W hl0 hB0 hl2 hB2 hz)
  · exact lawIsTrace_core c0 A0 n0 q0 ts0 i1 A2 n2 q2 xs2 w hn0 hl0 hA0 hn2 hl2 hA2 false (itCode c0 ts0 i1 xs2)
      (fun h W B0 e0 B2 e2 _ hB0 _ hB2 => specIsTrace_no c0 B0 n0 e0 ts0 i1 B2 n2 e2 xs2 W h.1 hl0 hB0 h.2 hl2 hB2 hz)
      (fun h W B0 e0 B2 e2 _ hB0 _ hB2 => implIsTrace_no c0 B0 n0 e0 ts0 i1 B2 n2 e2 xs2 W h.1 hl0 hB0 h.2 hl2 hB2 hz)
end Go.Proofs.Ytleabblnikbmpaa
