/- The exact law over CornerPeriod: walked. -/
import Derived.Test.YtnmgkchkbchfaaaBkD
import Derived.Test.YtnmgkchkbchfaaaRs2
import Derived.Test.YtnmgkchkbchfaaaMark2
import Derived.Test.YtnmgkchkbchfaaaHeld
import Derived.Test.YtnmgkchkbchfaaaInts
import Derived.Deep.RegionHeld3
import Derived.Deep.RegionLaw
import Derived.Deep.DeepCutAuto
namespace Go.Proofs.Ytnmgkchkbchfaaa
set_option linter.unusedVariables false
set_option linter.unusedSimpArgs false
open Go.RowKit Go.Sort

set_option maxRecDepth 100000 in
set_option maxHeartbeats 4000000 in
theorem lawCornerPeriod_core (c0 : Int) (A0 : Option Addr) (n0 q0 : Nat) (ts0 : List Tl) (A1 : Option Addr) (n1 q1 : Nat) (rs1 : List (List Int)) (i2 : Int) (w : World) (hn0 : n0 ≤ 9223372036854775807) (hl0 : ts0.length = n0) (hA0 : TR w w.heap.size A0 ts0) (hn1 : n1 ≤ 9223372036854775807) (hl1 : rs1.length = n1) (hr1 : ∀ k, k < n1 → (rs1.getD k []).length ≤ 9223372036854775807) (hA1 : IRR w w.heap.size A1 rs1) (r0 : Int) (r1 : Int) (r2 : Int) 
    (hspec : n0 ≤ 1048576 ∧ n1 ≤ 1048576 ∧ (∀ k, k < n1 → (rs1.getD k []).length ≤ 1048576) → ∀ (W : World) (B0 : Option Addr) (e0 : Nat) (B1 : Option Addr) (e1 : Nat), n0 ≤ e0 → TR W W.heap.size B0 ts0 → n1 ≤ e1 → IRR W W.heap.size B1 rs1 → Calls Try.prog 42 #[.agg #[.int .i64 c0, .slice B0 n0 e0], .slice B1 n1 e1, .int .i64 i2] W (fun e w' => e = .returned (.tuple #[.int .i64 r0, .int .i64 r1, .int .i64 r2]) ∧ Below W.heap.size W w'))
    (himpl : n0 ≤ 1048576 ∧ n1 ≤ 1048576 ∧ (∀ k, k < n1 → (rs1.getD k []).length ≤ 1048576) → ∀ (W : World) (B0 : Option Addr) (e0 : Nat) (B1 : Option Addr) (e1 : Nat), n0 ≤ e0 → TR W W.heap.size B0 ts0 → n1 ≤ e1 → IRR W W.heap.size B1 rs1 → Calls Try.prog 43 #[.agg #[.int .i64 c0, .slice B0 n0 e0], .slice B1 n1 e1, .int .i64 i2] W (fun e w' => e = .returned (.tuple #[.int .i64 r0, .int .i64 r1, .int .i64 r2]) ∧ Below W.heap.size W w')) :
    Calls Try.prog 11 #[.agg #[.int .i64 c0, .slice A0 n0 q0], .slice A1 n1 q1, .int .i64 i2] w fun e w' => e = .returned (.bool true) ∧ Below w.heap.size w w' := by
  obtain ⟨z1_, hz1⟩ : ∃ z, z = need rs1 := ⟨_, rfl⟩
  have hzn1 : n1 ≤ z1_ := by rw [hz1]; unfold need; omega
  have hzp1 : pre rs1 n1 ≤ z1_ := by rw [hz1]; unfold need; rw [hl1]; omega
  have hzr1 : ∀ k, k < n1 → (rs1.getD k []).length ≤ z1_ := fun k hk => by rw [hz1]; exact need_row (by omega)
  have hsz0 : (0 : Int) ≤ 1048576 → ∀ W, Calls Try.prog 14 #[.agg #[.int .i64 c0, .slice A0 n0 q0], .int .i64 1048576] W _ := fun h W => szSet_any c0 A0 n0 q0 1048576 W hn0 h (by omega)
  have hsz1 : 0 ≤ (1048576 - (n0 : Int)) → ∀ W, Below w.heap.size w W → Calls Try.prog 15 #[.slice A1 n1 q1, .int .i64 (1048576 - (n0 : Int))] W _ := fun h W hW => szInt64SS_any A1 n1 q1 rs1 (1048576 - (n0 : Int)) W hn1 hl1 hr1 h (by omega) ((hA1.below hW (Nat.le_refl _)).more hW.size)
  rw [← hz1] at hsz1
  clear hz1
  by_cases hbig0 : (1048576 : Int) < n0
  · replace hsz0 := hsz0 (by omega)
    simp only [if_pos hbig0] at hsz0
    clear hsz1
    clear hspec himpl
    go_enter Try.func11, Try.ntmps11
    go_wp2_with fail
    have hx0 : Ext w (w.alloc (Obj.cells #[.int .i64 c0, .slice A0 n0 q0] 24)) := ((Ext.refl w).alloc _)
    have b00 : Blk (w.alloc (Obj.cells #[.int .i64 c0, .slice A0 n0 q0] 24)) w.heap.size 24 #[.int .i64 c0, .slice A0 n0 q0] := (Blk.new w 24 #[.int .i64 c0, .slice A0 n0 q0])
    have s0 : w.heap.size + 1 ≤ (w.alloc (Obj.cells #[.int .i64 c0, .slice A0 n0 q0] 24)).heap.size := by simp
    have K0 := Lib.hid (hx0.below (Nat.le_refl _))
    have C00 := Lib.hid b00
    clear hx0 b00
    generalize (w.alloc (Obj.cells #[.int .i64 c0, .slice A0 n0 q0] 24)) = w0 at *
    refine (hsz0 _).mono ?_
    rintro e w1 ⟨rfl, hx⟩
    have s1 := (hx.below (Nat.le_refl _)).size
    have K1 := Lib.hid (K0.out.trans (hx.below K0.out.size))
    have Ba0_1 := Lib.hid (C00.out.ext hx)
    clear K0 C00
    clear hx
    have ra0_0 := Ba0_1.out.rd 0 rfl
    have ra0_1 := Ba0_1.out.rd 1 rfl
    go_wp2_with fail
    clear ra0_0 ra0_1
    go_ret
    exact ⟨rfl, K1.out⟩
  · skip
    by_cases hbig1 : (1048576 - (n0 : Int) : Int) < z1_
    · replace hsz0 := hsz0 (by omega)
      simp only [if_neg hbig0] at hsz0
      replace hsz1 := hsz1 (by omega)
      simp only [if_pos hbig1] at hsz1
      have hneg0 : ¬ (1048576 - (n0 : Int) < 0) := by omega
      clear hspec himpl
      go_enter Try.func11, Try.ntmps11
      go_wp2_with fail
      have hx0 : Ext w (w.alloc (Obj.cells #[.int .i64 c0, .slice A0 n0 q0] 24)) := ((Ext.refl w).alloc _)
      have b00 : Blk (w.alloc (Obj.cells #[.int .i64 c0, .slice A0 n0 q0] 24)) w.heap.size 24 #[.int .i64 c0, .slice A0 n0 q0] := (Blk.new w 24 #[.int .i64 c0, .slice A0 n0 q0])
      have s0 : w.heap.size + 1 ≤ (w.alloc (Obj.cells #[.int .i64 c0, .slice A0 n0 q0] 24)).heap.size := by simp
      have K0 := Lib.hid (hx0.below (Nat.le_refl _))
      have C00 := Lib.hid b00
      clear hx0 b00
      generalize (w.alloc (Obj.cells #[.int .i64 c0, .slice A0 n0 q0] 24)) = w0 at *
      refine (hsz0 _).mono ?_
      rintro e w1 ⟨rfl, hx⟩
      have s1 := (hx.below (Nat.le_refl _)).size
      have K1 := Lib.hid (K0.out.trans (hx.below K0.out.size))
      have Ba0_1 := Lib.hid (C00.out.ext hx)
      clear K0 C00
      clear hx
      have ra0_0 := Ba0_1.out.rd 0 rfl
      have ra0_1 := Ba0_1.out.rd 1 rfl
      go_wp2_with fail
      clear ra0_0 ra0_1
      refine (hsz1 _ K1.out).mono ?_
      rintro e w2 ⟨rfl, hx⟩
      have s2 := (hx.below (Nat.le_refl _)).size
      have K2 := Lib.hid (K1.out.trans (hx.below K1.out.size))
      have Ba0_2 := Lib.hid (Ba0_1.out.ext hx)
      clear K1 Ba0_1
      clear hx
      have ra0_0 := Ba0_2.out.rd 0 rfl
      have ra0_1 := Ba0_2.out.rd 1 rfl
      go_wp2_with fail
      clear ra0_0 ra0_1
      go_ret
      exact ⟨rfl, K2.out⟩
    · skip
      replace hsz0 := hsz0 (by omega)
      simp only [if_neg hbig0] at hsz0
      replace hsz1 := hsz1 (by omega)
      simp only [if_neg hbig1] at hsz1
      have hneg0 : ¬ (1048576 - (n0 : Int) < 0) := by omega
      have hneg1 : ¬ (1048576 - (n0 : Int) - (z1_ : Int) < 0) := by omega
      have hn'0 : n0 ≤ 1048576 := by omega
      have hts0 : ∀ W, Below w.heap.size w W → Calls Try.prog 17 #[.agg #[.int .i64 c0, .slice A0 n0 q0]] W _ := fun W hW => toSet_any c0 A0 n0 q0 ts0 W hn'0 hl0 ((hA0.below hW (Nat.le_refl _)).more hW.size)
      have hn'1 : n1 ≤ 1048576 := by omega
      have hr'1 : ∀ k, k < n1 → (rs1.getD k []).length ≤ 1048576 := fun k hk => by have := hzr1 k hk; omega
      have hts1 : ∀ W, Below w.heap.size w W → Calls Try.prog 18 #[.slice A1 n1 q1] W _ := fun W hW => toInt64SS_any A1 n1 q1 rs1 W hn'1 hl1 hr'1 ((hA1.below hW (Nat.le_refl _)).more hW.size)
      have HT0 := Lib.hid hts0
      have HL0 := Lib.hid hl0
      have HT1 := Lib.hid hts1
      have HL1 := Lib.hid hl1
      have HR1 := Lib.hid hr'1
      have HS := Lib.hid (hspec ⟨hn'0, hn'1, hr'1⟩)
      have HI := Lib.hid (himpl ⟨hn'0, hn'1, hr'1⟩)
      clear hspec himpl hts0 hA0 hl0 hts1 hA1 hl1 hr1 hr'1 hzr1
      have hcc0 : (r0 != r0) = false := by simp
      have hcc1 : (r1 != r1) = false := by simp
      have hcc2 : (r2 != r2) = false := by simp
      go_enter Try.func11, Try.ntmps11
      go_wp2_with fail
      have hx0 : Ext w (w.alloc (Obj.cells #[.int .i64 c0, .slice A0 n0 q0] 24)) := ((Ext.refl w).alloc _)
      have b00 : Blk (w.alloc (Obj.cells #[.int .i64 c0, .slice A0 n0 q0] 24)) w.heap.size 24 #[.int .i64 c0, .slice A0 n0 q0] := (Blk.new w 24 #[.int .i64 c0, .slice A0 n0 q0])
      have s0 : w.heap.size + 1 ≤ (w.alloc (Obj.cells #[.int .i64 c0, .slice A0 n0 q0] 24)).heap.size := by simp
      have K0 := Lib.hid (hx0.below (Nat.le_refl _))
      have C00 := Lib.hid b00
      clear hx0 b00
      generalize (w.alloc (Obj.cells #[.int .i64 c0, .slice A0 n0 q0] 24)) = w0 at *
      refine (hsz0 _).mono ?_
      rintro e w1 ⟨rfl, hx⟩
      have s1 := (hx.below (Nat.le_refl _)).size
      have K1 := Lib.hid (K0.out.trans (hx.below K0.out.size))
      have Ba0_1 := Lib.hid (C00.out.ext hx)
      clear K0 C00
      clear hx
      have ra0_0 := Ba0_1.out.rd 0 rfl
      have ra0_1 := Ba0_1.out.rd 1 rfl
      go_wp2_with fail
      clear ra0_0 ra0_1
      refine (hsz1 _ K1.out).mono ?_
      rintro e w2 ⟨rfl, hx⟩
      have s2 := (hx.below (Nat.le_refl _)).size
      have K2 := Lib.hid (K1.out.trans (hx.below K1.out.size))
      have Ba0_2 := Lib.hid (Ba0_1.out.ext hx)
      clear K1 Ba0_1
      clear hx
      have ra0_0 := Ba0_2.out.rd 0 rfl
      have ra0_1 := Ba0_2.out.rd 1 rfl
      go_wp2_with fail
      clear ra0_0 ra0_1
      refine (HT0.out _ K2.out).mono ?_
      rintro e w3 ⟨A_3, rfl, hb, hw⟩
      have s3 := hb.size
      have t3 := Lib.hid hw.r
      have K3 := Lib.hid (K2.out.trans (hb.mono K2.out.size))
      have Ba0_3 := Lib.hid (Ba0_2.out.below hb Ba0_2.out.lt)
      clear K2 Ba0_2
      clear hb hw
      have ra0_0 := Ba0_3.out.rd 0 rfl
      have ra0_1 := Ba0_3.out.rd 1 rfl
      go_wp2_with fail
      clear ra0_0 ra0_1
      refine (HT1.out _ K3.out).mono ?_
      rintro e w4 ⟨A_4, rfl, hb, hw⟩
      have s4 := hb.size
      have t4 := Lib.hid hw
      have K4 := Lib.hid (K3.out.trans (hb.mono K3.out.size))
      have Ba0_4 := Lib.hid (Ba0_3.out.below hb Ba0_3.out.lt)
      have T3_4 := Lib.hid (t3.out.below hb)
      clear K3 Ba0_3 t3
      clear hb hw
      have ra0_0 := Ba0_4.out.rd 0 rfl
      have ra0_1 := Ba0_4.out.rd 1 rfl
      go_wp2_with fail
      clear ra0_0 ra0_1
      refine (HS.out _ A_3 _ A_4 _ (Nat.le_refl _) T3_4.out.tr (Nat.le_refl _) t4.out.irr).mono ?_
      rintro e w5 ⟨rfl, hb⟩
      have s5 := hb.size
      have K5 := Lib.hid (K4.out.trans (hb.mono K4.out.size))
      have Ba0_5 := Lib.hid (Ba0_4.out.below hb Ba0_4.out.lt)
      have T3_5 := Lib.hid (T3_4.out.below hb)
      have T4_5 := Lib.hid (t4.out.below hb)
      clear K4 Ba0_4 T3_4 t4
      clear hb
      clear T3_5 T4_5
      have ra0_0 := Ba0_5.out.rd 0 rfl
      have ra0_1 := Ba0_5.out.rd 1 rfl
      go_wp2_with fail
      clear ra0_0 ra0_1
      refine (HT0.out _ K5.out).mono ?_
      rintro e w6 ⟨A_6, rfl, hb, hw⟩
      have s6 := hb.size
      have t6 := Lib.hid hw.r
      have K6 := Lib.hid (K5.out.trans (hb.mono K5.out.size))
      have Ba0_6 := Lib.hid (Ba0_5.out.below hb Ba0_5.out.lt)
      clear K5 Ba0_5
      clear hb hw
      have ra0_0 := Ba0_6.out.rd 0 rfl
      have qa0_0 := (Ba0_6.out.ext ((Ext.refl _).alloc (Obj.cells #[.int .i64 c0, .slice A_6 n0 n0] 32))).rd 0 rfl
      have ra0_1 := Ba0_6.out.rd 1 rfl
      have qa0_1 := (Ba0_6.out.ext ((Ext.refl _).alloc (Obj.cells #[.int .i64 c0, .slice A_6 n0 n0] 32))).rd 1 rfl
      go_wp2_with fail
      clear ra0_0 qa0_0 ra0_1 qa0_1
      have hx : Ext w6 (w6.alloc (Obj.cells #[.int .i64 c0, .slice A_6 n0 n0] 32)) := (Ext.refl _).alloc _
      have sa7 : w6.heap.size + 1 ≤ (w6.alloc (Obj.cells #[.int .i64 c0, .slice A_6 n0 n0] 32)).heap.size := by simp
      have b7 := Lib.hid (Blk.new w6 32 #[.int .i64 c0, .slice A_6 n0 n0])
      generalize w6.alloc (Obj.cells #[.int .i64 c0, .slice A_6 n0 n0] 32) = w7 at *
      have K7 := Lib.hid (K6.out.trans (hx.below K6.out.size))
      have Ba0_7 := Lib.hid (Ba0_6.out.ext hx)
      have T6_7 := Lib.hid (t6.out.ext hx)
      clear K6 Ba0_6 t6
      clear hx
      refine (HT1.out _ K7.out).mono ?_
      rintro e w8 ⟨A_8, rfl, hb, hw⟩
      have s8 := hb.size
      have t8 := Lib.hid hw
      have K8 := Lib.hid (K7.out.trans (hb.mono K7.out.size))
      have Ba0_8 := Lib.hid (Ba0_7.out.below hb Ba0_7.out.lt)
      have B7_8 := Lib.hid (b7.out.below hb b7.out.lt)
      have T6_8 := Lib.hid (T6_7.out.below hb)
      clear K7 Ba0_7 b7 T6_7
      clear hb hw
      have ra0_0 := Ba0_8.out.rd 0 rfl
      have ra0_1 := Ba0_8.out.rd 1 rfl
      have r7_0 := B7_8.out.rd 0 rfl
      have r7_1 := B7_8.out.rd 1 rfl
      go_wp2_with fail
      clear ra0_0 ra0_1 r7_0 r7_1
      refine (HI.out _ A_6 _ A_8 _ (Nat.le_refl _) T6_8.out.tr (Nat.le_refl _) t8.out.irr).mono ?_
      rintro e w9 ⟨rfl, hb⟩
      have s9 := hb.size
      have K9 := Lib.hid (K8.out.trans (hb.mono K8.out.size))
      have Ba0_9 := Lib.hid (Ba0_8.out.below hb Ba0_8.out.lt)
      have B7_9 := Lib.hid (B7_8.out.below hb B7_8.out.lt)
      have T6_9 := Lib.hid (T6_8.out.below hb)
      have T8_9 := Lib.hid (t8.out.below hb)
      clear K8 Ba0_8 B7_8 T6_8 t8
      clear hb
      have ra0_0 := Ba0_9.out.rd 0 rfl
      have ra0_1 := Ba0_9.out.rd 1 rfl
      have r7_0 := B7_9.out.rd 0 rfl
      have r7_1 := B7_9.out.rd 1 rfl
      go_wp2_with fail
      clear ra0_0 ra0_1 r7_0 r7_1
      have ra0_0 := Ba0_9.out.rd 0 rfl
      have ra0_1 := Ba0_9.out.rd 1 rfl
      have r7_0 := B7_9.out.rd 0 rfl
      have r7_1 := B7_9.out.rd 1 rfl
      go_region_held3 (fun w' => w'.cell? ⟨w.heap.size, 0, none⟩ = some (.int .i64 c0) ∧ w'.cell? ⟨w.heap.size, 1, none⟩ = some (.slice A0 n0 q0) ∧ w'.cell? ⟨w6.heap.size, 0, none⟩ = some (.int .i64 c0) ∧ w'.cell? ⟨w6.heap.size, 1, none⟩ = some (.slice A_6 n0 n0))
        (first | exact ⟨ka0_0, ka0_1, k7_0, k7_1⟩ | exact ⟨la0_0, la0_1, l7_0, l7_1⟩ | go_keep)
        (first
          | (go_at_call 17; refine (HT0.out _ K9.out.drew).mono ?_; rintro e w10 ⟨A_10, rfl, hb, hw⟩; have s10 := hb.size; simp only [World.size_drew] at s10; have t10 := Lib.hid hw.r; have K10 := Lib.hid (K9.out.drew.trans (hb.mono K9.out.size)); have Ba0_10 := Lib.hid (Blk.below (w := w9.drew) Ba0_9.out hb Ba0_9.out.lt); have B7_10 := Lib.hid (Blk.below (w := w9.drew) B7_9.out hb B7_9.out.lt); have T6_10 := Lib.hid (TWr.below (w := w9.drew) T6_9.out hb); have T8_10 := Lib.hid (IWW.below (w := w9.drew) T8_9.out hb); clear K9 Ba0_9 B7_9 T6_9 T8_9; clear hb hw; have ka0_0 := Ba0_10.out.rd 0 rfl; have ka0_1 := Ba0_10.out.rd 1 rfl; have k7_0 := B7_10.out.rd 0 rfl; have k7_1 := B7_10.out.rd 1 rfl)
          | (go_at_call 20; refine (eqSet_any c0 c0 A_6 A_10 n0 n0 _ _ ts0 ts0 _ (by omega) HL0.out HL0.out T6_10.out.tr t10.out.tr).mono ?_; rw [decide_eq_true (⟨rfl, rfl⟩ : c0 = c0 ∧ ts0 = ts0)]; rintro e w11 ⟨rfl, hx⟩; have s11 := (hx.below (Nat.le_refl _)).size; clear ka0_0 ka0_1 k7_0 k7_1; have K11 := Lib.hid (K10.out.trans (hx.below K10.out.size)); have Ba0_11 := Lib.hid (Ba0_10.out.ext hx); have B7_11 := Lib.hid (B7_10.out.ext hx); have T6_11 := Lib.hid (T6_10.out.ext hx); have T8_11 := Lib.hid (T8_10.out.ext hx); have T10_11 := Lib.hid (t10.out.ext hx); clear K10 Ba0_10 B7_10 T6_10 T8_10 t10; clear hx; have la0_0 := Ba0_11.out.rd 0 rfl; have la0_1 := Ba0_11.out.rd 1 rfl; have l7_0 := B7_11.out.rd 0 rfl; have l7_1 := B7_11.out.rd 1 rfl))
      clear la0_0 la0_1 l7_0 l7_1 ra0_0 ra0_1 r7_0 r7_1
      clear T10_11
      have ra0_0 := Ba0_11.out.rd 0 rfl
      have ra0_1 := Ba0_11.out.rd 1 rfl
      have r7_0 := B7_11.out.rd 0 rfl
      have r7_1 := B7_11.out.rd 1 rfl
      go_wp2_with fail
      clear ra0_0 ra0_1 r7_0 r7_1
      refine (HT1.out _ K11.out).mono ?_
      rintro e w12 ⟨A_12, rfl, hb, hw⟩
      have s12 := hb.size
      have t12 := Lib.hid hw
      have K12 := Lib.hid (K11.out.trans (hb.mono K11.out.size))
      have Ba0_12 := Lib.hid (Ba0_11.out.below hb Ba0_11.out.lt)
      have B7_12 := Lib.hid (B7_11.out.below hb B7_11.out.lt)
      have T6_12 := Lib.hid (T6_11.out.below hb)
      have T8_12 := Lib.hid (T8_11.out.below hb)
      clear K11 Ba0_11 B7_11 T6_11 T8_11
      clear hb hw
      have ra0_0 := Ba0_12.out.rd 0 rfl
      have ra0_1 := Ba0_12.out.rd 1 rfl
      have r7_0 := B7_12.out.rd 0 rfl
      have r7_1 := B7_12.out.rd 1 rfl
      go_wp2_with fail
      clear ra0_0 ra0_1 r7_0 r7_1
      refine (eqInt64SS_any A_8 A_12 n1 n1 _ _ rs1 rs1 _ (by omega) HL1.out HL1.out (fun k hk => by have := HR1.out k hk; omega) T8_12.out.irr t12.out.irr).mono ?_
      rw [decide_eq_true (rfl : rs1 = rs1)]
      rintro e w13 ⟨rfl, hx⟩
      have s13 := (hx.below (Nat.le_refl _)).size
      have K13 := Lib.hid (K12.out.trans (hx.below K12.out.size))
      have Ba0_13 := Lib.hid (Ba0_12.out.ext hx)
      have B7_13 := Lib.hid (B7_12.out.ext hx)
      have T6_13 := Lib.hid (T6_12.out.ext hx)
      have T8_13 := Lib.hid (T8_12.out.ext hx)
      have T12_13 := Lib.hid (t12.out.ext hx)
      clear K12 Ba0_12 B7_12 T6_12 T8_12 t12
      clear hx
      clear T12_13
      have ra0_0 := Ba0_13.out.rd 0 rfl
      have ra0_1 := Ba0_13.out.rd 1 rfl
      have r7_0 := B7_13.out.rd 0 rfl
      have r7_1 := B7_13.out.rd 1 rfl
      go_wp2_with fail
      clear ra0_0 ra0_1 r7_0 r7_1
      go_ret
      exact ⟨rfl, K13.out⟩
theorem law_CornerPeriod (c0 : Int) (A0 : Option Addr) (n0 q0 : Nat) (ts0 : List Tl) (A1 : Option Addr) (n1 q1 : Nat) (rs1 : List (List Int)) (i2 : Int) (w : World)
    (hn0 : n0 ≤ 9223372036854775807) (hl0 : ts0.length = n0) (hA0 : TR w w.heap.size A0 ts0) (hn1 : n1 ≤ 9223372036854775807) (hl1 : rs1.length = n1) (hr1 : ∀ k, k < n1 → (rs1.getD k []).length ≤ 9223372036854775807) (hA1 : IRR w w.heap.size A1 rs1) :
    Calls Try.prog 11 #[.agg #[.int .i64 c0, .slice A0 n0 q0], .slice A1 n1 q1, .int .i64 i2] w fun e w' => e = .returned (.bool true) ∧ Below w.heap.size w w' := by
  by_cases hz : fCode c0 ts0 rs1 i2 = 0
  · have hb0 := fCode_zero hz
    have hi : i2.toNat < rs1.length := by
      have h := (gc_zero hz).2
      simp only [decide_eq_true_eq] at h
      rw [bCode_len hb0]
      omega
    obtain ⟨T, K, hP⟩ := perOk_ex (cor_lt (bCode_zero hb0).2 hi)
    rw [hl1] at hP
    exact lawCornerPeriod_core c0 A0 n0 q0 ts0 A1 n1 q1 rs1 i2 w hn0 hl0 hA0 hn1 hl1 hr1 hA1 (K : Int) ((T : Int) - (K : Int)) 0
      (fun h W B0 e0 B1 e1 _ hB0 _ hB1 => (specCornerPeriod_any c0 B0 n0 e0 ts0 B1 n1 e1 rs1 i2 W h.1 hl0 hB0 h.2.1 hl1 hB1 h.2.2 T K (fun _ => hP)).mono fun e w' hh => hh.1 hz)
      (fun h W B0 e0 B1 e1 _ hB0 _ hB1 => (implCornerPeriod_any c0 B0 n0 e0 ts0 B1 n1 e1 rs1 i2 W h.1 hl0 hB0 h.2.1 hl1 hB1 h.2.2 T K (fun _ => hP)).mono fun e w' hh => hh.1 hz)
  · exact lawCornerPeriod_core c0 A0 n0 q0 ts0 A1 n1 q1 rs1 i2 w hn0 hl0 hA0 hn1 hl1 hr1 hA1 0 0 (fCode c0 ts0 rs1 i2)
      (fun h W B0 e0 B1 e1 _ hB0 _ hB1 => (specCornerPeriod_any c0 B0 n0 e0 ts0 B1 n1 e1 rs1 i2 W h.1 hl0 hB0 h.2.1 hl1 hB1 h.2.2 0 0 (fun h => absurd h hz)).mono fun e w' hh => hh.2 hz)
      (fun h W B0 e0 B1 e1 _ hB0 _ hB1 => (implCornerPeriod_any c0 B0 n0 e0 ts0 B1 n1 e1 rs1 i2 W h.1 hl0 hB0 h.2.1 hl1 hB1 h.2.2 0 0 (fun h => absurd h hz)).mono fun e w' hh => hh.2 hz)
end Go.Proofs.Ytnmgkchkbchfaaa
