/- The exact law over TilesGrown: walked. -/
import Derived.Test.YtnmgkchkbchfaaaBkI
import Derived.Test.YtnmgkchkbchfaaaMark2
import Derived.Test.YtnmgkchkbchfaaaHeld
import Derived.Test.YtnmgkchkbchfaaaRs2
import Derived.Test.YtnmgkchkbchfaaaRs3
import Derived.Test.YtnmgkchkbchfaaaInts
import Derived.Deep.RegionHeld3
import Derived.Deep.RegionLaw
import Derived.Deep.DeepCutAuto
namespace Go.Proofs.Ytnmgkchkbchfaaa
set_option linter.unusedVariables false
set_option linter.unusedSimpArgs false
open Go.RowKit Go.Sort

set_option maxRecDepth 100000 in
set_option maxHeartbeats 4000000 in
theorem lawTilesGrown_core (c0 : Int) (A0 : Option Addr) (n0 q0 : Nat) (ts0 : List Tl) (A1 : Option Addr) (n1 q1 : Nat) (rs1 : List (List Int)) (i2 : Int) (w : World) (hn0 : n0 ≤ 9223372036854775807) (hl0 : ts0.length = n0) (hA0 : TR w w.heap.size A0 ts0) (hn1 : n1 ≤ 9223372036854775807) (hl1 : rs1.length = n1) (hr1 : ∀ k, k < n1 → (rs1.getD k []).length ≤ 9223372036854775807) (hA1 : IRR w w.heap.size A1 rs1) (ys0 : List Int) (r1 : Int) (hus0 : ys0.length ≤ 65536)
    (hspec : n0 ≤ 1048576 ∧ n1 ≤ 1048576 ∧ (∀ k, k < n1 → (rs1.getD k []).length ≤ 1048576) → ∀ (W : World) (B0 : Option Addr) (e0 : Nat) (B1 : Option Addr) (e1 : Nat), n0 ≤ e0 → TR W W.heap.size B0 ts0 → n1 ≤ e1 → IRR W W.heap.size B1 rs1 → Calls Try.prog 46 #[.agg #[.int .i64 c0, .slice B0 n0 e0], .slice B1 n1 e1, .int .i64 i2] W (fun e w' => ∃ R0 p0, e = .returned (.tuple #[.slice R0 ys0.length p0, .int .i64 r1]) ∧ Below W.heap.size W w' ∧ IWr w' W.heap.size w'.heap.size R0 ys0))
    (himpl : n0 ≤ 1048576 ∧ n1 ≤ 1048576 ∧ (∀ k, k < n1 → (rs1.getD k []).length ≤ 1048576) → ∀ (W : World) (B0 : Option Addr) (e0 : Nat) (B1 : Option Addr) (e1 : Nat), n0 ≤ e0 → TR W W.heap.size B0 ts0 → n1 ≤ e1 → IRR W W.heap.size B1 rs1 → Calls Try.prog 47 #[.agg #[.int .i64 c0, .slice B0 n0 e0], .slice B1 n1 e1, .int .i64 i2] W (fun e w' => ∃ R0 p0, e = .returned (.tuple #[.slice R0 ys0.length p0, .int .i64 r1]) ∧ Below W.heap.size W w' ∧ IWr w' W.heap.size w'.heap.size R0 ys0)) :
    Calls Try.prog 13 #[.agg #[.int .i64 c0, .slice A0 n0 q0], .slice A1 n1 q1, .int .i64 i2] w fun e w' => e = .returned (.bool true) ∧ Below w.heap.size w w' := by
  obtain ⟨z1_, hz1⟩ : ∃ z, z = need rs1 := ⟨_, rfl⟩
  have hzn1 : n1 ≤ z1_ := by rw [hz1]; unfold need; omega
  have hzp1 : pre rs1 n1 ≤ z1_ := by rw [hz1]; unfold need; rw [hl1]; omega
  have hzr1 : ∀ k, k < n1 → (rs1.getD k []).length ≤ z1_ := fun k hk => by rw [hz1]; exact need_row (by omega)
  have hsz0 : (0 : Int) ≤ 1048576 → ∀ W, Calls Try.prog 14 #[.agg #[.int .i64 c0, .slice A0 n0 q0], .int .i64 1048576] W _ := fun h W => szSet_any c0 A0 n0 q0 1048576 W hn0 h (by omega)
  have hsz1 : 0 ≤ (1048576 - (n0 : Int)) → ∀ W, Below w.heap.size w W → Calls Try.prog 15 #[.slice A1 n1 q1, .int .i64 (1048576 - (n0 : Int))] W _ := fun h W hW => szInt64SS_any A1 n1 q1 rs1 (1048576 - (n0 : Int)) W hn1 hl1 hr1 h (by omega) ((hA1.below hW (Nat.le_refl _)).more hW.size)
  rw [← hz1] at hsz1
  clear hz1
  by_cases hbig0 : (1048576 : Int) < n0
  · replace hsz0 := hsz0 (by omega)
    simp only [if_pos hbig0] at hsz0
    clear hsz1
    clear hspec himpl
    go_enter Try.func13, Try.ntmps13
    go_wp2_with fail
    have hx0 : Ext w (w.alloc (Obj.cells #[.int .i64 c0, .slice A0 n0 q0] 24)) := ((Ext.refl w).alloc _)
    have b00 : Blk (w.alloc (Obj.cells #[.int .i64 c0, .slice A0 n0 q0] 24)) w.heap.size 24 #[.int .i64 c0, .slice A0 n0 q0] := (Blk.new w 24 #[.int .i64 c0, .slice A0 n0 q0])
    have s0 : w.heap.size + 1 ≤ (w.alloc (Obj.cells #[.int .i64 c0, .slice A0 n0 q0] 24)).heap.size := by simp
    have K0 := Lib.hid (hx0.below (Nat.le_refl _))
    have C00 := Lib.hid b00
    clear hx0 b00
    generalize (w.alloc (Obj.cells #[.int .i64 c0, .slice A0 n0 q0] 24)) = w0 at *
    refine (hsz0 _).mono ?_
    rintro e w1 ⟨rfl, hx⟩
    have s1 := (hx.below (Nat.le_refl _)).size
    have K1 := Lib.hid (K0.out.trans (hx.below K0.out.size))
    have Ba0_1 := Lib.hid (C00.out.ext hx)
    clear K0 C00
    clear hx
    have ra0_0 := Ba0_1.out.rd 0 rfl
    have ra0_1 := Ba0_1.out.rd 1 rfl
    go_wp2_with fail
    clear ra0_0 ra0_1
    go_ret
    exact ⟨rfl, K1.out⟩
  · skip
    by_cases hbig1 : (1048576 - (n0 : Int) : Int) < z1_
    · replace hsz0 := hsz0 (by omega)
      simp only [if_neg hbig0] at hsz0
      replace hsz1 := hsz1 (by omega)
      simp only [if_pos hbig1] at hsz1
      have hneg0 : ¬ (1048576 - (n0 : Int) < 0) := by omega
      clear hspec himpl
      go_enter Try.func13, Try.ntmps13
      go_wp2_with fail
      have hx0 : Ext w (w.alloc (Obj.cells #[.int .i64 c0, .slice A0 n0 q0] 24)) := ((Ext.refl w).alloc _)
      have b00 : Blk (w.alloc (Obj.cells #[.int .i64 c0, .slice A0 n0 q0] 24)) w.heap.size 24 #[.int .i64 c0, .slice A0 n0 q0] := (Blk.new w 24 #[.int .i64 c0, .slice A0 n0 q0])
      have s0 : w.heap.size + 1 ≤ (w.alloc (Obj.cells #[.int .i64 c0, .slice A0 n0 q0] 24)).heap.size := by simp
      have K0 := Lib.hid (hx0.below (Nat.le_refl _))
      have C00 := Lib.hid b00
      clear hx0 b00
      generalize (w.alloc (Obj.cells #[.int .i64 c0, .slice A0 n0 q0] 24)) = w0 at *
      refine (hsz0 _).mono ?_
      rintro e w1 ⟨rfl, hx⟩
      have s1 := (hx.below (Nat.le_refl _)).size
      have K1 := Lib.hid (K0.out.trans (hx.below K0.out.size))
      have Ba0_1 := Lib.hid (C00.out.ext hx)
      clear K0 C00
      clear hx
      have ra0_0 := Ba0_1.out.rd 0 rfl
      have ra0_1 := Ba0_1.out.rd 1 rfl
      go_wp2_with fail
      clear ra0_0 ra0_1
      refine (hsz1 _ K1.out).mono ?_
      rintro e w2 ⟨rfl, hx⟩
      have s2 := (hx.below (Nat.le_refl _)).size
      have K2 := Lib.hid (K1.out.trans (hx.below K1.out.size))
      have Ba0_2 := Lib.hid (Ba0_1.out.ext hx)
      clear K1 Ba0_1
      clear hx
      have ra0_0 := Ba0_2.out.rd 0 rfl
      have ra0_1 := Ba0_2.out.rd 1 rfl
      go_wp2_with fail
      clear ra0_0 ra0_1
      go_ret
      exact ⟨rfl, K2.out⟩
    · skip
      replace hsz0 := hsz0 (by omega)
      simp only [if_neg hbig0] at hsz0
      replace hsz1 := hsz1 (by omega)
      simp only [if_neg hbig1] at hsz1
      have hneg0 : ¬ (1048576 - (n0 : Int) < 0) := by omega
      have hneg1 : ¬ (1048576 - (n0 : Int) - (z1_ : Int) < 0) := by omega
      have hn'0 : n0 ≤ 1048576 := by omega
      have hts0 : ∀ W, Below w.heap.size w W → Calls Try.prog 17 #[.agg #[.int .i64 c0, .slice A0 n0 q0]] W _ := fun W hW => toSet_any c0 A0 n0 q0 ts0 W hn'0 hl0 ((hA0.below hW (Nat.le_refl _)).more hW.size)
      have hn'1 : n1 ≤ 1048576 := by omega
      have hr'1 : ∀ k, k < n1 → (rs1.getD k []).length ≤ 1048576 := fun k hk => by have := hzr1 k hk; omega
      have hts1 : ∀ W, Below w.heap.size w W → Calls Try.prog 18 #[.slice A1 n1 q1] W _ := fun W hW => toInt64SS_any A1 n1 q1 rs1 W hn'1 hl1 hr'1 ((hA1.below hW (Nat.le_refl _)).more hW.size)
      have HT0 := Lib.hid hts0
      have HL0 := Lib.hid hl0
      have HT1 := Lib.hid hts1
      have HL1 := Lib.hid hl1
      have HR1 := Lib.hid hr'1
      have HS := Lib.hid (hspec ⟨hn'0, hn'1, hr'1⟩)
      have HI := Lib.hid (himpl ⟨hn'0, hn'1, hr'1⟩)
      clear hspec himpl hts0 hA0 hl0 hts1 hA1 hl1 hr1 hr'1 hzr1
      generalize hm0 : ys0.length = m0 at *
      have HM0 := Lib.hid hm0
      clear hm0
      obtain ⟨pa1, hpa1⟩ : ∃ p, pre rs1 n1 = p := ⟨_, rfl⟩
      rw [hpa1] at hzp1
      have hpab1 : pa1 ≤ 1048576 := by omega
      have HPA1 := Lib.hid hpa1
      clear hpa1 hzp1
      have hcc1 : (r1 != r1) = false := by simp
      have hkn : ¬ (1 + 4 * (n0 : Int) + (pa1 : Nat) < 0) := by omega
      have hkm0 : ¬ (1 + (m0 : Int) < 0) := by omega
      go_enter Try.func13, Try.ntmps13
      go_wp2_with fail
      have hx0 : Ext w (w.alloc (Obj.cells #[.int .i64 c0, .slice A0 n0 q0] 24)) := ((Ext.refl w).alloc _)
      have b00 : Blk (w.alloc (Obj.cells #[.int .i64 c0, .slice A0 n0 q0] 24)) w.heap.size 24 #[.int .i64 c0, .slice A0 n0 q0] := (Blk.new w 24 #[.int .i64 c0, .slice A0 n0 q0])
      have s0 : w.heap.size + 1 ≤ (w.alloc (Obj.cells #[.int .i64 c0, .slice A0 n0 q0] 24)).heap.size := by simp
      have K0 := Lib.hid (hx0.below (Nat.le_refl _))
      have C00 := Lib.hid b00
      clear hx0 b00
      generalize (w.alloc (Obj.cells #[.int .i64 c0, .slice A0 n0 q0] 24)) = w0 at *
      refine (hsz0 _).mono ?_
      rintro e w1 ⟨rfl, hx⟩
      have s1 := (hx.below (Nat.le_refl _)).size
      have K1 := Lib.hid (K0.out.trans (hx.below K0.out.size))
      have Ba0_1 := Lib.hid (C00.out.ext hx)
      clear K0 C00
      clear hx
      have ra0_0 := Ba0_1.out.rd 0 rfl
      have ra0_1 := Ba0_1.out.rd 1 rfl
      go_wp2_with fail
      clear ra0_0 ra0_1
      refine (hsz1 _ K1.out).mono ?_
      rintro e w2 ⟨rfl, hx⟩
      have s2 := (hx.below (Nat.le_refl _)).size
      have K2 := Lib.hid (K1.out.trans (hx.below K1.out.size))
      have Ba0_2 := Lib.hid (Ba0_1.out.ext hx)
      clear K1 Ba0_1
      clear hx
      have ra0_0 := Ba0_2.out.rd 0 rfl
      have ra0_1 := Ba0_2.out.rd 1 rfl
      go_wp2_with fail
      clear ra0_0 ra0_1
      refine (HT0.out _ K2.out).mono ?_
      rintro e w3 ⟨A_3, rfl, hb, hw⟩
      have s3 := hb.size
      have t3 := Lib.hid hw.r
      have K3 := Lib.hid (K2.out.trans (hb.mono K2.out.size))
      have Ba0_3 := Lib.hid (Ba0_2.out.below hb Ba0_2.out.lt)
      clear K2 Ba0_2
      clear hb hw
      have ra0_0 := Ba0_3.out.rd 0 rfl
      have ra0_1 := Ba0_3.out.rd 1 rfl
      go_wp2_with fail
      clear ra0_0 ra0_1
      refine (HT1.out _ K3.out).mono ?_
      rintro e w4 ⟨A_4, rfl, hb, hw⟩
      have s4 := hb.size
      have t4 := Lib.hid hw
      have K4 := Lib.hid (K3.out.trans (hb.mono K3.out.size))
      have Ba0_4 := Lib.hid (Ba0_3.out.below hb Ba0_3.out.lt)
      have T3_4 := Lib.hid (t3.out.below hb)
      clear K3 Ba0_3 t3
      clear hb hw
      have ra0_0 := Ba0_4.out.rd 0 rfl
      have ra0_1 := Ba0_4.out.rd 1 rfl
      go_wp2_with fail
      clear ra0_0 ra0_1
      refine (HS.out _ A_3 _ A_4 _ (Nat.le_refl _) T3_4.out.tr (Nat.le_refl _) t4.out.irr).mono ?_
      rintro e w5 ⟨B5_0_, cap5_0, rfl, hb, hw0⟩
      have s5 := hb.size
      have t5_0 := Lib.hid hw0
      have K5 := Lib.hid (K4.out.trans (hb.mono K4.out.size))
      have Ba0_5 := Lib.hid (Ba0_4.out.below hb Ba0_4.out.lt)
      have T3_5 := Lib.hid (T3_4.out.below hb)
      have T4_5 := Lib.hid (t4.out.below hb)
      clear K4 Ba0_4 T3_4 t4
      clear hb hw0
      clear T3_5 T4_5
      have ra0_0 := Ba0_5.out.rd 0 rfl
      have ra0_1 := Ba0_5.out.rd 1 rfl
      go_wp2_with fail
      clear ra0_0 ra0_1
      refine (HT0.out _ K5.out).mono ?_
      rintro e w6 ⟨A_6, rfl, hb, hw⟩
      have s6 := hb.size
      have t6 := Lib.hid hw.r
      have K6 := Lib.hid (K5.out.trans (hb.mono K5.out.size))
      have Ba0_6 := Lib.hid (Ba0_5.out.below hb Ba0_5.out.lt)
      have T5_0_6 := Lib.hid (t5_0.out.below hb)
      clear K5 Ba0_5 t5_0
      clear hb hw
      have ra0_0 := Ba0_6.out.rd 0 rfl
      have qa0_0 := (Ba0_6.out.ext ((Ext.refl _).alloc (Obj.cells #[.int .i64 c0, .slice A_6 n0 n0] 32))).rd 0 rfl
      have ra0_1 := Ba0_6.out.rd 1 rfl
      have qa0_1 := (Ba0_6.out.ext ((Ext.refl _).alloc (Obj.cells #[.int .i64 c0, .slice A_6 n0 n0] 32))).rd 1 rfl
      go_wp2_with fail
      clear ra0_0 qa0_0 ra0_1 qa0_1
      have hx : Ext w6 (w6.alloc (Obj.cells #[.int .i64 c0, .slice A_6 n0 n0] 32)) := (Ext.refl _).alloc _
      have sa7 : w6.heap.size + 1 ≤ (w6.alloc (Obj.cells #[.int .i64 c0, .slice A_6 n0 n0] 32)).heap.size := by simp
      have b7 := Lib.hid (Blk.new w6 32 #[.int .i64 c0, .slice A_6 n0 n0])
      generalize w6.alloc (Obj.cells #[.int .i64 c0, .slice A_6 n0 n0] 32) = w7 at *
      have K7 := Lib.hid (K6.out.trans (hx.below K6.out.size))
      have Ba0_7 := Lib.hid (Ba0_6.out.ext hx)
      have T5_0_7 := Lib.hid (T5_0_6.out.ext hx)
      have T6_7 := Lib.hid (t6.out.ext hx)
      clear K6 Ba0_6 T5_0_6 t6
      clear hx
      refine (HT1.out _ K7.out).mono ?_
      rintro e w8 ⟨A_8, rfl, hb, hw⟩
      have s8 := hb.size
      have t8 := Lib.hid hw
      have K8 := Lib.hid (K7.out.trans (hb.mono K7.out.size))
      have Ba0_8 := Lib.hid (Ba0_7.out.below hb Ba0_7.out.lt)
      have B7_8 := Lib.hid (b7.out.below hb b7.out.lt)
      have T5_0_8 := Lib.hid (T5_0_7.out.below hb)
      have T6_8 := Lib.hid (T6_7.out.below hb)
      clear K7 Ba0_7 b7 T5_0_7 T6_7
      clear hb hw
      have ra0_0 := Ba0_8.out.rd 0 rfl
      have ra0_1 := Ba0_8.out.rd 1 rfl
      have r7_0 := B7_8.out.rd 0 rfl
      have r7_1 := B7_8.out.rd 1 rfl
      go_wp2_with fail
      clear ra0_0 ra0_1 r7_0 r7_1
      refine (HI.out _ A_6 _ A_8 _ (Nat.le_refl _) T6_8.out.tr (Nat.le_refl _) t8.out.irr).mono ?_
      rintro e w9 ⟨B9_0_, cap9_0, rfl, hb, hw0⟩
      have s9 := hb.size
      have t9_0 := Lib.hid hw0
      have K9 := Lib.hid (K8.out.trans (hb.mono K8.out.size))
      have Ba0_9 := Lib.hid (Ba0_8.out.below hb Ba0_8.out.lt)
      have B7_9 := Lib.hid (B7_8.out.below hb B7_8.out.lt)
      have T5_0_9 := Lib.hid (T5_0_8.out.below hb)
      have T6_9 := Lib.hid (T6_8.out.below hb)
      have T8_9 := Lib.hid (t8.out.below hb)
      clear K8 Ba0_8 B7_8 T5_0_8 T6_8 t8
      clear hb hw0
      have ra0_0 := Ba0_9.out.rd 0 rfl
      have ra0_1 := Ba0_9.out.rd 1 rfl
      have r7_0 := B7_9.out.rd 0 rfl
      have r7_1 := B7_9.out.rd 1 rfl
      go_wp2_with fail
      clear ra0_0 ra0_1 r7_0 r7_1
      refine (eqInt64S_any B9_0_ B5_0_ m0 m0 _ _ ys0 ys0 _ (by omega) HM0.out HM0.out t9_0.out.ir T5_0_9.out.ir).mono ?_
      rw [decide_eq_true (rfl : ys0 = ys0)]
      rintro e w10 ⟨rfl, hx⟩
      have s10 := (hx.below (Nat.le_refl _)).size
      have K10 := Lib.hid (K9.out.trans (hx.below K9.out.size))
      have Ba0_10 := Lib.hid (Ba0_9.out.ext hx)
      have B7_10 := Lib.hid (B7_9.out.ext hx)
      have T5_0_10 := Lib.hid (T5_0_9.out.ext hx)
      have T6_10 := Lib.hid (T6_9.out.ext hx)
      have T8_10 := Lib.hid (T8_9.out.ext hx)
      have T9_0_10 := Lib.hid (t9_0.out.ext hx)
      clear K9 Ba0_9 B7_9 T5_0_9 T6_9 T8_9 t9_0
      clear hx
      have ra0_0 := Ba0_10.out.rd 0 rfl
      have ra0_1 := Ba0_10.out.rd 1 rfl
      have r7_0 := B7_10.out.rd 0 rfl
      have r7_1 := B7_10.out.rd 1 rfl
      go_wp2_with fail
      clear ra0_0 ra0_1 r7_0 r7_1
      have ra0_0 := Ba0_10.out.rd 0 rfl
      have ra0_1 := Ba0_10.out.rd 1 rfl
      have r7_0 := B7_10.out.rd 0 rfl
      have r7_1 := B7_10.out.rd 1 rfl
      go_region_held3 (fun w' => w'.cell? ⟨w.heap.size, 0, none⟩ = some (.int .i64 c0) ∧ w'.cell? ⟨w.heap.size, 1, none⟩ = some (.slice A0 n0 q0) ∧ w'.cell? ⟨w6.heap.size, 0, none⟩ = some (.int .i64 c0) ∧ w'.cell? ⟨w6.heap.size, 1, none⟩ = some (.slice A_6 n0 n0))
        (first | exact ⟨ka0_0, ka0_1, k7_0, k7_1⟩ | exact ⟨la0_0, la0_1, l7_0, l7_1⟩ | go_keep)
        (first
          | (go_at_call 17; refine (HT0.out _ K10.out.drew).mono ?_; rintro e w11 ⟨A_11, rfl, hb, hw⟩; have s11 := hb.size; simp only [World.size_drew] at s11; have t11 := Lib.hid hw.r; have K11 := Lib.hid (K10.out.drew.trans (hb.mono K10.out.size)); have Ba0_11 := Lib.hid (Blk.below (w := w10.drew) Ba0_10.out hb Ba0_10.out.lt); have B7_11 := Lib.hid (Blk.below (w := w10.drew) B7_10.out hb B7_10.out.lt); have T5_0_11 := Lib.hid (IWr.below (w := w10.drew) T5_0_10.out hb); have T6_11 := Lib.hid (TWr.below (w := w10.drew) T6_10.out hb); have T8_11 := Lib.hid (IWW.below (w := w10.drew) T8_10.out hb); have T9_0_11 := Lib.hid (IWr.below (w := w10.drew) T9_0_10.out hb); clear K10 Ba0_10 B7_10 T5_0_10 T6_10 T8_10 T9_0_10; clear hb hw; have ka0_0 := Ba0_11.out.rd 0 rfl; have ka0_1 := Ba0_11.out.rd 1 rfl; have k7_0 := B7_11.out.rd 0 rfl; have k7_1 := B7_11.out.rd 1 rfl)
          | (go_at_call 20; refine (eqSet_any c0 c0 A_6 A_11 n0 n0 _ _ ts0 ts0 _ (by omega) HL0.out HL0.out T6_11.out.tr t11.out.tr).mono ?_; rw [decide_eq_true (⟨rfl, rfl⟩ : c0 = c0 ∧ ts0 = ts0)]; rintro e w12 ⟨rfl, hx⟩; have s12 := (hx.below (Nat.le_refl _)).size; clear ka0_0 ka0_1 k7_0 k7_1; have K12 := Lib.hid (K11.out.trans (hx.below K11.out.size)); have Ba0_12 := Lib.hid (Ba0_11.out.ext hx); have B7_12 := Lib.hid (B7_11.out.ext hx); have T5_0_12 := Lib.hid (T5_0_11.out.ext hx); have T6_12 := Lib.hid (T6_11.out.ext hx); have T8_12 := Lib.hid (T8_11.out.ext hx); have T9_0_12 := Lib.hid (T9_0_11.out.ext hx); have T11_12 := Lib.hid (t11.out.ext hx); clear K11 Ba0_11 B7_11 T5_0_11 T6_11 T8_11 T9_0_11 t11; clear hx; have la0_0 := Ba0_12.out.rd 0 rfl; have la0_1 := Ba0_12.out.rd 1 rfl; have l7_0 := B7_12.out.rd 0 rfl; have l7_1 := B7_12.out.rd 1 rfl))
      clear la0_0 la0_1 l7_0 l7_1 ra0_0 ra0_1 r7_0 r7_1
      clear T11_12
      have ra0_0 := Ba0_12.out.rd 0 rfl
      have ra0_1 := Ba0_12.out.rd 1 rfl
      have r7_0 := B7_12.out.rd 0 rfl
      have r7_1 := B7_12.out.rd 1 rfl
      go_wp2_with fail
      clear ra0_0 ra0_1 r7_0 r7_1
      refine (HT1.out _ K12.out).mono ?_
      rintro e w13 ⟨A_13, rfl, hb, hw⟩
      have s13 := hb.size
      have t13 := Lib.hid hw
      have K13 := Lib.hid (K12.out.trans (hb.mono K12.out.size))
      have Ba0_13 := Lib.hid (Ba0_12.out.below hb Ba0_12.out.lt)
      have B7_13 := Lib.hid (B7_12.out.below hb B7_12.out.lt)
      have T5_0_13 := Lib.hid (T5_0_12.out.below hb)
      have T6_13 := Lib.hid (T6_12.out.below hb)
      have T8_13 := Lib.hid (T8_12.out.below hb)
      have T9_0_13 := Lib.hid (T9_0_12.out.below hb)
      clear K12 Ba0_12 B7_12 T5_0_12 T6_12 T8_12 T9_0_12
      clear hb hw
      have ra0_0 := Ba0_13.out.rd 0 rfl
      have ra0_1 := Ba0_13.out.rd 1 rfl
      have r7_0 := B7_13.out.rd 0 rfl
      have r7_1 := B7_13.out.rd 1 rfl
      go_wp2_with fail
      clear ra0_0 ra0_1 r7_0 r7_1
      refine (eqInt64SS_any A_8 A_13 n1 n1 _ _ rs1 rs1 _ (by omega) HL1.out HL1.out (fun k hk => by have := HR1.out k hk; omega) T8_13.out.irr t13.out.irr).mono ?_
      rw [decide_eq_true (rfl : rs1 = rs1)]
      rintro e w14 ⟨rfl, hx⟩
      have s14 := (hx.below (Nat.le_refl _)).size
      have K14 := Lib.hid (K13.out.trans (hx.below K13.out.size))
      have Ba0_14 := Lib.hid (Ba0_13.out.ext hx)
      have B7_14 := Lib.hid (B7_13.out.ext hx)
      have T5_0_14 := Lib.hid (T5_0_13.out.ext hx)
      have T6_14 := Lib.hid (T6_13.out.ext hx)
      have T8_14 := Lib.hid (T8_13.out.ext hx)
      have T9_0_14 := Lib.hid (T9_0_13.out.ext hx)
      have T13_14 := Lib.hid (t13.out.ext hx)
      clear K13 Ba0_13 B7_13 T5_0_13 T6_13 T8_13 T9_0_13 t13
      clear hx
      clear T13_14
      have ra0_0 := Ba0_14.out.rd 0 rfl
      have ra0_1 := Ba0_14.out.rd 1 rfl
      have r7_0 := B7_14.out.rd 0 rfl
      have r7_1 := B7_14.out.rd 1 rfl
      go_wp2_with fail
      clear ra0_0 ra0_1 r7_0 r7_1
      refine (markSet_at c0 A_6 n0 _ (1) ts0 _ _ _ (by omega) (by omega) (by omega) HL0.out T6_14.out).mono ?_
      rintro e w15 ⟨rfl, ho, hw⟩
      have s15 := ho.size
      have t15 := Lib.hid hw
      have K15 := Lib.hid (K14.out.trans (ho.below (by omega) K14.out.size))
      have Ba0_15 := Lib.hid (Ba0_14.out.only ho (by omega))
      have B7_15 := Lib.hid (B7_14.out.only ho (by omega))
      have T5_0_15 := Lib.hid (T5_0_14.out.only ho (by omega))
      have T8_15 := Lib.hid (T8_14.out.only ho (by omega))
      have T9_0_15 := Lib.hid (T9_0_14.out.only ho (by omega))
      clear K14 Ba0_14 B7_14 T5_0_14 T8_14 T9_0_14
      clear ho hw T6_14
      have ra0_0 := Ba0_15.out.rd 0 rfl
      have ra0_1 := Ba0_15.out.rd 1 rfl
      have r7_0 := B7_15.out.rd 0 rfl
      have r7_1 := B7_15.out.rd 1 rfl
      go_wp2_with fail
      clear ra0_0 ra0_1 r7_0 r7_1
      refine (markRows_at A_8 n1 _ pa1 (1 + 4 * (n0 : Int)) rs1 _ _ _ HPA1.out (by omega) (by omega) (by omega) (by omega) HL1.out T8_15.out).mono ?_
      rintro e w16 ⟨rfl, ho, hw⟩
      have s16 := ho.size
      have t16 := Lib.hid hw
      have K16 := Lib.hid (K15.out.trans (ho.below (by omega) K15.out.size))
      have Ba0_16 := Lib.hid (Ba0_15.out.only ho (by omega))
      have B7_16 := Lib.hid (B7_15.out.only ho (by omega))
      have T5_0_16 := Lib.hid (T5_0_15.out.only ho (by omega))
      have T6_16 := Lib.hid (t15.out.only ho (by omega))
      have T9_0_16 := Lib.hid (T9_0_15.out.only ho (by omega))
      clear K15 Ba0_15 B7_15 T5_0_15 t15 T9_0_15
      clear ho hw T8_15
      have ra0_0 := Ba0_16.out.rd 0 rfl
      have ra0_1 := Ba0_16.out.rd 1 rfl
      have r7_0 := B7_16.out.rd 0 rfl
      have r7_1 := B7_16.out.rd 1 rfl
      go_wp2_with fail
      clear ra0_0 ra0_1 r7_0 r7_1
      refine (eqInt64S_any B9_0_ B5_0_ m0 m0 _ _ ys0 ys0 _ (by omega) HM0.out HM0.out T9_0_16.out.ir T5_0_16.out.ir).mono ?_
      rw [decide_eq_true (rfl : ys0 = ys0)]
      rintro e w17 ⟨rfl, hx⟩
      have s17 := (hx.below (Nat.le_refl _)).size
      have K17 := Lib.hid (K16.out.trans (hx.below K16.out.size))
      have Ba0_17 := Lib.hid (Ba0_16.out.ext hx)
      have B7_17 := Lib.hid (B7_16.out.ext hx)
      have T5_0_17 := Lib.hid (T5_0_16.out.ext hx)
      have T6_17 := Lib.hid (T6_16.out.ext hx)
      have T8_17 := Lib.hid (t16.out.ext hx)
      have T9_0_17 := Lib.hid (T9_0_16.out.ext hx)
      clear K16 Ba0_16 B7_16 T5_0_16 T6_16 t16 T9_0_16
      clear hx
      have ra0_0 := Ba0_17.out.rd 0 rfl
      have ra0_1 := Ba0_17.out.rd 1 rfl
      have r7_0 := B7_17.out.rd 0 rfl
      have r7_1 := B7_17.out.rd 1 rfl
      go_wp2_with fail
      clear ra0_0 ra0_1 r7_0 r7_1
      refine (markInt64S_any B9_0_ m0 _ (1) ys0 _ _ _ (by omega) (by omega) (by omega) HM0.out T9_0_17.out).mono ?_
      rintro e w18 ⟨rfl, ho, hw⟩
      have s18 := ho.size
      have t18 := Lib.hid hw
      have K18 := Lib.hid (K17.out.trans (ho.below (by omega) K17.out.size))
      have Ba0_18 := Lib.hid (Ba0_17.out.only ho (by omega))
      have B7_18 := Lib.hid (B7_17.out.only ho (by omega))
      have T5_0_18 := Lib.hid (T5_0_17.out.only ho (by omega))
      have T6_18 := Lib.hid (T6_17.out.only ho (by omega))
      have T8_18 := Lib.hid (T8_17.out.only ho (by omega))
      clear K17 Ba0_17 B7_17 T5_0_17 T6_17 T8_17
      clear ho hw T9_0_17
      have ra0_0 := Ba0_18.out.rd 0 rfl
      have ra0_1 := Ba0_18.out.rd 1 rfl
      have r7_0 := B7_18.out.rd 0 rfl
      have r7_1 := B7_18.out.rd 1 rfl
      go_wp2_with fail
      clear ra0_0 ra0_1 r7_0 r7_1
      refine (heldInt64S_any B9_0_ m0 _ (1) _ (by omega) (by omega) (by omega) t18.out.ir).mono ?_
      rintro e w19 ⟨rfl, hx⟩
      have s19 := (hx.below (Nat.le_refl _)).size
      have K19 := Lib.hid (K18.out.trans (hx.below K18.out.size))
      have Ba0_19 := Lib.hid (Ba0_18.out.ext hx)
      have B7_19 := Lib.hid (B7_18.out.ext hx)
      have T5_0_19 := Lib.hid (T5_0_18.out.ext hx)
      have T6_19 := Lib.hid (T6_18.out.ext hx)
      have T8_19 := Lib.hid (T8_18.out.ext hx)
      have T9_0_19 := Lib.hid (t18.out.ext hx)
      clear K18 Ba0_18 B7_18 T5_0_18 T6_18 T8_18 t18
      clear hx
      have ra0_0 := Ba0_19.out.rd 0 rfl
      have ra0_1 := Ba0_19.out.rd 1 rfl
      have r7_0 := B7_19.out.rd 0 rfl
      have r7_1 := B7_19.out.rd 1 rfl
      go_wp2_with fail
      clear ra0_0 ra0_1 r7_0 r7_1
      refine (HT0.out _ K19.out).mono ?_
      rintro e w20 ⟨A_20, rfl, hb, hw⟩
      have s20 := hb.size
      have t20 := Lib.hid hw.r
      have K20 := Lib.hid (K19.out.trans (hb.mono K19.out.size))
      have Ba0_20 := Lib.hid (Ba0_19.out.below hb Ba0_19.out.lt)
      have B7_20 := Lib.hid (B7_19.out.below hb B7_19.out.lt)
      have T5_0_20 := Lib.hid (T5_0_19.out.below hb)
      have T6_20 := Lib.hid (T6_19.out.below hb)
      have T8_20 := Lib.hid (T8_19.out.below hb)
      have T9_0_20 := Lib.hid (T9_0_19.out.below hb)
      clear K19 Ba0_19 B7_19 T5_0_19 T6_19 T8_19 T9_0_19
      clear hb hw
      have ra0_0 := Ba0_20.out.rd 0 rfl
      have ra0_1 := Ba0_20.out.rd 1 rfl
      have r7_0 := B7_20.out.rd 0 rfl
      have r7_1 := B7_20.out.rd 1 rfl
      go_wp2_with fail
      clear ra0_0 ra0_1 r7_0 r7_1
      refine (HT1.out _ K20.out).mono ?_
      rintro e w21 ⟨A_21, rfl, hb, hw⟩
      have s21 := hb.size
      have t21 := Lib.hid hw
      have K21 := Lib.hid (K20.out.trans (hb.mono K20.out.size))
      have Ba0_21 := Lib.hid (Ba0_20.out.below hb Ba0_20.out.lt)
      have B7_21 := Lib.hid (B7_20.out.below hb B7_20.out.lt)
      have T5_0_21 := Lib.hid (T5_0_20.out.below hb)
      have T6_21 := Lib.hid (T6_20.out.below hb)
      have T8_21 := Lib.hid (T8_20.out.below hb)
      have T9_0_21 := Lib.hid (T9_0_20.out.below hb)
      have T20_21 := Lib.hid (t20.out.below hb)
      clear K20 Ba0_20 B7_20 T5_0_20 T6_20 T8_20 T9_0_20 t20
      clear hb hw
      have ra0_0 := Ba0_21.out.rd 0 rfl
      have ra0_1 := Ba0_21.out.rd 1 rfl
      have r7_0 := B7_21.out.rd 0 rfl
      have r7_1 := B7_21.out.rd 1 rfl
      go_wp2_with fail
      clear ra0_0 ra0_1 r7_0 r7_1
      refine (HI.out _ A_20 _ A_21 _ (Nat.le_refl _) T20_21.out.tr (Nat.le_refl _) t21.out.irr).mono ?_
      rintro e w22 ⟨B22_0_, cap22_0, rfl, hb, hw0⟩
      have s22 := hb.size
      have t22_0 := Lib.hid hw0
      have K22 := Lib.hid (K21.out.trans (hb.mono K21.out.size))
      have Ba0_22 := Lib.hid (Ba0_21.out.below hb Ba0_21.out.lt)
      have B7_22 := Lib.hid (B7_21.out.below hb B7_21.out.lt)
      have T5_0_22 := Lib.hid (T5_0_21.out.below hb)
      have T6_22 := Lib.hid (T6_21.out.below hb)
      have T8_22 := Lib.hid (T8_21.out.below hb)
      have T9_0_22 := Lib.hid (T9_0_21.out.below hb)
      have T20_22 := Lib.hid (T20_21.out.below hb)
      have T21_22 := Lib.hid (t21.out.below hb)
      clear K21 Ba0_21 B7_21 T5_0_21 T6_21 T8_21 T9_0_21 T20_21 t21
      clear hb hw0
      clear T20_22 T21_22
      have ra0_0 := Ba0_22.out.rd 0 rfl
      have ra0_1 := Ba0_22.out.rd 1 rfl
      have r7_0 := B7_22.out.rd 0 rfl
      have r7_1 := B7_22.out.rd 1 rfl
      go_wp2_with fail
      clear ra0_0 ra0_1 r7_0 r7_1
      refine (eqInt64S_any B22_0_ B5_0_ m0 m0 _ _ ys0 ys0 _ (by omega) HM0.out HM0.out t22_0.out.ir T5_0_22.out.ir).mono ?_
      rw [decide_eq_true (rfl : ys0 = ys0)]
      rintro e w23 ⟨rfl, hx⟩
      have s23 := (hx.below (Nat.le_refl _)).size
      have K23 := Lib.hid (K22.out.trans (hx.below K22.out.size))
      have Ba0_23 := Lib.hid (Ba0_22.out.ext hx)
      have B7_23 := Lib.hid (B7_22.out.ext hx)
      have T5_0_23 := Lib.hid (T5_0_22.out.ext hx)
      have T6_23 := Lib.hid (T6_22.out.ext hx)
      have T8_23 := Lib.hid (T8_22.out.ext hx)
      have T9_0_23 := Lib.hid (T9_0_22.out.ext hx)
      have T22_0_23 := Lib.hid (t22_0.out.ext hx)
      clear K22 Ba0_22 B7_22 T5_0_22 T6_22 T8_22 T9_0_22 t22_0
      clear hx
      have ra0_0 := Ba0_23.out.rd 0 rfl
      have ra0_1 := Ba0_23.out.rd 1 rfl
      have r7_0 := B7_23.out.rd 0 rfl
      have r7_1 := B7_23.out.rd 1 rfl
      go_wp2_with fail
      clear ra0_0 ra0_1 r7_0 r7_1
      refine (heldInt64S_any B9_0_ m0 _ (1) _ (by omega) (by omega) (by omega) T9_0_23.out.ir).mono ?_
      rintro e w24 ⟨rfl, hx⟩
      have s24 := (hx.below (Nat.le_refl _)).size
      have K24 := Lib.hid (K23.out.trans (hx.below K23.out.size))
      have Ba0_24 := Lib.hid (Ba0_23.out.ext hx)
      have B7_24 := Lib.hid (B7_23.out.ext hx)
      have T5_0_24 := Lib.hid (T5_0_23.out.ext hx)
      have T6_24 := Lib.hid (T6_23.out.ext hx)
      have T8_24 := Lib.hid (T8_23.out.ext hx)
      have T9_0_24 := Lib.hid (T9_0_23.out.ext hx)
      have T22_0_24 := Lib.hid (T22_0_23.out.ext hx)
      clear K23 Ba0_23 B7_23 T5_0_23 T6_23 T8_23 T9_0_23 T22_0_23
      clear hx
      have ra0_0 := Ba0_24.out.rd 0 rfl
      have ra0_1 := Ba0_24.out.rd 1 rfl
      have r7_0 := B7_24.out.rd 0 rfl
      have r7_1 := B7_24.out.rd 1 rfl
      go_wp2_with fail
      clear ra0_0 ra0_1 r7_0 r7_1
      go_ret
      exact ⟨rfl, K24.out⟩
theorem law_TilesGrown (c0 : Int) (A0 : Option Addr) (n0 q0 : Nat) (ts0 : List Tl) (A1 : Option Addr) (n1 q1 : Nat) (rs1 : List (List Int)) (i2 : Int) (w : World)
    (hn0 : n0 ≤ 9223372036854775807) (hl0 : ts0.length = n0) (hA0 : TR w w.heap.size A0 ts0) (hn1 : n1 ≤ 9223372036854775807) (hl1 : rs1.length = n1) (hr1 : ∀ k, k < n1 → (rs1.getD k []).length ≤ 9223372036854775807) (hA1 : IRR w w.heap.size A1 rs1) :
    Calls Try.prog 13 #[.agg #[.int .i64 c0, .slice A0 n0 q0], .slice A1 n1 q1, .int .i64 i2] w fun e w' => e = .returned (.bool true) ∧ Below w.heap.size w w' := by
  by_cases hz : fCode c0 ts0 rs1 i2 = 0
  · have h20 : n1 ≤ 16 := by
      have hb := (gc_zero hz).1
      have h1 := isSet_len (bCode_zero hb).1
      have h2 := bCode_len hb
      omega
    exact lawTilesGrown_core c0 A0 n0 q0 ts0 A1 n1 q1 rs1 i2 w hn0 hl0 hA0 hn1 hl1 hr1 hA1 (ints (tgL rs1 n1 i2.toNat)) 0 (by rw [ints_len]; exact Nat.le_trans (Nat.le_trans (tgL_len rs1 n1 i2.toNat) h20) (by omega))
      (fun h W B0 e0 B1 e1 _ hB0 _ hB1 => (specTilesGrown_any c0 B0 n0 e0 ts0 B1 n1 e1 rs1 i2 W h.1 hl0 hB0 h.2.1 hl1 hB1 h.2.2).mono fun e w' hh => hh.1 hz)
      (fun h W B0 e0 B1 e1 _ hB0 _ hB1 => (implTilesGrown_any c0 B0 n0 e0 ts0 B1 n1 e1 rs1 i2 W h.1 hl0 hB0 h.2.1 hl1 hB1 h.2.2).mono fun e w' hh => hh.1 hz)
  · exact lawTilesGrown_core c0 A0 n0 q0 ts0 A1 n1 q1 rs1 i2 w hn0 hl0 hA0 hn1 hl1 hr1 hA1 [] (fCode c0 ts0 rs1 i2) (by simp)
      (fun h W B0 e0 B1 e1 _ hB0 _ hB1 => (specTilesGrown_any c0 B0 n0 e0 ts0 B1 n1 e1 rs1 i2 W h.1 hl0 hB0 h.2.1 hl1 hB1 h.2.2).mono fun e w' hh => hh.2 hz)
      (fun h W B0 e0 B1 e1 _ hB0 _ hB1 => (implTilesGrown_any c0 B0 n0 e0 ts0 B1 n1 e1 rs1 i2 W h.1 hl0 hB0 h.2.1 hl1 hB1 h.2.2).mono fun e w' hh => hh.2 hz)
end Go.Proofs.Ytnmgkchkbchfaaa
