/- The exact law over GrowRows: walked. -/
import Derived.Test.YtnmgkchkbchfaaaBkB
import Derived.Test.YtnmgkchkbchfaaaRs2
import Derived.Test.YtnmgkchkbchfaaaRs3
import Derived.Test.YtnmgkchkbchfaaaMark2
import Derived.Test.YtnmgkchkbchfaaaHeld
import Derived.Test.YtnmgkchkbchfaaaInts
import Derived.Deep.RegionHeld3
import Derived.Deep.RegionLaw
import Derived.Deep.DeepCutAuto
namespace Go.Proofs.Ytnmgkchkbchfaaa
set_option linter.unusedVariables false
set_option linter.unusedSimpArgs false
open Go.RowKit Go.Sort

set_option maxRecDepth 100000 in
set_option maxHeartbeats 4000000 in
theorem lawGrowRows_core (c0 : Int) (A0 : Option Addr) (n0 q0 : Nat) (ts0 : List Tl) (A1 : Option Addr) (n1 q1 : Nat) (rs1 : List (List Int)) (A2 : Option Addr) (n2 q2 : Nat) (rs2 : List (List Int)) (w : World) (hn0 : n0 ≤ 9223372036854775807) (hl0 : ts0.length = n0) (hA0 : TR w w.heap.size A0 ts0) (hn1 : n1 ≤ 9223372036854775807) (hl1 : rs1.length = n1) (hr1 : ∀ k, k < n1 → (rs1.getD k []).length ≤ 9223372036854775807) (hA1 : IRR w w.heap.size A1 rs1) (hn2 : n2 ≤ 9223372036854775807) (hl2 : rs2.length = n2) (hr2 : ∀ k, k < n2 → (rs2.getD k []).length ≤ 9223372036854775807) (hA2 : IRR w w.heap.size A2 rs2) (vs0 : List (List Int)) (r1 : Int) (hus0 : need vs0 ≤ 65536)
    (hspec : n0 ≤ 1048576 ∧ n1 ≤ 1048576 ∧ (∀ k, k < n1 → (rs1.getD k []).length ≤ 1048576) ∧ n2 ≤ 1048576 ∧ (∀ k, k < n2 → (rs2.getD k []).length ≤ 1048576) → ∀ (W : World) (B0 : Option Addr) (e0 : Nat) (B1 : Option Addr) (e1 : Nat) (B2 : Option Addr) (e2 : Nat), n0 ≤ e0 → TR W W.heap.size B0 ts0 → n1 ≤ e1 → IRR W W.heap.size B1 rs1 → n2 ≤ e2 → IRR W W.heap.size B2 rs2 → Calls Try.prog 24 #[.agg #[.int .i64 c0, .slice B0 n0 e0], .slice B1 n1 e1, .slice B2 n2 e2] W (fun e w' => ∃ R0 p0, e = .returned (.tuple #[.slice R0 vs0.length p0, .int .i64 r1]) ∧ Below W.heap.size W w' ∧ IWW w' W.heap.size w'.heap.size R0 vs0))
    (himpl : n0 ≤ 1048576 ∧ n1 ≤ 1048576 ∧ (∀ k, k < n1 → (rs1.getD k []).length ≤ 1048576) ∧ n2 ≤ 1048576 ∧ (∀ k, k < n2 → (rs2.getD k []).length ≤ 1048576) → ∀ (W : World) (B0 : Option Addr) (e0 : Nat) (B1 : Option Addr) (e1 : Nat) (B2 : Option Addr) (e2 : Nat), n0 ≤ e0 → TR W W.heap.size B0 ts0 → n1 ≤ e1 → IRR W W.heap.size B1 rs1 → n2 ≤ e2 → IRR W W.heap.size B2 rs2 → Calls Try.prog 25 #[.agg #[.int .i64 c0, .slice B0 n0 e0], .slice B1 n1 e1, .slice B2 n2 e2] W (fun e w' => ∃ R0 p0, e = .returned (.tuple #[.slice R0 vs0.length p0, .int .i64 r1]) ∧ Below W.heap.size W w' ∧ IWW w' W.heap.size w'.heap.size R0 vs0)) :
    Calls Try.prog 5 #[.agg #[.int .i64 c0, .slice A0 n0 q0], .slice A1 n1 q1, .slice A2 n2 q2] w fun e w' => e = .returned (.bool true) ∧ Below w.heap.size w w' := by
  obtain ⟨z1_, hz1⟩ : ∃ z, z = need rs1 := ⟨_, rfl⟩
  have hzn1 : n1 ≤ z1_ := by rw [hz1]; unfold need; omega
  have hzp1 : pre rs1 n1 ≤ z1_ := by rw [hz1]; unfold need; rw [hl1]; omega
  have hzr1 : ∀ k, k < n1 → (rs1.getD k []).length ≤ z1_ := fun k hk => by rw [hz1]; exact need_row (by omega)
  obtain ⟨z2_, hz2⟩ : ∃ z, z = need rs2 := ⟨_, rfl⟩
  have hzn2 : n2 ≤ z2_ := by rw [hz2]; unfold need; omega
  have hzp2 : pre rs2 n2 ≤ z2_ := by rw [hz2]; unfold need; rw [hl2]; omega
  have hzr2 : ∀ k, k < n2 → (rs2.getD k []).length ≤ z2_ := fun k hk => by rw [hz2]; exact need_row (by omega)
  have hsz0 : (0 : Int) ≤ 1048576 → ∀ W, Calls Try.prog 14 #[.agg #[.int .i64 c0, .slice A0 n0 q0], .int .i64 1048576] W _ := fun h W => szSet_any c0 A0 n0 q0 1048576 W hn0 h (by omega)
  have hsz1 : 0 ≤ (1048576 - (n0 : Int)) → ∀ W, Below w.heap.size w W → Calls Try.prog 15 #[.slice A1 n1 q1, .int .i64 (1048576 - (n0 : Int))] W _ := fun h W hW => szInt64SS_any A1 n1 q1 rs1 (1048576 - (n0 : Int)) W hn1 hl1 hr1 h (by omega) ((hA1.below hW (Nat.le_refl _)).more hW.size)
  rw [← hz1] at hsz1
  clear hz1
  have hsz2 : 0 ≤ (1048576 - (n0 : Int) - (z1_ : Int)) → ∀ W, Below w.heap.size w W → Calls Try.prog 15 #[.slice A2 n2 q2, .int .i64 (1048576 - (n0 : Int) - (z1_ : Int))] W _ := fun h W hW => szInt64SS_any A2 n2 q2 rs2 (1048576 - (n0 : Int) - (z1_ : Int)) W hn2 hl2 hr2 h (by omega) ((hA2.below hW (Nat.le_refl _)).more hW.size)
  rw [← hz2] at hsz2
  clear hz2
  by_cases hbig0 : (1048576 : Int) < n0
  · replace hsz0 := hsz0 (by omega)
    simp only [if_pos hbig0] at hsz0
    clear hsz1
    clear hsz2
    clear hspec himpl
    go_enter Try.func5, Try.ntmps5
    go_wp2_with fail
    have hx0 : Ext w (w.alloc (Obj.cells #[.int .i64 c0, .slice A0 n0 q0] 24)) := ((Ext.refl w).alloc _)
    have b00 : Blk (w.alloc (Obj.cells #[.int .i64 c0, .slice A0 n0 q0] 24)) w.heap.size 24 #[.int .i64 c0, .slice A0 n0 q0] := (Blk.new w 24 #[.int .i64 c0, .slice A0 n0 q0])
    have s0 : w.heap.size + 1 ≤ (w.alloc (Obj.cells #[.int .i64 c0, .slice A0 n0 q0] 24)).heap.size := by simp
    have K0 := Lib.hid (hx0.below (Nat.le_refl _))
    have C00 := Lib.hid b00
    clear hx0 b00
    generalize (w.alloc (Obj.cells #[.int .i64 c0, .slice A0 n0 q0] 24)) = w0 at *
    refine (hsz0 _).mono ?_
    rintro e w1 ⟨rfl, hx⟩
    have s1 := (hx.below (Nat.le_refl _)).size
    have K1 := Lib.hid (K0.out.trans (hx.below K0.out.size))
    have Ba0_1 := Lib.hid (C00.out.ext hx)
    clear K0 C00
    clear hx
    have ra0_0 := Ba0_1.out.rd 0 rfl
    have ra0_1 := Ba0_1.out.rd 1 rfl
    go_wp2_with fail
    clear ra0_0 ra0_1
    go_ret
    exact ⟨rfl, K1.out⟩
  · skip
    by_cases hbig1 : (1048576 - (n0 : Int) : Int) < z1_
    · replace hsz0 := hsz0 (by omega)
      simp only [if_neg hbig0] at hsz0
      replace hsz1 := hsz1 (by omega)
      simp only [if_pos hbig1] at hsz1
      clear hsz2
      have hneg0 : ¬ (1048576 - (n0 : Int) < 0) := by omega
      clear hspec himpl
      go_enter Try.func5, Try.ntmps5
      go_wp2_with fail
      have hx0 : Ext w (w.alloc (Obj.cells #[.int .i64 c0, .slice A0 n0 q0] 24)) := ((Ext.refl w).alloc _)
      have b00 : Blk (w.alloc (Obj.cells #[.int .i64 c0, .slice A0 n0 q0] 24)) w.heap.size 24 #[.int .i64 c0, .slice A0 n0 q0] := (Blk.new w 24 #[.int .i64 c0, .slice A0 n0 q0])
      have s0 : w.heap.size + 1 ≤ (w.alloc (Obj.cells #[.int .i64 c0, .slice A0 n0 q0] 24)).heap.size := by simp
      have K0 := Lib.hid (hx0.below (Nat.le_refl _))
      have C00 := Lib.hid b00
      clear hx0 b00
      generalize (w.alloc (Obj.cells #[.int .i64 c0, .slice A0 n0 q0] 24)) = w0 at *
      refine (hsz0 _).mono ?_
      rintro e w1 ⟨rfl, hx⟩
      have s1 := (hx.below (Nat.le_refl _)).size
      have K1 := Lib.hid (K0.out.trans (hx.below K0.out.size))
      have Ba0_1 := Lib.hid (C00.out.ext hx)
      clear K0 C00
      clear hx
      have ra0_0 := Ba0_1.out.rd 0 rfl
      have ra0_1 := Ba0_1.out.rd 1 rfl
      go_wp2_with fail
      clear ra0_0 ra0_1
      refine (hsz1 _ K1.out).mono ?_
      rintro e w2 ⟨rfl, hx⟩
      have s2 := (hx.below (Nat.le_refl _)).size
      have K2 := Lib.hid (K1.out.trans (hx.below K1.out.size))
      have Ba0_2 := Lib.hid (Ba0_1.out.ext hx)
      clear K1 Ba0_1
      clear hx
      have ra0_0 := Ba0_2.out.rd 0 rfl
      have ra0_1 := Ba0_2.out.rd 1 rfl
      go_wp2_with fail
      clear ra0_0 ra0_1
      go_ret
      exact ⟨rfl, K2.out⟩
    · skip
      by_cases hbig2 : (1048576 - (n0 : Int) - (z1_ : Int) : Int) < z2_
      · replace hsz0 := hsz0 (by omega)
        simp only [if_neg hbig0] at hsz0
        replace hsz1 := hsz1 (by omega)
        simp only [if_neg hbig1] at hsz1
        replace hsz2 := hsz2 (by omega)
        simp only [if_pos hbig2] at hsz2
        have hneg0 : ¬ (1048576 - (n0 : Int) < 0) := by omega
        have hneg1 : ¬ (1048576 - (n0 : Int) - (z1_ : Int) < 0) := by omega
        clear hspec himpl
        go_enter Try.func5, Try.ntmps5
        go_wp2_with fail
        have hx0 : Ext w (w.alloc (Obj.cells #[.int .i64 c0, .slice A0 n0 q0] 24)) := ((Ext.refl w).alloc _)
        have b00 : Blk (w.alloc (Obj.cells #[.int .i64 c0, .slice A0 n0 q0] 24)) w.heap.size 24 #[.int .i64 c0, .slice A0 n0 q0] := (Blk.new w 24 #[.int .i64 c0, .slice A0 n0 q0])
        have s0 : w.heap.size + 1 ≤ (w.alloc (Obj.cells #[.int .i64 c0, .slice A0 n0 q0] 24)).heap.size := by simp
        have K0 := Lib.hid (hx0.below (Nat.le_refl _))
        have C00 := Lib.hid b00
        clear hx0 b00
        generalize (w.alloc (Obj.cells #[.int .i64 c0, .slice A0 n0 q0] 24)) = w0 at *
        refine (hsz0 _).mono ?_
        rintro e w1 ⟨rfl, hx⟩
        have s1 := (hx.below (Nat.le_refl _)).size
        have K1 := Lib.hid (K0.out.trans (hx.below K0.out.size))
        have Ba0_1 := Lib.hid (C00.out.ext hx)
        clear K0 C00
        clear hx
        have ra0_0 := Ba0_1.out.rd 0 rfl
        have ra0_1 := Ba0_1.out.rd 1 rfl
        go_wp2_with fail
        clear ra0_0 ra0_1
        refine (hsz1 _ K1.out).mono ?_
        rintro e w2 ⟨rfl, hx⟩
        have s2 := (hx.below (Nat.le_refl _)).size
        have K2 := Lib.hid (K1.out.trans (hx.below K1.out.size))
        have Ba0_2 := Lib.hid (Ba0_1.out.ext hx)
        clear K1 Ba0_1
        clear hx
        have ra0_0 := Ba0_2.out.rd 0 rfl
        have ra0_1 := Ba0_2.out.rd 1 rfl
        go_wp2_with fail
        clear ra0_0 ra0_1
        refine (hsz2 _ K2.out).mono ?_
        rintro e w3 ⟨rfl, hx⟩
        have s3 := (hx.below (Nat.le_refl _)).size
        have K3 := Lib.hid (K2.out.trans (hx.below K2.out.size))
        have Ba0_3 := Lib.hid (Ba0_2.out.ext hx)
        clear K2 Ba0_2
        clear hx
        have ra0_0 := Ba0_3.out.rd 0 rfl
        have ra0_1 := Ba0_3.out.rd 1 rfl
        go_wp2_with fail
        clear ra0_0 ra0_1
        go_ret
        exact ⟨rfl, K3.out⟩
      · skip
        replace hsz0 := hsz0 (by omega)
        simp only [if_neg hbig0] at hsz0
        replace hsz1 := hsz1 (by omega)
        simp only [if_neg hbig1] at hsz1
        replace hsz2 := hsz2 (by omega)
        simp only [if_neg hbig2] at hsz2
        have hneg0 : ¬ (1048576 - (n0 : Int) < 0) := by omega
        have hneg1 : ¬ (1048576 - (n0 : Int) - (z1_ : Int) < 0) := by omega
        have hneg2 : ¬ (1048576 - (n0 : Int) - (z1_ : Int) - (z2_ : Int) < 0) := by omega
        have hn'0 : n0 ≤ 1048576 := by omega
        have hts0 : ∀ W, Below w.heap.size w W → Calls Try.prog 17 #[.agg #[.int .i64 c0, .slice A0 n0 q0]] W _ := fun W hW => toSet_any c0 A0 n0 q0 ts0 W hn'0 hl0 ((hA0.below hW (Nat.le_refl _)).more hW.size)
        have hn'1 : n1 ≤ 1048576 := by omega
        have hr'1 : ∀ k, k < n1 → (rs1.getD k []).length ≤ 1048576 := fun k hk => by have := hzr1 k hk; omega
        have hts1 : ∀ W, Below w.heap.size w W → Calls Try.prog 18 #[.slice A1 n1 q1] W _ := fun W hW => toInt64SS_any A1 n1 q1 rs1 W hn'1 hl1 hr'1 ((hA1.below hW (Nat.le_refl _)).more hW.size)
        have hn'2 : n2 ≤ 1048576 := by omega
        have hr'2 : ∀ k, k < n2 → (rs2.getD k []).length ≤ 1048576 := fun k hk => by have := hzr2 k hk; omega
        have hts2 : ∀ W, Below w.heap.size w W → Calls Try.prog 18 #[.slice A2 n2 q2] W _ := fun W hW => toInt64SS_any A2 n2 q2 rs2 W hn'2 hl2 hr'2 ((hA2.below hW (Nat.le_refl _)).more hW.size)
        have HT0 := Lib.hid hts0
        have HL0 := Lib.hid hl0
        have HT1 := Lib.hid hts1
        have HL1 := Lib.hid hl1
        have HT2 := Lib.hid hts2
        have HL2 := Lib.hid hl2
        have HR1 := Lib.hid hr'1
        have HR2 := Lib.hid hr'2
        have HS := Lib.hid (hspec ⟨hn'0, hn'1, hr'1, hn'2, hr'2⟩)
        have HI := Lib.hid (himpl ⟨hn'0, hn'1, hr'1, hn'2, hr'2⟩)
        clear hspec himpl hts0 hA0 hl0 hts1 hA1 hl1 hr1 hr'1 hzr1 hts2 hA2 hl2 hr2 hr'2 hzr2
        obtain ⟨pm0, hpm0⟩ : ∃ p, pre vs0 vs0.length = p := ⟨_, rfl⟩
        have hpb0 : vs0.length + pm0 ≤ 65536 := by unfold need at hus0; omega
        have hrw0 : ∀ k, k < vs0.length → (vs0.getD k []).length ≤ 1152921504606846976 := fun k hk => by have := need_row hk; omega
        generalize hm0 : vs0.length = m0 at *
        have HM0 := Lib.hid hm0
        clear hm0
        have HPM0 := Lib.hid hpm0
        have HRW0 := Lib.hid hrw0
        clear hpm0 hrw0 hus0
        obtain ⟨pa1, hpa1⟩ : ∃ p, pre rs1 n1 = p := ⟨_, rfl⟩
        rw [hpa1] at hzp1
        have hpab1 : pa1 ≤ 1048576 := by omega
        have HPA1 := Lib.hid hpa1
        clear hpa1 hzp1
        obtain ⟨pa2, hpa2⟩ : ∃ p, pre rs2 n2 = p := ⟨_, rfl⟩
        rw [hpa2] at hzp2
        have hpab2 : pa2 ≤ 1048576 := by omega
        have HPA2 := Lib.hid hpa2
        clear hpa2 hzp2
        have hcc1 : (r1 != r1) = false := by simp
        have hkn : ¬ (1 + 4 * (n0 : Int) + (pa1 : Nat) + (pa2 : Nat) < 0) := by omega
        have hkm0 : ¬ (1 + (pm0 : Nat) < 0) := by omega
        go_enter Try.func5, Try.ntmps5
        go_wp2_with fail
        have hx0 : Ext w (w.alloc (Obj.cells #[.int .i64 c0, .slice A0 n0 q0] 24)) := ((Ext.refl w).alloc _)
        have b00 : Blk (w.alloc (Obj.cells #[.int .i64 c0, .slice A0 n0 q0] 24)) w.heap.size 24 #[.int .i64 c0, .slice A0 n0 q0] := (Blk.new w 24 #[.int .i64 c0, .slice A0 n0 q0])
        have s0 : w.heap.size + 1 ≤ (w.alloc (Obj.cells #[.int .i64 c0, .slice A0 n0 q0] 24)).heap.size := by simp
        have K0 := Lib.hid (hx0.below (Nat.le_refl _))
        have C00 := Lib.hid b00
        clear hx0 b00
        generalize (w.alloc (Obj.cells #[.int .i64 c0, .slice A0 n0 q0] 24)) = w0 at *
        refine (hsz0 _).mono ?_
        rintro e w1 ⟨rfl, hx⟩
        have s1 := (hx.below (Nat.le_refl _)).size
        have K1 := Lib.hid (K0.out.trans (hx.below K0.out.size))
        have Ba0_1 := Lib.hid (C00.out.ext hx)
        clear K0 C00
        clear hx
        have ra0_0 := Ba0_1.out.rd 0 rfl
        have ra0_1 := Ba0_1.out.rd 1 rfl
        go_wp2_with fail
        clear ra0_0 ra0_1
        refine (hsz1 _ K1.out).mono ?_
        rintro e w2 ⟨rfl, hx⟩
        have s2 := (hx.below (Nat.le_refl _)).size
        have K2 := Lib.hid (K1.out.trans (hx.below K1.out.size))
        have Ba0_2 := Lib.hid (Ba0_1.out.ext hx)
        clear K1 Ba0_1
        clear hx
        have ra0_0 := Ba0_2.out.rd 0 rfl
        have ra0_1 := Ba0_2.out.rd 1 rfl
        go_wp2_with fail
        clear ra0_0 ra0_1
        refine (hsz2 _ K2.out).mono ?_
        rintro e w3 ⟨rfl, hx⟩
        have s3 := (hx.below (Nat.le_refl _)).size
        have K3 := Lib.hid (K2.out.trans (hx.below K2.out.size))
        have Ba0_3 := Lib.hid (Ba0_2.out.ext hx)
        clear K2 Ba0_2
        clear hx
        have ra0_0 := Ba0_3.out.rd 0 rfl
        have ra0_1 := Ba0_3.out.rd 1 rfl
        go_wp2_with fail
        clear ra0_0 ra0_1
        refine (HT0.out _ K3.out).mono ?_
        rintro e w4 ⟨A_4, rfl, hb, hw⟩
        have s4 := hb.size
        have t4 := Lib.hid hw.r
        have K4 := Lib.hid (K3.out.trans (hb.mono K3.out.size))
        have Ba0_4 := Lib.hid (Ba0_3.out.below hb Ba0_3.out.lt)
        clear K3 Ba0_3
        clear hb hw
        have ra0_0 := Ba0_4.out.rd 0 rfl
        have ra0_1 := Ba0_4.out.rd 1 rfl
        go_wp2_with fail
        clear ra0_0 ra0_1
        refine (HT1.out _ K4.out).mono ?_
        rintro e w5 ⟨A_5, rfl, hb, hw⟩
        have s5 := hb.size
        have t5 := Lib.hid hw
        have K5 := Lib.hid (K4.out.trans (hb.mono K4.out.size))
        have Ba0_5 := Lib.hid (Ba0_4.out.below hb Ba0_4.out.lt)
        have T4_5 := Lib.hid (t4.out.below hb)
        clear K4 Ba0_4 t4
        clear hb hw
        have ra0_0 := Ba0_5.out.rd 0 rfl
        have ra0_1 := Ba0_5.out.rd 1 rfl
        go_wp2_with fail
        clear ra0_0 ra0_1
        refine (HT2.out _ K5.out).mono ?_
        rintro e w6 ⟨A_6, rfl, hb, hw⟩
        have s6 := hb.size
        have t6 := Lib.hid hw
        have K6 := Lib.hid (K5.out.trans (hb.mono K5.out.size))
        have Ba0_6 := Lib.hid (Ba0_5.out.below hb Ba0_5.out.lt)
        have T4_6 := Lib.hid (T4_5.out.below hb)
        have T5_6 := Lib.hid (t5.out.below hb)
        clear K5 Ba0_5 T4_5 t5
        clear hb hw
        have ra0_0 := Ba0_6.out.rd 0 rfl
        have ra0_1 := Ba0_6.out.rd 1 rfl
        go_wp2_with fail
        clear ra0_0 ra0_1
        refine (HS.out _ A_4 _ A_5 _ A_6 _ (Nat.le_refl _) T4_6.out.tr (Nat.le_refl _) T5_6.out.irr (Nat.le_refl _) t6.out.irr).mono ?_
        rintro e w7 ⟨B7_0_, cap7_0, rfl, hb, hw0⟩
        have s7 := hb.size
        have t7_0 := Lib.hid hw0
        have K7 := Lib.hid (K6.out.trans (hb.mono K6.out.size))
        have Ba0_7 := Lib.hid (Ba0_6.out.below hb Ba0_6.out.lt)
        have T4_7 := Lib.hid (T4_6.out.below hb)
        have T5_7 := Lib.hid (T5_6.out.below hb)
        have T6_7 := Lib.hid (t6.out.below hb)
        clear K6 Ba0_6 T4_6 T5_6 t6
        clear hb hw0
        clear T4_7 T5_7 T6_7
        have ra0_0 := Ba0_7.out.rd 0 rfl
        have ra0_1 := Ba0_7.out.rd 1 rfl
        go_wp2_with fail
        clear ra0_0 ra0_1
        refine (HT0.out _ K7.out).mono ?_
        rintro e w8 ⟨A_8, rfl, hb, hw⟩
        have s8 := hb.size
        have t8 := Lib.hid hw.r
        have K8 := Lib.hid (K7.out.trans (hb.mono K7.out.size))
        have Ba0_8 := Lib.hid (Ba0_7.out.below hb Ba0_7.out.lt)
        have T7_0_8 := Lib.hid (t7_0.out.below hb)
        clear K7 Ba0_7 t7_0
        clear hb hw
        have ra0_0 := Ba0_8.out.rd 0 rfl
        have qa0_0 := (Ba0_8.out.ext ((Ext.refl _).alloc (Obj.cells #[.int .i64 c0, .slice A_8 n0 n0] 32))).rd 0 rfl
        have ra0_1 := Ba0_8.out.rd 1 rfl
        have qa0_1 := (Ba0_8.out.ext ((Ext.refl _).alloc (Obj.cells #[.int .i64 c0, .slice A_8 n0 n0] 32))).rd 1 rfl
        go_wp2_with fail
        clear ra0_0 qa0_0 ra0_1 qa0_1
        have hx : Ext w8 (w8.alloc (Obj.cells #[.int .i64 c0, .slice A_8 n0 n0] 32)) := (Ext.refl _).alloc _
        have sa9 : w8.heap.size + 1 ≤ (w8.alloc (Obj.cells #[.int .i64 c0, .slice A_8 n0 n0] 32)).heap.size := by simp
        have b9 := Lib.hid (Blk.new w8 32 #[.int .i64 c0, .slice A_8 n0 n0])
        generalize w8.alloc (Obj.cells #[.int .i64 c0, .slice A_8 n0 n0] 32) = w9 at *
        have K9 := Lib.hid (K8.out.trans (hx.below K8.out.size))
        have Ba0_9 := Lib.hid (Ba0_8.out.ext hx)
        have T7_0_9 := Lib.hid (T7_0_8.out.ext hx)
        have T8_9 := Lib.hid (t8.out.ext hx)
        clear K8 Ba0_8 T7_0_8 t8
        clear hx
        refine (HT1.out _ K9.out).mono ?_
        rintro e w10 ⟨A_10, rfl, hb, hw⟩
        have s10 := hb.size
        have t10 := Lib.hid hw
        have K10 := Lib.hid (K9.out.trans (hb.mono K9.out.size))
        have Ba0_10 := Lib.hid (Ba0_9.out.below hb Ba0_9.out.lt)
        have B9_10 := Lib.hid (b9.out.below hb b9.out.lt)
        have T7_0_10 := Lib.hid (T7_0_9.out.below hb)
        have T8_10 := Lib.hid (T8_9.out.below hb)
        clear K9 Ba0_9 b9 T7_0_9 T8_9
        clear hb hw
        have ra0_0 := Ba0_10.out.rd 0 rfl
        have ra0_1 := Ba0_10.out.rd 1 rfl
        have r9_0 := B9_10.out.rd 0 rfl
        have r9_1 := B9_10.out.rd 1 rfl
        go_wp2_with fail
        clear ra0_0 ra0_1 r9_0 r9_1
        refine (HT2.out _ K10.out).mono ?_
        rintro e w11 ⟨A_11, rfl, hb, hw⟩
        have s11 := hb.size
        have t11 := Lib.hid hw
        have K11 := Lib.hid (K10.out.trans (hb.mono K10.out.size))
        have Ba0_11 := Lib.hid (Ba0_10.out.below hb Ba0_10.out.lt)
        have B9_11 := Lib.hid (B9_10.out.below hb B9_10.out.lt)
        have T7_0_11 := Lib.hid (T7_0_10.out.below hb)
        have T8_11 := Lib.hid (T8_10.out.below hb)
        have T10_11 := Lib.hid (t10.out.below hb)
        clear K10 Ba0_10 B9_10 T7_0_10 T8_10 t10
        clear hb hw
        have ra0_0 := Ba0_11.out.rd 0 rfl
        have ra0_1 := Ba0_11.out.rd 1 rfl
        have r9_0 := B9_11.out.rd 0 rfl
        have r9_1 := B9_11.out.rd 1 rfl
        go_wp2_with fail
        clear ra0_0 ra0_1 r9_0 r9_1
        refine (HI.out _ A_8 _ A_10 _ A_11 _ (Nat.le_refl _) T8_11.out.tr (Nat.le_refl _) T10_11.out.irr (Nat.le_refl _) t11.out.irr).mono ?_
        rintro e w12 ⟨B12_0_, cap12_0, rfl, hb, hw0⟩
        have s12 := hb.size
        have t12_0 := Lib.hid hw0
        have K12 := Lib.hid (K11.out.trans (hb.mono K11.out.size))
        have Ba0_12 := Lib.hid (Ba0_11.out.below hb Ba0_11.out.lt)
        have B9_12 := Lib.hid (B9_11.out.below hb B9_11.out.lt)
        have T7_0_12 := Lib.hid (T7_0_11.out.below hb)
        have T8_12 := Lib.hid (T8_11.out.below hb)
        have T10_12 := Lib.hid (T10_11.out.below hb)
        have T11_12 := Lib.hid (t11.out.below hb)
        clear K11 Ba0_11 B9_11 T7_0_11 T8_11 T10_11 t11
        clear hb hw0
        have ra0_0 := Ba0_12.out.rd 0 rfl
        have ra0_1 := Ba0_12.out.rd 1 rfl
        have r9_0 := B9_12.out.rd 0 rfl
        have r9_1 := B9_12.out.rd 1 rfl
        go_wp2_with fail
        clear ra0_0 ra0_1 r9_0 r9_1
        refine (eqInt64SS_any B12_0_ B7_0_ m0 m0 _ _ vs0 vs0 _ (by omega) HM0.out HM0.out HRW0.out t12_0.out.irr T7_0_12.out.irr).mono ?_
        rw [decide_eq_true (rfl : vs0 = vs0)]
        rintro e w13 ⟨rfl, hx⟩
        have s13 := (hx.below (Nat.le_refl _)).size
        have K13 := Lib.hid (K12.out.trans (hx.below K12.out.size))
        have Ba0_13 := Lib.hid (Ba0_12.out.ext hx)
        have B9_13 := Lib.hid (B9_12.out.ext hx)
        have T7_0_13 := Lib.hid (T7_0_12.out.ext hx)
        have T8_13 := Lib.hid (T8_12.out.ext hx)
        have T10_13 := Lib.hid (T10_12.out.ext hx)
        have T11_13 := Lib.hid (T11_12.out.ext hx)
        have T12_0_13 := Lib.hid (t12_0.out.ext hx)
        clear K12 Ba0_12 B9_12 T7_0_12 T8_12 T10_12 T11_12 t12_0
        clear hx
        have ra0_0 := Ba0_13.out.rd 0 rfl
        have ra0_1 := Ba0_13.out.rd 1 rfl
        have r9_0 := B9_13.out.rd 0 rfl
        have r9_1 := B9_13.out.rd 1 rfl
        go_wp2_with fail
        clear ra0_0 ra0_1 r9_0 r9_1
        have ra0_0 := Ba0_13.out.rd 0 rfl
        have ra0_1 := Ba0_13.out.rd 1 rfl
        have r9_0 := B9_13.out.rd 0 rfl
        have r9_1 := B9_13.out.rd 1 rfl
        go_region_held3 (fun w' => w'.cell? ⟨w.heap.size, 0, none⟩ = some (.int .i64 c0) ∧ w'.cell? ⟨w.heap.size, 1, none⟩ = some (.slice A0 n0 q0) ∧ w'.cell? ⟨w8.heap.size, 0, none⟩ = some (.int .i64 c0) ∧ w'.cell? ⟨w8.heap.size, 1, none⟩ = some (.slice A_8 n0 n0))
          (first | exact ⟨ka0_0, ka0_1, k9_0, k9_1⟩ | exact ⟨la0_0, la0_1, l9_0, l9_1⟩ | go_keep)
          (first
            | (go_at_call 17; refine (HT0.out _ K13.out.drew).mono ?_; rintro e w14 ⟨A_14, rfl, hb, hw⟩; have s14 := hb.size; simp only [World.size_drew] at s14; have t14 := Lib.hid hw.r; have K14 := Lib.hid (K13.out.drew.trans (hb.mono K13.out.size)); have Ba0_14 := Lib.hid (Blk.below (w := w13.drew) Ba0_13.out hb Ba0_13.out.lt); have B9_14 := Lib.hid (Blk.below (w := w13.drew) B9_13.out hb B9_13.out.lt); have T7_0_14 := Lib.hid (IWW.below (w := w13.drew) T7_0_13.out hb); have T8_14 := Lib.hid (TWr.below (w := w13.drew) T8_13.out hb); have T10_14 := Lib.hid (IWW.below (w := w13.drew) T10_13.out hb); have T11_14 := Lib.hid (IWW.below (w := w13.drew) T11_13.out hb); have T12_0_14 := Lib.hid (IWW.below (w := w13.drew) T12_0_13.out hb); clear K13 Ba0_13 B9_13 T7_0_13 T8_13 T10_13 T11_13 T12_0_13; clear hb hw; have ka0_0 := Ba0_14.out.rd 0 rfl; have ka0_1 := Ba0_14.out.rd 1 rfl; have k9_0 := B9_14.out.rd 0 rfl; have k9_1 := B9_14.out.rd 1 rfl)
            | (go_at_call 20; refine (eqSet_any c0 c0 A_8 A_14 n0 n0 _ _ ts0 ts0 _ (by omega) HL0.out HL0.out T8_14.out.tr t14.out.tr).mono ?_; rw [decide_eq_true (⟨rfl, rfl⟩ : c0 = c0 ∧ ts0 = ts0)]; rintro e w15 ⟨rfl, hx⟩; have s15 := (hx.below (Nat.le_refl _)).size; clear ka0_0 ka0_1 k9_0 k9_1; have K15 := Lib.hid (K14.out.trans (hx.below K14.out.size)); have Ba0_15 := Lib.hid (Ba0_14.out.ext hx); have B9_15 := Lib.hid (B9_14.out.ext hx); have T7_0_15 := Lib.hid (T7_0_14.out.ext hx); have T8_15 := Lib.hid (T8_14.out.ext hx); have T10_15 := Lib.hid (T10_14.out.ext hx); have T11_15 := Lib.hid (T11_14.out.ext hx); have T12_0_15 := Lib.hid (T12_0_14.out.ext hx); have T14_15 := Lib.hid (t14.out.ext hx); clear K14 Ba0_14 B9_14 T7_0_14 T8_14 T10_14 T11_14 T12_0_14 t14; clear hx; have la0_0 := Ba0_15.out.rd 0 rfl; have la0_1 := Ba0_15.out.rd 1 rfl; have l9_0 := B9_15.out.rd 0 rfl; have l9_1 := B9_15.out.rd 1 rfl))
        clear la0_0 la0_1 l9_0 l9_1 ra0_0 ra0_1 r9_0 r9_1
        clear T14_15
        have ra0_0 := Ba0_15.out.rd 0 rfl
        have ra0_1 := Ba0_15.out.rd 1 rfl
        have r9_0 := B9_15.out.rd 0 rfl
        have r9_1 := B9_15.out.rd 1 rfl
        go_wp2_with fail
        clear ra0_0 ra0_1 r9_0 r9_1
        refine (HT1.out _ K15.out).mono ?_
        rintro e w16 ⟨A_16, rfl, hb, hw⟩
        have s16 := hb.size
        have t16 := Lib.hid hw
        have K16 := Lib.hid (K15.out.trans (hb.mono K15.out.size))
        have Ba0_16 := Lib.hid (Ba0_15.out.below hb Ba0_15.out.lt)
        have B9_16 := Lib.hid (B9_15.out.below hb B9_15.out.lt)
        have T7_0_16 := Lib.hid (T7_0_15.out.below hb)
        have T8_16 := Lib.hid (T8_15.out.below hb)
        have T10_16 := Lib.hid (T10_15.out.below hb)
        have T11_16 := Lib.hid (T11_15.out.below hb)
        have T12_0_16 := Lib.hid (T12_0_15.out.below hb)
        clear K15 Ba0_15 B9_15 T7_0_15 T8_15 T10_15 T11_15 T12_0_15
        clear hb hw
        have ra0_0 := Ba0_16.out.rd 0 rfl
        have ra0_1 := Ba0_16.out.rd 1 rfl
        have r9_0 := B9_16.out.rd 0 rfl
        have r9_1 := B9_16.out.rd 1 rfl
        go_wp2_with fail
        clear ra0_0 ra0_1 r9_0 r9_1
        refine (eqInt64SS_any A_10 A_16 n1 n1 _ _ rs1 rs1 _ (by omega) HL1.out HL1.out (fun k hk => by have := HR1.out k hk; omega) T10_16.out.irr t16.out.irr).mono ?_
        rw [decide_eq_true (rfl : rs1 = rs1)]
        rintro e w17 ⟨rfl, hx⟩
        have s17 := (hx.below (Nat.le_refl _)).size
        have K17 := Lib.hid (K16.out.trans (hx.below K16.out.size))
        have Ba0_17 := Lib.hid (Ba0_16.out.ext hx)
        have B9_17 := Lib.hid (B9_16.out.ext hx)
        have T7_0_17 := Lib.hid (T7_0_16.out.ext hx)
        have T8_17 := Lib.hid (T8_16.out.ext hx)
        have T10_17 := Lib.hid (T10_16.out.ext hx)
        have T11_17 := Lib.hid (T11_16.out.ext hx)
        have T12_0_17 := Lib.hid (T12_0_16.out.ext hx)
        have T16_17 := Lib.hid (t16.out.ext hx)
        clear K16 Ba0_16 B9_16 T7_0_16 T8_16 T10_16 T11_16 T12_0_16 t16
        clear hx
        clear T16_17
        have ra0_0 := Ba0_17.out.rd 0 rfl
        have ra0_1 := Ba0_17.out.rd 1 rfl
        have r9_0 := B9_17.out.rd 0 rfl
        have r9_1 := B9_17.out.rd 1 rfl
        go_wp2_with fail
        clear ra0_0 ra0_1 r9_0 r9_1
        refine (HT2.out _ K17.out).mono ?_
        rintro e w18 ⟨A_18, rfl, hb, hw⟩
        have s18 := hb.size
        have t18 := Lib.hid hw
        have K18 := Lib.hid (K17.out.trans (hb.mono K17.out.size))
        have Ba0_18 := Lib.hid (Ba0_17.out.below hb Ba0_17.out.lt)
        have B9_18 := Lib.hid (B9_17.out.below hb B9_17.out.lt)
        have T7_0_18 := Lib.hid (T7_0_17.out.below hb)
        have T8_18 := Lib.hid (T8_17.out.below hb)
        have T10_18 := Lib.hid (T10_17.out.below hb)
        have T11_18 := Lib.hid (T11_17.out.below hb)
        have T12_0_18 := Lib.hid (T12_0_17.out.below hb)
        clear K17 Ba0_17 B9_17 T7_0_17 T8_17 T10_17 T11_17 T12_0_17
        clear hb hw
        have ra0_0 := Ba0_18.out.rd 0 rfl
        have ra0_1 := Ba0_18.out.rd 1 rfl
        have r9_0 := B9_18.out.rd 0 rfl
        have r9_1 := B9_18.out.rd 1 rfl
        go_wp2_with fail
        clear ra0_0 ra0_1 r9_0 r9_1
        refine (eqInt64SS_any A_11 A_18 n2 n2 _ _ rs2 rs2 _ (by omega) HL2.out HL2.out (fun k hk => by have := HR2.out k hk; omega) T11_18.out.irr t18.out.irr).mono ?_
        rw [decide_eq_true (rfl : rs2 = rs2)]
        rintro e w19 ⟨rfl, hx⟩
        have s19 := (hx.below (Nat.le_refl _)).size
        have K19 := Lib.hid (K18.out.trans (hx.below K18.out.size))
        have Ba0_19 := Lib.hid (Ba0_18.out.ext hx)
        have B9_19 := Lib.hid (B9_18.out.ext hx)
        have T7_0_19 := Lib.hid (T7_0_18.out.ext hx)
        have T8_19 := Lib.hid (T8_18.out.ext hx)
        have T10_19 := Lib.hid (T10_18.out.ext hx)
        have T11_19 := Lib.hid (T11_18.out.ext hx)
        have T12_0_19 := Lib.hid (T12_0_18.out.ext hx)
        have T18_19 := Lib.hid (t18.out.ext hx)
        clear K18 Ba0_18 B9_18 T7_0_18 T8_18 T10_18 T11_18 T12_0_18 t18
        clear hx
        clear T18_19
        have ra0_0 := Ba0_19.out.rd 0 rfl
        have ra0_1 := Ba0_19.out.rd 1 rfl
        have r9_0 := B9_19.out.rd 0 rfl
        have r9_1 := B9_19.out.rd 1 rfl
        go_wp2_with fail
        clear ra0_0 ra0_1 r9_0 r9_1
        refine (markSet_at c0 A_8 n0 _ (1) ts0 _ _ _ (by omega) (by omega) (by omega) HL0.out T8_19.out).mono ?_
        rintro e w20 ⟨rfl, ho, hw⟩
        have s20 := ho.size
        have t20 := Lib.hid hw
        have K20 := Lib.hid (K19.out.trans (ho.below (by omega) K19.out.size))
        have Ba0_20 := Lib.hid (Ba0_19.out.only ho (by omega))
        have B9_20 := Lib.hid (B9_19.out.only ho (by omega))
        have T7_0_20 := Lib.hid (T7_0_19.out.only ho (by omega))
        have T10_20 := Lib.hid (T10_19.out.only ho (by omega))
        have T11_20 := Lib.hid (T11_19.out.only ho (by omega))
        have T12_0_20 := Lib.hid (T12_0_19.out.only ho (by omega))
        clear K19 Ba0_19 B9_19 T7_0_19 T10_19 T11_19 T12_0_19
        clear ho hw T8_19
        have ra0_0 := Ba0_20.out.rd 0 rfl
        have ra0_1 := Ba0_20.out.rd 1 rfl
        have r9_0 := B9_20.out.rd 0 rfl
        have r9_1 := B9_20.out.rd 1 rfl
        go_wp2_with fail
        clear ra0_0 ra0_1 r9_0 r9_1
        refine (markRows_at A_10 n1 _ pa1 (1 + 4 * (n0 : Int)) rs1 _ _ _ HPA1.out (by omega) (by omega) (by omega) (by omega) HL1.out T10_20.out).mono ?_
        rintro e w21 ⟨rfl, ho, hw⟩
        have s21 := ho.size
        have t21 := Lib.hid hw
        have K21 := Lib.hid (K20.out.trans (ho.below (by omega) K20.out.size))
        have Ba0_21 := Lib.hid (Ba0_20.out.only ho (by omega))
        have B9_21 := Lib.hid (B9_20.out.only ho (by omega))
        have T7_0_21 := Lib.hid (T7_0_20.out.only ho (by omega))
        have T8_21 := Lib.hid (t20.out.only ho (by omega))
        have T11_21 := Lib.hid (T11_20.out.only ho (by omega))
        have T12_0_21 := Lib.hid (T12_0_20.out.only ho (by omega))
        clear K20 Ba0_20 B9_20 T7_0_20 t20 T11_20 T12_0_20
        clear ho hw T10_20
        have ra0_0 := Ba0_21.out.rd 0 rfl
        have ra0_1 := Ba0_21.out.rd 1 rfl
        have r9_0 := B9_21.out.rd 0 rfl
        have r9_1 := B9_21.out.rd 1 rfl
        go_wp2_with fail
        clear ra0_0 ra0_1 r9_0 r9_1
        refine (markRows_at A_11 n2 _ pa2 (1 + 4 * (n0 : Int) + (pa1 : Nat)) rs2 _ _ _ HPA2.out (by omega) (by omega) (by omega) (by omega) HL2.out T11_21.out).mono ?_
        rintro e w22 ⟨rfl, ho, hw⟩
        have s22 := ho.size
        have t22 := Lib.hid hw
        have K22 := Lib.hid (K21.out.trans (ho.below (by omega) K21.out.size))
        have Ba0_22 := Lib.hid (Ba0_21.out.only ho (by omega))
        have B9_22 := Lib.hid (B9_21.out.only ho (by omega))
        have T7_0_22 := Lib.hid (T7_0_21.out.only ho (by omega))
        have T8_22 := Lib.hid (T8_21.out.only ho (by omega))
        have T10_22 := Lib.hid (t21.out.only ho (by omega))
        have T12_0_22 := Lib.hid (T12_0_21.out.only ho (by omega))
        clear K21 Ba0_21 B9_21 T7_0_21 T8_21 t21 T12_0_21
        clear ho hw T11_21
        have ra0_0 := Ba0_22.out.rd 0 rfl
        have ra0_1 := Ba0_22.out.rd 1 rfl
        have r9_0 := B9_22.out.rd 0 rfl
        have r9_1 := B9_22.out.rd 1 rfl
        go_wp2_with fail
        clear ra0_0 ra0_1 r9_0 r9_1
        refine (eqInt64SS_any B12_0_ B7_0_ m0 m0 _ _ vs0 vs0 _ (by omega) HM0.out HM0.out HRW0.out T12_0_22.out.irr T7_0_22.out.irr).mono ?_
        rw [decide_eq_true (rfl : vs0 = vs0)]
        rintro e w23 ⟨rfl, hx⟩
        have s23 := (hx.below (Nat.le_refl _)).size
        have K23 := Lib.hid (K22.out.trans (hx.below K22.out.size))
        have Ba0_23 := Lib.hid (Ba0_22.out.ext hx)
        have B9_23 := Lib.hid (B9_22.out.ext hx)
        have T7_0_23 := Lib.hid (T7_0_22.out.ext hx)
        have T8_23 := Lib.hid (T8_22.out.ext hx)
        have T10_23 := Lib.hid (T10_22.out.ext hx)
        have T11_23 := Lib.hid (t22.out.ext hx)
        have T12_0_23 := Lib.hid (T12_0_22.out.ext hx)
        clear K22 Ba0_22 B9_22 T7_0_22 T8_22 T10_22 t22 T12_0_22
        clear hx
        have ra0_0 := Ba0_23.out.rd 0 rfl
        have ra0_1 := Ba0_23.out.rd 1 rfl
        have r9_0 := B9_23.out.rd 0 rfl
        have r9_1 := B9_23.out.rd 1 rfl
        go_wp2_with fail
        clear ra0_0 ra0_1 r9_0 r9_1
        refine (markRows_at B12_0_ m0 _ pm0 (1) vs0 _ _ _ HPM0.out (by omega) (by omega) (by omega) (by omega) HM0.out T12_0_23.out).mono ?_
        rintro e w24 ⟨rfl, ho, hw⟩
        have s24 := ho.size
        have t24 := Lib.hid hw
        have K24 := Lib.hid (K23.out.trans (ho.below (by omega) K23.out.size))
        have Ba0_24 := Lib.hid (Ba0_23.out.only ho (by omega))
        have B9_24 := Lib.hid (B9_23.out.only ho (by omega))
        have T7_0_24 := Lib.hid (T7_0_23.out.only ho (by omega))
        have T8_24 := Lib.hid (T8_23.out.only ho (by omega))
        have T10_24 := Lib.hid (T10_23.out.only ho (by omega))
        have T11_24 := Lib.hid (T11_23.out.only ho (by omega))
        clear K23 Ba0_23 B9_23 T7_0_23 T8_23 T10_23 T11_23
        clear ho hw T12_0_23
        have ra0_0 := Ba0_24.out.rd 0 rfl
        have ra0_1 := Ba0_24.out.rd 1 rfl
        have r9_0 := B9_24.out.rd 0 rfl
        have r9_1 := B9_24.out.rd 1 rfl
        go_wp2_with fail
        clear ra0_0 ra0_1 r9_0 r9_1
        refine (heldRows_at B12_0_ m0 _ pm0 (1) vs0 _ HPM0.out (by omega) (by omega) (by omega) (by omega) HM0.out t24.out.irr).mono ?_
        rintro e w25 ⟨rfl, hx⟩
        have s25 := (hx.below (Nat.le_refl _)).size
        have K25 := Lib.hid (K24.out.trans (hx.below K24.out.size))
        have Ba0_25 := Lib.hid (Ba0_24.out.ext hx)
        have B9_25 := Lib.hid (B9_24.out.ext hx)
        have T7_0_25 := Lib.hid (T7_0_24.out.ext hx)
        have T8_25 := Lib.hid (T8_24.out.ext hx)
        have T10_25 := Lib.hid (T10_24.out.ext hx)
        have T11_25 := Lib.hid (T11_24.out.ext hx)
        have T12_0_25 := Lib.hid (t24.out.ext hx)
        clear K24 Ba0_24 B9_24 T7_0_24 T8_24 T10_24 T11_24 t24
        clear hx
        have ra0_0 := Ba0_25.out.rd 0 rfl
        have ra0_1 := Ba0_25.out.rd 1 rfl
        have r9_0 := B9_25.out.rd 0 rfl
        have r9_1 := B9_25.out.rd 1 rfl
        go_wp2_with fail
        clear ra0_0 ra0_1 r9_0 r9_1
        refine (HT0.out _ K25.out).mono ?_
        rintro e w26 ⟨A_26, rfl, hb, hw⟩
        have s26 := hb.size
        have t26 := Lib.hid hw.r
        have K26 := Lib.hid (K25.out.trans (hb.mono K25.out.size))
        have Ba0_26 := Lib.hid (Ba0_25.out.below hb Ba0_25.out.lt)
        have B9_26 := Lib.hid (B9_25.out.below hb B9_25.out.lt)
        have T7_0_26 := Lib.hid (T7_0_25.out.below hb)
        have T8_26 := Lib.hid (T8_25.out.below hb)
        have T10_26 := Lib.hid (T10_25.out.below hb)
        have T11_26 := Lib.hid (T11_25.out.below hb)
        have T12_0_26 := Lib.hid (T12_0_25.out.below hb)
        clear K25 Ba0_25 B9_25 T7_0_25 T8_25 T10_25 T11_25 T12_0_25
        clear hb hw
        have ra0_0 := Ba0_26.out.rd 0 rfl
        have ra0_1 := Ba0_26.out.rd 1 rfl
        have r9_0 := B9_26.out.rd 0 rfl
        have r9_1 := B9_26.out.rd 1 rfl
        go_wp2_with fail
        clear ra0_0 ra0_1 r9_0 r9_1
        refine (HT1.out _ K26.out).mono ?_
        rintro e w27 ⟨A_27, rfl, hb, hw⟩
        have s27 := hb.size
        have t27 := Lib.hid hw
        have K27 := Lib.hid (K26.out.trans (hb.mono K26.out.size))
        have Ba0_27 := Lib.hid (Ba0_26.out.below hb Ba0_26.out.lt)
        have B9_27 := Lib.hid (B9_26.out.below hb B9_26.out.lt)
        have T7_0_27 := Lib.hid (T7_0_26.out.below hb)
        have T8_27 := Lib.hid (T8_26.out.below hb)
        have T10_27 := Lib.hid (T10_26.out.below hb)
        have T11_27 := Lib.hid (T11_26.out.below hb)
        have T12_0_27 := Lib.hid (T12_0_26.out.below hb)
        have T26_27 := Lib.hid (t26.out.below hb)
        clear K26 Ba0_26 B9_26 T7_0_26 T8_26 T10_26 T11_26 T12_0_26 t26
        clear hb hw
        have ra0_0 := Ba0_27.out.rd 0 rfl
        have ra0_1 := Ba0_27.out.rd 1 rfl
        have r9_0 := B9_27.out.rd 0 rfl
        have r9_1 := B9_27.out.rd 1 rfl
        go_wp2_with fail
        clear ra0_0 ra0_1 r9_0 r9_1
        refine (HT2.out _ K27.out).mono ?_
        rintro e w28 ⟨A_28, rfl, hb, hw⟩
        have s28 := hb.size
        have t28 := Lib.hid hw
        have K28 := Lib.hid (K27.out.trans (hb.mono K27.out.size))
        have Ba0_28 := Lib.hid (Ba0_27.out.below hb Ba0_27.out.lt)
        have B9_28 := Lib.hid (B9_27.out.below hb B9_27.out.lt)
        have T7_0_28 := Lib.hid (T7_0_27.out.below hb)
        have T8_28 := Lib.hid (T8_27.out.below hb)
        have T10_28 := Lib.hid (T10_27.out.below hb)
        have T11_28 := Lib.hid (T11_27.out.below hb)
        have T12_0_28 := Lib.hid (T12_0_27.out.below hb)
        have T26_28 := Lib.hid (T26_27.out.below hb)
        have T27_28 := Lib.hid (t27.out.below hb)
        clear K27 Ba0_27 B9_27 T7_0_27 T8_27 T10_27 T11_27 T12_0_27 T26_27 t27
        clear hb hw
        have ra0_0 := Ba0_28.out.rd 0 rfl
        have ra0_1 := Ba0_28.out.rd 1 rfl
        have r9_0 := B9_28.out.rd 0 rfl
        have r9_1 := B9_28.out.rd 1 rfl
        go_wp2_with fail
        clear ra0_0 ra0_1 r9_0 r9_1
        refine (HI.out _ A_26 _ A_27 _ A_28 _ (Nat.le_refl _) T26_28.out.tr (Nat.le_refl _) T27_28.out.irr (Nat.le_refl _) t28.out.irr).mono ?_
        rintro e w29 ⟨B29_0_, cap29_0, rfl, hb, hw0⟩
        have s29 := hb.size
        have t29_0 := Lib.hid hw0
        have K29 := Lib.hid (K28.out.trans (hb.mono K28.out.size))
        have Ba0_29 := Lib.hid (Ba0_28.out.below hb Ba0_28.out.lt)
        have B9_29 := Lib.hid (B9_28.out.below hb B9_28.out.lt)
        have T7_0_29 := Lib.hid (T7_0_28.out.below hb)
        have T8_29 := Lib.hid (T8_28.out.below hb)
        have T10_29 := Lib.hid (T10_28.out.below hb)
        have T11_29 := Lib.hid (T11_28.out.below hb)
        have T12_0_29 := Lib.hid (T12_0_28.out.below hb)
        have T26_29 := Lib.hid (T26_28.out.below hb)
        have T27_29 := Lib.hid (T27_28.out.below hb)
        have T28_29 := Lib.hid (t28.out.below hb)
        clear K28 Ba0_28 B9_28 T7_0_28 T8_28 T10_28 T11_28 T12_0_28 T26_28 T27_28 t28
        clear hb hw0
        clear T26_29 T27_29 T28_29
        have ra0_0 := Ba0_29.out.rd 0 rfl
        have ra0_1 := Ba0_29.out.rd 1 rfl
        have r9_0 := B9_29.out.rd 0 rfl
        have r9_1 := B9_29.out.rd 1 rfl
        go_wp2_with fail
        clear ra0_0 ra0_1 r9_0 r9_1
        refine (eqInt64SS_any B29_0_ B7_0_ m0 m0 _ _ vs0 vs0 _ (by omega) HM0.out HM0.out HRW0.out t29_0.out.irr T7_0_29.out.irr).mono ?_
        rw [decide_eq_true (rfl : vs0 = vs0)]
        rintro e w30 ⟨rfl, hx⟩
        have s30 := (hx.below (Nat.le_refl _)).size
        have K30 := Lib.hid (K29.out.trans (hx.below K29.out.size))
        have Ba0_30 := Lib.hid (Ba0_29.out.ext hx)
        have B9_30 := Lib.hid (B9_29.out.ext hx)
        have T7_0_30 := Lib.hid (T7_0_29.out.ext hx)
        have T8_30 := Lib.hid (T8_29.out.ext hx)
        have T10_30 := Lib.hid (T10_29.out.ext hx)
        have T11_30 := Lib.hid (T11_29.out.ext hx)
        have T12_0_30 := Lib.hid (T12_0_29.out.ext hx)
        have T29_0_30 := Lib.hid (t29_0.out.ext hx)
        clear K29 Ba0_29 B9_29 T7_0_29 T8_29 T10_29 T11_29 T12_0_29 t29_0
        clear hx
        have ra0_0 := Ba0_30.out.rd 0 rfl
        have ra0_1 := Ba0_30.out.rd 1 rfl
        have r9_0 := B9_30.out.rd 0 rfl
        have r9_1 := B9_30.out.rd 1 rfl
        go_wp2_with fail
        clear ra0_0 ra0_1 r9_0 r9_1
        refine (heldRows_at B12_0_ m0 _ pm0 (1) vs0 _ HPM0.out (by omega) (by omega) (by omega) (by omega) HM0.out T12_0_30.out.irr).mono ?_
        rintro e w31 ⟨rfl, hx⟩
        have s31 := (hx.below (Nat.le_refl _)).size
        have K31 := Lib.hid (K30.out.trans (hx.below K30.out.size))
        have Ba0_31 := Lib.hid (Ba0_30.out.ext hx)
        have B9_31 := Lib.hid (B9_30.out.ext hx)
        have T7_0_31 := Lib.hid (T7_0_30.out.ext hx)
        have T8_31 := Lib.hid (T8_30.out.ext hx)
        have T10_31 := Lib.hid (T10_30.out.ext hx)
        have T11_31 := Lib.hid (T11_30.out.ext hx)
        have T12_0_31 := Lib.hid (T12_0_30.out.ext hx)
        have T29_0_31 := Lib.hid (T29_0_30.out.ext hx)
        clear K30 Ba0_30 B9_30 T7_0_30 T8_30 T10_30 T11_30 T12_0_30 T29_0_30
        clear hx
        have ra0_0 := Ba0_31.out.rd 0 rfl
        have ra0_1 := Ba0_31.out.rd 1 rfl
        have r9_0 := B9_31.out.rd 0 rfl
        have r9_1 := B9_31.out.rd 1 rfl
        go_wp2_with fail
        clear ra0_0 ra0_1 r9_0 r9_1
        go_ret
        exact ⟨rfl, K31.out⟩
theorem need_gw (c0 : Int) (ts : List Tl) (bs rs : List (List Int)) : need (gwV c0 ts bs rs) ≤ 65536 := by
  unfold gwV
  by_cases hz : rCode c0 ts bs rs = 0
  · rw [if_pos hz]
    by_cases hl : limB rs = true
    · rw [if_pos hl]
      simp [need, pre]
    · rw [if_neg hl]
      obtain ⟨hb0, hro⟩ := gc_zero hz
      obtain ⟨h1, h2, h3⟩ := rowsOk_nine hro
      exact need_gN (s := 1) (bCode_zero hb0).2 h1.2 (fun k hk => ⟨by have := (h3 k hk).1; omega, by rw [bCode_len hb0]; exact (h3 k hk).2⟩) (by omega)
  · rw [if_neg hz]
    simp [need, pre]
theorem law_GrowRows (c0 : Int) (A0 : Option Addr) (n0 q0 : Nat) (ts0 : List Tl) (A1 : Option Addr) (n1 q1 : Nat) (rs1 : List (List Int)) (A2 : Option Addr) (n2 q2 : Nat) (rs2 : List (List Int)) (w : World)
    (hn0 : n0 ≤ 9223372036854775807) (hl0 : ts0.length = n0) (hA0 : TR w w.heap.size A0 ts0) (hn1 : n1 ≤ 9223372036854775807) (hl1 : rs1.length = n1) (hr1 : ∀ k, k < n1 → (rs1.getD k []).length ≤ 9223372036854775807) (hA1 : IRR w w.heap.size A1 rs1) (hn2 : n2 ≤ 9223372036854775807) (hl2 : rs2.length = n2) (hr2 : ∀ k, k < n2 → (rs2.getD k []).length ≤ 9223372036854775807) (hA2 : IRR w w.heap.size A2 rs2) :
    Calls Try.prog 5 #[.agg #[.int .i64 c0, .slice A0 n0 q0], .slice A1 n1 q1, .slice A2 n2 q2] w fun e w' => e = .returned (.bool true) ∧ Below w.heap.size w w' :=
  lawGrowRows_core c0 A0 n0 q0 ts0 A1 n1 q1 rs1 A2 n2 q2 rs2 w hn0 hl0 hA0 hn1 hl1 hr1 hA1 hn2 hl2 hr2 hA2 (gwV c0 ts0 rs1 rs2) (gwC c0 ts0 rs1 rs2) (need_gw c0 ts0 rs1 rs2)
    (fun h W B0 e0 B1 e1 B2 e2 _ hB0 _ hB1 h2 hB2 => specGrowRows_any c0 B0 n0 e0 ts0 B1 n1 e1 rs1 B2 n2 e2 rs2 W h.1 hl0 hB0 h.2.1 hl1 hB1 h.2.2.1 h.2.2.2.1 h2 hl2 hB2 h.2.2.2.2)
    (fun h W B0 e0 B1 e1 B2 e2 _ hB0 _ hB1 h2 hB2 => implGrowRows_any c0 B0 n0 e0 ts0 B1 n1 e1 rs1 B2 n2 e2 rs2 W h.1 hl0 hB0 h.2.1 hl1 hB1 h.2.2.1 h.2.2.2.1 h2 hl2 hB2 h.2.2.2.2)
end Go.Proofs.Ytnmgkchkbchfaaa
