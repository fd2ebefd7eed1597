/- The exact law over PairsOfStack: walked. -/
import Derived.Test.YtcakbnfpmpdljaaSp4
import Derived.Test.YtcakbnfpmpdljaaSt8
import Derived.Test.YtcakbnfpmpdljaaRs2
import Derived.Test.YtcakbnfpmpdljaaRs3
import Derived.Test.YtcakbnfpmpdljaaMark2
import Derived.Test.YtcakbnfpmpdljaaCut2
import Derived.Deep.RegionHeld3
import Derived.Deep.RegionLaw
import Derived.Deep.DeepCutAuto
namespace Go.Proofs.Ytcakbnfpmpdljaa
set_option linter.unusedVariables false
set_option linter.unusedSimpArgs false
open Go.RowKit Go.Sort

set_option maxRecDepth 100000 in
set_option maxHeartbeats 4000000 in
theorem lawPairsOfStack_core (c0 : Int) (A0 : Option Addr) (n0 q0 : Nat) (ts0 : List Tl) (c1 : Int) (A1 : Option Addr) (n1 q1 : Nat) (ts1 : List Tl) (w : World) (hn0 : n0 ≤ 9223372036854775807) (hl0 : ts0.length = n0) (hA0 : TR w w.heap.size A0 ts0) (hn1 : n1 ≤ 9223372036854775807) (hl1 : ts1.length = n1) (hA1 : TR w w.heap.size A1 ts1) (vs0 : List (List Int)) (r1 : Int) (hus0 : need vs0 ≤ 65536)
    (hspec : n0 ≤ 1048576 ∧ n1 ≤ 1048576 → ∀ (W : World) (B0 : Option Addr) (e0 : Nat) (B1 : Option Addr) (e1 : Nat), n0 ≤ e0 → TR W W.heap.size B0 ts0 → n1 ≤ e1 → TR W W.heap.size B1 ts1 → Calls Try.prog 21 #[.agg #[.int .i64 c0, .slice B0 n0 e0], .agg #[.int .i64 c1, .slice B1 n1 e1]] W (fun e w' => ∃ R0 p0, e = .returned (.tuple #[.slice R0 vs0.length p0, .int .i64 r1]) ∧ Below W.heap.size W w' ∧ IWW w' W.heap.size w'.heap.size R0 vs0))
    (himpl : n0 ≤ 1048576 ∧ n1 ≤ 1048576 → ∀ (W : World) (B0 : Option Addr) (e0 : Nat) (B1 : Option Addr) (e1 : Nat), n0 ≤ e0 → TR W W.heap.size B0 ts0 → n1 ≤ e1 → TR W W.heap.size B1 ts1 → Calls Try.prog 22 #[.agg #[.int .i64 c0, .slice B0 n0 e0], .agg #[.int .i64 c1, .slice B1 n1 e1]] W (fun e w' => ∃ R0 p0, e = .returned (.tuple #[.slice R0 vs0.length p0, .int .i64 r1]) ∧ Below W.heap.size W w' ∧ IWW w' W.heap.size w'.heap.size R0 vs0)) :
    Calls Try.prog 4 #[.agg #[.int .i64 c0, .slice A0 n0 q0], .agg #[.int .i64 c1, .slice A1 n1 q1]] w fun e w' => e = .returned (.bool true) ∧ Below w.heap.size w w' := by
  have hsz0 : (0 : Int) ≤ 1048576 → ∀ W, Calls Try.prog 13 #[.agg #[.int .i64 c0, .slice A0 n0 q0], .int .i64 1048576] W _ := fun h W => szSet_any c0 A0 n0 q0 1048576 W hn0 h (by omega)
  have hsz1 : 0 ≤ (1048576 - (n0 : Int)) → ∀ W, Calls Try.prog 13 #[.agg #[.int .i64 c1, .slice A1 n1 q1], .int .i64 (1048576 - (n0 : Int))] W _ := fun h W => szSet_any c1 A1 n1 q1 (1048576 - (n0 : Int)) W hn1 h (by omega)
  by_cases hbig0 : (1048576 : Int) < n0
  · replace hsz0 := hsz0 (by omega)
    simp only [if_pos hbig0] at hsz0
    clear hsz1
    clear hspec himpl
    go_enter Try.func4, Try.ntmps4
    go_wp2_with fail
    have hx0 : Ext w ((w.alloc (Obj.cells #[.int .i64 c0, .slice A0 n0 q0] 24)).alloc (Obj.cells #[.int .i64 c1, .slice A1 n1 q1] 24)) := (((Ext.refl w).alloc _).alloc _)
    have b00 : Blk ((w.alloc (Obj.cells #[.int .i64 c0, .slice A0 n0 q0] 24)).alloc (Obj.cells #[.int .i64 c1, .slice A1 n1 q1] 24)) w.heap.size 24 #[.int .i64 c0, .slice A0 n0 q0] := ((Blk.new w 24 #[.int .i64 c0, .slice A0 n0 q0]).ext (((Ext.refl _).alloc _)))
    have b01 : Blk ((w.alloc (Obj.cells #[.int .i64 c0, .slice A0 n0 q0] 24)).alloc (Obj.cells #[.int .i64 c1, .slice A1 n1 q1] 24)) (w.heap.size + 1) 24 #[.int .i64 c1, .slice A1 n1 q1] := by have := (Blk.new (w.alloc (Obj.cells #[.int .i64 c0, .slice A0 n0 q0] 24)) 24 #[.int .i64 c1, .slice A1 n1 q1]); simpa using this
    have s0 : w.heap.size + 2 ≤ ((w.alloc (Obj.cells #[.int .i64 c0, .slice A0 n0 q0] 24)).alloc (Obj.cells #[.int .i64 c1, .slice A1 n1 q1] 24)).heap.size := by simp
    have K0 := Lib.hid (hx0.below (Nat.le_refl _))
    have C00 := Lib.hid b00
    have C01 := Lib.hid b01
    clear hx0 b00 b01
    generalize ((w.alloc (Obj.cells #[.int .i64 c0, .slice A0 n0 q0] 24)).alloc (Obj.cells #[.int .i64 c1, .slice A1 n1 q1] 24)) = w0 at *
    refine (hsz0 _).mono ?_
    rintro e w1 ⟨rfl, hx⟩
    have s1 := (hx.below (Nat.le_refl _)).size
    have K1 := Lib.hid (K0.out.trans (hx.below K0.out.size))
    have Ba0_1 := Lib.hid (C00.out.ext hx)
    have Ba1_1 := Lib.hid (C01.out.ext hx)
    clear K0 C00 C01
    clear hx
    have ra0_0 := Ba0_1.out.rd 0 rfl
    have ra0_1 := Ba0_1.out.rd 1 rfl
    have ra1_0 := Ba1_1.out.rd 0 rfl
    have ra1_1 := Ba1_1.out.rd 1 rfl
    go_wp2_with fail
    clear ra0_0 ra0_1 ra1_0 ra1_1
    go_ret
    exact ⟨rfl, K1.out⟩
  · skip
    by_cases hbig1 : (1048576 - (n0 : Int) : Int) < n1
    · replace hsz0 := hsz0 (by omega)
      simp only [if_neg hbig0] at hsz0
      replace hsz1 := hsz1 (by omega)
      simp only [if_pos hbig1] at hsz1
      have hneg0 : ¬ (1048576 - (n0 : Int) < 0) := by omega
      clear hspec himpl
      go_enter Try.func4, Try.ntmps4
      go_wp2_with fail
      have hx0 : Ext w ((w.alloc (Obj.cells #[.int .i64 c0, .slice A0 n0 q0] 24)).alloc (Obj.cells #[.int .i64 c1, .slice A1 n1 q1] 24)) := (((Ext.refl w).alloc _).alloc _)
      have b00 : Blk ((w.alloc (Obj.cells #[.int .i64 c0, .slice A0 n0 q0] 24)).alloc (Obj.cells #[.int .i64 c1, .slice A1 n1 q1] 24)) w.heap.size 24 #[.int .i64 c0, .slice A0 n0 q0] := ((Blk.new w 24 #[.int .i64 c0, .slice A0 n0 q0]).ext (((Ext.refl _).alloc _)))
      have b01 : Blk ((w.alloc (Obj.cells #[.int .i64 c0, .slice A0 n0 q0] 24)).alloc (Obj.cells #[.int .i64 c1, .slice A1 n1 q1] 24)) (w.heap.size + 1) 24 #[.int .i64 c1, .slice A1 n1 q1] := by have := (Blk.new (w.alloc (Obj.cells #[.int .i64 c0, .slice A0 n0 q0] 24)) 24 #[.int .i64 c1, .slice A1 n1 q1]); simpa using this
      have s0 : w.heap.size + 2 ≤ ((w.alloc (Obj.cells #[.int .i64 c0, .slice A0 n0 q0] 24)).alloc (Obj.cells #[.int .i64 c1, .slice A1 n1 q1] 24)).heap.size := by simp
      have K0 := Lib.hid (hx0.below (Nat.le_refl _))
      have C00 := Lib.hid b00
      have C01 := Lib.hid b01
      clear hx0 b00 b01
      generalize ((w.alloc (Obj.cells #[.int .i64 c0, .slice A0 n0 q0] 24)).alloc (Obj.cells #[.int .i64 c1, .slice A1 n1 q1] 24)) = w0 at *
      refine (hsz0 _).mono ?_
      rintro e w1 ⟨rfl, hx⟩
      have s1 := (hx.below (Nat.le_refl _)).size
      have K1 := Lib.hid (K0.out.trans (hx.below K0.out.size))
      have Ba0_1 := Lib.hid (C00.out.ext hx)
      have Ba1_1 := Lib.hid (C01.out.ext hx)
      clear K0 C00 C01
      clear hx
      have ra0_0 := Ba0_1.out.rd 0 rfl
      have ra0_1 := Ba0_1.out.rd 1 rfl
      have ra1_0 := Ba1_1.out.rd 0 rfl
      have ra1_1 := Ba1_1.out.rd 1 rfl
      go_wp2_with fail
      clear ra0_0 ra0_1 ra1_0 ra1_1
      refine (hsz1 _).mono ?_
      rintro e w2 ⟨rfl, hx⟩
      have s2 := (hx.below (Nat.le_refl _)).size
      have K2 := Lib.hid (K1.out.trans (hx.below K1.out.size))
      have Ba0_2 := Lib.hid (Ba0_1.out.ext hx)
      have Ba1_2 := Lib.hid (Ba1_1.out.ext hx)
      clear K1 Ba0_1 Ba1_1
      clear hx
      have ra0_0 := Ba0_2.out.rd 0 rfl
      have ra0_1 := Ba0_2.out.rd 1 rfl
      have ra1_0 := Ba1_2.out.rd 0 rfl
      have ra1_1 := Ba1_2.out.rd 1 rfl
      go_wp2_with fail
      clear ra0_0 ra0_1 ra1_0 ra1_1
      go_ret
      exact ⟨rfl, K2.out⟩
    · skip
      replace hsz0 := hsz0 (by omega)
      simp only [if_neg hbig0] at hsz0
      replace hsz1 := hsz1 (by omega)
      simp only [if_neg hbig1] at hsz1
      have hneg0 : ¬ (1048576 - (n0 : Int) < 0) := by omega
      have hneg1 : ¬ (1048576 - (n0 : Int) - (n1 : Int) < 0) := by omega
      have hn'0 : n0 ≤ 1048576 := by omega
      have hts0 : ∀ W, Below w.heap.size w W → Calls Try.prog 15 #[.agg #[.int .i64 c0, .slice A0 n0 q0]] W _ := fun W hW => toSet_any c0 A0 n0 q0 ts0 W hn'0 hl0 ((hA0.below hW (Nat.le_refl _)).more hW.size)
      have hn'1 : n1 ≤ 1048576 := by omega
      have hts1 : ∀ W, Below w.heap.size w W → Calls Try.prog 15 #[.agg #[.int .i64 c1, .slice A1 n1 q1]] W _ := fun W hW => toSet_any c1 A1 n1 q1 ts1 W hn'1 hl1 ((hA1.below hW (Nat.le_refl _)).more hW.size)
      have HT0 := Lib.hid hts0
      have HL0 := Lib.hid hl0
      have HT1 := Lib.hid hts1
      have HL1 := Lib.hid hl1
      have HS := Lib.hid (hspec ⟨hn'0, hn'1⟩)
      have HI := Lib.hid (himpl ⟨hn'0, hn'1⟩)
      clear hspec himpl hts0 hA0 hl0 hts1 hA1 hl1
      obtain ⟨pm0, hpm0⟩ : ∃ p, pre vs0 vs0.length = p := ⟨_, rfl⟩
      have hpb0 : vs0.length + pm0 ≤ 65536 := by unfold need at hus0; omega
      have hrw0 : ∀ k, k < vs0.length → (vs0.getD k []).length ≤ 1152921504606846976 := fun k hk => by have := need_row hk; omega
      generalize hm0 : vs0.length = m0 at *
      have HM0 := Lib.hid hm0
      clear hm0
      have HPM0 := Lib.hid hpm0
      have HRW0 := Lib.hid hrw0
      clear hpm0 hrw0 hus0
      have hcc1 : (r1 != r1) = false := by simp
      have hkn : ¬ (1 + 4 * (n0 : Int) + 4 * (n1 : Int) < 0) := by omega
      have hkm0 : ¬ (1 + (pm0 : Nat) < 0) := by omega
      go_enter Try.func4, Try.ntmps4
      go_wp2_with fail
      have hx0 : Ext w ((w.alloc (Obj.cells #[.int .i64 c0, .slice A0 n0 q0] 24)).alloc (Obj.cells #[.int .i64 c1, .slice A1 n1 q1] 24)) := (((Ext.refl w).alloc _).alloc _)
      have b00 : Blk ((w.alloc (Obj.cells #[.int .i64 c0, .slice A0 n0 q0] 24)).alloc (Obj.cells #[.int .i64 c1, .slice A1 n1 q1] 24)) w.heap.size 24 #[.int .i64 c0, .slice A0 n0 q0] := ((Blk.new w 24 #[.int .i64 c0, .slice A0 n0 q0]).ext (((Ext.refl _).alloc _)))
      have b01 : Blk ((w.alloc (Obj.cells #[.int .i64 c0, .slice A0 n0 q0] 24)).alloc (Obj.cells #[.int .i64 c1, .slice A1 n1 q1] 24)) (w.heap.size + 1) 24 #[.int .i64 c1, .slice A1 n1 q1] := by have := (Blk.new (w.alloc (Obj.cells #[.int .i64 c0, .slice A0 n0 q0] 24)) 24 #[.int .i64 c1, .slice A1 n1 q1]); simpa using this
      have s0 : w.heap.size + 2 ≤ ((w.alloc (Obj.cells #[.int .i64 c0, .slice A0 n0 q0] 24)).alloc (Obj.cells #[.int .i64 c1, .slice A1 n1 q1] 24)).heap.size := by simp
      have K0 := Lib.hid (hx0.below (Nat.le_refl _))
      have C00 := Lib.hid b00
      have C01 := Lib.hid b01
      clear hx0 b00 b01
      generalize ((w.alloc (Obj.cells #[.int .i64 c0, .slice A0 n0 q0] 24)).alloc (Obj.cells #[.int .i64 c1, .slice A1 n1 q1] 24)) = w0 at *
      refine (hsz0 _).mono ?_
      rintro e w1 ⟨rfl, hx⟩
      have s1 := (hx.below (Nat.le_refl _)).size
      have K1 := Lib.hid (K0.out.trans (hx.below K0.out.size))
      have Ba0_1 := Lib.hid (C00.out.ext hx)
      have Ba1_1 := Lib.hid (C01.out.ext hx)
      clear K0 C00 C01
      clear hx
      have ra0_0 := Ba0_1.out.rd 0 rfl
      have ra0_1 := Ba0_1.out.rd 1 rfl
      have ra1_0 := Ba1_1.out.rd 0 rfl
      have ra1_1 := Ba1_1.out.rd 1 rfl
      go_wp2_with fail
      clear ra0_0 ra0_1 ra1_0 ra1_1
      refine (hsz1 _).mono ?_
      rintro e w2 ⟨rfl, hx⟩
      have s2 := (hx.below (Nat.le_refl _)).size
      have K2 := Lib.hid (K1.out.trans (hx.below K1.out.size))
      have Ba0_2 := Lib.hid (Ba0_1.out.ext hx)
      have Ba1_2 := Lib.hid (Ba1_1.out.ext hx)
      clear K1 Ba0_1 Ba1_1
      clear hx
      have ra0_0 := Ba0_2.out.rd 0 rfl
      have ra0_1 := Ba0_2.out.rd 1 rfl
      have ra1_0 := Ba1_2.out.rd 0 rfl
      have ra1_1 := Ba1_2.out.rd 1 rfl
      go_wp2_with fail
      clear ra0_0 ra0_1 ra1_0 ra1_1
      have ra0_0 := Ba0_2.out.rd 0 rfl
      have ra0_1 := Ba0_2.out.rd 1 rfl
      have ra1_0 := Ba1_2.out.rd 0 rfl
      have ra1_1 := Ba1_2.out.rd 1 rfl
      go_upto_region 8 with (fail)
      go_cut [6, 7] (fun v6 v7 wx => ∃ (R0 : Option Addr) (p0 : Nat), v6 = .slice R0 m0 p0 ∧ v7 = .int .i64 r1 ∧ IWW wx w2.heap.size wx.heap.size R0 vs0 ∧ Below w2.heap.size w2 wx)
      case first =>
        go_region_law (first
          | (go_simp; go_at_call 15; with_reducible refine (HT0.out _ (K2.out.trans ((below_next0 (Below.refl w2.heap.size w2) (by first | exact Ext.refl _ | exact (Ext.refl _).drew | exact (Ext.refl _).alloc _ | exact ((Ext.refl _).alloc _).drew | exact ((Ext.refl _).drew).alloc _ | exact (((Ext.refl _).drew).alloc _).drew | exact ((Ext.refl _).alloc _).alloc _ | exact (((Ext.refl _).alloc _).alloc _).drew) (Nat.le_refl _)).mono K2.out.size))).mono ?_; rintro e w0x ⟨Ax0, rfl, hb, hw⟩; have K0x := below_next (Below.refl w2.heap.size w2) (by first | exact Ext.refl _ | exact (Ext.refl _).drew | exact (Ext.refl _).alloc _ | exact ((Ext.refl _).alloc _).drew | exact ((Ext.refl _).drew).alloc _ | exact (((Ext.refl _).drew).alloc _).drew | exact ((Ext.refl _).alloc _).alloc _ | exact (((Ext.refl _).alloc _).alloc _).drew) hb (Nat.le_refl _); have C0_0x := blk_next Ba0_2.out (by first | exact Ext.refl _ | exact (Ext.refl _).drew | exact (Ext.refl _).alloc _ | exact ((Ext.refl _).alloc _).drew | exact ((Ext.refl _).drew).alloc _ | exact (((Ext.refl _).drew).alloc _).drew | exact ((Ext.refl _).alloc _).alloc _ | exact (((Ext.refl _).alloc _).alloc _).drew) hb; have C1_0x := blk_next Ba1_2.out (by first | exact Ext.refl _ | exact (Ext.refl _).drew | exact (Ext.refl _).alloc _ | exact ((Ext.refl _).alloc _).drew | exact ((Ext.refl _).drew).alloc _ | exact (((Ext.refl _).drew).alloc _).drew | exact ((Ext.refl _).alloc _).alloc _ | exact (((Ext.refl _).alloc _).alloc _).drew) hb; have T0_0x := hw.r; clear hb hw; have rb00_0 := C0_0x.rd 0 rfl; have rb00_1 := C0_0x.rd 1 rfl; have rb01_0 := C1_0x.rd 0 rfl; have rb01_1 := C1_0x.rd 1 rfl)
          | (go_simp; go_at_call 15; with_reducible refine (HT1.out _ (K2.out.trans ((below_next0 K0x (by first | exact Ext.refl _ | exact (Ext.refl _).drew | exact (Ext.refl _).alloc _ | exact ((Ext.refl _).alloc _).drew | exact ((Ext.refl _).drew).alloc _ | exact (((Ext.refl _).drew).alloc _).drew | exact ((Ext.refl _).alloc _).alloc _ | exact (((Ext.refl _).alloc _).alloc _).drew) (Nat.le_refl _)).mono K2.out.size))).mono ?_; rintro e w1x ⟨Ax1, rfl, hb, hw⟩; have K1x := below_next K0x (by first | exact Ext.refl _ | exact (Ext.refl _).drew | exact (Ext.refl _).alloc _ | exact ((Ext.refl _).alloc _).drew | exact ((Ext.refl _).drew).alloc _ | exact (((Ext.refl _).drew).alloc _).drew | exact ((Ext.refl _).alloc _).alloc _ | exact (((Ext.refl _).alloc _).alloc _).drew) hb (Nat.le_refl _); have C0_1x := blk_next C0_0x (by first | exact Ext.refl _ | exact (Ext.refl _).drew | exact (Ext.refl _).alloc _ | exact ((Ext.refl _).alloc _).drew | exact ((Ext.refl _).drew).alloc _ | exact (((Ext.refl _).drew).alloc _).drew | exact ((Ext.refl _).alloc _).alloc _ | exact (((Ext.refl _).alloc _).alloc _).drew) hb; have C1_1x := blk_next C1_0x (by first | exact Ext.refl _ | exact (Ext.refl _).drew | exact (Ext.refl _).alloc _ | exact ((Ext.refl _).alloc _).drew | exact ((Ext.refl _).drew).alloc _ | exact (((Ext.refl _).drew).alloc _).drew | exact ((Ext.refl _).alloc _).alloc _ | exact (((Ext.refl _).alloc _).alloc _).drew) hb; have T0_1x := twr_next T0_0x (by first | exact Ext.refl _ | exact (Ext.refl _).drew | exact (Ext.refl _).alloc _ | exact ((Ext.refl _).alloc _).drew | exact ((Ext.refl _).drew).alloc _ | exact (((Ext.refl _).drew).alloc _).drew | exact ((Ext.refl _).alloc _).alloc _ | exact (((Ext.refl _).alloc _).alloc _).drew) hb; have T1_1x := hw.r; clear hb hw; have rb10_0 := C0_1x.rd 0 rfl; have rb10_1 := C0_1x.rd 1 rfl; have rb11_0 := C1_1x.rd 0 rfl; have rb11_1 := C1_1x.rd 1 rfl)
          | (go_simp; go_at_call 21; with_reducible refine (HS.out _ Ax0 _ Ax1 _ (Nat.le_refl _) (T0_1x.ext (by first | exact Ext.refl _ | exact (Ext.refl _).drew | exact (Ext.refl _).alloc _ | exact ((Ext.refl _).alloc _).drew | exact ((Ext.refl _).drew).alloc _ | exact (((Ext.refl _).drew).alloc _).drew | exact ((Ext.refl _).alloc _).alloc _ | exact (((Ext.refl _).alloc _).alloc _).drew)).tr (Nat.le_refl _) (T1_1x.ext (by first | exact Ext.refl _ | exact (Ext.refl _).drew | exact (Ext.refl _).alloc _ | exact ((Ext.refl _).alloc _).drew | exact ((Ext.refl _).drew).alloc _ | exact (((Ext.refl _).drew).alloc _).drew | exact ((Ext.refl _).alloc _).alloc _ | exact (((Ext.refl _).alloc _).alloc _).drew)).tr).mono ?_; rintro e w3y ⟨B3_0_, cap3_0, rfl, hb, hw0⟩; have hKc := below_pair K1x (by first | exact Ext.refl _ | exact (Ext.refl _).drew | exact (Ext.refl _).alloc _ | exact ((Ext.refl _).alloc _).drew | exact ((Ext.refl _).drew).alloc _ | exact (((Ext.refl _).drew).alloc _).drew | exact ((Ext.refl _).alloc _).alloc _ | exact (((Ext.refl _).alloc _).alloc _).drew) hb (Nat.le_refl _)))
        all_goals
          go_wp2_with fail
          go_meet
          have hBc := hKc.size
          have hbs := hb.size
          exact ⟨_, _, rfl, rfl, ((hw0).ext (by first | exact Ext.refl _ | exact (Ext.refl _).drew | exact (Ext.refl _).alloc _ | exact ((Ext.refl _).alloc _).drew | exact ((Ext.refl _).drew).alloc _ | exact (((Ext.refl _).drew).alloc _).drew | exact ((Ext.refl _).alloc _).alloc _ | exact (((Ext.refl _).alloc _).alloc _).drew)).loose (by first | omega | exact hBc) (by first | omega | exact Nat.le_refl _), below_next0 (below_next K1x (by first | exact Ext.refl _ | exact (Ext.refl _).drew | exact (Ext.refl _).alloc _ | exact ((Ext.refl _).alloc _).drew | exact ((Ext.refl _).drew).alloc _ | exact (((Ext.refl _).drew).alloc _).drew | exact ((Ext.refl _).alloc _).alloc _ | exact (((Ext.refl _).alloc _).alloc _).drew) hb (Nat.le_refl _)) (by first | exact Ext.refl _ | exact (Ext.refl _).drew | exact (Ext.refl _).alloc _ | exact ((Ext.refl _).alloc _).drew | exact ((Ext.refl _).drew).alloc _ | exact (((Ext.refl _).drew).alloc _).drew | exact ((Ext.refl _).alloc _).alloc _ | exact (((Ext.refl _).alloc _).alloc _).drew) (Nat.le_refl _)⟩
      case rest =>
        obtain ⟨B3_0_, cap3_0, rfl, rfl, hw0, hb⟩ := hcut
        obtain ⟨w3, hwk⟩ : ∃ w', w' = wc := ⟨_, rfl⟩
        subst hwk
        clear ra0_0 ra0_1 ra1_0 ra1_1
        have s3 := hb.size
        have t3_0 := Lib.hid hw0
        have K3 := Lib.hid (K2.out.trans (hb.mono K2.out.size))
        have Ba0_3 := Lib.hid (Ba0_2.out.below hb Ba0_2.out.lt)
        have Ba1_3 := Lib.hid (Ba1_2.out.below hb Ba1_2.out.lt)
        clear K2 Ba0_2 Ba1_2
        clear hb hw0
        have ra0_0 := Ba0_3.out.rd 0 rfl
        have ra0_1 := Ba0_3.out.rd 1 rfl
        have ra1_0 := Ba1_3.out.rd 0 rfl
        have ra1_1 := Ba1_3.out.rd 1 rfl
        go_wp2_with fail
        clear ra0_0 ra0_1 ra1_0 ra1_1
        refine (HT0.out _ K3.out).mono ?_
        rintro e w4 ⟨A_4, rfl, hb, hw⟩
        have s4 := hb.size
        have t4 := Lib.hid hw.r
        have K4 := Lib.hid (K3.out.trans (hb.mono K3.out.size))
        have Ba0_4 := Lib.hid (Ba0_3.out.below hb Ba0_3.out.lt)
        have Ba1_4 := Lib.hid (Ba1_3.out.below hb Ba1_3.out.lt)
        have T3_0_4 := Lib.hid (t3_0.out.below hb)
        clear K3 Ba0_3 Ba1_3 t3_0
        clear hb hw
        have ra0_0 := Ba0_4.out.rd 0 rfl
        have qa0_0 := (Ba0_4.out.ext ((Ext.refl _).alloc (Obj.cells #[.int .i64 c0, .slice A_4 n0 n0] 29))).rd 0 rfl
        have ra0_1 := Ba0_4.out.rd 1 rfl
        have qa0_1 := (Ba0_4.out.ext ((Ext.refl _).alloc (Obj.cells #[.int .i64 c0, .slice A_4 n0 n0] 29))).rd 1 rfl
        have ra1_0 := Ba1_4.out.rd 0 rfl
        have qa1_0 := (Ba1_4.out.ext ((Ext.refl _).alloc (Obj.cells #[.int .i64 c0, .slice A_4 n0 n0] 29))).rd 0 rfl
        have ra1_1 := Ba1_4.out.rd 1 rfl
        have qa1_1 := (Ba1_4.out.ext ((Ext.refl _).alloc (Obj.cells #[.int .i64 c0, .slice A_4 n0 n0] 29))).rd 1 rfl
        go_wp2_with fail
        clear ra0_0 qa0_0 ra0_1 qa0_1 ra1_0 qa1_0 ra1_1 qa1_1
        have hx : Ext w4 (w4.alloc (Obj.cells #[.int .i64 c0, .slice A_4 n0 n0] 29)) := (Ext.refl _).alloc _
        have sa5 : w4.heap.size + 1 ≤ (w4.alloc (Obj.cells #[.int .i64 c0, .slice A_4 n0 n0] 29)).heap.size := by simp
        have b5 := Lib.hid (Blk.new w4 29 #[.int .i64 c0, .slice A_4 n0 n0])
        generalize w4.alloc (Obj.cells #[.int .i64 c0, .slice A_4 n0 n0] 29) = w5 at *
        have K5 := Lib.hid (K4.out.trans (hx.below K4.out.size))
        have Ba0_5 := Lib.hid (Ba0_4.out.ext hx)
        have Ba1_5 := Lib.hid (Ba1_4.out.ext hx)
        have T3_0_5 := Lib.hid (T3_0_4.out.ext hx)
        have T4_5 := Lib.hid (t4.out.ext hx)
        clear K4 Ba0_4 Ba1_4 T3_0_4 t4
        clear hx
        refine (HT1.out _ K5.out).mono ?_
        rintro e w6 ⟨A_6, rfl, hb, hw⟩
        have s6 := hb.size
        have t6 := Lib.hid hw.r
        have K6 := Lib.hid (K5.out.trans (hb.mono K5.out.size))
        have Ba0_6 := Lib.hid (Ba0_5.out.below hb Ba0_5.out.lt)
        have Ba1_6 := Lib.hid (Ba1_5.out.below hb Ba1_5.out.lt)
        have B5_6 := Lib.hid (b5.out.below hb b5.out.lt)
        have T3_0_6 := Lib.hid (T3_0_5.out.below hb)
        have T4_6 := Lib.hid (T4_5.out.below hb)
        clear K5 Ba0_5 Ba1_5 b5 T3_0_5 T4_5
        clear hb hw
        have ra0_0 := Ba0_6.out.rd 0 rfl
        have qa0_0 := (Ba0_6.out.ext ((Ext.refl _).alloc (Obj.cells #[.int .i64 c1, .slice A_6 n1 n1] 29))).rd 0 rfl
        have ra0_1 := Ba0_6.out.rd 1 rfl
        have qa0_1 := (Ba0_6.out.ext ((Ext.refl _).alloc (Obj.cells #[.int .i64 c1, .slice A_6 n1 n1] 29))).rd 1 rfl
        have ra1_0 := Ba1_6.out.rd 0 rfl
        have qa1_0 := (Ba1_6.out.ext ((Ext.refl _).alloc (Obj.cells #[.int .i64 c1, .slice A_6 n1 n1] 29))).rd 0 rfl
        have ra1_1 := Ba1_6.out.rd 1 rfl
        have qa1_1 := (Ba1_6.out.ext ((Ext.refl _).alloc (Obj.cells #[.int .i64 c1, .slice A_6 n1 n1] 29))).rd 1 rfl
        have r5_0 := B5_6.out.rd 0 rfl
        have q5_0 := (B5_6.out.ext ((Ext.refl _).alloc (Obj.cells #[.int .i64 c1, .slice A_6 n1 n1] 29))).rd 0 rfl
        have r5_1 := B5_6.out.rd 1 rfl
        have q5_1 := (B5_6.out.ext ((Ext.refl _).alloc (Obj.cells #[.int .i64 c1, .slice A_6 n1 n1] 29))).rd 1 rfl
        go_wp2_with fail
        clear ra0_0 qa0_0 ra0_1 qa0_1 ra1_0 qa1_0 ra1_1 qa1_1 r5_0 q5_0 r5_1 q5_1
        have hx : Ext w6 (w6.alloc (Obj.cells #[.int .i64 c1, .slice A_6 n1 n1] 29)) := (Ext.refl _).alloc _
        have sa7 : w6.heap.size + 1 ≤ (w6.alloc (Obj.cells #[.int .i64 c1, .slice A_6 n1 n1] 29)).heap.size := by simp
        have b7 := Lib.hid (Blk.new w6 29 #[.int .i64 c1, .slice A_6 n1 n1])
        generalize w6.alloc (Obj.cells #[.int .i64 c1, .slice A_6 n1 n1] 29) = w7 at *
        have K7 := Lib.hid (K6.out.trans (hx.below K6.out.size))
        have Ba0_7 := Lib.hid (Ba0_6.out.ext hx)
        have Ba1_7 := Lib.hid (Ba1_6.out.ext hx)
        have B5_7 := Lib.hid (B5_6.out.ext hx)
        have T3_0_7 := Lib.hid (T3_0_6.out.ext hx)
        have T4_7 := Lib.hid (T4_6.out.ext hx)
        have T6_7 := Lib.hid (t6.out.ext hx)
        clear K6 Ba0_6 Ba1_6 B5_6 T3_0_6 T4_6 t6
        clear hx
        refine (HI.out _ A_4 _ A_6 _ (Nat.le_refl _) T4_7.out.tr (Nat.le_refl _) T6_7.out.tr).mono ?_
        rintro e w8 ⟨B8_0_, cap8_0, rfl, hb, hw0⟩
        have s8 := hb.size
        have t8_0 := Lib.hid hw0
        have K8 := Lib.hid (K7.out.trans (hb.mono K7.out.size))
        have Ba0_8 := Lib.hid (Ba0_7.out.below hb Ba0_7.out.lt)
        have Ba1_8 := Lib.hid (Ba1_7.out.below hb Ba1_7.out.lt)
        have B5_8 := Lib.hid (B5_7.out.below hb B5_7.out.lt)
        have B7_8 := Lib.hid (b7.out.below hb b7.out.lt)
        have T3_0_8 := Lib.hid (T3_0_7.out.below hb)
        have T4_8 := Lib.hid (T4_7.out.below hb)
        have T6_8 := Lib.hid (T6_7.out.below hb)
        clear K7 Ba0_7 Ba1_7 B5_7 b7 T3_0_7 T4_7 T6_7
        clear hb hw0
        have ra0_0 := Ba0_8.out.rd 0 rfl
        have ra0_1 := Ba0_8.out.rd 1 rfl
        have ra1_0 := Ba1_8.out.rd 0 rfl
        have ra1_1 := Ba1_8.out.rd 1 rfl
        have r5_0 := B5_8.out.rd 0 rfl
        have r5_1 := B5_8.out.rd 1 rfl
        have r7_0 := B7_8.out.rd 0 rfl
        have r7_1 := B7_8.out.rd 1 rfl
        go_wp2_with fail
        clear ra0_0 ra0_1 ra1_0 ra1_1 r5_0 r5_1 r7_0 r7_1
        refine (eqInt64SS_any B8_0_ B3_0_ m0 m0 _ _ vs0 vs0 _ (by omega) HM0.out HM0.out HRW0.out t8_0.out.irr T3_0_8.out.irr).mono ?_
        rw [decide_eq_true (rfl : vs0 = vs0)]
        rintro e w9 ⟨rfl, hx⟩
        have s9 := (hx.below (Nat.le_refl _)).size
        have K9 := Lib.hid (K8.out.trans (hx.below K8.out.size))
        have Ba0_9 := Lib.hid (Ba0_8.out.ext hx)
        have Ba1_9 := Lib.hid (Ba1_8.out.ext hx)
        have B5_9 := Lib.hid (B5_8.out.ext hx)
        have B7_9 := Lib.hid (B7_8.out.ext hx)
        have T3_0_9 := Lib.hid (T3_0_8.out.ext hx)
        have T4_9 := Lib.hid (T4_8.out.ext hx)
        have T6_9 := Lib.hid (T6_8.out.ext hx)
        have T8_0_9 := Lib.hid (t8_0.out.ext hx)
        clear K8 Ba0_8 Ba1_8 B5_8 B7_8 T3_0_8 T4_8 T6_8 t8_0
        clear hx
        have ra0_0 := Ba0_9.out.rd 0 rfl
        have ra0_1 := Ba0_9.out.rd 1 rfl
        have ra1_0 := Ba1_9.out.rd 0 rfl
        have ra1_1 := Ba1_9.out.rd 1 rfl
        have r5_0 := B5_9.out.rd 0 rfl
        have r5_1 := B5_9.out.rd 1 rfl
        have r7_0 := B7_9.out.rd 0 rfl
        have r7_1 := B7_9.out.rd 1 rfl
        go_wp2_with fail
        clear ra0_0 ra0_1 ra1_0 ra1_1 r5_0 r5_1 r7_0 r7_1
        have ra0_0 := Ba0_9.out.rd 0 rfl
        have ra0_1 := Ba0_9.out.rd 1 rfl
        have ra1_0 := Ba1_9.out.rd 0 rfl
        have ra1_1 := Ba1_9.out.rd 1 rfl
        have r5_0 := B5_9.out.rd 0 rfl
        have r5_1 := B5_9.out.rd 1 rfl
        have r7_0 := B7_9.out.rd 0 rfl
        have r7_1 := B7_9.out.rd 1 rfl
        go_region_held3 (fun w' => w'.cell? ⟨w.heap.size, 0, none⟩ = some (.int .i64 c0) ∧ w'.cell? ⟨w.heap.size, 1, none⟩ = some (.slice A0 n0 q0) ∧ w'.cell? ⟨w4.heap.size, 0, none⟩ = some (.int .i64 c0) ∧ w'.cell? ⟨w4.heap.size, 1, none⟩ = some (.slice A_4 n0 n0))
          (first | exact ⟨ka0_0, ka0_1, k5_0, k5_1⟩ | exact ⟨la0_0, la0_1, l5_0, l5_1⟩ | go_keep)
          (first
            | (go_at_call 15; refine (HT0.out _ K9.out.drew).mono ?_; rintro e w10 ⟨A_10, rfl, hb, hw⟩; have s10 := hb.size; simp only [World.size_drew] at s10; have t10 := Lib.hid hw.r; have K10 := Lib.hid (K9.out.drew.trans (hb.mono K9.out.size)); have Ba0_10 := Lib.hid (Blk.below (w := w9.drew) Ba0_9.out hb Ba0_9.out.lt); have Ba1_10 := Lib.hid (Blk.below (w := w9.drew) Ba1_9.out hb Ba1_9.out.lt); have B5_10 := Lib.hid (Blk.below (w := w9.drew) B5_9.out hb B5_9.out.lt); have B7_10 := Lib.hid (Blk.below (w := w9.drew) B7_9.out hb B7_9.out.lt); have T3_0_10 := Lib.hid (IWW.below (w := w9.drew) T3_0_9.out hb); have T4_10 := Lib.hid (TWr.below (w := w9.drew) T4_9.out hb); have T6_10 := Lib.hid (TWr.below (w := w9.drew) T6_9.out hb); have T8_0_10 := Lib.hid (IWW.below (w := w9.drew) T8_0_9.out hb); clear K9 Ba0_9 Ba1_9 B5_9 B7_9 T3_0_9 T4_9 T6_9 T8_0_9; clear hb hw; have ka0_0 := Ba0_10.out.rd 0 rfl; have ka0_1 := Ba0_10.out.rd 1 rfl; have k5_0 := B5_10.out.rd 0 rfl; have k5_1 := B5_10.out.rd 1 rfl)
            | (go_at_call 18; refine (eqSet_any c0 c0 A_4 A_10 n0 n0 _ _ ts0 ts0 _ (by omega) HL0.out HL0.out T4_10.out.tr t10.out.tr).mono ?_; rw [decide_eq_true (⟨rfl, rfl⟩ : c0 = c0 ∧ ts0 = ts0)]; rintro e w11 ⟨rfl, hx⟩; have s11 := (hx.below (Nat.le_refl _)).size; clear ka0_0 ka0_1 k5_0 k5_1; have K11 := Lib.hid (K10.out.trans (hx.below K10.out.size)); have Ba0_11 := Lib.hid (Ba0_10.out.ext hx); have Ba1_11 := Lib.hid (Ba1_10.out.ext hx); have B5_11 := Lib.hid (B5_10.out.ext hx); have B7_11 := Lib.hid (B7_10.out.ext hx); have T3_0_11 := Lib.hid (T3_0_10.out.ext hx); have T4_11 := Lib.hid (T4_10.out.ext hx); have T6_11 := Lib.hid (T6_10.out.ext hx); have T8_0_11 := Lib.hid (T8_0_10.out.ext hx); have T10_11 := Lib.hid (t10.out.ext hx); clear K10 Ba0_10 Ba1_10 B5_10 B7_10 T3_0_10 T4_10 T6_10 T8_0_10 t10; clear hx; have la0_0 := Ba0_11.out.rd 0 rfl; have la0_1 := Ba0_11.out.rd 1 rfl; have l5_0 := B5_11.out.rd 0 rfl; have l5_1 := B5_11.out.rd 1 rfl))
        clear la0_0 la0_1 l5_0 l5_1 ra0_0 ra0_1 ra1_0 ra1_1 r5_0 r5_1 r7_0 r7_1
        clear T10_11
        have ra0_0 := Ba0_11.out.rd 0 rfl
        have ra0_1 := Ba0_11.out.rd 1 rfl
        have ra1_0 := Ba1_11.out.rd 0 rfl
        have ra1_1 := Ba1_11.out.rd 1 rfl
        have r5_0 := B5_11.out.rd 0 rfl
        have r5_1 := B5_11.out.rd 1 rfl
        have r7_0 := B7_11.out.rd 0 rfl
        have r7_1 := B7_11.out.rd 1 rfl
        go_wp2_with fail
        clear ra0_0 ra0_1 ra1_0 ra1_1 r5_0 r5_1 r7_0 r7_1
        have ra0_0 := Ba0_11.out.rd 0 rfl
        have ra0_1 := Ba0_11.out.rd 1 rfl
        have ra1_0 := Ba1_11.out.rd 0 rfl
        have ra1_1 := Ba1_11.out.rd 1 rfl
        have r5_0 := B5_11.out.rd 0 rfl
        have r5_1 := B5_11.out.rd 1 rfl
        have r7_0 := B7_11.out.rd 0 rfl
        have r7_1 := B7_11.out.rd 1 rfl
        go_region_held3 (fun w' => w'.cell? ⟨(w.heap.size + 1), 0, none⟩ = some (.int .i64 c1) ∧ w'.cell? ⟨(w.heap.size + 1), 1, none⟩ = some (.slice A1 n1 q1) ∧ w'.cell? ⟨w6.heap.size, 0, none⟩ = some (.int .i64 c1) ∧ w'.cell? ⟨w6.heap.size, 1, none⟩ = some (.slice A_6 n1 n1))
          (first | exact ⟨ka1_0, ka1_1, k7_0, k7_1⟩ | exact ⟨la1_0, la1_1, l7_0, l7_1⟩ | go_keep)
          (first
            | (go_at_call 15; refine (HT1.out _ K11.out.drew).mono ?_; rintro e w12 ⟨A_12, rfl, hb, hw⟩; have s12 := hb.size; simp only [World.size_drew] at s12; have t12 := Lib.hid hw.r; have K12 := Lib.hid (K11.out.drew.trans (hb.mono K11.out.size)); have Ba0_12 := Lib.hid (Blk.below (w := w11.drew) Ba0_11.out hb Ba0_11.out.lt); have Ba1_12 := Lib.hid (Blk.below (w := w11.drew) Ba1_11.out hb Ba1_11.out.lt); have B5_12 := Lib.hid (Blk.below (w := w11.drew) B5_11.out hb B5_11.out.lt); have B7_12 := Lib.hid (Blk.below (w := w11.drew) B7_11.out hb B7_11.out.lt); have T3_0_12 := Lib.hid (IWW.below (w := w11.drew) T3_0_11.out hb); have T4_12 := Lib.hid (TWr.below (w := w11.drew) T4_11.out hb); have T6_12 := Lib.hid (TWr.below (w := w11.drew) T6_11.out hb); have T8_0_12 := Lib.hid (IWW.below (w := w11.drew) T8_0_11.out hb); clear K11 Ba0_11 Ba1_11 B5_11 B7_11 T3_0_11 T4_11 T6_11 T8_0_11; clear hb hw; have ka1_0 := Ba1_12.out.rd 0 rfl; have ka1_1 := Ba1_12.out.rd 1 rfl; have k7_0 := B7_12.out.rd 0 rfl; have k7_1 := B7_12.out.rd 1 rfl)
            | (go_at_call 18; refine (eqSet_any c1 c1 A_6 A_12 n1 n1 _ _ ts1 ts1 _ (by omega) HL1.out HL1.out T6_12.out.tr t12.out.tr).mono ?_; rw [decide_eq_true (⟨rfl, rfl⟩ : c1 = c1 ∧ ts1 = ts1)]; rintro e w13 ⟨rfl, hx⟩; have s13 := (hx.below (Nat.le_refl _)).size; clear ka1_0 ka1_1 k7_0 k7_1; have K13 := Lib.hid (K12.out.trans (hx.below K12.out.size)); have Ba0_13 := Lib.hid (Ba0_12.out.ext hx); have Ba1_13 := Lib.hid (Ba1_12.out.ext hx); have B5_13 := Lib.hid (B5_12.out.ext hx); have B7_13 := Lib.hid (B7_12.out.ext hx); have T3_0_13 := Lib.hid (T3_0_12.out.ext hx); have T4_13 := Lib.hid (T4_12.out.ext hx); have T6_13 := Lib.hid (T6_12.out.ext hx); have T8_0_13 := Lib.hid (T8_0_12.out.ext hx); have T12_13 := Lib.hid (t12.out.ext hx); clear K12 Ba0_12 Ba1_12 B5_12 B7_12 T3_0_12 T4_12 T6_12 T8_0_12 t12; clear hx; have la1_0 := Ba1_13.out.rd 0 rfl; have la1_1 := Ba1_13.out.rd 1 rfl; have l7_0 := B7_13.out.rd 0 rfl; have l7_1 := B7_13.out.rd 1 rfl))
        clear la1_0 la1_1 l7_0 l7_1 ra0_0 ra0_1 ra1_0 ra1_1 r5_0 r5_1 r7_0 r7_1
        clear T12_13
        have ra0_0 := Ba0_13.out.rd 0 rfl
        have ra0_1 := Ba0_13.out.rd 1 rfl
        have ra1_0 := Ba1_13.out.rd 0 rfl
        have ra1_1 := Ba1_13.out.rd 1 rfl
        have r5_0 := B5_13.out.rd 0 rfl
        have r5_1 := B5_13.out.rd 1 rfl
        have r7_0 := B7_13.out.rd 0 rfl
        have r7_1 := B7_13.out.rd 1 rfl
        go_wp2_with fail
        clear ra0_0 ra0_1 ra1_0 ra1_1 r5_0 r5_1 r7_0 r7_1
        refine (markSet_at c0 A_4 n0 _ (1) ts0 _ _ _ (by omega) (by omega) (by omega) HL0.out T4_13.out).mono ?_
        rintro e w14 ⟨rfl, ho, hw⟩
        have s14 := ho.size
        have t14 := Lib.hid hw
        have K14 := Lib.hid (K13.out.trans (ho.below (by omega) K13.out.size))
        have Ba0_14 := Lib.hid (Ba0_13.out.only ho (by omega))
        have Ba1_14 := Lib.hid (Ba1_13.out.only ho (by omega))
        have B5_14 := Lib.hid (B5_13.out.only ho (by omega))
        have B7_14 := Lib.hid (B7_13.out.only ho (by omega))
        have T3_0_14 := Lib.hid (T3_0_13.out.only ho (by omega))
        have T6_14 := Lib.hid (T6_13.out.only ho (by omega))
        have T8_0_14 := Lib.hid (T8_0_13.out.only ho (by omega))
        clear K13 Ba0_13 Ba1_13 B5_13 B7_13 T3_0_13 T6_13 T8_0_13
        clear ho hw T4_13
        have ra0_0 := Ba0_14.out.rd 0 rfl
        have ra0_1 := Ba0_14.out.rd 1 rfl
        have ra1_0 := Ba1_14.out.rd 0 rfl
        have ra1_1 := Ba1_14.out.rd 1 rfl
        have r5_0 := B5_14.out.rd 0 rfl
        have r5_1 := B5_14.out.rd 1 rfl
        have r7_0 := B7_14.out.rd 0 rfl
        have r7_1 := B7_14.out.rd 1 rfl
        go_wp2_with fail
        clear ra0_0 ra0_1 ra1_0 ra1_1 r5_0 r5_1 r7_0 r7_1
        refine (markSet_at c1 A_6 n1 _ (1 + 4 * (n0 : Int)) ts1 _ _ _ (by omega) (by omega) (by omega) HL1.out T6_14.out).mono ?_
        rintro e w15 ⟨rfl, ho, hw⟩
        have s15 := ho.size
        have t15 := Lib.hid hw
        have K15 := Lib.hid (K14.out.trans (ho.below (by omega) K14.out.size))
        have Ba0_15 := Lib.hid (Ba0_14.out.only ho (by omega))
        have Ba1_15 := Lib.hid (Ba1_14.out.only ho (by omega))
        have B5_15 := Lib.hid (B5_14.out.only ho (by omega))
        have B7_15 := Lib.hid (B7_14.out.only ho (by omega))
        have T3_0_15 := Lib.hid (T3_0_14.out.only ho (by omega))
        have T4_15 := Lib.hid (t14.out.only ho (by omega))
        have T8_0_15 := Lib.hid (T8_0_14.out.only ho (by omega))
        clear K14 Ba0_14 Ba1_14 B5_14 B7_14 T3_0_14 t14 T8_0_14
        clear ho hw T6_14
        have ra0_0 := Ba0_15.out.rd 0 rfl
        have ra0_1 := Ba0_15.out.rd 1 rfl
        have ra1_0 := Ba1_15.out.rd 0 rfl
        have ra1_1 := Ba1_15.out.rd 1 rfl
        have r5_0 := B5_15.out.rd 0 rfl
        have r5_1 := B5_15.out.rd 1 rfl
        have r7_0 := B7_15.out.rd 0 rfl
        have r7_1 := B7_15.out.rd 1 rfl
        go_wp2_with fail
        clear ra0_0 ra0_1 ra1_0 ra1_1 r5_0 r5_1 r7_0 r7_1
        refine (eqInt64SS_any B8_0_ B3_0_ m0 m0 _ _ vs0 vs0 _ (by omega) HM0.out HM0.out HRW0.out T8_0_15.out.irr T3_0_15.out.irr).mono ?_
        rw [decide_eq_true (rfl : vs0 = vs0)]
        rintro e w16 ⟨rfl, hx⟩
        have s16 := (hx.below (Nat.le_refl _)).size
        have K16 := Lib.hid (K15.out.trans (hx.below K15.out.size))
        have Ba0_16 := Lib.hid (Ba0_15.out.ext hx)
        have Ba1_16 := Lib.hid (Ba1_15.out.ext hx)
        have B5_16 := Lib.hid (B5_15.out.ext hx)
        have B7_16 := Lib.hid (B7_15.out.ext hx)
        have T3_0_16 := Lib.hid (T3_0_15.out.ext hx)
        have T4_16 := Lib.hid (T4_15.out.ext hx)
        have T6_16 := Lib.hid (t15.out.ext hx)
        have T8_0_16 := Lib.hid (T8_0_15.out.ext hx)
        clear K15 Ba0_15 Ba1_15 B5_15 B7_15 T3_0_15 T4_15 t15 T8_0_15
        clear hx
        have ra0_0 := Ba0_16.out.rd 0 rfl
        have ra0_1 := Ba0_16.out.rd 1 rfl
        have ra1_0 := Ba1_16.out.rd 0 rfl
        have ra1_1 := Ba1_16.out.rd 1 rfl
        have r5_0 := B5_16.out.rd 0 rfl
        have r5_1 := B5_16.out.rd 1 rfl
        have r7_0 := B7_16.out.rd 0 rfl
        have r7_1 := B7_16.out.rd 1 rfl
        go_wp2_with fail
        clear ra0_0 ra0_1 ra1_0 ra1_1 r5_0 r5_1 r7_0 r7_1
        refine (markRows_at B8_0_ m0 _ pm0 (1) vs0 _ _ _ HPM0.out (by omega) (by omega) (by omega) (by omega) HM0.out T8_0_16.out).mono ?_
        rintro e w17 ⟨rfl, ho, hw⟩
        have s17 := ho.size
        have t17 := Lib.hid hw
        have K17 := Lib.hid (K16.out.trans (ho.below (by omega) K16.out.size))
        have Ba0_17 := Lib.hid (Ba0_16.out.only ho (by omega))
        have Ba1_17 := Lib.hid (Ba1_16.out.only ho (by omega))
        have B5_17 := Lib.hid (B5_16.out.only ho (by omega))
        have B7_17 := Lib.hid (B7_16.out.only ho (by omega))
        have T3_0_17 := Lib.hid (T3_0_16.out.only ho (by omega))
        have T4_17 := Lib.hid (T4_16.out.only ho (by omega))
        have T6_17 := Lib.hid (T6_16.out.only ho (by omega))
        clear K16 Ba0_16 Ba1_16 B5_16 B7_16 T3_0_16 T4_16 T6_16
        clear ho hw T8_0_16
        have ra0_0 := Ba0_17.out.rd 0 rfl
        have ra0_1 := Ba0_17.out.rd 1 rfl
        have ra1_0 := Ba1_17.out.rd 0 rfl
        have ra1_1 := Ba1_17.out.rd 1 rfl
        have r5_0 := B5_17.out.rd 0 rfl
        have r5_1 := B5_17.out.rd 1 rfl
        have r7_0 := B7_17.out.rd 0 rfl
        have r7_1 := B7_17.out.rd 1 rfl
        go_wp2_with fail
        clear ra0_0 ra0_1 ra1_0 ra1_1 r5_0 r5_1 r7_0 r7_1
        refine (heldRows_at B8_0_ m0 _ pm0 (1) vs0 _ HPM0.out (by omega) (by omega) (by omega) (by omega) HM0.out t17.out.irr).mono ?_
        rintro e w18 ⟨rfl, hx⟩
        have s18 := (hx.below (Nat.le_refl _)).size
        have K18 := Lib.hid (K17.out.trans (hx.below K17.out.size))
        have Ba0_18 := Lib.hid (Ba0_17.out.ext hx)
        have Ba1_18 := Lib.hid (Ba1_17.out.ext hx)
        have B5_18 := Lib.hid (B5_17.out.ext hx)
        have B7_18 := Lib.hid (B7_17.out.ext hx)
        have T3_0_18 := Lib.hid (T3_0_17.out.ext hx)
        have T4_18 := Lib.hid (T4_17.out.ext hx)
        have T6_18 := Lib.hid (T6_17.out.ext hx)
        have T8_0_18 := Lib.hid (t17.out.ext hx)
        clear K17 Ba0_17 Ba1_17 B5_17 B7_17 T3_0_17 T4_17 T6_17 t17
        clear hx
        have ra0_0 := Ba0_18.out.rd 0 rfl
        have ra0_1 := Ba0_18.out.rd 1 rfl
        have ra1_0 := Ba1_18.out.rd 0 rfl
        have ra1_1 := Ba1_18.out.rd 1 rfl
        have r5_0 := B5_18.out.rd 0 rfl
        have r5_1 := B5_18.out.rd 1 rfl
        have r7_0 := B7_18.out.rd 0 rfl
        have r7_1 := B7_18.out.rd 1 rfl
        go_wp2_with fail
        clear ra0_0 ra0_1 ra1_0 ra1_1 r5_0 r5_1 r7_0 r7_1
        have ra0_0 := Ba0_18.out.rd 0 rfl
        have ra0_1 := Ba0_18.out.rd 1 rfl
        have ra1_0 := Ba1_18.out.rd 0 rfl
        have ra1_1 := Ba1_18.out.rd 1 rfl
        go_upto_region 30 with (fail)
        go_cut [15, 16] (fun v15 v16 wx => ∃ (R0 : Option Addr) (p0 : Nat), v15 = .slice R0 m0 p0 ∧ v16 = .int .i64 r1 ∧ IWW wx w18.heap.size wx.heap.size R0 vs0 ∧ Below w18.heap.size w18 wx)
        case first =>
          go_region_law (first
            | (go_simp; go_at_call 15; with_reducible refine (HT0.out _ (K18.out.trans ((below_next0 (Below.refl w18.heap.size w18) (by first | exact Ext.refl _ | exact (Ext.refl _).drew | exact (Ext.refl _).alloc _ | exact ((Ext.refl _).alloc _).drew | exact ((Ext.refl _).drew).alloc _ | exact (((Ext.refl _).drew).alloc _).drew | exact ((Ext.refl _).alloc _).alloc _ | exact (((Ext.refl _).alloc _).alloc _).drew) (Nat.le_refl _)).mono K18.out.size))).mono ?_; rintro e w0x ⟨Ax0, rfl, hb, hw⟩; have K0x := below_next (Below.refl w18.heap.size w18) (by first | exact Ext.refl _ | exact (Ext.refl _).drew | exact (Ext.refl _).alloc _ | exact ((Ext.refl _).alloc _).drew | exact ((Ext.refl _).drew).alloc _ | exact (((Ext.refl _).drew).alloc _).drew | exact ((Ext.refl _).alloc _).alloc _ | exact (((Ext.refl _).alloc _).alloc _).drew) hb (Nat.le_refl _); have C0_0x := blk_next Ba0_18.out (by first | exact Ext.refl _ | exact (Ext.refl _).drew | exact (Ext.refl _).alloc _ | exact ((Ext.refl _).alloc _).drew | exact ((Ext.refl _).drew).alloc _ | exact (((Ext.refl _).drew).alloc _).drew | exact ((Ext.refl _).alloc _).alloc _ | exact (((Ext.refl _).alloc _).alloc _).drew) hb; have C1_0x := blk_next Ba1_18.out (by first | exact Ext.refl _ | exact (Ext.refl _).drew | exact (Ext.refl _).alloc _ | exact ((Ext.refl _).alloc _).drew | exact ((Ext.refl _).drew).alloc _ | exact (((Ext.refl _).drew).alloc _).drew | exact ((Ext.refl _).alloc _).alloc _ | exact (((Ext.refl _).alloc _).alloc _).drew) hb; have T0_0x := hw.r; clear hb hw; have rb00_0 := C0_0x.rd 0 rfl; have rb00_1 := C0_0x.rd 1 rfl; have rb01_0 := C1_0x.rd 0 rfl; have rb01_1 := C1_0x.rd 1 rfl)
            | (go_simp; go_at_call 15; with_reducible refine (HT1.out _ (K18.out.trans ((below_next0 K0x (by first | exact Ext.refl _ | exact (Ext.refl _).drew | exact (Ext.refl _).alloc _ | exact ((Ext.refl _).alloc _).drew | exact ((Ext.refl _).drew).alloc _ | exact (((Ext.refl _).drew).alloc _).drew | exact ((Ext.refl _).alloc _).alloc _ | exact (((Ext.refl _).alloc _).alloc _).drew) (Nat.le_refl _)).mono K18.out.size))).mono ?_; rintro e w1x ⟨Ax1, rfl, hb, hw⟩; have K1x := below_next K0x (by first | exact Ext.refl _ | exact (Ext.refl _).drew | exact (Ext.refl _).alloc _ | exact ((Ext.refl _).alloc _).drew | exact ((Ext.refl _).drew).alloc _ | exact (((Ext.refl _).drew).alloc _).drew | exact ((Ext.refl _).alloc _).alloc _ | exact (((Ext.refl _).alloc _).alloc _).drew) hb (Nat.le_refl _); have C0_1x := blk_next C0_0x (by first | exact Ext.refl _ | exact (Ext.refl _).drew | exact (Ext.refl _).alloc _ | exact ((Ext.refl _).alloc _).drew | exact ((Ext.refl _).drew).alloc _ | exact (((Ext.refl _).drew).alloc _).drew | exact ((Ext.refl _).alloc _).alloc _ | exact (((Ext.refl _).alloc _).alloc _).drew) hb; have C1_1x := blk_next C1_0x (by first | exact Ext.refl _ | exact (Ext.refl _).drew | exact (Ext.refl _).alloc _ | exact ((Ext.refl _).alloc _).drew | exact ((Ext.refl _).drew).alloc _ | exact (((Ext.refl _).drew).alloc _).drew | exact ((Ext.refl _).alloc _).alloc _ | exact (((Ext.refl _).alloc _).alloc _).drew) hb; have T0_1x := twr_next T0_0x (by first | exact Ext.refl _ | exact (Ext.refl _).drew | exact (Ext.refl _).alloc _ | exact ((Ext.refl _).alloc _).drew | exact ((Ext.refl _).drew).alloc _ | exact (((Ext.refl _).drew).alloc _).drew | exact ((Ext.refl _).alloc _).alloc _ | exact (((Ext.refl _).alloc _).alloc _).drew) hb; have T1_1x := hw.r; clear hb hw; have rb10_0 := C0_1x.rd 0 rfl; have rb10_1 := C0_1x.rd 1 rfl; have rb11_0 := C1_1x.rd 0 rfl; have rb11_1 := C1_1x.rd 1 rfl)
            | (go_simp; go_at_call 22; with_reducible refine (HI.out _ Ax0 _ Ax1 _ (Nat.le_refl _) (T0_1x.ext (by first | exact Ext.refl _ | exact (Ext.refl _).drew | exact (Ext.refl _).alloc _ | exact ((Ext.refl _).alloc _).drew | exact ((Ext.refl _).drew).alloc _ | exact (((Ext.refl _).drew).alloc _).drew | exact ((Ext.refl _).alloc _).alloc _ | exact (((Ext.refl _).alloc _).alloc _).drew)).tr (Nat.le_refl _) (T1_1x.ext (by first | exact Ext.refl _ | exact (Ext.refl _).drew | exact (Ext.refl _).alloc _ | exact ((Ext.refl _).alloc _).drew | exact ((Ext.refl _).drew).alloc _ | exact (((Ext.refl _).drew).alloc _).drew | exact ((Ext.refl _).alloc _).alloc _ | exact (((Ext.refl _).alloc _).alloc _).drew)).tr).mono ?_; rintro e w19y ⟨B19_0_, cap19_0, rfl, hb, hw0⟩; have hKc := below_pair K1x (by first | exact Ext.refl _ | exact (Ext.refl _).drew | exact (Ext.refl _).alloc _ | exact ((Ext.refl _).alloc _).drew | exact ((Ext.refl _).drew).alloc _ | exact (((Ext.refl _).drew).alloc _).drew | exact ((Ext.refl _).alloc _).alloc _ | exact (((Ext.refl _).alloc _).alloc _).drew) hb (Nat.le_refl _)))
          all_goals
            go_wp2_with fail
            go_meet
            have hBc := hKc.size
            have hbs := hb.size
            exact ⟨_, _, rfl, rfl, ((hw0).ext (by first | exact Ext.refl _ | exact (Ext.refl _).drew | exact (Ext.refl _).alloc _ | exact ((Ext.refl _).alloc _).drew | exact ((Ext.refl _).drew).alloc _ | exact (((Ext.refl _).drew).alloc _).drew | exact ((Ext.refl _).alloc _).alloc _ | exact (((Ext.refl _).alloc _).alloc _).drew)).loose (by first | omega | exact hBc) (by first | omega | exact Nat.le_refl _), below_next0 (below_next K1x (by first | exact Ext.refl _ | exact (Ext.refl _).drew | exact (Ext.refl _).alloc _ | exact ((Ext.refl _).alloc _).drew | exact ((Ext.refl _).drew).alloc _ | exact (((Ext.refl _).drew).alloc _).drew | exact ((Ext.refl _).alloc _).alloc _ | exact (((Ext.refl _).alloc _).alloc _).drew) hb (Nat.le_refl _)) (by first | exact Ext.refl _ | exact (Ext.refl _).drew | exact (Ext.refl _).alloc _ | exact ((Ext.refl _).alloc _).drew | exact ((Ext.refl _).drew).alloc _ | exact (((Ext.refl _).drew).alloc _).drew | exact ((Ext.refl _).alloc _).alloc _ | exact (((Ext.refl _).alloc _).alloc _).drew) (Nat.le_refl _)⟩
        case rest =>
          obtain ⟨B19_0_, cap19_0, rfl, rfl, hw0, hb⟩ := hcut
          obtain ⟨w19, hwk⟩ : ∃ w', w' = wc := ⟨_, rfl⟩
          subst hwk
          clear ra0_0 ra0_1 ra1_0 ra1_1
          have s19 := hb.size
          have t19_0 := Lib.hid hw0
          have K19 := Lib.hid (K18.out.trans (hb.mono K18.out.size))
          have Ba0_19 := Lib.hid (Ba0_18.out.below hb Ba0_18.out.lt)
          have Ba1_19 := Lib.hid (Ba1_18.out.below hb Ba1_18.out.lt)
          have B5_19 := Lib.hid (B5_18.out.below hb B5_18.out.lt)
          have B7_19 := Lib.hid (B7_18.out.below hb B7_18.out.lt)
          have T3_0_19 := Lib.hid (T3_0_18.out.below hb)
          have T4_19 := Lib.hid (T4_18.out.below hb)
          have T6_19 := Lib.hid (T6_18.out.below hb)
          have T8_0_19 := Lib.hid (T8_0_18.out.below hb)
          clear K18 Ba0_18 Ba1_18 B5_18 B7_18 T3_0_18 T4_18 T6_18 T8_0_18
          clear hb hw0
          have ra0_0 := Ba0_19.out.rd 0 rfl
          have ra0_1 := Ba0_19.out.rd 1 rfl
          have ra1_0 := Ba1_19.out.rd 0 rfl
          have ra1_1 := Ba1_19.out.rd 1 rfl
          have r5_0 := B5_19.out.rd 0 rfl
          have r5_1 := B5_19.out.rd 1 rfl
          have r7_0 := B7_19.out.rd 0 rfl
          have r7_1 := B7_19.out.rd 1 rfl
          go_wp2_with fail
          clear ra0_0 ra0_1 ra1_0 ra1_1 r5_0 r5_1 r7_0 r7_1
          refine (eqInt64SS_any B19_0_ B3_0_ m0 m0 _ _ vs0 vs0 _ (by omega) HM0.out HM0.out HRW0.out t19_0.out.irr T3_0_19.out.irr).mono ?_
          rw [decide_eq_true (rfl : vs0 = vs0)]
          rintro e w20 ⟨rfl, hx⟩
          have s20 := (hx.below (Nat.le_refl _)).size
          have K20 := Lib.hid (K19.out.trans (hx.below K19.out.size))
          have Ba0_20 := Lib.hid (Ba0_19.out.ext hx)
          have Ba1_20 := Lib.hid (Ba1_19.out.ext hx)
          have B5_20 := Lib.hid (B5_19.out.ext hx)
          have B7_20 := Lib.hid (B7_19.out.ext hx)
          have T3_0_20 := Lib.hid (T3_0_19.out.ext hx)
          have T4_20 := Lib.hid (T4_19.out.ext hx)
          have T6_20 := Lib.hid (T6_19.out.ext hx)
          have T8_0_20 := Lib.hid (T8_0_19.out.ext hx)
          have T19_0_20 := Lib.hid (t19_0.out.ext hx)
          clear K19 Ba0_19 Ba1_19 B5_19 B7_19 T3_0_19 T4_19 T6_19 T8_0_19 t19_0
          clear hx
          have ra0_0 := Ba0_20.out.rd 0 rfl
          have ra0_1 := Ba0_20.out.rd 1 rfl
          have ra1_0 := Ba1_20.out.rd 0 rfl
          have ra1_1 := Ba1_20.out.rd 1 rfl
          have r5_0 := B5_20.out.rd 0 rfl
          have r5_1 := B5_20.out.rd 1 rfl
          have r7_0 := B7_20.out.rd 0 rfl
          have r7_1 := B7_20.out.rd 1 rfl
          go_wp2_with fail
          clear ra0_0 ra0_1 ra1_0 ra1_1 r5_0 r5_1 r7_0 r7_1
          refine (heldRows_at B8_0_ m0 _ pm0 (1) vs0 _ HPM0.out (by omega) (by omega) (by omega) (by omega) HM0.out T8_0_20.out.irr).mono ?_
          rintro e w21 ⟨rfl, hx⟩
          have s21 := (hx.below (Nat.le_refl _)).size
          have K21 := Lib.hid (K20.out.trans (hx.below K20.out.size))
          have Ba0_21 := Lib.hid (Ba0_20.out.ext hx)
          have Ba1_21 := Lib.hid (Ba1_20.out.ext hx)
          have B5_21 := Lib.hid (B5_20.out.ext hx)
          have B7_21 := Lib.hid (B7_20.out.ext hx)
          have T3_0_21 := Lib.hid (T3_0_20.out.ext hx)
          have T4_21 := Lib.hid (T4_20.out.ext hx)
          have T6_21 := Lib.hid (T6_20.out.ext hx)
          have T8_0_21 := Lib.hid (T8_0_20.out.ext hx)
          have T19_0_21 := Lib.hid (T19_0_20.out.ext hx)
          clear K20 Ba0_20 Ba1_20 B5_20 B7_20 T3_0_20 T4_20 T6_20 T8_0_20 T19_0_20
          clear hx
          have ra0_0 := Ba0_21.out.rd 0 rfl
          have ra0_1 := Ba0_21.out.rd 1 rfl
          have ra1_0 := Ba1_21.out.rd 0 rfl
          have ra1_1 := Ba1_21.out.rd 1 rfl
          have r5_0 := B5_21.out.rd 0 rfl
          have r5_1 := B5_21.out.rd 1 rfl
          have r7_0 := B7_21.out.rd 0 rfl
          have r7_1 := B7_21.out.rd 1 rfl
          go_wp2_with fail
          clear ra0_0 ra0_1 ra1_0 ra1_1 r5_0 r5_1 r7_0 r7_1
          go_ret
          exact ⟨rfl, K21.out⟩
theorem need_dec (l : List Int) : need (l.map dec) = 3 * l.length := by
  have h : ∀ l : List Int, ((l.map dec).map List.length).sum = 2 * l.length := by
    intro l
    induction l with
    | nil => rfl
    | cons x r ih => rw [List.map_cons, List.map_cons, List.sum_cons, ih, List.length_cons]; simp [dec]; omega
  unfold need pre
  rw [List.take_length, h, List.length_map]
  omega
theorem law_Pairs (c0 : Int) (A0 : Option Addr) (n0 q0 : Nat) (ts0 : List Tl) (c1 : Int) (A1 : Option Addr) (n1 q1 : Nat) (ts1 : List Tl) (w : World)
    (hn0 : n0 ≤ 9223372036854775807) (hl0 : ts0.length = n0) (hA0 : TR w w.heap.size A0 ts0) (hn1 : n1 ≤ 9223372036854775807) (hl1 : ts1.length = n1) (hA1 : TR w w.heap.size A1 ts1) :
    Calls Try.prog 4 #[.agg #[.int .i64 c0, .slice A0 n0 q0], .agg #[.int .i64 c1, .slice A1 n1 q1]] w fun e w' => e = .returned (.bool true) ∧ Below w.heap.size w w' := by
  have hnone : ∀ (W : World) (code : Int) (e : Ending) (w' : World), (e = .returned (.tuple #[.slice none 0 0, .int .i64 code]) ∧ Below W.heap.size W w') → ∃ R p, e = .returned (.tuple #[.slice R ([] : List (List Int)).length p, .int .i64 code]) ∧ Below W.heap.size W w' ∧ IWW w' W.heap.size w'.heap.size R [] :=
    fun W code e w' h => ⟨none, 0, h.1, h.2, fun h => absurd h (Nat.lt_irrefl _)⟩
  cases hs0 : isSet c0 ts0 with
  | false =>
    exact lawPairsOfStack_core c0 A0 n0 q0 ts0 c1 A1 n1 q1 ts1 w hn0 hl0 hA0 hn1 hl1 hA1 [] 1 (by decide)
      (fun h W B0 e0 B1 e1 _ hB0 _ hB1 => (specPairsOfStack_1a c0 B0 n0 e0 ts0 c1 B1 n1 e1 ts1 W h.1 hl0 hB0 h.2 hl1 hB1 hs0).mono (hnone W 1))
      (fun h W B0 e0 B1 e1 _ hB0 _ hB1 => (implPairsOfStack_1a c0 B0 n0 e0 ts0 c1 B1 n1 e1 ts1 W h.1 hl0 hB0 h.2 hl1 hB1 hs0).mono (hnone W 1))
  | true =>
    cases hs1 : isSet c1 ts1 with
    | false =>
      exact lawPairsOfStack_core c0 A0 n0 q0 ts0 c1 A1 n1 q1 ts1 w hn0 hl0 hA0 hn1 hl1 hA1 [] 1 (by decide)
        (fun h W B0 e0 B1 e1 _ hB0 _ hB1 => (specPairsOfStack_1b c0 B0 n0 e0 ts0 c1 B1 n1 e1 ts1 W h.1 hl0 hB0 h.2 hl1 hB1 hs0 hs1).mono (hnone W 1))
        (fun h W B0 e0 B1 e1 _ hB0 _ hB1 => (implPairsOfStack_1b c0 B0 n0 e0 ts0 c1 B1 n1 e1 ts1 W h.1 hl0 hB0 h.2 hl1 hB1 hs0 hs1).mono (hnone W 1))
    | true =>
      have hpl := prs_len (ts := ts0) (us := ts1)
      have hmm : ts0.length * ts1.length ≤ 16 * 16 := Nat.mul_le_mul (isSet_len hs0) (isSet_len hs1)
      exact lawPairsOfStack_core c0 A0 n0 q0 ts0 c1 A1 n1 q1 ts1 w hn0 hl0 hA0 hn1 hl1 hA1 ((prs ts0 ts1).map dec) 0 (by rw [need_dec]; omega)
        (fun h W B0 e0 B1 e1 _ hB0 _ hB1 => specPairsOfStack_0 c0 B0 n0 e0 ts0 c1 B1 n1 e1 ts1 W h.1 hl0 hB0 h.2 hl1 hB1 hs0 hs1)
        (fun h W B0 e0 B1 e1 _ hB0 _ hB1 => implPairsOfStack_0 c0 B0 n0 e0 ts0 c1 B1 n1 e1 ts1 W h.1 hl0 hB0 h.2 hl1 hB1 hs0 hs1)
end Go.Proofs.Ytcakbnfpmpdljaa
