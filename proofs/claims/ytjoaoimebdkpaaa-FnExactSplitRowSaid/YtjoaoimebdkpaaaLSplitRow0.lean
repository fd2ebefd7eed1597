/- The exact law over SplitRow: walked. -/
import Derived.Test.YtjoaoimebdkpaaaHeld
import Derived.Test.YtjoaoimebdkpaaaMark2
import Derived.Test.YtjoaoimebdkpaaaSBridge
import Derived.Test.YtjoaoimebdkpaaaGrow
import Derived.Test.YtjoaoimebdkpaaaCut2
import Derived.Test.YtjoaoimebdkpaaaInts
import Derived.Deep.RegionHeld3
import Derived.Deep.RegionLaw
import Derived.Deep.DeepCutAuto
namespace Go.Proofs.Ytjoaoimebdkpaaa
set_option linter.unusedVariables false
set_option linter.unusedSimpArgs false
open Go.RowKit Go.Sort

set_option maxRecDepth 100000 in
set_option maxHeartbeats 24000000 in
theorem lawSplitRow_core (c0 : Int) (A0 : Option Addr) (n0 q0 : Nat) (ts0 : List Tl) (c1 : Int) (A1 : Option Addr) (n1 q1 : Nat) (ts1 : List Tl) (A2 : Option Addr) (n2 q2 : Nat) (xs2 : List Int) (w : World) (hn0 : n0 ≤ 9223372036854775807) (hl0 : ts0.length = n0) (hA0 : TR w w.heap.size A0 ts0) (hn1 : n1 ≤ 9223372036854775807) (hl1 : ts1.length = n1) (hA1 : TR w w.heap.size A1 ts1) (hn2 : n2 ≤ 9223372036854775807) (hl2 : xs2.length = n2) (hA2 : IR w w.heap.size A2 xs2) (ys0 : List Int) (ys1 : List Int) (r2 : Int) (hus0 : ys0.length ≤ 65536) (hus1 : ys1.length ≤ 65536)
    (hspec : n0 ≤ 1048576 ∧ n1 ≤ 1048576 ∧ n2 ≤ 1048576 → ∀ (W : World) (B0 : Option Addr) (e0 : Nat) (B1 : Option Addr) (e1 : Nat) (B2 : Option Addr) (e2 : Nat), n0 ≤ e0 → TR W W.heap.size B0 ts0 → n1 ≤ e1 → TR W W.heap.size B1 ts1 → n2 ≤ e2 → IR W W.heap.size B2 xs2 → Calls Try.prog 40 #[.agg #[.int .i64 c0, .slice B0 n0 e0], .agg #[.int .i64 c1, .slice B1 n1 e1], .slice B2 n2 e2] W (fun e w' => ∃ R0 p0 R1 p1, e = .returned (.tuple #[.slice R0 ys0.length p0, .slice R1 ys1.length p1, .int .i64 r2]) ∧ Below W.heap.size W w' ∧ IWr w' W.heap.size w'.heap.size R0 ys0 ∧ IWr w' W.heap.size w'.heap.size R1 ys1))
    (himpl : n0 ≤ 1048576 ∧ n1 ≤ 1048576 ∧ n2 ≤ 1048576 → ∀ (W : World) (B0 : Option Addr) (e0 : Nat) (B1 : Option Addr) (e1 : Nat) (B2 : Option Addr) (e2 : Nat), n0 ≤ e0 → TR W W.heap.size B0 ts0 → n1 ≤ e1 → TR W W.heap.size B1 ts1 → n2 ≤ e2 → IR W W.heap.size B2 xs2 → Calls Try.prog 42 #[.agg #[.int .i64 c0, .slice B0 n0 e0], .agg #[.int .i64 c1, .slice B1 n1 e1], .slice B2 n2 e2] W (fun e w' => ∃ R0 p0 R1 p1 ja jb jc jd, W.heap.size ≤ ja ∧ jb ≤ w'.heap.size ∧ W.heap.size ≤ jc ∧ jd ≤ w'.heap.size ∧ (jb ≤ jc ∨ jd ≤ ja) ∧ e = .returned (.tuple #[.slice R0 ys0.length p0, .slice R1 ys1.length p1, .int .i64 r2]) ∧ Below W.heap.size W w' ∧ IWr w' ja jb R0 ys0 ∧ IWr w' jc jd R1 ys1)) :
    Calls Try.prog 10 #[.agg #[.int .i64 c0, .slice A0 n0 q0], .agg #[.int .i64 c1, .slice A1 n1 q1], .slice A2 n2 q2] w fun e w' => e = .returned (.bool true) ∧ Below w.heap.size w w' := by
  have hsz0 : (0 : Int) ≤ 1048576 → ∀ W, Calls Try.prog 15 #[.agg #[.int .i64 c0, .slice A0 n0 q0], .int .i64 1048576] W _ := fun h W => szSet_any c0 A0 n0 q0 1048576 W hn0 h (by omega)
  have hsz1 : 0 ≤ (1048576 - (n0 : Int)) → ∀ W, Calls Try.prog 15 #[.agg #[.int .i64 c1, .slice A1 n1 q1], .int .i64 (1048576 - (n0 : Int))] W _ := fun h W => szSet_any c1 A1 n1 q1 (1048576 - (n0 : Int)) W hn1 h (by omega)
  by_cases hbig2 : (1048576 : Int) < n2
  · clear hsz0
    clear hsz1
    clear hspec himpl
    go_enter Try.func10, Try.ntmps10
    go_wp2_with fail
    go_ret
    exact ⟨rfl, ((((Ext.refl w).alloc _).alloc _)).below (Nat.le_refl _)⟩
  · skip
    by_cases hbig0 : (1048576 : Int) < n0
    · replace hsz0 := hsz0 (by omega)
      simp only [if_pos hbig0] at hsz0
      clear hsz1
      clear hspec himpl
      go_enter Try.func10, Try.ntmps10
      go_wp2_with fail
      have hx0 : Ext w ((w.alloc (Obj.cells #[.int .i64 c0, .slice A0 n0 q0] 24)).alloc (Obj.cells #[.int .i64 c1, .slice A1 n1 q1] 24)) := (((Ext.refl w).alloc _).alloc _)
      have b00 : Blk ((w.alloc (Obj.cells #[.int .i64 c0, .slice A0 n0 q0] 24)).alloc (Obj.cells #[.int .i64 c1, .slice A1 n1 q1] 24)) w.heap.size 24 #[.int .i64 c0, .slice A0 n0 q0] := ((Blk.new w 24 #[.int .i64 c0, .slice A0 n0 q0]).ext (((Ext.refl _).alloc _)))
      have b01 : Blk ((w.alloc (Obj.cells #[.int .i64 c0, .slice A0 n0 q0] 24)).alloc (Obj.cells #[.int .i64 c1, .slice A1 n1 q1] 24)) (w.heap.size + 1) 24 #[.int .i64 c1, .slice A1 n1 q1] := by have := (Blk.new (w.alloc (Obj.cells #[.int .i64 c0, .slice A0 n0 q0] 24)) 24 #[.int .i64 c1, .slice A1 n1 q1]); simpa using this
      have s0 : w.heap.size + 2 ≤ ((w.alloc (Obj.cells #[.int .i64 c0, .slice A0 n0 q0] 24)).alloc (Obj.cells #[.int .i64 c1, .slice A1 n1 q1] 24)).heap.size := by simp
      have K0 := Lib.hid (hx0.below (Nat.le_refl _))
      have C00 := Lib.hid b00
      have C01 := Lib.hid b01
      clear hx0 b00 b01
      generalize ((w.alloc (Obj.cells #[.int .i64 c0, .slice A0 n0 q0] 24)).alloc (Obj.cells #[.int .i64 c1, .slice A1 n1 q1] 24)) = w0 at *
      refine (hsz0 _).mono ?_
      rintro e w1 ⟨rfl, hx⟩
      have s1 := (hx.below (Nat.le_refl _)).size
      have K1 := Lib.hid (K0.out.trans (hx.below K0.out.size))
      have Ba0_1 := Lib.hid (C00.out.ext hx)
      have Ba1_1 := Lib.hid (C01.out.ext hx)
      clear K0 C00 C01
      clear hx
      have ra0_0 := Ba0_1.out.rd 0 rfl
      have ra0_1 := Ba0_1.out.rd 1 rfl
      have ra1_0 := Ba1_1.out.rd 0 rfl
      have ra1_1 := Ba1_1.out.rd 1 rfl
      go_wp2_with fail
      clear ra0_0 ra0_1 ra1_0 ra1_1
      go_ret
      exact ⟨rfl, K1.out⟩
    · skip
      by_cases hbig1 : (1048576 - (n0 : Int) : Int) < n1
      · replace hsz0 := hsz0 (by omega)
        simp only [if_neg hbig0] at hsz0
        replace hsz1 := hsz1 (by omega)
        simp only [if_pos hbig1] at hsz1
        have hneg0 : ¬ (1048576 - (n0 : Int) < 0) := by omega
        clear hspec himpl
        go_enter Try.func10, Try.ntmps10
        go_wp2_with fail
        have hx0 : Ext w ((w.alloc (Obj.cells #[.int .i64 c0, .slice A0 n0 q0] 24)).alloc (Obj.cells #[.int .i64 c1, .slice A1 n1 q1] 24)) := (((Ext.refl w).alloc _).alloc _)
        have b00 : Blk ((w.alloc (Obj.cells #[.int .i64 c0, .slice A0 n0 q0] 24)).alloc (Obj.cells #[.int .i64 c1, .slice A1 n1 q1] 24)) w.heap.size 24 #[.int .i64 c0, .slice A0 n0 q0] := ((Blk.new w 24 #[.int .i64 c0, .slice A0 n0 q0]).ext (((Ext.refl _).alloc _)))
        have b01 : Blk ((w.alloc (Obj.cells #[.int .i64 c0, .slice A0 n0 q0] 24)).alloc (Obj.cells #[.int .i64 c1, .slice A1 n1 q1] 24)) (w.heap.size + 1) 24 #[.int .i64 c1, .slice A1 n1 q1] := by have := (Blk.new (w.alloc (Obj.cells #[.int .i64 c0, .slice A0 n0 q0] 24)) 24 #[.int .i64 c1, .slice A1 n1 q1]); simpa using this
        have s0 : w.heap.size + 2 ≤ ((w.alloc (Obj.cells #[.int .i64 c0, .slice A0 n0 q0] 24)).alloc (Obj.cells #[.int .i64 c1, .slice A1 n1 q1] 24)).heap.size := by simp
        have K0 := Lib.hid (hx0.below (Nat.le_refl _))
        have C00 := Lib.hid b00
        have C01 := Lib.hid b01
        clear hx0 b00 b01
        generalize ((w.alloc (Obj.cells #[.int .i64 c0, .slice A0 n0 q0] 24)).alloc (Obj.cells #[.int .i64 c1, .slice A1 n1 q1] 24)) = w0 at *
        refine (hsz0 _).mono ?_
        rintro e w1 ⟨rfl, hx⟩
        have s1 := (hx.below (Nat.le_refl _)).size
        have K1 := Lib.hid (K0.out.trans (hx.below K0.out.size))
        have Ba0_1 := Lib.hid (C00.out.ext hx)
        have Ba1_1 := Lib.hid (C01.out.ext hx)
        clear K0 C00 C01
        clear hx
        have ra0_0 := Ba0_1.out.rd 0 rfl
        have ra0_1 := Ba0_1.out.rd 1 rfl
        have ra1_0 := Ba1_1.out.rd 0 rfl
        have ra1_1 := Ba1_1.out.rd 1 rfl
        go_wp2_with fail
        clear ra0_0 ra0_1 ra1_0 ra1_1
        refine (hsz1 _).mono ?_
        rintro e w2 ⟨rfl, hx⟩
        have s2 := (hx.below (Nat.le_refl _)).size
        have K2 := Lib.hid (K1.out.trans (hx.below K1.out.size))
        have Ba0_2 := Lib.hid (Ba0_1.out.ext hx)
        have Ba1_2 := Lib.hid (Ba1_1.out.ext hx)
        clear K1 Ba0_1 Ba1_1
        clear hx
        have ra0_0 := Ba0_2.out.rd 0 rfl
        have ra0_1 := Ba0_2.out.rd 1 rfl
        have ra1_0 := Ba1_2.out.rd 0 rfl
        have ra1_1 := Ba1_2.out.rd 1 rfl
        go_wp2_with fail
        clear ra0_0 ra0_1 ra1_0 ra1_1
        go_ret
        exact ⟨rfl, K2.out⟩
      · skip
        replace hsz0 := hsz0 (by omega)
        simp only [if_neg hbig0] at hsz0
        replace hsz1 := hsz1 (by omega)
        simp only [if_neg hbig1] at hsz1
        have hneg0 : ¬ (1048576 - (n0 : Int) < 0) := by omega
        have hneg1 : ¬ (1048576 - (n0 : Int) - (n1 : Int) < 0) := by omega
        have hn'0 : n0 ≤ 1048576 := by omega
        have hts0 : ∀ W, Below w.heap.size w W → Calls Try.prog 18 #[.agg #[.int .i64 c0, .slice A0 n0 q0]] W _ := fun W hW => toSet_any c0 A0 n0 q0 ts0 W hn'0 hl0 ((hA0.below hW (Nat.le_refl _)).more hW.size)
        have hn'1 : n1 ≤ 1048576 := by omega
        have hts1 : ∀ W, Below w.heap.size w W → Calls Try.prog 18 #[.agg #[.int .i64 c1, .slice A1 n1 q1]] W _ := fun W hW => toSet_any c1 A1 n1 q1 ts1 W hn'1 hl1 ((hA1.below hW (Nat.le_refl _)).more hW.size)
        have hn'2 : n2 ≤ 1048576 := by omega
        have hts2 : ∀ W, Below w.heap.size w W → Calls Try.prog 41 #[.slice A2 n2 q2] W _ := fun W hW => toInt64S_any A2 n2 q2 xs2 W hn'2 hl2 ((hA2.below hW (Nat.le_refl _)).more hW.size)
        have HT0 := Lib.hid hts0
        have HL0 := Lib.hid hl0
        have HT1 := Lib.hid hts1
        have HL1 := Lib.hid hl1
        have HT2 := Lib.hid hts2
        have HL2 := Lib.hid hl2
        have HS := Lib.hid (hspec ⟨hn'0, hn'1, hn'2⟩)
        have HI := Lib.hid (himpl ⟨hn'0, hn'1, hn'2⟩)
        clear hspec himpl hts0 hA0 hl0 hts1 hA1 hl1 hts2 hA2 hl2
        generalize hm0 : ys0.length = m0 at *
        have HM0 := Lib.hid hm0
        clear hm0
        generalize hm1 : ys1.length = m1 at *
        have HM1 := Lib.hid hm1
        clear hm1
        have hcc2 : (r2 != r2) = false := by simp
        have hkn : ¬ (1 + 4 * (n0 : Int) + 4 * (n1 : Int) + (n2 : Int) < 0) := by omega
        have hkm0 : ¬ (1 + (m0 : Int) < 0) := by omega
        have hkm1 : ¬ (1 + (m0 : Int) + (m1 : Int) < 0) := by omega
        go_enter Try.func10, Try.ntmps10
        go_wp2_with fail
        have hx0 : Ext w ((w.alloc (Obj.cells #[.int .i64 c0, .slice A0 n0 q0] 24)).alloc (Obj.cells #[.int .i64 c1, .slice A1 n1 q1] 24)) := (((Ext.refl w).alloc _).alloc _)
        have b00 : Blk ((w.alloc (Obj.cells #[.int .i64 c0, .slice A0 n0 q0] 24)).alloc (Obj.cells #[.int .i64 c1, .slice A1 n1 q1] 24)) w.heap.size 24 #[.int .i64 c0, .slice A0 n0 q0] := ((Blk.new w 24 #[.int .i64 c0, .slice A0 n0 q0]).ext (((Ext.refl _).alloc _)))
        have b01 : Blk ((w.alloc (Obj.cells #[.int .i64 c0, .slice A0 n0 q0] 24)).alloc (Obj.cells #[.int .i64 c1, .slice A1 n1 q1] 24)) (w.heap.size + 1) 24 #[.int .i64 c1, .slice A1 n1 q1] := by have := (Blk.new (w.alloc (Obj.cells #[.int .i64 c0, .slice A0 n0 q0] 24)) 24 #[.int .i64 c1, .slice A1 n1 q1]); simpa using this
        have s0 : w.heap.size + 2 ≤ ((w.alloc (Obj.cells #[.int .i64 c0, .slice A0 n0 q0] 24)).alloc (Obj.cells #[.int .i64 c1, .slice A1 n1 q1] 24)).heap.size := by simp
        have K0 := Lib.hid (hx0.below (Nat.le_refl _))
        have C00 := Lib.hid b00
        have C01 := Lib.hid b01
        clear hx0 b00 b01
        generalize ((w.alloc (Obj.cells #[.int .i64 c0, .slice A0 n0 q0] 24)).alloc (Obj.cells #[.int .i64 c1, .slice A1 n1 q1] 24)) = w0 at *
        refine (hsz0 _).mono ?_
        rintro e w1 ⟨rfl, hx⟩
        have s1 := (hx.below (Nat.le_refl _)).size
        have K1 := Lib.hid (K0.out.trans (hx.below K0.out.size))
        have Ba0_1 := Lib.hid (C00.out.ext hx)
        have Ba1_1 := Lib.hid (C01.out.ext hx)
        clear K0 C00 C01
        clear hx
        have ra0_0 := Ba0_1.out.rd 0 rfl
        have ra0_1 := Ba0_1.out.rd 1 rfl
        have ra1_0 := Ba1_1.out.rd 0 rfl
        have ra1_1 := Ba1_1.out.rd 1 rfl
        go_wp2_with fail
        clear ra0_0 ra0_1 ra1_0 ra1_1
        refine (hsz1 _).mono ?_
        rintro e w2 ⟨rfl, hx⟩
        have s2 := (hx.below (Nat.le_refl _)).size
        have K2 := Lib.hid (K1.out.trans (hx.below K1.out.size))
        have Ba0_2 := Lib.hid (Ba0_1.out.ext hx)
        have Ba1_2 := Lib.hid (Ba1_1.out.ext hx)
        clear K1 Ba0_1 Ba1_1
        clear hx
        have ra0_0 := Ba0_2.out.rd 0 rfl
        have ra0_1 := Ba0_2.out.rd 1 rfl
        have ra1_0 := Ba1_2.out.rd 0 rfl
        have ra1_1 := Ba1_2.out.rd 1 rfl
        go_wp2_with fail
        clear ra0_0 ra0_1 ra1_0 ra1_1
        have ra0_0 := Ba0_2.out.rd 0 rfl
        have ra0_1 := Ba0_2.out.rd 1 rfl
        have ra1_0 := Ba1_2.out.rd 0 rfl
        have ra1_1 := Ba1_2.out.rd 1 rfl
        go_upto_region 10 with (fail)
        go_cut [8, 9, 10] (fun v8 v9 v10 wx => ∃ (R0 : Option Addr) (p0 : Nat) (R1 : Option Addr) (p1 : Nat), v8 = .slice R0 m0 p0 ∧ v9 = .slice R1 m1 p1 ∧ v10 = .int .i64 r2 ∧ IWr wx w2.heap.size wx.heap.size R0 ys0 ∧ IWr wx w2.heap.size wx.heap.size R1 ys1 ∧ Below w2.heap.size w2 wx)
        case first =>
          go_region_law (first
            | (go_simp; go_at_call 18; with_reducible refine (HT0.out _ (K2.out.trans ((below_next0 (Below.refl w2.heap.size w2) (by first | exact Ext.refl _ | exact (Ext.refl _).drew | exact (Ext.refl _).alloc _ | exact ((Ext.refl _).alloc _).drew | exact ((Ext.refl _).drew).alloc _ | exact (((Ext.refl _).drew).alloc _).drew | exact ((Ext.refl _).alloc _).alloc _ | exact (((Ext.refl _).alloc _).alloc _).drew) (Nat.le_refl _)).mono K2.out.size))).mono ?_; rintro e w0x ⟨Ax0, rfl, hb, hw⟩; have K0x := below_next (Below.refl w2.heap.size w2) (by first | exact Ext.refl _ | exact (Ext.refl _).drew | exact (Ext.refl _).alloc _ | exact ((Ext.refl _).alloc _).drew | exact ((Ext.refl _).drew).alloc _ | exact (((Ext.refl _).drew).alloc _).drew | exact ((Ext.refl _).alloc _).alloc _ | exact (((Ext.refl _).alloc _).alloc _).drew) hb (Nat.le_refl _); have C0_0x := blk_next Ba0_2.out (by first | exact Ext.refl _ | exact (Ext.refl _).drew | exact (Ext.refl _).alloc _ | exact ((Ext.refl _).alloc _).drew | exact ((Ext.refl _).drew).alloc _ | exact (((Ext.refl _).drew).alloc _).drew | exact ((Ext.refl _).alloc _).alloc _ | exact (((Ext.refl _).alloc _).alloc _).drew) hb; have C1_0x := blk_next Ba1_2.out (by first | exact Ext.refl _ | exact (Ext.refl _).drew | exact (Ext.refl _).alloc _ | exact ((Ext.refl _).alloc _).drew | exact ((Ext.refl _).drew).alloc _ | exact (((Ext.refl _).drew).alloc _).drew | exact ((Ext.refl _).alloc _).alloc _ | exact (((Ext.refl _).alloc _).alloc _).drew) hb; have T0_0x := hw.r; clear hb hw; have rb00_0 := C0_0x.rd 0 rfl; have rb00_1 := C0_0x.rd 1 rfl; have rb01_0 := C1_0x.rd 0 rfl; have rb01_1 := C1_0x.rd 1 rfl)
            | (go_simp; go_at_call 18; with_reducible refine (HT1.out _ (K2.out.trans ((below_next0 K0x (by first | exact Ext.refl _ | exact (Ext.refl _).drew | exact (Ext.refl _).alloc _ | exact ((Ext.refl _).alloc _).drew | exact ((Ext.refl _).drew).alloc _ | exact (((Ext.refl _).drew).alloc _).drew | exact ((Ext.refl _).alloc _).alloc _ | exact (((Ext.refl _).alloc _).alloc _).drew) (Nat.le_refl _)).mono K2.out.size))).mono ?_; rintro e w1x ⟨Ax1, rfl, hb, hw⟩; have K1x := below_next K0x (by first | exact Ext.refl _ | exact (Ext.refl _).drew | exact (Ext.refl _).alloc _ | exact ((Ext.refl _).alloc _).drew | exact ((Ext.refl _).drew).alloc _ | exact (((Ext.refl _).drew).alloc _).drew | exact ((Ext.refl _).alloc _).alloc _ | exact (((Ext.refl _).alloc _).alloc _).drew) hb (Nat.le_refl _); have C0_1x := blk_next C0_0x (by first | exact Ext.refl _ | exact (Ext.refl _).drew | exact (Ext.refl _).alloc _ | exact ((Ext.refl _).alloc _).drew | exact ((Ext.refl _).drew).alloc _ | exact (((Ext.refl _).drew).alloc _).drew | exact ((Ext.refl _).alloc _).alloc _ | exact (((Ext.refl _).alloc _).alloc _).drew) hb; have C1_1x := blk_next C1_0x (by first | exact Ext.refl _ | exact (Ext.refl _).drew | exact (Ext.refl _).alloc _ | exact ((Ext.refl _).alloc _).drew | exact ((Ext.refl _).drew).alloc _ | exact (((Ext.refl _).drew).alloc _).drew | exact ((Ext.refl _).alloc _).alloc _ | exact (((Ext.refl _).alloc _).alloc _).drew) hb; have T0_1x := twr_next T0_0x (by first | exact Ext.refl _ | exact (Ext.refl _).drew | exact (Ext.refl _).alloc _ | exact ((Ext.refl _).alloc _).drew | exact ((Ext.refl _).drew).alloc _ | exact (((Ext.refl _).drew).alloc _).drew | exact ((Ext.refl _).alloc _).alloc _ | exact (((Ext.refl _).alloc _).alloc _).drew) hb; have T1_1x := hw.r; clear hb hw; have rb10_0 := C0_1x.rd 0 rfl; have rb10_1 := C0_1x.rd 1 rfl; have rb11_0 := C1_1x.rd 0 rfl; have rb11_1 := C1_1x.rd 1 rfl)
            | (go_simp; go_at_call 41; with_reducible refine (HT2.out _ (K2.out.trans ((below_next0 K1x (by first | exact Ext.refl _ | exact (Ext.refl _).drew | exact (Ext.refl _).alloc _ | exact ((Ext.refl _).alloc _).drew | exact ((Ext.refl _).drew).alloc _ | exact (((Ext.refl _).drew).alloc _).drew | exact ((Ext.refl _).alloc _).alloc _ | exact (((Ext.refl _).alloc _).alloc _).drew) (Nat.le_refl _)).mono K2.out.size))).mono ?_; rintro e w2x ⟨Ax2, rfl, hb, hw⟩; have K2x := below_next K1x (by first | exact Ext.refl _ | exact (Ext.refl _).drew | exact (Ext.refl _).alloc _ | exact ((Ext.refl _).alloc _).drew | exact ((Ext.refl _).drew).alloc _ | exact (((Ext.refl _).drew).alloc _).drew | exact ((Ext.refl _).alloc _).alloc _ | exact (((Ext.refl _).alloc _).alloc _).drew) hb (Nat.le_refl _); have C0_2x := blk_next C0_1x (by first | exact Ext.refl _ | exact (Ext.refl _).drew | exact (Ext.refl _).alloc _ | exact ((Ext.refl _).alloc _).drew | exact ((Ext.refl _).drew).alloc _ | exact (((Ext.refl _).drew).alloc _).drew | exact ((Ext.refl _).alloc _).alloc _ | exact (((Ext.refl _).alloc _).alloc _).drew) hb; have C1_2x := blk_next C1_1x (by first | exact Ext.refl _ | exact (Ext.refl _).drew | exact (Ext.refl _).alloc _ | exact ((Ext.refl _).alloc _).drew | exact ((Ext.refl _).drew).alloc _ | exact (((Ext.refl _).drew).alloc _).drew | exact ((Ext.refl _).alloc _).alloc _ | exact (((Ext.refl _).alloc _).alloc _).drew) hb; have T0_2x := twr_next T0_1x (by first | exact Ext.refl _ | exact (Ext.refl _).drew | exact (Ext.refl _).alloc _ | exact ((Ext.refl _).alloc _).drew | exact ((Ext.refl _).drew).alloc _ | exact (((Ext.refl _).drew).alloc _).drew | exact ((Ext.refl _).alloc _).alloc _ | exact (((Ext.refl _).alloc _).alloc _).drew) hb; have T1_2x := twr_next T1_1x (by first | exact Ext.refl _ | exact (Ext.refl _).drew | exact (Ext.refl _).alloc _ | exact ((Ext.refl _).alloc _).drew | exact ((Ext.refl _).drew).alloc _ | exact (((Ext.refl _).drew).alloc _).drew | exact ((Ext.refl _).alloc _).alloc _ | exact (((Ext.refl _).alloc _).alloc _).drew) hb; have T2_2x := hw; clear hb hw; have rb20_0 := C0_2x.rd 0 rfl; have rb20_1 := C0_2x.rd 1 rfl; have rb21_0 := C1_2x.rd 0 rfl; have rb21_1 := C1_2x.rd 1 rfl)
            | (go_simp; go_at_call 40; with_reducible refine (HS.out _ Ax0 _ Ax1 _ Ax2 _ (Nat.le_refl _) (T0_2x.ext (by first | exact Ext.refl _ | exact (Ext.refl _).drew | exact (Ext.refl _).alloc _ | exact ((Ext.refl _).alloc _).drew | exact ((Ext.refl _).drew).alloc _ | exact (((Ext.refl _).drew).alloc _).drew | exact ((Ext.refl _).alloc _).alloc _ | exact (((Ext.refl _).alloc _).alloc _).drew)).tr (Nat.le_refl _) (T1_2x.ext (by first | exact Ext.refl _ | exact (Ext.refl _).drew | exact (Ext.refl _).alloc _ | exact ((Ext.refl _).alloc _).drew | exact ((Ext.refl _).drew).alloc _ | exact (((Ext.refl _).drew).alloc _).drew | exact ((Ext.refl _).alloc _).alloc _ | exact (((Ext.refl _).alloc _).alloc _).drew)).tr (Nat.le_refl _) (T2_2x.ext (by first | exact Ext.refl _ | exact (Ext.refl _).drew | exact (Ext.refl _).alloc _ | exact ((Ext.refl _).alloc _).drew | exact ((Ext.refl _).drew).alloc _ | exact (((Ext.refl _).drew).alloc _).drew | exact ((Ext.refl _).alloc _).alloc _ | exact (((Ext.refl _).alloc _).alloc _).drew)).ir).mono ?_; rintro e w3y ⟨B3_0_, cap3_0, B3_1_, cap3_1, rfl, hb, hw0, hw1⟩; have hKc := below_pair K2x (by first | exact Ext.refl _ | exact (Ext.refl _).drew | exact (Ext.refl _).alloc _ | exact ((Ext.refl _).alloc _).drew | exact ((Ext.refl _).drew).alloc _ | exact (((Ext.refl _).drew).alloc _).drew | exact ((Ext.refl _).alloc _).alloc _ | exact (((Ext.refl _).alloc _).alloc _).drew) hb (Nat.le_refl _)))
          all_goals
            go_wp2_with fail
            go_meet
            have hBc := hKc.size
            have hbs := hb.size
            exact ⟨_, _, _, _, rfl, rfl, rfl, ((hw0).ext (by first | exact Ext.refl _ | exact (Ext.refl _).drew | exact (Ext.refl _).alloc _ | exact ((Ext.refl _).alloc _).drew | exact ((Ext.refl _).drew).alloc _ | exact (((Ext.refl _).drew).alloc _).drew | exact ((Ext.refl _).alloc _).alloc _ | exact (((Ext.refl _).alloc _).alloc _).drew)).loose (by first | omega | exact hBc) (by first | omega | exact Nat.le_refl _), ((hw1).ext (by first | exact Ext.refl _ | exact (Ext.refl _).drew | exact (Ext.refl _).alloc _ | exact ((Ext.refl _).alloc _).drew | exact ((Ext.refl _).drew).alloc _ | exact (((Ext.refl _).drew).alloc _).drew | exact ((Ext.refl _).alloc _).alloc _ | exact (((Ext.refl _).alloc _).alloc _).drew)).loose (by first | omega | exact hBc) (by first | omega | exact Nat.le_refl _), below_next0 (below_next K2x (by first | exact Ext.refl _ | exact (Ext.refl _).drew | exact (Ext.refl _).alloc _ | exact ((Ext.refl _).alloc _).drew | exact ((Ext.refl _).drew).alloc _ | exact (((Ext.refl _).drew).alloc _).drew | exact ((Ext.refl _).alloc _).alloc _ | exact (((Ext.refl _).alloc _).alloc _).drew) hb (Nat.le_refl _)) (by first | exact Ext.refl _ | exact (Ext.refl _).drew | exact (Ext.refl _).alloc _ | exact ((Ext.refl _).alloc _).drew | exact ((Ext.refl _).drew).alloc _ | exact (((Ext.refl _).drew).alloc _).drew | exact ((Ext.refl _).alloc _).alloc _ | exact (((Ext.refl _).alloc _).alloc _).drew) (Nat.le_refl _)⟩
        case rest =>
          obtain ⟨B3_0_, cap3_0, B3_1_, cap3_1, rfl, rfl, rfl, hw0, hw1, hb⟩ := hcut
          obtain ⟨w3, hwk⟩ : ∃ w', w' = wc := ⟨_, rfl⟩
          subst hwk
          clear ra0_0 ra0_1 ra1_0 ra1_1
          have s3 := hb.size
          have t3_0 := Lib.hid hw0
          have t3_1 := Lib.hid hw1
          have K3 := Lib.hid (K2.out.trans (hb.mono K2.out.size))
          have Ba0_3 := Lib.hid (Ba0_2.out.below hb Ba0_2.out.lt)
          have Ba1_3 := Lib.hid (Ba1_2.out.below hb Ba1_2.out.lt)
          clear K2 Ba0_2 Ba1_2
          clear hb hw0 hw1
          have ra0_0 := Ba0_3.out.rd 0 rfl
          have ra0_1 := Ba0_3.out.rd 1 rfl
          have ra1_0 := Ba1_3.out.rd 0 rfl
          have ra1_1 := Ba1_3.out.rd 1 rfl
          go_wp2_with fail
          clear ra0_0 ra0_1 ra1_0 ra1_1
          refine (HT0.out _ K3.out).mono ?_
          rintro e w4 ⟨A_4, rfl, hb, hw⟩
          have s4 := hb.size
          have t4 := Lib.hid hw.r
          have K4 := Lib.hid (K3.out.trans (hb.mono K3.out.size))
          have Ba0_4 := Lib.hid (Ba0_3.out.below hb Ba0_3.out.lt)
          have Ba1_4 := Lib.hid (Ba1_3.out.below hb Ba1_3.out.lt)
          have T3_0_4 := Lib.hid (t3_0.out.below hb)
          have T3_1_4 := Lib.hid (t3_1.out.below hb)
          clear K3 Ba0_3 Ba1_3 t3_0 t3_1
          clear hb hw
          have ra0_0 := Ba0_4.out.rd 0 rfl
          have qa0_0 := (Ba0_4.out.ext ((Ext.refl _).alloc (Obj.cells #[.int .i64 c0, .slice A_4 n0 n0] 32))).rd 0 rfl
          have ra0_1 := Ba0_4.out.rd 1 rfl
          have qa0_1 := (Ba0_4.out.ext ((Ext.refl _).alloc (Obj.cells #[.int .i64 c0, .slice A_4 n0 n0] 32))).rd 1 rfl
          have ra1_0 := Ba1_4.out.rd 0 rfl
          have qa1_0 := (Ba1_4.out.ext ((Ext.refl _).alloc (Obj.cells #[.int .i64 c0, .slice A_4 n0 n0] 32))).rd 0 rfl
          have ra1_1 := Ba1_4.out.rd 1 rfl
          have qa1_1 := (Ba1_4.out.ext ((Ext.refl _).alloc (Obj.cells #[.int .i64 c0, .slice A_4 n0 n0] 32))).rd 1 rfl
          go_wp2_with fail
          clear ra0_0 qa0_0 ra0_1 qa0_1 ra1_0 qa1_0 ra1_1 qa1_1
          have hx : Ext w4 (w4.alloc (Obj.cells #[.int .i64 c0, .slice A_4 n0 n0] 32)) := (Ext.refl _).alloc _
          have sa5 : w4.heap.size + 1 ≤ (w4.alloc (Obj.cells #[.int .i64 c0, .slice A_4 n0 n0] 32)).heap.size := by simp
          have b5 := Lib.hid (Blk.new w4 32 #[.int .i64 c0, .slice A_4 n0 n0])
          generalize w4.alloc (Obj.cells #[.int .i64 c0, .slice A_4 n0 n0] 32) = w5 at *
          have K5 := Lib.hid (K4.out.trans (hx.below K4.out.size))
          have Ba0_5 := Lib.hid (Ba0_4.out.ext hx)
          have Ba1_5 := Lib.hid (Ba1_4.out.ext hx)
          have T3_0_5 := Lib.hid (T3_0_4.out.ext hx)
          have T3_1_5 := Lib.hid (T3_1_4.out.ext hx)
          have T4_5 := Lib.hid (t4.out.ext hx)
          clear K4 Ba0_4 Ba1_4 T3_0_4 T3_1_4 t4
          clear hx
          refine (HT1.out _ K5.out).mono ?_
          rintro e w6 ⟨A_6, rfl, hb, hw⟩
          have s6 := hb.size
          have t6 := Lib.hid hw.r
          have K6 := Lib.hid (K5.out.trans (hb.mono K5.out.size))
          have Ba0_6 := Lib.hid (Ba0_5.out.below hb Ba0_5.out.lt)
          have Ba1_6 := Lib.hid (Ba1_5.out.below hb Ba1_5.out.lt)
          have B5_6 := Lib.hid (b5.out.below hb b5.out.lt)
          have T3_0_6 := Lib.hid (T3_0_5.out.below hb)
          have T3_1_6 := Lib.hid (T3_1_5.out.below hb)
          have T4_6 := Lib.hid (T4_5.out.below hb)
          clear K5 Ba0_5 Ba1_5 b5 T3_0_5 T3_1_5 T4_5
          clear hb hw
          have ra0_0 := Ba0_6.out.rd 0 rfl
          have qa0_0 := (Ba0_6.out.ext ((Ext.refl _).alloc (Obj.cells #[.int .i64 c1, .slice A_6 n1 n1] 32))).rd 0 rfl
          have ra0_1 := Ba0_6.out.rd 1 rfl
          have qa0_1 := (Ba0_6.out.ext ((Ext.refl _).alloc (Obj.cells #[.int .i64 c1, .slice A_6 n1 n1] 32))).rd 1 rfl
          have ra1_0 := Ba1_6.out.rd 0 rfl
          have qa1_0 := (Ba1_6.out.ext ((Ext.refl _).alloc (Obj.cells #[.int .i64 c1, .slice A_6 n1 n1] 32))).rd 0 rfl
          have ra1_1 := Ba1_6.out.rd 1 rfl
          have qa1_1 := (Ba1_6.out.ext ((Ext.refl _).alloc (Obj.cells #[.int .i64 c1, .slice A_6 n1 n1] 32))).rd 1 rfl
          have r5_0 := B5_6.out.rd 0 rfl
          have q5_0 := (B5_6.out.ext ((Ext.refl _).alloc (Obj.cells #[.int .i64 c1, .slice A_6 n1 n1] 32))).rd 0 rfl
          have r5_1 := B5_6.out.rd 1 rfl
          have q5_1 := (B5_6.out.ext ((Ext.refl _).alloc (Obj.cells #[.int .i64 c1, .slice A_6 n1 n1] 32))).rd 1 rfl
          go_wp2_with fail
          clear ra0_0 qa0_0 ra0_1 qa0_1 ra1_0 qa1_0 ra1_1 qa1_1 r5_0 q5_0 r5_1 q5_1
          have hx : Ext w6 (w6.alloc (Obj.cells #[.int .i64 c1, .slice A_6 n1 n1] 32)) := (Ext.refl _).alloc _
          have sa7 : w6.heap.size + 1 ≤ (w6.alloc (Obj.cells #[.int .i64 c1, .slice A_6 n1 n1] 32)).heap.size := by simp
          have b7 := Lib.hid (Blk.new w6 32 #[.int .i64 c1, .slice A_6 n1 n1])
          generalize w6.alloc (Obj.cells #[.int .i64 c1, .slice A_6 n1 n1] 32) = w7 at *
          have K7 := Lib.hid (K6.out.trans (hx.below K6.out.size))
          have Ba0_7 := Lib.hid (Ba0_6.out.ext hx)
          have Ba1_7 := Lib.hid (Ba1_6.out.ext hx)
          have B5_7 := Lib.hid (B5_6.out.ext hx)
          have T3_0_7 := Lib.hid (T3_0_6.out.ext hx)
          have T3_1_7 := Lib.hid (T3_1_6.out.ext hx)
          have T4_7 := Lib.hid (T4_6.out.ext hx)
          have T6_7 := Lib.hid (t6.out.ext hx)
          clear K6 Ba0_6 Ba1_6 B5_6 T3_0_6 T3_1_6 T4_6 t6
          clear hx
          refine (HT2.out _ K7.out).mono ?_
          rintro e w8 ⟨A_8, rfl, hb, hw⟩
          have s8 := hb.size
          have t8 := Lib.hid hw
          have K8 := Lib.hid (K7.out.trans (hb.mono K7.out.size))
          have Ba0_8 := Lib.hid (Ba0_7.out.below hb Ba0_7.out.lt)
          have Ba1_8 := Lib.hid (Ba1_7.out.below hb Ba1_7.out.lt)
          have B5_8 := Lib.hid (B5_7.out.below hb B5_7.out.lt)
          have B7_8 := Lib.hid (b7.out.below hb b7.out.lt)
          have T3_0_8 := Lib.hid (T3_0_7.out.below hb)
          have T3_1_8 := Lib.hid (T3_1_7.out.below hb)
          have T4_8 := Lib.hid (T4_7.out.below hb)
          have T6_8 := Lib.hid (T6_7.out.below hb)
          clear K7 Ba0_7 Ba1_7 B5_7 b7 T3_0_7 T3_1_7 T4_7 T6_7
          clear hb hw
          have ra0_0 := Ba0_8.out.rd 0 rfl
          have ra0_1 := Ba0_8.out.rd 1 rfl
          have ra1_0 := Ba1_8.out.rd 0 rfl
          have ra1_1 := Ba1_8.out.rd 1 rfl
          have r5_0 := B5_8.out.rd 0 rfl
          have r5_1 := B5_8.out.rd 1 rfl
          have r7_0 := B7_8.out.rd 0 rfl
          have r7_1 := B7_8.out.rd 1 rfl
          go_wp2_with fail
          clear ra0_0 ra0_1 ra1_0 ra1_1 r5_0 r5_1 r7_0 r7_1
          refine (HI.out _ A_4 _ A_6 _ A_8 _ (Nat.le_refl _) T4_8.out.tr (Nat.le_refl _) T6_8.out.tr (Nat.le_refl _) t8.out.ir).mono ?_
          rintro e w9 ⟨B9_0_, cap9_0, B9_1_, cap9_1, ja9, jb9, jc9, jd9, hj1_9, hj2_9, hj3_9, hj4_9, hj5_9, rfl, hb, hw0, hw1⟩
          have s9 := hb.size
          have t9_0 := Lib.hid hw0
          have t9_1 := Lib.hid hw1
          have K9 := Lib.hid (K8.out.trans (hb.mono K8.out.size))
          have Ba0_9 := Lib.hid (Ba0_8.out.below hb Ba0_8.out.lt)
          have Ba1_9 := Lib.hid (Ba1_8.out.below hb Ba1_8.out.lt)
          have B5_9 := Lib.hid (B5_8.out.below hb B5_8.out.lt)
          have B7_9 := Lib.hid (B7_8.out.below hb B7_8.out.lt)
          have T3_0_9 := Lib.hid (T3_0_8.out.below hb)
          have T3_1_9 := Lib.hid (T3_1_8.out.below hb)
          have T4_9 := Lib.hid (T4_8.out.below hb)
          have T6_9 := Lib.hid (T6_8.out.below hb)
          have T8_9 := Lib.hid (t8.out.below hb)
          clear K8 Ba0_8 Ba1_8 B5_8 B7_8 T3_0_8 T3_1_8 T4_8 T6_8 t8
          clear hb hw0 hw1
          have ra0_0 := Ba0_9.out.rd 0 rfl
          have ra0_1 := Ba0_9.out.rd 1 rfl
          have ra1_0 := Ba1_9.out.rd 0 rfl
          have ra1_1 := Ba1_9.out.rd 1 rfl
          have r5_0 := B5_9.out.rd 0 rfl
          have r5_1 := B5_9.out.rd 1 rfl
          have r7_0 := B7_9.out.rd 0 rfl
          have r7_1 := B7_9.out.rd 1 rfl
          go_wp2_with fail
          clear ra0_0 ra0_1 ra1_0 ra1_1 r5_0 r5_1 r7_0 r7_1
          refine (eqInt64S_any B9_0_ B3_0_ m0 m0 _ _ ys0 ys0 _ (by omega) HM0.out HM0.out t9_0.out.ir T3_0_9.out.ir).mono ?_
          rw [decide_eq_true (rfl : ys0 = ys0)]
          rintro e w10 ⟨rfl, hx⟩
          have s10 := (hx.below (Nat.le_refl _)).size
          have K10 := Lib.hid (K9.out.trans (hx.below K9.out.size))
          have Ba0_10 := Lib.hid (Ba0_9.out.ext hx)
          have Ba1_10 := Lib.hid (Ba1_9.out.ext hx)
          have B5_10 := Lib.hid (B5_9.out.ext hx)
          have B7_10 := Lib.hid (B7_9.out.ext hx)
          have T3_0_10 := Lib.hid (T3_0_9.out.ext hx)
          have T3_1_10 := Lib.hid (T3_1_9.out.ext hx)
          have T4_10 := Lib.hid (T4_9.out.ext hx)
          have T6_10 := Lib.hid (T6_9.out.ext hx)
          have T8_10 := Lib.hid (T8_9.out.ext hx)
          have T9_0_10 := Lib.hid (t9_0.out.ext hx)
          have T9_1_10 := Lib.hid (t9_1.out.ext hx)
          clear K9 Ba0_9 Ba1_9 B5_9 B7_9 T3_0_9 T3_1_9 T4_9 T6_9 T8_9 t9_0 t9_1
          clear hx
          have ra0_0 := Ba0_10.out.rd 0 rfl
          have ra0_1 := Ba0_10.out.rd 1 rfl
          have ra1_0 := Ba1_10.out.rd 0 rfl
          have ra1_1 := Ba1_10.out.rd 1 rfl
          have r5_0 := B5_10.out.rd 0 rfl
          have r5_1 := B5_10.out.rd 1 rfl
          have r7_0 := B7_10.out.rd 0 rfl
          have r7_1 := B7_10.out.rd 1 rfl
          go_wp2_with fail
          clear ra0_0 ra0_1 ra1_0 ra1_1 r5_0 r5_1 r7_0 r7_1
          refine (eqInt64S_any B9_1_ B3_1_ m1 m1 _ _ ys1 ys1 _ (by omega) HM1.out HM1.out T9_1_10.out.ir T3_1_10.out.ir).mono ?_
          rw [decide_eq_true (rfl : ys1 = ys1)]
          rintro e w11 ⟨rfl, hx⟩
          have s11 := (hx.below (Nat.le_refl _)).size
          have K11 := Lib.hid (K10.out.trans (hx.below K10.out.size))
          have Ba0_11 := Lib.hid (Ba0_10.out.ext hx)
          have Ba1_11 := Lib.hid (Ba1_10.out.ext hx)
          have B5_11 := Lib.hid (B5_10.out.ext hx)
          have B7_11 := Lib.hid (B7_10.out.ext hx)
          have T3_0_11 := Lib.hid (T3_0_10.out.ext hx)
          have T3_1_11 := Lib.hid (T3_1_10.out.ext hx)
          have T4_11 := Lib.hid (T4_10.out.ext hx)
          have T6_11 := Lib.hid (T6_10.out.ext hx)
          have T8_11 := Lib.hid (T8_10.out.ext hx)
          have T9_0_11 := Lib.hid (T9_0_10.out.ext hx)
          have T9_1_11 := Lib.hid (T9_1_10.out.ext hx)
          clear K10 Ba0_10 Ba1_10 B5_10 B7_10 T3_0_10 T3_1_10 T4_10 T6_10 T8_10 T9_0_10 T9_1_10
          clear hx
          have ra0_0 := Ba0_11.out.rd 0 rfl
          have ra0_1 := Ba0_11.out.rd 1 rfl
          have ra1_0 := Ba1_11.out.rd 0 rfl
          have ra1_1 := Ba1_11.out.rd 1 rfl
          have r5_0 := B5_11.out.rd 0 rfl
          have r5_1 := B5_11.out.rd 1 rfl
          have r7_0 := B7_11.out.rd 0 rfl
          have r7_1 := B7_11.out.rd 1 rfl
          go_wp2_with fail
          clear ra0_0 ra0_1 ra1_0 ra1_1 r5_0 r5_1 r7_0 r7_1
          have ra0_0 := Ba0_11.out.rd 0 rfl
          have ra0_1 := Ba0_11.out.rd 1 rfl
          have ra1_0 := Ba1_11.out.rd 0 rfl
          have ra1_1 := Ba1_11.out.rd 1 rfl
          have r5_0 := B5_11.out.rd 0 rfl
          have r5_1 := B5_11.out.rd 1 rfl
          have r7_0 := B7_11.out.rd 0 rfl
          have r7_1 := B7_11.out.rd 1 rfl
          go_region_held3 (fun w' => w'.cell? ⟨w.heap.size, 0, none⟩ = some (.int .i64 c0) ∧ w'.cell? ⟨w.heap.size, 1, none⟩ = some (.slice A0 n0 q0) ∧ w'.cell? ⟨w4.heap.size, 0, none⟩ = some (.int .i64 c0) ∧ w'.cell? ⟨w4.heap.size, 1, none⟩ = some (.slice A_4 n0 n0))
            (first | exact ⟨ka0_0, ka0_1, k5_0, k5_1⟩ | exact ⟨la0_0, la0_1, l5_0, l5_1⟩ | go_keep)
            (first
              | (go_at_call 18; refine (HT0.out _ K11.out.drew).mono ?_; rintro e w12 ⟨A_12, rfl, hb, hw⟩; have s12 := hb.size; simp only [World.size_drew] at s12; have t12 := Lib.hid hw.r; have K12 := Lib.hid (K11.out.drew.trans (hb.mono K11.out.size)); have Ba0_12 := Lib.hid (Blk.below (w := w11.drew) Ba0_11.out hb Ba0_11.out.lt); have Ba1_12 := Lib.hid (Blk.below (w := w11.drew) Ba1_11.out hb Ba1_11.out.lt); have B5_12 := Lib.hid (Blk.below (w := w11.drew) B5_11.out hb B5_11.out.lt); have B7_12 := Lib.hid (Blk.below (w := w11.drew) B7_11.out hb B7_11.out.lt); have T3_0_12 := Lib.hid (IWr.below (w := w11.drew) T3_0_11.out hb); have T3_1_12 := Lib.hid (IWr.below (w := w11.drew) T3_1_11.out hb); have T4_12 := Lib.hid (TWr.below (w := w11.drew) T4_11.out hb); have T6_12 := Lib.hid (TWr.below (w := w11.drew) T6_11.out hb); have T8_12 := Lib.hid (IWr.below (w := w11.drew) T8_11.out hb); have T9_0_12 := Lib.hid (IWr.below (w := w11.drew) T9_0_11.out hb); have T9_1_12 := Lib.hid (IWr.below (w := w11.drew) T9_1_11.out hb); clear K11 Ba0_11 Ba1_11 B5_11 B7_11 T3_0_11 T3_1_11 T4_11 T6_11 T8_11 T9_0_11 T9_1_11; clear hb hw; have ka0_0 := Ba0_12.out.rd 0 rfl; have ka0_1 := Ba0_12.out.rd 1 rfl; have k5_0 := B5_12.out.rd 0 rfl; have k5_1 := B5_12.out.rd 1 rfl)
              | (go_at_call 21; refine (eqSet_any c0 c0 A_4 A_12 n0 n0 _ _ ts0 ts0 _ (by omega) HL0.out HL0.out T4_12.out.tr t12.out.tr).mono ?_; rw [decide_eq_true (⟨rfl, rfl⟩ : c0 = c0 ∧ ts0 = ts0)]; rintro e w13 ⟨rfl, hx⟩; have s13 := (hx.below (Nat.le_refl _)).size; clear ka0_0 ka0_1 k5_0 k5_1; have K13 := Lib.hid (K12.out.trans (hx.below K12.out.size)); have Ba0_13 := Lib.hid (Ba0_12.out.ext hx); have Ba1_13 := Lib.hid (Ba1_12.out.ext hx); have B5_13 := Lib.hid (B5_12.out.ext hx); have B7_13 := Lib.hid (B7_12.out.ext hx); have T3_0_13 := Lib.hid (T3_0_12.out.ext hx); have T3_1_13 := Lib.hid (T3_1_12.out.ext hx); have T4_13 := Lib.hid (T4_12.out.ext hx); have T6_13 := Lib.hid (T6_12.out.ext hx); have T8_13 := Lib.hid (T8_12.out.ext hx); have T9_0_13 := Lib.hid (T9_0_12.out.ext hx); have T9_1_13 := Lib.hid (T9_1_12.out.ext hx); have T12_13 := Lib.hid (t12.out.ext hx); clear K12 Ba0_12 Ba1_12 B5_12 B7_12 T3_0_12 T3_1_12 T4_12 T6_12 T8_12 T9_0_12 T9_1_12 t12; clear hx; have la0_0 := Ba0_13.out.rd 0 rfl; have la0_1 := Ba0_13.out.rd 1 rfl; have l5_0 := B5_13.out.rd 0 rfl; have l5_1 := B5_13.out.rd 1 rfl))
          clear la0_0 la0_1 l5_0 l5_1 ra0_0 ra0_1 ra1_0 ra1_1 r5_0 r5_1 r7_0 r7_1
          clear T12_13
          have ra0_0 := Ba0_13.out.rd 0 rfl
          have ra0_1 := Ba0_13.out.rd 1 rfl
          have ra1_0 := Ba1_13.out.rd 0 rfl
          have ra1_1 := Ba1_13.out.rd 1 rfl
          have r5_0 := B5_13.out.rd 0 rfl
          have r5_1 := B5_13.out.rd 1 rfl
          have r7_0 := B7_13.out.rd 0 rfl
          have r7_1 := B7_13.out.rd 1 rfl
          go_wp2_with fail
          clear ra0_0 ra0_1 ra1_0 ra1_1 r5_0 r5_1 r7_0 r7_1
          have ra0_0 := Ba0_13.out.rd 0 rfl
          have ra0_1 := Ba0_13.out.rd 1 rfl
          have ra1_0 := Ba1_13.out.rd 0 rfl
          have ra1_1 := Ba1_13.out.rd 1 rfl
          have r5_0 := B5_13.out.rd 0 rfl
          have r5_1 := B5_13.out.rd 1 rfl
          have r7_0 := B7_13.out.rd 0 rfl
          have r7_1 := B7_13.out.rd 1 rfl
          go_region_held3 (fun w' => w'.cell? ⟨(w.heap.size + 1), 0, none⟩ = some (.int .i64 c1) ∧ w'.cell? ⟨(w.heap.size + 1), 1, none⟩ = some (.slice A1 n1 q1) ∧ w'.cell? ⟨w6.heap.size, 0, none⟩ = some (.int .i64 c1) ∧ w'.cell? ⟨w6.heap.size, 1, none⟩ = some (.slice A_6 n1 n1))
            (first | exact ⟨ka1_0, ka1_1, k7_0, k7_1⟩ | exact ⟨la1_0, la1_1, l7_0, l7_1⟩ | go_keep)
            (first
              | (go_at_call 18; refine (HT1.out _ K13.out.drew).mono ?_; rintro e w14 ⟨A_14, rfl, hb, hw⟩; have s14 := hb.size; simp only [World.size_drew] at s14; have t14 := Lib.hid hw.r; have K14 := Lib.hid (K13.out.drew.trans (hb.mono K13.out.size)); have Ba0_14 := Lib.hid (Blk.below (w := w13.drew) Ba0_13.out hb Ba0_13.out.lt); have Ba1_14 := Lib.hid (Blk.below (w := w13.drew) Ba1_13.out hb Ba1_13.out.lt); have B5_14 := Lib.hid (Blk.below (w := w13.drew) B5_13.out hb B5_13.out.lt); have B7_14 := Lib.hid (Blk.below (w := w13.drew) B7_13.out hb B7_13.out.lt); have T3_0_14 := Lib.hid (IWr.below (w := w13.drew) T3_0_13.out hb); have T3_1_14 := Lib.hid (IWr.below (w := w13.drew) T3_1_13.out hb); have T4_14 := Lib.hid (TWr.below (w := w13.drew) T4_13.out hb); have T6_14 := Lib.hid (TWr.below (w := w13.drew) T6_13.out hb); have T8_14 := Lib.hid (IWr.below (w := w13.drew) T8_13.out hb); have T9_0_14 := Lib.hid (IWr.below (w := w13.drew) T9_0_13.out hb); have T9_1_14 := Lib.hid (IWr.below (w := w13.drew) T9_1_13.out hb); clear K13 Ba0_13 Ba1_13 B5_13 B7_13 T3_0_13 T3_1_13 T4_13 T6_13 T8_13 T9_0_13 T9_1_13; clear hb hw; have ka1_0 := Ba1_14.out.rd 0 rfl; have ka1_1 := Ba1_14.out.rd 1 rfl; have k7_0 := B7_14.out.rd 0 rfl; have k7_1 := B7_14.out.rd 1 rfl)
              | (go_at_call 21; refine (eqSet_any c1 c1 A_6 A_14 n1 n1 _ _ ts1 ts1 _ (by omega) HL1.out HL1.out T6_14.out.tr t14.out.tr).mono ?_; rw [decide_eq_true (⟨rfl, rfl⟩ : c1 = c1 ∧ ts1 = ts1)]; rintro e w15 ⟨rfl, hx⟩; have s15 := (hx.below (Nat.le_refl _)).size; clear ka1_0 ka1_1 k7_0 k7_1; have K15 := Lib.hid (K14.out.trans (hx.below K14.out.size)); have Ba0_15 := Lib.hid (Ba0_14.out.ext hx); have Ba1_15 := Lib.hid (Ba1_14.out.ext hx); have B5_15 := Lib.hid (B5_14.out.ext hx); have B7_15 := Lib.hid (B7_14.out.ext hx); have T3_0_15 := Lib.hid (T3_0_14.out.ext hx); have T3_1_15 := Lib.hid (T3_1_14.out.ext hx); have T4_15 := Lib.hid (T4_14.out.ext hx); have T6_15 := Lib.hid (T6_14.out.ext hx); have T8_15 := Lib.hid (T8_14.out.ext hx); have T9_0_15 := Lib.hid (T9_0_14.out.ext hx); have T9_1_15 := Lib.hid (T9_1_14.out.ext hx); have T14_15 := Lib.hid (t14.out.ext hx); clear K14 Ba0_14 Ba1_14 B5_14 B7_14 T3_0_14 T3_1_14 T4_14 T6_14 T8_14 T9_0_14 T9_1_14 t14; clear hx; have la1_0 := Ba1_15.out.rd 0 rfl; have la1_1 := Ba1_15.out.rd 1 rfl; have l7_0 := B7_15.out.rd 0 rfl; have l7_1 := B7_15.out.rd 1 rfl))
          clear la1_0 la1_1 l7_0 l7_1 ra0_0 ra0_1 ra1_0 ra1_1 r5_0 r5_1 r7_0 r7_1
          clear T14_15
          have ra0_0 := Ba0_15.out.rd 0 rfl
          have ra0_1 := Ba0_15.out.rd 1 rfl
          have ra1_0 := Ba1_15.out.rd 0 rfl
          have ra1_1 := Ba1_15.out.rd 1 rfl
          have r5_0 := B5_15.out.rd 0 rfl
          have r5_1 := B5_15.out.rd 1 rfl
          have r7_0 := B7_15.out.rd 0 rfl
          have r7_1 := B7_15.out.rd 1 rfl
          go_wp2_with fail
          clear ra0_0 ra0_1 ra1_0 ra1_1 r5_0 r5_1 r7_0 r7_1
          refine (HT2.out _ K15.out).mono ?_
          rintro e w16 ⟨A_16, rfl, hb, hw⟩
          have s16 := hb.size
          have t16 := Lib.hid hw
          have K16 := Lib.hid (K15.out.trans (hb.mono K15.out.size))
          have Ba0_16 := Lib.hid (Ba0_15.out.below hb Ba0_15.out.lt)
          have Ba1_16 := Lib.hid (Ba1_15.out.below hb Ba1_15.out.lt)
          have B5_16 := Lib.hid (B5_15.out.below hb B5_15.out.lt)
          have B7_16 := Lib.hid (B7_15.out.below hb B7_15.out.lt)
          have T3_0_16 := Lib.hid (T3_0_15.out.below hb)
          have T3_1_16 := Lib.hid (T3_1_15.out.below hb)
          have T4_16 := Lib.hid (T4_15.out.below hb)
          have T6_16 := Lib.hid (T6_15.out.below hb)
          have T8_16 := Lib.hid (T8_15.out.below hb)
          have T9_0_16 := Lib.hid (T9_0_15.out.below hb)
          have T9_1_16 := Lib.hid (T9_1_15.out.below hb)
          clear K15 Ba0_15 Ba1_15 B5_15 B7_15 T3_0_15 T3_1_15 T4_15 T6_15 T8_15 T9_0_15 T9_1_15
          clear hb hw
          have ra0_0 := Ba0_16.out.rd 0 rfl
          have ra0_1 := Ba0_16.out.rd 1 rfl
          have ra1_0 := Ba1_16.out.rd 0 rfl
          have ra1_1 := Ba1_16.out.rd 1 rfl
          have r5_0 := B5_16.out.rd 0 rfl
          have r5_1 := B5_16.out.rd 1 rfl
          have r7_0 := B7_16.out.rd 0 rfl
          have r7_1 := B7_16.out.rd 1 rfl
          go_wp2_with fail
          clear ra0_0 ra0_1 ra1_0 ra1_1 r5_0 r5_1 r7_0 r7_1
          refine (eqInt64S_any A_8 A_16 n2 n2 _ _ xs2 xs2 _ (by omega) HL2.out HL2.out T8_16.out.ir t16.out.ir).mono ?_
          rw [decide_eq_true (rfl : xs2 = xs2)]
          rintro e w17 ⟨rfl, hx⟩
          have s17 := (hx.below (Nat.le_refl _)).size
          have K17 := Lib.hid (K16.out.trans (hx.below K16.out.size))
          have Ba0_17 := Lib.hid (Ba0_16.out.ext hx)
          have Ba1_17 := Lib.hid (Ba1_16.out.ext hx)
          have B5_17 := Lib.hid (B5_16.out.ext hx)
          have B7_17 := Lib.hid (B7_16.out.ext hx)
          have T3_0_17 := Lib.hid (T3_0_16.out.ext hx)
          have T3_1_17 := Lib.hid (T3_1_16.out.ext hx)
          have T4_17 := Lib.hid (T4_16.out.ext hx)
          have T6_17 := Lib.hid (T6_16.out.ext hx)
          have T8_17 := Lib.hid (T8_16.out.ext hx)
          have T9_0_17 := Lib.hid (T9_0_16.out.ext hx)
          have T9_1_17 := Lib.hid (T9_1_16.out.ext hx)
          have T16_17 := Lib.hid (t16.out.ext hx)
          clear K16 Ba0_16 Ba1_16 B5_16 B7_16 T3_0_16 T3_1_16 T4_16 T6_16 T8_16 T9_0_16 T9_1_16 t16
          clear hx
          clear T16_17
          have ra0_0 := Ba0_17.out.rd 0 rfl
          have ra0_1 := Ba0_17.out.rd 1 rfl
          have ra1_0 := Ba1_17.out.rd 0 rfl
          have ra1_1 := Ba1_17.out.rd 1 rfl
          have r5_0 := B5_17.out.rd 0 rfl
          have r5_1 := B5_17.out.rd 1 rfl
          have r7_0 := B7_17.out.rd 0 rfl
          have r7_1 := B7_17.out.rd 1 rfl
          go_wp2_with fail
          clear ra0_0 ra0_1 ra1_0 ra1_1 r5_0 r5_1 r7_0 r7_1
          refine (markSet_at c0 A_4 n0 _ (1) ts0 _ _ _ (by omega) (by omega) (by omega) HL0.out T4_17.out).mono ?_
          rintro e w18 ⟨rfl, ho, hw⟩
          have s18 := ho.size
          have t18 := Lib.hid hw
          have K18 := Lib.hid (K17.out.trans (ho.below (by omega) K17.out.size))
          have Ba0_18 := Lib.hid (Ba0_17.out.only ho (by omega))
          have Ba1_18 := Lib.hid (Ba1_17.out.only ho (by omega))
          have B5_18 := Lib.hid (B5_17.out.only ho (by omega))
          have B7_18 := Lib.hid (B7_17.out.only ho (by omega))
          have T3_0_18 := Lib.hid (T3_0_17.out.only ho (by omega))
          have T3_1_18 := Lib.hid (T3_1_17.out.only ho (by omega))
          have T6_18 := Lib.hid (T6_17.out.only ho (by omega))
          have T8_18 := Lib.hid (T8_17.out.only ho (by omega))
          have T9_0_18 := Lib.hid (T9_0_17.out.only ho (by omega))
          have T9_1_18 := Lib.hid (T9_1_17.out.only ho (by omega))
          clear K17 Ba0_17 Ba1_17 B5_17 B7_17 T3_0_17 T3_1_17 T6_17 T8_17 T9_0_17 T9_1_17
          clear ho hw T4_17
          have ra0_0 := Ba0_18.out.rd 0 rfl
          have ra0_1 := Ba0_18.out.rd 1 rfl
          have ra1_0 := Ba1_18.out.rd 0 rfl
          have ra1_1 := Ba1_18.out.rd 1 rfl
          have r5_0 := B5_18.out.rd 0 rfl
          have r5_1 := B5_18.out.rd 1 rfl
          have r7_0 := B7_18.out.rd 0 rfl
          have r7_1 := B7_18.out.rd 1 rfl
          go_wp2_with fail
          clear ra0_0 ra0_1 ra1_0 ra1_1 r5_0 r5_1 r7_0 r7_1
          refine (markSet_at c1 A_6 n1 _ (1 + 4 * (n0 : Int)) ts1 _ _ _ (by omega) (by omega) (by omega) HL1.out T6_18.out).mono ?_
          rintro e w19 ⟨rfl, ho, hw⟩
          have s19 := ho.size
          have t19 := Lib.hid hw
          have K19 := Lib.hid (K18.out.trans (ho.below (by omega) K18.out.size))
          have Ba0_19 := Lib.hid (Ba0_18.out.only ho (by omega))
          have Ba1_19 := Lib.hid (Ba1_18.out.only ho (by omega))
          have B5_19 := Lib.hid (B5_18.out.only ho (by omega))
          have B7_19 := Lib.hid (B7_18.out.only ho (by omega))
          have T3_0_19 := Lib.hid (T3_0_18.out.only ho (by omega))
          have T3_1_19 := Lib.hid (T3_1_18.out.only ho (by omega))
          have T4_19 := Lib.hid (t18.out.only ho (by omega))
          have T8_19 := Lib.hid (T8_18.out.only ho (by omega))
          have T9_0_19 := Lib.hid (T9_0_18.out.only ho (by omega))
          have T9_1_19 := Lib.hid (T9_1_18.out.only ho (by omega))
          clear K18 Ba0_18 Ba1_18 B5_18 B7_18 T3_0_18 T3_1_18 t18 T8_18 T9_0_18 T9_1_18
          clear ho hw T6_18
          have ra0_0 := Ba0_19.out.rd 0 rfl
          have ra0_1 := Ba0_19.out.rd 1 rfl
          have ra1_0 := Ba1_19.out.rd 0 rfl
          have ra1_1 := Ba1_19.out.rd 1 rfl
          have r5_0 := B5_19.out.rd 0 rfl
          have r5_1 := B5_19.out.rd 1 rfl
          have r7_0 := B7_19.out.rd 0 rfl
          have r7_1 := B7_19.out.rd 1 rfl
          go_wp2_with fail
          clear ra0_0 ra0_1 ra1_0 ra1_1 r5_0 r5_1 r7_0 r7_1
          refine (markInt64S_any A_8 n2 _ (1 + 4 * (n0 : Int) + 4 * (n1 : Int)) xs2 _ _ _ (by omega) (by omega) (by omega) HL2.out T8_19.out).mono ?_
          rintro e w20 ⟨rfl, ho, hw⟩
          have s20 := ho.size
          have t20 := Lib.hid hw
          have K20 := Lib.hid (K19.out.trans (ho.below (by omega) K19.out.size))
          have Ba0_20 := Lib.hid (Ba0_19.out.only ho (by omega))
          have Ba1_20 := Lib.hid (Ba1_19.out.only ho (by omega))
          have B5_20 := Lib.hid (B5_19.out.only ho (by omega))
          have B7_20 := Lib.hid (B7_19.out.only ho (by omega))
          have T3_0_20 := Lib.hid (T3_0_19.out.only ho (by omega))
          have T3_1_20 := Lib.hid (T3_1_19.out.only ho (by omega))
          have T4_20 := Lib.hid (T4_19.out.only ho (by omega))
          have T6_20 := Lib.hid (t19.out.only ho (by omega))
          have T9_0_20 := Lib.hid (T9_0_19.out.only ho (by omega))
          have T9_1_20 := Lib.hid (T9_1_19.out.only ho (by omega))
          clear K19 Ba0_19 Ba1_19 B5_19 B7_19 T3_0_19 T3_1_19 T4_19 t19 T9_0_19 T9_1_19
          clear ho hw T8_19
          have ra0_0 := Ba0_20.out.rd 0 rfl
          have ra0_1 := Ba0_20.out.rd 1 rfl
          have ra1_0 := Ba1_20.out.rd 0 rfl
          have ra1_1 := Ba1_20.out.rd 1 rfl
          have r5_0 := B5_20.out.rd 0 rfl
          have r5_1 := B5_20.out.rd 1 rfl
          have r7_0 := B7_20.out.rd 0 rfl
          have r7_1 := B7_20.out.rd 1 rfl
          go_wp2_with fail
          clear ra0_0 ra0_1 ra1_0 ra1_1 r5_0 r5_1 r7_0 r7_1
          refine (eqInt64S_any B9_0_ B3_0_ m0 m0 _ _ ys0 ys0 _ (by omega) HM0.out HM0.out T9_0_20.out.ir T3_0_20.out.ir).mono ?_
          rw [decide_eq_true (rfl : ys0 = ys0)]
          rintro e w21 ⟨rfl, hx⟩
          have s21 := (hx.below (Nat.le_refl _)).size
          have K21 := Lib.hid (K20.out.trans (hx.below K20.out.size))
          have Ba0_21 := Lib.hid (Ba0_20.out.ext hx)
          have Ba1_21 := Lib.hid (Ba1_20.out.ext hx)
          have B5_21 := Lib.hid (B5_20.out.ext hx)
          have B7_21 := Lib.hid (B7_20.out.ext hx)
          have T3_0_21 := Lib.hid (T3_0_20.out.ext hx)
          have T3_1_21 := Lib.hid (T3_1_20.out.ext hx)
          have T4_21 := Lib.hid (T4_20.out.ext hx)
          have T6_21 := Lib.hid (T6_20.out.ext hx)
          have T8_21 := Lib.hid (t20.out.ext hx)
          have T9_0_21 := Lib.hid (T9_0_20.out.ext hx)
          have T9_1_21 := Lib.hid (T9_1_20.out.ext hx)
          clear K20 Ba0_20 Ba1_20 B5_20 B7_20 T3_0_20 T3_1_20 T4_20 T6_20 t20 T9_0_20 T9_1_20
          clear hx
          have ra0_0 := Ba0_21.out.rd 0 rfl
          have ra0_1 := Ba0_21.out.rd 1 rfl
          have ra1_0 := Ba1_21.out.rd 0 rfl
          have ra1_1 := Ba1_21.out.rd 1 rfl
          have r5_0 := B5_21.out.rd 0 rfl
          have r5_1 := B5_21.out.rd 1 rfl
          have r7_0 := B7_21.out.rd 0 rfl
          have r7_1 := B7_21.out.rd 1 rfl
          go_wp2_with fail
          clear ra0_0 ra0_1 ra1_0 ra1_1 r5_0 r5_1 r7_0 r7_1
          refine (eqInt64S_any B9_1_ B3_1_ m1 m1 _ _ ys1 ys1 _ (by omega) HM1.out HM1.out T9_1_21.out.ir T3_1_21.out.ir).mono ?_
          rw [decide_eq_true (rfl : ys1 = ys1)]
          rintro e w22 ⟨rfl, hx⟩
          have s22 := (hx.below (Nat.le_refl _)).size
          have K22 := Lib.hid (K21.out.trans (hx.below K21.out.size))
          have Ba0_22 := Lib.hid (Ba0_21.out.ext hx)
          have Ba1_22 := Lib.hid (Ba1_21.out.ext hx)
          have B5_22 := Lib.hid (B5_21.out.ext hx)
          have B7_22 := Lib.hid (B7_21.out.ext hx)
          have T3_0_22 := Lib.hid (T3_0_21.out.ext hx)
          have T3_1_22 := Lib.hid (T3_1_21.out.ext hx)
          have T4_22 := Lib.hid (T4_21.out.ext hx)
          have T6_22 := Lib.hid (T6_21.out.ext hx)
          have T8_22 := Lib.hid (T8_21.out.ext hx)
          have T9_0_22 := Lib.hid (T9_0_21.out.ext hx)
          have T9_1_22 := Lib.hid (T9_1_21.out.ext hx)
          clear K21 Ba0_21 Ba1_21 B5_21 B7_21 T3_0_21 T3_1_21 T4_21 T6_21 T8_21 T9_0_21 T9_1_21
          clear hx
          have ra0_0 := Ba0_22.out.rd 0 rfl
          have ra0_1 := Ba0_22.out.rd 1 rfl
          have ra1_0 := Ba1_22.out.rd 0 rfl
          have ra1_1 := Ba1_22.out.rd 1 rfl
          have r5_0 := B5_22.out.rd 0 rfl
          have r5_1 := B5_22.out.rd 1 rfl
          have r7_0 := B7_22.out.rd 0 rfl
          have r7_1 := B7_22.out.rd 1 rfl
          go_wp2_with fail
          clear ra0_0 ra0_1 ra1_0 ra1_1 r5_0 r5_1 r7_0 r7_1
          refine (markInt64S_any B9_0_ m0 _ (1) ys0 _ _ _ (by omega) (by omega) (by omega) HM0.out T9_0_22.out).mono ?_
          rintro e w23 ⟨rfl, ho, hw⟩
          have s23 := ho.size
          have t23 := Lib.hid hw
          have K23 := Lib.hid (K22.out.trans (ho.below (by omega) K22.out.size))
          have Ba0_23 := Lib.hid (Ba0_22.out.only ho (by omega))
          have Ba1_23 := Lib.hid (Ba1_22.out.only ho (by omega))
          have B5_23 := Lib.hid (B5_22.out.only ho (by omega))
          have B7_23 := Lib.hid (B7_22.out.only ho (by omega))
          have T3_0_23 := Lib.hid (T3_0_22.out.only ho (by omega))
          have T3_1_23 := Lib.hid (T3_1_22.out.only ho (by omega))
          have T4_23 := Lib.hid (T4_22.out.only ho (by omega))
          have T6_23 := Lib.hid (T6_22.out.only ho (by omega))
          have T8_23 := Lib.hid (T8_22.out.only ho (by omega))
          have T9_1_23 := Lib.hid (T9_1_22.out.only ho (by omega))
          clear K22 Ba0_22 Ba1_22 B5_22 B7_22 T3_0_22 T3_1_22 T4_22 T6_22 T8_22 T9_1_22
          clear ho hw T9_0_22
          have ra0_0 := Ba0_23.out.rd 0 rfl
          have ra0_1 := Ba0_23.out.rd 1 rfl
          have ra1_0 := Ba1_23.out.rd 0 rfl
          have ra1_1 := Ba1_23.out.rd 1 rfl
          have r5_0 := B5_23.out.rd 0 rfl
          have r5_1 := B5_23.out.rd 1 rfl
          have r7_0 := B7_23.out.rd 0 rfl
          have r7_1 := B7_23.out.rd 1 rfl
          go_wp2_with fail
          clear ra0_0 ra0_1 ra1_0 ra1_1 r5_0 r5_1 r7_0 r7_1
          refine (markInt64S_any B9_1_ m1 _ (1 + (m0 : Int)) ys1 _ _ _ (by omega) (by omega) (by omega) HM1.out T9_1_23.out).mono ?_
          rintro e w24 ⟨rfl, ho, hw⟩
          have s24 := ho.size
          have t24 := Lib.hid hw
          have K24 := Lib.hid (K23.out.trans (ho.below (by omega) K23.out.size))
          have Ba0_24 := Lib.hid (Ba0_23.out.only ho (by omega))
          have Ba1_24 := Lib.hid (Ba1_23.out.only ho (by omega))
          have B5_24 := Lib.hid (B5_23.out.only ho (by omega))
          have B7_24 := Lib.hid (B7_23.out.only ho (by omega))
          have T3_0_24 := Lib.hid (T3_0_23.out.only ho (by omega))
          have T3_1_24 := Lib.hid (T3_1_23.out.only ho (by omega))
          have T4_24 := Lib.hid (T4_23.out.only ho (by omega))
          have T6_24 := Lib.hid (T6_23.out.only ho (by omega))
          have T8_24 := Lib.hid (T8_23.out.only ho (by omega))
          have T9_0_24 := Lib.hid (t23.out.only ho (by omega))
          clear K23 Ba0_23 Ba1_23 B5_23 B7_23 T3_0_23 T3_1_23 T4_23 T6_23 T8_23 t23
          clear ho hw T9_1_23
          have ra0_0 := Ba0_24.out.rd 0 rfl
          have ra0_1 := Ba0_24.out.rd 1 rfl
          have ra1_0 := Ba1_24.out.rd 0 rfl
          have ra1_1 := Ba1_24.out.rd 1 rfl
          have r5_0 := B5_24.out.rd 0 rfl
          have r5_1 := B5_24.out.rd 1 rfl
          have r7_0 := B7_24.out.rd 0 rfl
          have r7_1 := B7_24.out.rd 1 rfl
          go_wp2_with fail
          clear ra0_0 ra0_1 ra1_0 ra1_1 r5_0 r5_1 r7_0 r7_1
          refine (heldInt64S_any B9_0_ m0 _ (1) _ (by omega) (by omega) (by omega) T9_0_24.out.ir).mono ?_
          rintro e w25 ⟨rfl, hx⟩
          have s25 := (hx.below (Nat.le_refl _)).size
          have K25 := Lib.hid (K24.out.trans (hx.below K24.out.size))
          have Ba0_25 := Lib.hid (Ba0_24.out.ext hx)
          have Ba1_25 := Lib.hid (Ba1_24.out.ext hx)
          have B5_25 := Lib.hid (B5_24.out.ext hx)
          have B7_25 := Lib.hid (B7_24.out.ext hx)
          have T3_0_25 := Lib.hid (T3_0_24.out.ext hx)
          have T3_1_25 := Lib.hid (T3_1_24.out.ext hx)
          have T4_25 := Lib.hid (T4_24.out.ext hx)
          have T6_25 := Lib.hid (T6_24.out.ext hx)
          have T8_25 := Lib.hid (T8_24.out.ext hx)
          have T9_0_25 := Lib.hid (T9_0_24.out.ext hx)
          have T9_1_25 := Lib.hid (t24.out.ext hx)
          clear K24 Ba0_24 Ba1_24 B5_24 B7_24 T3_0_24 T3_1_24 T4_24 T6_24 T8_24 T9_0_24 t24
          clear hx
          have ra0_0 := Ba0_25.out.rd 0 rfl
          have ra0_1 := Ba0_25.out.rd 1 rfl
          have ra1_0 := Ba1_25.out.rd 0 rfl
          have ra1_1 := Ba1_25.out.rd 1 rfl
          have r5_0 := B5_25.out.rd 0 rfl
          have r5_1 := B5_25.out.rd 1 rfl
          have r7_0 := B7_25.out.rd 0 rfl
          have r7_1 := B7_25.out.rd 1 rfl
          go_wp2_with fail
          clear ra0_0 ra0_1 ra1_0 ra1_1 r5_0 r5_1 r7_0 r7_1
          refine (heldInt64S_any B9_1_ m1 _ (1 + (m0 : Int)) _ (by omega) (by omega) (by omega) T9_1_25.out.ir).mono ?_
          rintro e w26 ⟨rfl, hx⟩
          have s26 := (hx.below (Nat.le_refl _)).size
          have K26 := Lib.hid (K25.out.trans (hx.below K25.out.size))
          have Ba0_26 := Lib.hid (Ba0_25.out.ext hx)
          have Ba1_26 := Lib.hid (Ba1_25.out.ext hx)
          have B5_26 := Lib.hid (B5_25.out.ext hx)
          have B7_26 := Lib.hid (B7_25.out.ext hx)
          have T3_0_26 := Lib.hid (T3_0_25.out.ext hx)
          have T3_1_26 := Lib.hid (T3_1_25.out.ext hx)
          have T4_26 := Lib.hid (T4_25.out.ext hx)
          have T6_26 := Lib.hid (T6_25.out.ext hx)
          have T8_26 := Lib.hid (T8_25.out.ext hx)
          have T9_0_26 := Lib.hid (T9_0_25.out.ext hx)
          have T9_1_26 := Lib.hid (T9_1_25.out.ext hx)
          clear K25 Ba0_25 Ba1_25 B5_25 B7_25 T3_0_25 T3_1_25 T4_25 T6_25 T8_25 T9_0_25 T9_1_25
          clear hx
          have ra0_0 := Ba0_26.out.rd 0 rfl
          have ra0_1 := Ba0_26.out.rd 1 rfl
          have ra1_0 := Ba1_26.out.rd 0 rfl
          have ra1_1 := Ba1_26.out.rd 1 rfl
          have r5_0 := B5_26.out.rd 0 rfl
          have r5_1 := B5_26.out.rd 1 rfl
          have r7_0 := B7_26.out.rd 0 rfl
          have r7_1 := B7_26.out.rd 1 rfl
          go_wp2_with fail
          clear ra0_0 ra0_1 ra1_0 ra1_1 r5_0 r5_1 r7_0 r7_1
          have ra0_0 := Ba0_26.out.rd 0 rfl
          have ra0_1 := Ba0_26.out.rd 1 rfl
          have ra1_0 := Ba1_26.out.rd 0 rfl
          have ra1_1 := Ba1_26.out.rd 1 rfl
          go_upto_region 39 with (fail)
          go_cut [20, 21, 22] (fun v20 v21 v22 wx => ∃ (R0 : Option Addr) (p0 : Nat) (R1 : Option Addr) (p1 : Nat), v20 = .slice R0 m0 p0 ∧ v21 = .slice R1 m1 p1 ∧ v22 = .int .i64 r2 ∧ IWr wx w26.heap.size wx.heap.size R0 ys0 ∧ IWr wx w26.heap.size wx.heap.size R1 ys1 ∧ Below w26.heap.size w26 wx)
          case first =>
            go_region_law (first
              | (go_simp; go_at_call 18; with_reducible refine (HT0.out _ (K26.out.trans ((below_next0 (Below.refl w26.heap.size w26) (by first | exact Ext.refl _ | exact (Ext.refl _).drew | exact (Ext.refl _).alloc _ | exact ((Ext.refl _).alloc _).drew | exact ((Ext.refl _).drew).alloc _ | exact (((Ext.refl _).drew).alloc _).drew | exact ((Ext.refl _).alloc _).alloc _ | exact (((Ext.refl _).alloc _).alloc _).drew) (Nat.le_refl _)).mono K26.out.size))).mono ?_; rintro e w0x ⟨Ax0, rfl, hb, hw⟩; have K0x := below_next (Below.refl w26.heap.size w26) (by first | exact Ext.refl _ | exact (Ext.refl _).drew | exact (Ext.refl _).alloc _ | exact ((Ext.refl _).alloc _).drew | exact ((Ext.refl _).drew).alloc _ | exact (((Ext.refl _).drew).alloc _).drew | exact ((Ext.refl _).alloc _).alloc _ | exact (((Ext.refl _).alloc _).alloc _).drew) hb (Nat.le_refl _); have C0_0x := blk_next Ba0_26.out (by first | exact Ext.refl _ | exact (Ext.refl _).drew | exact (Ext.refl _).alloc _ | exact ((Ext.refl _).alloc _).drew | exact ((Ext.refl _).drew).alloc _ | exact (((Ext.refl _).drew).alloc _).drew | exact ((Ext.refl _).alloc _).alloc _ | exact (((Ext.refl _).alloc _).alloc _).drew) hb; have C1_0x := blk_next Ba1_26.out (by first | exact Ext.refl _ | exact (Ext.refl _).drew | exact (Ext.refl _).alloc _ | exact ((Ext.refl _).alloc _).drew | exact ((Ext.refl _).drew).alloc _ | exact (((Ext.refl _).drew).alloc _).drew | exact ((Ext.refl _).alloc _).alloc _ | exact (((Ext.refl _).alloc _).alloc _).drew) hb; have T0_0x := hw.r; clear hb hw; have rb00_0 := C0_0x.rd 0 rfl; have rb00_1 := C0_0x.rd 1 rfl; have rb01_0 := C1_0x.rd 0 rfl; have rb01_1 := C1_0x.rd 1 rfl)
              | (go_simp; go_at_call 18; with_reducible refine (HT1.out _ (K26.out.trans ((below_next0 K0x (by first | exact Ext.refl _ | exact (Ext.refl _).drew | exact (Ext.refl _).alloc _ | exact ((Ext.refl _).alloc _).drew | exact ((Ext.refl _).drew).alloc _ | exact (((Ext.refl _).drew).alloc _).drew | exact ((Ext.refl _).alloc _).alloc _ | exact (((Ext.refl _).alloc _).alloc _).drew) (Nat.le_refl _)).mono K26.out.size))).mono ?_; rintro e w1x ⟨Ax1, rfl, hb, hw⟩; have K1x := below_next K0x (by first | exact Ext.refl _ | exact (Ext.refl _).drew | exact (Ext.refl _).alloc _ | exact ((Ext.refl _).alloc _).drew | exact ((Ext.refl _).drew).alloc _ | exact (((Ext.refl _).drew).alloc _).drew | exact ((Ext.refl _).alloc _).alloc _ | exact (((Ext.refl _).alloc _).alloc _).drew) hb (Nat.le_refl _); have C0_1x := blk_next C0_0x (by first | exact Ext.refl _ | exact (Ext.refl _).drew | exact (Ext.refl _).alloc _ | exact ((Ext.refl _).alloc _).drew | exact ((Ext.refl _).drew).alloc _ | exact (((Ext.refl _).drew).alloc _).drew | exact ((Ext.refl _).alloc _).alloc _ | exact (((Ext.refl _).alloc _).alloc _).drew) hb; have C1_1x := blk_next C1_0x (by first | exact Ext.refl _ | exact (Ext.refl _).drew | exact (Ext.refl _).alloc _ | exact ((Ext.refl _).alloc _).drew | exact ((Ext.refl _).drew).alloc _ | exact (((Ext.refl _).drew).alloc _).drew | exact ((Ext.refl _).alloc _).alloc _ | exact (((Ext.refl _).alloc _).alloc _).drew) hb; have T0_1x := twr_next T0_0x (by first | exact Ext.refl _ | exact (Ext.refl _).drew | exact (Ext.refl _).alloc _ | exact ((Ext.refl _).alloc _).drew | exact ((Ext.refl _).drew).alloc _ | exact (((Ext.refl _).drew).alloc _).drew | exact ((Ext.refl _).alloc _).alloc _ | exact (((Ext.refl _).alloc _).alloc _).drew) hb; have T1_1x := hw.r; clear hb hw; have rb10_0 := C0_1x.rd 0 rfl; have rb10_1 := C0_1x.rd 1 rfl; have rb11_0 := C1_1x.rd 0 rfl; have rb11_1 := C1_1x.rd 1 rfl)
              | (go_simp; go_at_call 41; with_reducible refine (HT2.out _ (K26.out.trans ((below_next0 K1x (by first | exact Ext.refl _ | exact (Ext.refl _).drew | exact (Ext.refl _).alloc _ | exact ((Ext.refl _).alloc _).drew | exact ((Ext.refl _).drew).alloc _ | exact (((Ext.refl _).drew).alloc _).drew | exact ((Ext.refl _).alloc _).alloc _ | exact (((Ext.refl _).alloc _).alloc _).drew) (Nat.le_refl _)).mono K26.out.size))).mono ?_; rintro e w2x ⟨Ax2, rfl, hb, hw⟩; have K2x := below_next K1x (by first | exact Ext.refl _ | exact (Ext.refl _).drew | exact (Ext.refl _).alloc _ | exact ((Ext.refl _).alloc _).drew | exact ((Ext.refl _).drew).alloc _ | exact (((Ext.refl _).drew).alloc _).drew | exact ((Ext.refl _).alloc _).alloc _ | exact (((Ext.refl _).alloc _).alloc _).drew) hb (Nat.le_refl _); have C0_2x := blk_next C0_1x (by first | exact Ext.refl _ | exact (Ext.refl _).drew | exact (Ext.refl _).alloc _ | exact ((Ext.refl _).alloc _).drew | exact ((Ext.refl _).drew).alloc _ | exact (((Ext.refl _).drew).alloc _).drew | exact ((Ext.refl _).alloc _).alloc _ | exact (((Ext.refl _).alloc _).alloc _).drew) hb; have C1_2x := blk_next C1_1x (by first | exact Ext.refl _ | exact (Ext.refl _).drew | exact (Ext.refl _).alloc _ | exact ((Ext.refl _).alloc _).drew | exact ((Ext.refl _).drew).alloc _ | exact (((Ext.refl _).drew).alloc _).drew | exact ((Ext.refl _).alloc _).alloc _ | exact (((Ext.refl _).alloc _).alloc _).drew) hb; have T0_2x := twr_next T0_1x (by first | exact Ext.refl _ | exact (Ext.refl _).drew | exact (Ext.refl _).alloc _ | exact ((Ext.refl _).alloc _).drew | exact ((Ext.refl _).drew).alloc _ | exact (((Ext.refl _).drew).alloc _).drew | exact ((Ext.refl _).alloc _).alloc _ | exact (((Ext.refl _).alloc _).alloc _).drew) hb; have T1_2x := twr_next T1_1x (by first | exact Ext.refl _ | exact (Ext.refl _).drew | exact (Ext.refl _).alloc _ | exact ((Ext.refl _).alloc _).drew | exact ((Ext.refl _).drew).alloc _ | exact (((Ext.refl _).drew).alloc _).drew | exact ((Ext.refl _).alloc _).alloc _ | exact (((Ext.refl _).alloc _).alloc _).drew) hb; have T2_2x := hw; clear hb hw; have rb20_0 := C0_2x.rd 0 rfl; have rb20_1 := C0_2x.rd 1 rfl; have rb21_0 := C1_2x.rd 0 rfl; have rb21_1 := C1_2x.rd 1 rfl)
              | (go_simp; go_at_call 42; with_reducible refine (HI.out _ Ax0 _ Ax1 _ Ax2 _ (Nat.le_refl _) (T0_2x.ext (by first | exact Ext.refl _ | exact (Ext.refl _).drew | exact (Ext.refl _).alloc _ | exact ((Ext.refl _).alloc _).drew | exact ((Ext.refl _).drew).alloc _ | exact (((Ext.refl _).drew).alloc _).drew | exact ((Ext.refl _).alloc _).alloc _ | exact (((Ext.refl _).alloc _).alloc _).drew)).tr (Nat.le_refl _) (T1_2x.ext (by first | exact Ext.refl _ | exact (Ext.refl _).drew | exact (Ext.refl _).alloc _ | exact ((Ext.refl _).alloc _).drew | exact ((Ext.refl _).drew).alloc _ | exact (((Ext.refl _).drew).alloc _).drew | exact ((Ext.refl _).alloc _).alloc _ | exact (((Ext.refl _).alloc _).alloc _).drew)).tr (Nat.le_refl _) (T2_2x.ext (by first | exact Ext.refl _ | exact (Ext.refl _).drew | exact (Ext.refl _).alloc _ | exact ((Ext.refl _).alloc _).drew | exact ((Ext.refl _).drew).alloc _ | exact (((Ext.refl _).drew).alloc _).drew | exact ((Ext.refl _).alloc _).alloc _ | exact (((Ext.refl _).alloc _).alloc _).drew)).ir).mono ?_; rintro e w27y ⟨B27_0_, cap27_0, B27_1_, cap27_1, ja27, jb27, jc27, jd27, hj1_27, hj2_27, hj3_27, hj4_27, hj5_27, rfl, hb, hw0, hw1⟩; have hKc := below_pair K2x (by first | exact Ext.refl _ | exact (Ext.refl _).drew | exact (Ext.refl _).alloc _ | exact ((Ext.refl _).alloc _).drew | exact ((Ext.refl _).drew).alloc _ | exact (((Ext.refl _).drew).alloc _).drew | exact ((Ext.refl _).alloc _).alloc _ | exact (((Ext.refl _).alloc _).alloc _).drew) hb (Nat.le_refl _)))
            all_goals
              go_wp2_with fail
              go_meet
              have hBc := hKc.size
              have hbs := hb.size
              exact ⟨_, _, _, _, rfl, rfl, rfl, ((hw0).ext (by first | exact Ext.refl _ | exact (Ext.refl _).drew | exact (Ext.refl _).alloc _ | exact ((Ext.refl _).alloc _).drew | exact ((Ext.refl _).drew).alloc _ | exact (((Ext.refl _).drew).alloc _).drew | exact ((Ext.refl _).alloc _).alloc _ | exact (((Ext.refl _).alloc _).alloc _).drew)).loose (by first | omega | exact hBc) (by first | omega | exact Nat.le_refl _), ((hw1).ext (by first | exact Ext.refl _ | exact (Ext.refl _).drew | exact (Ext.refl _).alloc _ | exact ((Ext.refl _).alloc _).drew | exact ((Ext.refl _).drew).alloc _ | exact (((Ext.refl _).drew).alloc _).drew | exact ((Ext.refl _).alloc _).alloc _ | exact (((Ext.refl _).alloc _).alloc _).drew)).loose (by first | omega | exact hBc) (by first | omega | exact Nat.le_refl _), below_next0 (below_next K2x (by first | exact Ext.refl _ | exact (Ext.refl _).drew | exact (Ext.refl _).alloc _ | exact ((Ext.refl _).alloc _).drew | exact ((Ext.refl _).drew).alloc _ | exact (((Ext.refl _).drew).alloc _).drew | exact ((Ext.refl _).alloc _).alloc _ | exact (((Ext.refl _).alloc _).alloc _).drew) hb (Nat.le_refl _)) (by first | exact Ext.refl _ | exact (Ext.refl _).drew | exact (Ext.refl _).alloc _ | exact ((Ext.refl _).alloc _).drew | exact ((Ext.refl _).drew).alloc _ | exact (((Ext.refl _).drew).alloc _).drew | exact ((Ext.refl _).alloc _).alloc _ | exact (((Ext.refl _).alloc _).alloc _).drew) (Nat.le_refl _)⟩
          case rest =>
            obtain ⟨B27_0_, cap27_0, B27_1_, cap27_1, rfl, rfl, rfl, hw0, hw1, hb⟩ := hcut
            obtain ⟨w27, hwk⟩ : ∃ w', w' = wc := ⟨_, rfl⟩
            subst hwk
            clear ra0_0 ra0_1 ra1_0 ra1_1
            have s27 := hb.size
            have t27_0 := Lib.hid hw0
            have t27_1 := Lib.hid hw1
            have K27 := Lib.hid (K26.out.trans (hb.mono K26.out.size))
            have Ba0_27 := Lib.hid (Ba0_26.out.below hb Ba0_26.out.lt)
            have Ba1_27 := Lib.hid (Ba1_26.out.below hb Ba1_26.out.lt)
            have B5_27 := Lib.hid (B5_26.out.below hb B5_26.out.lt)
            have B7_27 := Lib.hid (B7_26.out.below hb B7_26.out.lt)
            have T3_0_27 := Lib.hid (T3_0_26.out.below hb)
            have T3_1_27 := Lib.hid (T3_1_26.out.below hb)
            have T4_27 := Lib.hid (T4_26.out.below hb)
            have T6_27 := Lib.hid (T6_26.out.below hb)
            have T8_27 := Lib.hid (T8_26.out.below hb)
            have T9_0_27 := Lib.hid (T9_0_26.out.below hb)
            have T9_1_27 := Lib.hid (T9_1_26.out.below hb)
            clear K26 Ba0_26 Ba1_26 B5_26 B7_26 T3_0_26 T3_1_26 T4_26 T6_26 T8_26 T9_0_26 T9_1_26
            clear hb hw0 hw1
            have ra0_0 := Ba0_27.out.rd 0 rfl
            have ra0_1 := Ba0_27.out.rd 1 rfl
            have ra1_0 := Ba1_27.out.rd 0 rfl
            have ra1_1 := Ba1_27.out.rd 1 rfl
            have r5_0 := B5_27.out.rd 0 rfl
            have r5_1 := B5_27.out.rd 1 rfl
            have r7_0 := B7_27.out.rd 0 rfl
            have r7_1 := B7_27.out.rd 1 rfl
            go_wp2_with fail
            clear ra0_0 ra0_1 ra1_0 ra1_1 r5_0 r5_1 r7_0 r7_1
            refine (eqInt64S_any B27_0_ B3_0_ m0 m0 _ _ ys0 ys0 _ (by omega) HM0.out HM0.out t27_0.out.ir T3_0_27.out.ir).mono ?_
            rw [decide_eq_true (rfl : ys0 = ys0)]
            rintro e w28 ⟨rfl, hx⟩
            have s28 := (hx.below (Nat.le_refl _)).size
            have K28 := Lib.hid (K27.out.trans (hx.below K27.out.size))
            have Ba0_28 := Lib.hid (Ba0_27.out.ext hx)
            have Ba1_28 := Lib.hid (Ba1_27.out.ext hx)
            have B5_28 := Lib.hid (B5_27.out.ext hx)
            have B7_28 := Lib.hid (B7_27.out.ext hx)
            have T3_0_28 := Lib.hid (T3_0_27.out.ext hx)
            have T3_1_28 := Lib.hid (T3_1_27.out.ext hx)
            have T4_28 := Lib.hid (T4_27.out.ext hx)
            have T6_28 := Lib.hid (T6_27.out.ext hx)
            have T8_28 := Lib.hid (T8_27.out.ext hx)
            have T9_0_28 := Lib.hid (T9_0_27.out.ext hx)
            have T9_1_28 := Lib.hid (T9_1_27.out.ext hx)
            have T27_0_28 := Lib.hid (t27_0.out.ext hx)
            have T27_1_28 := Lib.hid (t27_1.out.ext hx)
            clear K27 Ba0_27 Ba1_27 B5_27 B7_27 T3_0_27 T3_1_27 T4_27 T6_27 T8_27 T9_0_27 T9_1_27 t27_0 t27_1
            clear hx
            have ra0_0 := Ba0_28.out.rd 0 rfl
            have ra0_1 := Ba0_28.out.rd 1 rfl
            have ra1_0 := Ba1_28.out.rd 0 rfl
            have ra1_1 := Ba1_28.out.rd 1 rfl
            have r5_0 := B5_28.out.rd 0 rfl
            have r5_1 := B5_28.out.rd 1 rfl
            have r7_0 := B7_28.out.rd 0 rfl
            have r7_1 := B7_28.out.rd 1 rfl
            go_wp2_with fail
            clear ra0_0 ra0_1 ra1_0 ra1_1 r5_0 r5_1 r7_0 r7_1
            refine (eqInt64S_any B27_1_ B3_1_ m1 m1 _ _ ys1 ys1 _ (by omega) HM1.out HM1.out T27_1_28.out.ir T3_1_28.out.ir).mono ?_
            rw [decide_eq_true (rfl : ys1 = ys1)]
            rintro e w29 ⟨rfl, hx⟩
            have s29 := (hx.below (Nat.le_refl _)).size
            have K29 := Lib.hid (K28.out.trans (hx.below K28.out.size))
            have Ba0_29 := Lib.hid (Ba0_28.out.ext hx)
            have Ba1_29 := Lib.hid (Ba1_28.out.ext hx)
            have B5_29 := Lib.hid (B5_28.out.ext hx)
            have B7_29 := Lib.hid (B7_28.out.ext hx)
            have T3_0_29 := Lib.hid (T3_0_28.out.ext hx)
            have T3_1_29 := Lib.hid (T3_1_28.out.ext hx)
            have T4_29 := Lib.hid (T4_28.out.ext hx)
            have T6_29 := Lib.hid (T6_28.out.ext hx)
            have T8_29 := Lib.hid (T8_28.out.ext hx)
            have T9_0_29 := Lib.hid (T9_0_28.out.ext hx)
            have T9_1_29 := Lib.hid (T9_1_28.out.ext hx)
            have T27_0_29 := Lib.hid (T27_0_28.out.ext hx)
            have T27_1_29 := Lib.hid (T27_1_28.out.ext hx)
            clear K28 Ba0_28 Ba1_28 B5_28 B7_28 T3_0_28 T3_1_28 T4_28 T6_28 T8_28 T9_0_28 T9_1_28 T27_0_28 T27_1_28
            clear hx
            have ra0_0 := Ba0_29.out.rd 0 rfl
            have ra0_1 := Ba0_29.out.rd 1 rfl
            have ra1_0 := Ba1_29.out.rd 0 rfl
            have ra1_1 := Ba1_29.out.rd 1 rfl
            have r5_0 := B5_29.out.rd 0 rfl
            have r5_1 := B5_29.out.rd 1 rfl
            have r7_0 := B7_29.out.rd 0 rfl
            have r7_1 := B7_29.out.rd 1 rfl
            go_wp2_with fail
            clear ra0_0 ra0_1 ra1_0 ra1_1 r5_0 r5_1 r7_0 r7_1
            refine (heldInt64S_any B9_0_ m0 _ (1) _ (by omega) (by omega) (by omega) T9_0_29.out.ir).mono ?_
            rintro e w30 ⟨rfl, hx⟩
            have s30 := (hx.below (Nat.le_refl _)).size
            have K30 := Lib.hid (K29.out.trans (hx.below K29.out.size))
            have Ba0_30 := Lib.hid (Ba0_29.out.ext hx)
            have Ba1_30 := Lib.hid (Ba1_29.out.ext hx)
            have B5_30 := Lib.hid (B5_29.out.ext hx)
            have B7_30 := Lib.hid (B7_29.out.ext hx)
            have T3_0_30 := Lib.hid (T3_0_29.out.ext hx)
            have T3_1_30 := Lib.hid (T3_1_29.out.ext hx)
            have T4_30 := Lib.hid (T4_29.out.ext hx)
            have T6_30 := Lib.hid (T6_29.out.ext hx)
            have T8_30 := Lib.hid (T8_29.out.ext hx)
            have T9_0_30 := Lib.hid (T9_0_29.out.ext hx)
            have T9_1_30 := Lib.hid (T9_1_29.out.ext hx)
            have T27_0_30 := Lib.hid (T27_0_29.out.ext hx)
            have T27_1_30 := Lib.hid (T27_1_29.out.ext hx)
            clear K29 Ba0_29 Ba1_29 B5_29 B7_29 T3_0_29 T3_1_29 T4_29 T6_29 T8_29 T9_0_29 T9_1_29 T27_0_29 T27_1_29
            clear hx
            have ra0_0 := Ba0_30.out.rd 0 rfl
            have ra0_1 := Ba0_30.out.rd 1 rfl
            have ra1_0 := Ba1_30.out.rd 0 rfl
            have ra1_1 := Ba1_30.out.rd 1 rfl
            have r5_0 := B5_30.out.rd 0 rfl
            have r5_1 := B5_30.out.rd 1 rfl
            have r7_0 := B7_30.out.rd 0 rfl
            have r7_1 := B7_30.out.rd 1 rfl
            go_wp2_with fail
            clear ra0_0 ra0_1 ra1_0 ra1_1 r5_0 r5_1 r7_0 r7_1
            refine (heldInt64S_any B9_1_ m1 _ (1 + (m0 : Int)) _ (by omega) (by omega) (by omega) T9_1_30.out.ir).mono ?_
            rintro e w31 ⟨rfl, hx⟩
            have s31 := (hx.below (Nat.le_refl _)).size
            have K31 := Lib.hid (K30.out.trans (hx.below K30.out.size))
            have Ba0_31 := Lib.hid (Ba0_30.out.ext hx)
            have Ba1_31 := Lib.hid (Ba1_30.out.ext hx)
            have B5_31 := Lib.hid (B5_30.out.ext hx)
            have B7_31 := Lib.hid (B7_30.out.ext hx)
            have T3_0_31 := Lib.hid (T3_0_30.out.ext hx)
            have T3_1_31 := Lib.hid (T3_1_30.out.ext hx)
            have T4_31 := Lib.hid (T4_30.out.ext hx)
            have T6_31 := Lib.hid (T6_30.out.ext hx)
            have T8_31 := Lib.hid (T8_30.out.ext hx)
            have T9_0_31 := Lib.hid (T9_0_30.out.ext hx)
            have T9_1_31 := Lib.hid (T9_1_30.out.ext hx)
            have T27_0_31 := Lib.hid (T27_0_30.out.ext hx)
            have T27_1_31 := Lib.hid (T27_1_30.out.ext hx)
            clear K30 Ba0_30 Ba1_30 B5_30 B7_30 T3_0_30 T3_1_30 T4_30 T6_30 T8_30 T9_0_30 T9_1_30 T27_0_30 T27_1_30
            clear hx
            have ra0_0 := Ba0_31.out.rd 0 rfl
            have ra0_1 := Ba0_31.out.rd 1 rfl
            have ra1_0 := Ba1_31.out.rd 0 rfl
            have ra1_1 := Ba1_31.out.rd 1 rfl
            have r5_0 := B5_31.out.rd 0 rfl
            have r5_1 := B5_31.out.rd 1 rfl
            have r7_0 := B7_31.out.rd 0 rfl
            have r7_1 := B7_31.out.rd 1 rfl
            go_wp2_with fail
            clear ra0_0 ra0_1 ra1_0 ra1_1 r5_0 r5_1 r7_0 r7_1
            go_ret
            exact ⟨rfl, K31.out⟩
end Go.Proofs.Ytjoaoimebdkpaaa
