/- The exact law over StackSets: walked. -/
import Derived.Test.YtcakbnfpmpdljaaSjB
import Derived.Test.YtcakbnfpmpdljaaSBridge
import Derived.Test.YtcakbnfpmpdljaaMark2
import Derived.Test.YtcakbnfpmpdljaaGrow
import Derived.Test.YtcakbnfpmpdljaaCut2
import Derived.Deep.RegionHeld3
import Derived.Deep.RegionLaw
import Derived.Deep.DeepCutAuto
namespace Go.Proofs.Ytcakbnfpmpdljaa
set_option linter.unusedVariables false
set_option linter.unusedSimpArgs false
open Go.RowKit Go.Sort

set_option maxRecDepth 100000 in
set_option maxHeartbeats 4000000 in
theorem lawStackSets_core (c0 : Int) (A0 : Option Addr) (n0 q0 : Nat) (ts0 : List Tl) (c1 : Int) (A1 : Option Addr) (n1 q1 : Nat) (ts1 : List Tl) (w : World) (hn0 : n0 ≤ 9223372036854775807) (hl0 : ts0.length = n0) (hA0 : TR w w.heap.size A0 ts0) (hn1 : n1 ≤ 9223372036854775807) (hl1 : ts1.length = n1) (hA1 : TR w w.heap.size A1 ts1) (z0 : Int) (us0 : List Tl) (r1 : Int) (hus0 : us0.length ≤ 65536)
    (hspec : n0 ≤ 1048576 ∧ n1 ≤ 1048576 → ∀ (W : World) (B0 : Option Addr) (e0 : Nat) (B1 : Option Addr) (e1 : Nat), n0 ≤ e0 → TR W W.heap.size B0 ts0 → n1 ≤ e1 → TR W W.heap.size B1 ts1 → Calls Try.prog 26 #[.agg #[.int .i64 c0, .slice B0 n0 e0], .agg #[.int .i64 c1, .slice B1 n1 e1]] W (fun e w' => ∃ R0 p0, e = .returned (.tuple #[.agg #[.int .i64 z0, .slice R0 us0.length p0], .int .i64 r1]) ∧ Below W.heap.size W w' ∧ TW w' W.heap.size R0 us0))
    (himpl : n0 ≤ 1048576 ∧ n1 ≤ 1048576 → ∀ (W : World) (B0 : Option Addr) (e0 : Nat) (B1 : Option Addr) (e1 : Nat), n0 ≤ e0 → TR W W.heap.size B0 ts0 → n1 ≤ e1 → TR W W.heap.size B1 ts1 → Calls Try.prog 27 #[.agg #[.int .i64 c0, .slice B0 n0 e0], .agg #[.int .i64 c1, .slice B1 n1 e1]] W (fun e w' => ∃ R0 p0, e = .returned (.tuple #[.agg #[.int .i64 z0, .slice R0 us0.length p0], .int .i64 r1]) ∧ Below W.heap.size W w' ∧ TW w' W.heap.size R0 us0)) :
    Calls Try.prog 5 #[.agg #[.int .i64 c0, .slice A0 n0 q0], .agg #[.int .i64 c1, .slice A1 n1 q1]] w fun e w' => e = .returned (.bool true) ∧ Below w.heap.size w w' := by
  have hsz0 : (0 : Int) ≤ 1048576 → ∀ W, Calls Try.prog 13 #[.agg #[.int .i64 c0, .slice A0 n0 q0], .int .i64 1048576] W _ := fun h W => szSet_any c0 A0 n0 q0 1048576 W hn0 h (by omega)
  have hsz1 : 0 ≤ (1048576 - (n0 : Int)) → ∀ W, Calls Try.prog 13 #[.agg #[.int .i64 c1, .slice A1 n1 q1], .int .i64 (1048576 - (n0 : Int))] W _ := fun h W => szSet_any c1 A1 n1 q1 (1048576 - (n0 : Int)) W hn1 h (by omega)
  by_cases hbig0 : (1048576 : Int) < n0
  · replace hsz0 := hsz0 (by omega)
    simp only [if_pos hbig0] at hsz0
    clear hsz1
    clear hspec himpl
    go_enter Try.func5, Try.ntmps5
    go_wp2_with fail
    have hx0 : Ext w ((w.alloc (Obj.cells #[.int .i64 c0, .slice A0 n0 q0] 24)).alloc (Obj.cells #[.int .i64 c1, .slice A1 n1 q1] 24)) := (((Ext.refl w).alloc _).alloc _)
    have b00 : Blk ((w.alloc (Obj.cells #[.int .i64 c0, .slice A0 n0 q0] 24)).alloc (Obj.cells #[.int .i64 c1, .slice A1 n1 q1] 24)) w.heap.size 24 #[.int .i64 c0, .slice A0 n0 q0] := ((Blk.new w 24 #[.int .i64 c0, .slice A0 n0 q0]).ext (((Ext.refl _).alloc _)))
    have b01 : Blk ((w.alloc (Obj.cells #[.int .i64 c0, .slice A0 n0 q0] 24)).alloc (Obj.cells #[.int .i64 c1, .slice A1 n1 q1] 24)) (w.heap.size + 1) 24 #[.int .i64 c1, .slice A1 n1 q1] := by have := (Blk.new (w.alloc (Obj.cells #[.int .i64 c0, .slice A0 n0 q0] 24)) 24 #[.int .i64 c1, .slice A1 n1 q1]); simpa using this
    have s0 : w.heap.size + 2 ≤ ((w.alloc (Obj.cells #[.int .i64 c0, .slice A0 n0 q0] 24)).alloc (Obj.cells #[.int .i64 c1, .slice A1 n1 q1] 24)).heap.size := by simp
    have K0 := Lib.hid (hx0.below (Nat.le_refl _))
    have C00 := Lib.hid b00
    have C01 := Lib.hid b01
    clear hx0 b00 b01
    generalize ((w.alloc (Obj.cells #[.int .i64 c0, .slice A0 n0 q0] 24)).alloc (Obj.cells #[.int .i64 c1, .slice A1 n1 q1] 24)) = w0 at *
    refine (hsz0 _).mono ?_
    rintro e w1 ⟨rfl, hx⟩
    have s1 := (hx.below (Nat.le_refl _)).size
    have K1 := Lib.hid (K0.out.trans (hx.below K0.out.size))
    have Ba0_1 := Lib.hid (C00.out.ext hx)
    have Ba1_1 := Lib.hid (C01.out.ext hx)
    clear K0 C00 C01
    clear hx
    have ra0_0 := Ba0_1.out.rd 0 rfl
    have ra0_1 := Ba0_1.out.rd 1 rfl
    have ra1_0 := Ba1_1.out.rd 0 rfl
    have ra1_1 := Ba1_1.out.rd 1 rfl
    go_wp2_with fail
    clear ra0_0 ra0_1 ra1_0 ra1_1
    go_ret
    exact ⟨rfl, K1.out⟩
  · skip
    by_cases hbig1 : (1048576 - (n0 : Int) : Int) < n1
    · replace hsz0 := hsz0 (by omega)
      simp only [if_neg hbig0] at hsz0
      replace hsz1 := hsz1 (by omega)
      simp only [if_pos hbig1] at hsz1
      have hneg0 : ¬ (1048576 - (n0 : Int) < 0) := by omega
      clear hspec himpl
      go_enter Try.func5, Try.ntmps5
      go_wp2_with fail
      have hx0 : Ext w ((w.alloc (Obj.cells #[.int .i64 c0, .slice A0 n0 q0] 24)).alloc (Obj.cells #[.int .i64 c1, .slice A1 n1 q1] 24)) := (((Ext.refl w).alloc _).alloc _)
      have b00 : Blk ((w.alloc (Obj.cells #[.int .i64 c0, .slice A0 n0 q0] 24)).alloc (Obj.cells #[.int .i64 c1, .slice A1 n1 q1] 24)) w.heap.size 24 #[.int .i64 c0, .slice A0 n0 q0] := ((Blk.new w 24 #[.int .i64 c0, .slice A0 n0 q0]).ext (((Ext.refl _).alloc _)))
      have b01 : Blk ((w.alloc (Obj.cells #[.int .i64 c0, .slice A0 n0 q0] 24)).alloc (Obj.cells #[.int .i64 c1, .slice A1 n1 q1] 24)) (w.heap.size + 1) 24 #[.int .i64 c1, .slice A1 n1 q1] := by have := (Blk.new (w.alloc (Obj.cells #[.int .i64 c0, .slice A0 n0 q0] 24)) 24 #[.int .i64 c1, .slice A1 n1 q1]); simpa using this
      have s0 : w.heap.size + 2 ≤ ((w.alloc (Obj.cells #[.int .i64 c0, .slice A0 n0 q0] 24)).alloc (Obj.cells #[.int .i64 c1, .slice A1 n1 q1] 24)).heap.size := by simp
      have K0 := Lib.hid (hx0.below (Nat.le_refl _))
      have C00 := Lib.hid b00
      have C01 := Lib.hid b01
      clear hx0 b00 b01
      generalize ((w.alloc (Obj.cells #[.int .i64 c0, .slice A0 n0 q0] 24)).alloc (Obj.cells #[.int .i64 c1, .slice A1 n1 q1] 24)) = w0 at *
      refine (hsz0 _).mono ?_
      rintro e w1 ⟨rfl, hx⟩
      have s1 := (hx.below (Nat.le_refl _)).size
      have K1 := Lib.hid (K0.out.trans (hx.below K0.out.size))
      have Ba0_1 := Lib.hid (C00.out.ext hx)
      have Ba1_1 := Lib.hid (C01.out.ext hx)
      clear K0 C00 C01
      clear hx
      have ra0_0 := Ba0_1.out.rd 0 rfl
      have ra0_1 := Ba0_1.out.rd 1 rfl
      have ra1_0 := Ba1_1.out.rd 0 rfl
      have ra1_1 := Ba1_1.out.rd 1 rfl
      go_wp2_with fail
      clear ra0_0 ra0_1 ra1_0 ra1_1
      refine (hsz1 _).mono ?_
      rintro e w2 ⟨rfl, hx⟩
      have s2 := (hx.below (Nat.le_refl _)).size
      have K2 := Lib.hid (K1.out.trans (hx.below K1.out.size))
      have Ba0_2 := Lib.hid (Ba0_1.out.ext hx)
      have Ba1_2 := Lib.hid (Ba1_1.out.ext hx)
      clear K1 Ba0_1 Ba1_1
      clear hx
      have ra0_0 := Ba0_2.out.rd 0 rfl
      have ra0_1 := Ba0_2.out.rd 1 rfl
      have ra1_0 := Ba1_2.out.rd 0 rfl
      have ra1_1 := Ba1_2.out.rd 1 rfl
      go_wp2_with fail
      clear ra0_0 ra0_1 ra1_0 ra1_1
      go_ret
      exact ⟨rfl, K2.out⟩
    · skip
      replace hsz0 := hsz0 (by omega)
      simp only [if_neg hbig0] at hsz0
      replace hsz1 := hsz1 (by omega)
      simp only [if_neg hbig1] at hsz1
      have hneg0 : ¬ (1048576 - (n0 : Int) < 0) := by omega
      have hneg1 : ¬ (1048576 - (n0 : Int) - (n1 : Int) < 0) := by omega
      have hn'0 : n0 ≤ 1048576 := by omega
      have hts0 : ∀ W, Below w.heap.size w W → Calls Try.prog 15 #[.agg #[.int .i64 c0, .slice A0 n0 q0]] W _ := fun W hW => toSet_any c0 A0 n0 q0 ts0 W hn'0 hl0 ((hA0.below hW (Nat.le_refl _)).more hW.size)
      have hn'1 : n1 ≤ 1048576 := by omega
      have hts1 : ∀ W, Below w.heap.size w W → Calls Try.prog 15 #[.agg #[.int .i64 c1, .slice A1 n1 q1]] W _ := fun W hW => toSet_any c1 A1 n1 q1 ts1 W hn'1 hl1 ((hA1.below hW (Nat.le_refl _)).more hW.size)
      have HT0 := Lib.hid hts0
      have HL0 := Lib.hid hl0
      have HT1 := Lib.hid hts1
      have HL1 := Lib.hid hl1
      have HS := Lib.hid (hspec ⟨hn'0, hn'1⟩)
      have HI := Lib.hid (himpl ⟨hn'0, hn'1⟩)
      clear hspec himpl hts0 hA0 hl0 hts1 hA1 hl1
      generalize hm0 : us0.length = m0 at *
      have HM0 := Lib.hid hm0
      clear hm0
      have hcc1 : (r1 != r1) = false := by simp
      have hkn : ¬ (1 + 4 * (n0 : Int) + 4 * (n1 : Int) < 0) := by omega
      have hkm0 : ¬ (1 + 4 * (m0 : Int) < 0) := by omega
      go_enter Try.func5, Try.ntmps5
      go_wp2_with fail
      have hx0 : Ext w ((w.alloc (Obj.cells #[.int .i64 c0, .slice A0 n0 q0] 24)).alloc (Obj.cells #[.int .i64 c1, .slice A1 n1 q1] 24)) := (((Ext.refl w).alloc _).alloc _)
      have b00 : Blk ((w.alloc (Obj.cells #[.int .i64 c0, .slice A0 n0 q0] 24)).alloc (Obj.cells #[.int .i64 c1, .slice A1 n1 q1] 24)) w.heap.size 24 #[.int .i64 c0, .slice A0 n0 q0] := ((Blk.new w 24 #[.int .i64 c0, .slice A0 n0 q0]).ext (((Ext.refl _).alloc _)))
      have b01 : Blk ((w.alloc (Obj.cells #[.int .i64 c0, .slice A0 n0 q0] 24)).alloc (Obj.cells #[.int .i64 c1, .slice A1 n1 q1] 24)) (w.heap.size + 1) 24 #[.int .i64 c1, .slice A1 n1 q1] := by have := (Blk.new (w.alloc (Obj.cells #[.int .i64 c0, .slice A0 n0 q0] 24)) 24 #[.int .i64 c1, .slice A1 n1 q1]); simpa using this
      have s0 : w.heap.size + 2 ≤ ((w.alloc (Obj.cells #[.int .i64 c0, .slice A0 n0 q0] 24)).alloc (Obj.cells #[.int .i64 c1, .slice A1 n1 q1] 24)).heap.size := by simp
      have K0 := Lib.hid (hx0.below (Nat.le_refl _))
      have C00 := Lib.hid b00
      have C01 := Lib.hid b01
      clear hx0 b00 b01
      generalize ((w.alloc (Obj.cells #[.int .i64 c0, .slice A0 n0 q0] 24)).alloc (Obj.cells #[.int .i64 c1, .slice A1 n1 q1] 24)) = w0 at *
      refine (hsz0 _).mono ?_
      rintro e w1 ⟨rfl, hx⟩
      have s1 := (hx.below (Nat.le_refl _)).size
      have K1 := Lib.hid (K0.out.trans (hx.below K0.out.size))
      have Ba0_1 := Lib.hid (C00.out.ext hx)
      have Ba1_1 := Lib.hid (C01.out.ext hx)
      clear K0 C00 C01
      clear hx
      have ra0_0 := Ba0_1.out.rd 0 rfl
      have ra0_1 := Ba0_1.out.rd 1 rfl
      have ra1_0 := Ba1_1.out.rd 0 rfl
      have ra1_1 := Ba1_1.out.rd 1 rfl
      go_wp2_with fail
      clear ra0_0 ra0_1 ra1_0 ra1_1
      refine (hsz1 _).mono ?_
      rintro e w2 ⟨rfl, hx⟩
      have s2 := (hx.below (Nat.le_refl _)).size
      have K2 := Lib.hid (K1.out.trans (hx.below K1.out.size))
      have Ba0_2 := Lib.hid (Ba0_1.out.ext hx)
      have Ba1_2 := Lib.hid (Ba1_1.out.ext hx)
      clear K1 Ba0_1 Ba1_1
      clear hx
      have ra0_0 := Ba0_2.out.rd 0 rfl
      have ra0_1 := Ba0_2.out.rd 1 rfl
      have ra1_0 := Ba1_2.out.rd 0 rfl
      have ra1_1 := Ba1_2.out.rd 1 rfl
      go_wp2_with fail
      clear ra0_0 ra0_1 ra1_0 ra1_1
      have ra0_0 := Ba0_2.out.rd 0 rfl
      have raz0_0 := (Ba0_2.out.ext ((Ext.refl _).alloc (Obj.cells #[.int .i64 0, .slice none 0 0] 29))).rd 0 rfl
      have ra0_1 := Ba0_2.out.rd 1 rfl
      have raz0_1 := (Ba0_2.out.ext ((Ext.refl _).alloc (Obj.cells #[.int .i64 0, .slice none 0 0] 29))).rd 1 rfl
      have ra1_0 := Ba1_2.out.rd 0 rfl
      have raz1_0 := (Ba1_2.out.ext ((Ext.refl _).alloc (Obj.cells #[.int .i64 0, .slice none 0 0] 29))).rd 0 rfl
      have ra1_1 := Ba1_2.out.rd 1 rfl
      have raz1_1 := (Ba1_2.out.ext ((Ext.refl _).alloc (Obj.cells #[.int .i64 0, .slice none 0 0] 29))).rd 1 rfl
      go_upto_region 8 with (fail)
      go_cut [6, 7] (fun v6 v7 wx => ∃ (g0 : Nat) (R0 : Option Addr) (p0 : Nat), v6 = .pointer (some ⟨g0, 0, none⟩) ∧ w2.heap.size ≤ g0 ∧ g0 < wx.heap.size ∧ Blk wx g0 29 #[.int .i64 z0, .slice R0 m0 p0] ∧ v7 = .int .i64 r1 ∧ TWr wx w2.heap.size wx.heap.size R0 us0 ∧ Below w2.heap.size w2 wx)
      case first =>
        go_region_law (first
          | (go_simp; go_at_call 15; with_reducible refine (HT0.out _ (K2.out.trans ((below_next0 (Below.refl w2.heap.size w2) (by first | exact Ext.refl _ | exact (Ext.refl _).drew | exact (Ext.refl _).alloc _ | exact ((Ext.refl _).alloc _).drew | exact ((Ext.refl _).drew).alloc _ | exact (((Ext.refl _).drew).alloc _).drew | exact ((Ext.refl _).alloc _).alloc _ | exact (((Ext.refl _).alloc _).alloc _).drew) (Nat.le_refl _)).mono K2.out.size))).mono ?_; rintro e w0x ⟨Ax0, rfl, hb, hw⟩; have K0x := below_next (Below.refl w2.heap.size w2) (by first | exact Ext.refl _ | exact (Ext.refl _).drew | exact (Ext.refl _).alloc _ | exact ((Ext.refl _).alloc _).drew | exact ((Ext.refl _).drew).alloc _ | exact (((Ext.refl _).drew).alloc _).drew | exact ((Ext.refl _).alloc _).alloc _ | exact (((Ext.refl _).alloc _).alloc _).drew) hb (Nat.le_refl _); have C0_0x := blk_next Ba0_2.out (by first | exact Ext.refl _ | exact (Ext.refl _).drew | exact (Ext.refl _).alloc _ | exact ((Ext.refl _).alloc _).drew | exact ((Ext.refl _).drew).alloc _ | exact (((Ext.refl _).drew).alloc _).drew | exact ((Ext.refl _).alloc _).alloc _ | exact (((Ext.refl _).alloc _).alloc _).drew) hb; have C1_0x := blk_next Ba1_2.out (by first | exact Ext.refl _ | exact (Ext.refl _).drew | exact (Ext.refl _).alloc _ | exact ((Ext.refl _).alloc _).drew | exact ((Ext.refl _).drew).alloc _ | exact (((Ext.refl _).drew).alloc _).drew | exact ((Ext.refl _).alloc _).alloc _ | exact (((Ext.refl _).alloc _).alloc _).drew) hb; have T0_0x := hw.r; (try have nb0 := blk_next (Blk.new w2 29 #[.int .i64 0, .slice none 0 0]) (by first | exact Ext.refl _ | exact (Ext.refl _).drew | exact (Ext.refl _).alloc _ | exact ((Ext.refl _).alloc _).drew | exact ((Ext.refl _).drew).alloc _ | exact (((Ext.refl _).drew).alloc _).drew | exact ((Ext.refl _).alloc _).alloc _ | exact (((Ext.refl _).alloc _).alloc _).drew) hb); clear hb hw; have rb00_0 := C0_0x.rd 0 rfl; have rb0z0_0 := (C0_0x.ext ((Ext.refl _).alloc (Obj.cells #[.int .i64 0, .slice none 0 0] 29))).rd 0 rfl; have rb00_1 := C0_0x.rd 1 rfl; have rb0z0_1 := (C0_0x.ext ((Ext.refl _).alloc (Obj.cells #[.int .i64 0, .slice none 0 0] 29))).rd 1 rfl; have rb01_0 := C1_0x.rd 0 rfl; have rb0z1_0 := (C1_0x.ext ((Ext.refl _).alloc (Obj.cells #[.int .i64 0, .slice none 0 0] 29))).rd 0 rfl; have rb01_1 := C1_0x.rd 1 rfl; have rb0z1_1 := (C1_0x.ext ((Ext.refl _).alloc (Obj.cells #[.int .i64 0, .slice none 0 0] 29))).rd 1 rfl)
          | (go_simp; go_at_call 15; with_reducible refine (HT1.out _ (K2.out.trans ((below_next0 K0x (by first | exact Ext.refl _ | exact (Ext.refl _).drew | exact (Ext.refl _).alloc _ | exact ((Ext.refl _).alloc _).drew | exact ((Ext.refl _).drew).alloc _ | exact (((Ext.refl _).drew).alloc _).drew | exact ((Ext.refl _).alloc _).alloc _ | exact (((Ext.refl _).alloc _).alloc _).drew) (Nat.le_refl _)).mono K2.out.size))).mono ?_; rintro e w1x ⟨Ax1, rfl, hb, hw⟩; have K1x := below_next K0x (by first | exact Ext.refl _ | exact (Ext.refl _).drew | exact (Ext.refl _).alloc _ | exact ((Ext.refl _).alloc _).drew | exact ((Ext.refl _).drew).alloc _ | exact (((Ext.refl _).drew).alloc _).drew | exact ((Ext.refl _).alloc _).alloc _ | exact (((Ext.refl _).alloc _).alloc _).drew) hb (Nat.le_refl _); have C0_1x := blk_next C0_0x (by first | exact Ext.refl _ | exact (Ext.refl _).drew | exact (Ext.refl _).alloc _ | exact ((Ext.refl _).alloc _).drew | exact ((Ext.refl _).drew).alloc _ | exact (((Ext.refl _).drew).alloc _).drew | exact ((Ext.refl _).alloc _).alloc _ | exact (((Ext.refl _).alloc _).alloc _).drew) hb; have C1_1x := blk_next C1_0x (by first | exact Ext.refl _ | exact (Ext.refl _).drew | exact (Ext.refl _).alloc _ | exact ((Ext.refl _).alloc _).drew | exact ((Ext.refl _).drew).alloc _ | exact (((Ext.refl _).drew).alloc _).drew | exact ((Ext.refl _).alloc _).alloc _ | exact (((Ext.refl _).alloc _).alloc _).drew) hb; have T0_1x := twr_next T0_0x (by first | exact Ext.refl _ | exact (Ext.refl _).drew | exact (Ext.refl _).alloc _ | exact ((Ext.refl _).alloc _).drew | exact ((Ext.refl _).drew).alloc _ | exact (((Ext.refl _).drew).alloc _).drew | exact ((Ext.refl _).alloc _).alloc _ | exact (((Ext.refl _).alloc _).alloc _).drew) hb; have T1_1x := hw.r; (try replace nb0 := blk_next nb0 (by first | exact Ext.refl _ | exact (Ext.refl _).drew | exact (Ext.refl _).alloc _ | exact ((Ext.refl _).alloc _).drew | exact ((Ext.refl _).drew).alloc _ | exact (((Ext.refl _).drew).alloc _).drew | exact ((Ext.refl _).alloc _).alloc _ | exact (((Ext.refl _).alloc _).alloc _).drew) hb); (try have nb1 := blk_next (Blk.new w0x 29 #[.int .i64 0, .slice none 0 0]) (by first | exact Ext.refl _ | exact (Ext.refl _).drew | exact (Ext.refl _).alloc _ | exact ((Ext.refl _).alloc _).drew | exact ((Ext.refl _).drew).alloc _ | exact (((Ext.refl _).drew).alloc _).drew | exact ((Ext.refl _).alloc _).alloc _ | exact (((Ext.refl _).alloc _).alloc _).drew) hb); clear hb hw; have rb10_0 := C0_1x.rd 0 rfl; have rb1z0_0 := (C0_1x.ext ((Ext.refl _).alloc (Obj.cells #[.int .i64 0, .slice none 0 0] 29))).rd 0 rfl; have rb10_1 := C0_1x.rd 1 rfl; have rb1z0_1 := (C0_1x.ext ((Ext.refl _).alloc (Obj.cells #[.int .i64 0, .slice none 0 0] 29))).rd 1 rfl; have rb11_0 := C1_1x.rd 0 rfl; have rb1z1_0 := (C1_1x.ext ((Ext.refl _).alloc (Obj.cells #[.int .i64 0, .slice none 0 0] 29))).rd 0 rfl; have rb11_1 := C1_1x.rd 1 rfl; have rb1z1_1 := (C1_1x.ext ((Ext.refl _).alloc (Obj.cells #[.int .i64 0, .slice none 0 0] 29))).rd 1 rfl)
          | (go_simp; go_at_call 26; with_reducible refine (HS.out _ Ax0 _ Ax1 _ (Nat.le_refl _) (T0_1x.ext (by first | exact Ext.refl _ | exact (Ext.refl _).drew | exact (Ext.refl _).alloc _ | exact ((Ext.refl _).alloc _).drew | exact ((Ext.refl _).drew).alloc _ | exact (((Ext.refl _).drew).alloc _).drew | exact ((Ext.refl _).alloc _).alloc _ | exact (((Ext.refl _).alloc _).alloc _).drew)).tr (Nat.le_refl _) (T1_1x.ext (by first | exact Ext.refl _ | exact (Ext.refl _).drew | exact (Ext.refl _).alloc _ | exact ((Ext.refl _).alloc _).drew | exact ((Ext.refl _).drew).alloc _ | exact (((Ext.refl _).drew).alloc _).drew | exact ((Ext.refl _).alloc _).alloc _ | exact (((Ext.refl _).alloc _).alloc _).drew)).tr).mono ?_; rintro e w3y ⟨B3_0_, cap3_0, rfl, hb, hw0⟩; have hKc := below_pair K1x (by first | exact Ext.refl _ | exact (Ext.refl _).drew | exact (Ext.refl _).alloc _ | exact ((Ext.refl _).alloc _).drew | exact ((Ext.refl _).drew).alloc _ | exact (((Ext.refl _).drew).alloc _).drew | exact ((Ext.refl _).alloc _).alloc _ | exact (((Ext.refl _).alloc _).alloc _).drew) hb (Nat.le_refl _); (try have nc0 := blk_pair nb0 (by first | exact Ext.refl _ | exact (Ext.refl _).drew | exact (Ext.refl _).alloc _ | exact ((Ext.refl _).alloc _).drew | exact ((Ext.refl _).drew).alloc _ | exact (((Ext.refl _).drew).alloc _).drew | exact ((Ext.refl _).alloc _).alloc _ | exact (((Ext.refl _).alloc _).alloc _).drew) hb); (try replace nb0 := blk_next nb0 (by first | exact Ext.refl _ | exact (Ext.refl _).drew | exact (Ext.refl _).alloc _ | exact ((Ext.refl _).alloc _).drew | exact ((Ext.refl _).drew).alloc _ | exact (((Ext.refl _).drew).alloc _).drew | exact ((Ext.refl _).alloc _).alloc _ | exact (((Ext.refl _).alloc _).alloc _).drew) hb); (try have nc1 := blk_pair nb1 (by first | exact Ext.refl _ | exact (Ext.refl _).drew | exact (Ext.refl _).alloc _ | exact ((Ext.refl _).alloc _).drew | exact ((Ext.refl _).drew).alloc _ | exact (((Ext.refl _).drew).alloc _).drew | exact ((Ext.refl _).alloc _).alloc _ | exact (((Ext.refl _).alloc _).alloc _).drew) hb); (try replace nb1 := blk_next nb1 (by first | exact Ext.refl _ | exact (Ext.refl _).drew | exact (Ext.refl _).alloc _ | exact ((Ext.refl _).alloc _).drew | exact ((Ext.refl _).drew).alloc _ | exact (((Ext.refl _).drew).alloc _).drew | exact ((Ext.refl _).alloc _).alloc _ | exact (((Ext.refl _).alloc _).alloc _).drew) hb); (try have nc2 := blk_pair (Blk.new w1x 29 #[.int .i64 0, .slice none 0 0]) (by first | exact Ext.refl _ | exact (Ext.refl _).drew | exact (Ext.refl _).alloc _ | exact ((Ext.refl _).alloc _).drew | exact ((Ext.refl _).drew).alloc _ | exact (((Ext.refl _).drew).alloc _).drew | exact ((Ext.refl _).alloc _).alloc _ | exact (((Ext.refl _).alloc _).alloc _).drew) hb); (try have nb2 := blk_next (Blk.new w1x 29 #[.int .i64 0, .slice none 0 0]) (by first | exact Ext.refl _ | exact (Ext.refl _).drew | exact (Ext.refl _).alloc _ | exact ((Ext.refl _).alloc _).drew | exact ((Ext.refl _).drew).alloc _ | exact (((Ext.refl _).drew).alloc _).drew | exact ((Ext.refl _).alloc _).alloc _ | exact (((Ext.refl _).alloc _).alloc _).drew) hb); (try have rr0 := nb0.rd 0 rfl); (try have zz0 := nb0.frozen 0); (try have rr1 := nb0.rd 1 rfl); (try have zz1 := nb0.frozen 1); (try have rr0 := nb1.rd 0 rfl); (try have zz0 := nb1.frozen 0); (try have rr1 := nb1.rd 1 rfl); (try have zz1 := nb1.frozen 1); (try have rr0 := nb2.rd 0 rfl); (try have zz0 := nb2.frozen 0); (try have rr1 := nb2.rd 1 rfl); (try have zz1 := nb2.frozen 1)))
        all_goals
          go_wp2_with fail
          go_meet
          first
            | (obtain ⟨h1, h2, h3, h4, h5⟩ := close_set (.int .i64 z0) (.slice B3_0_ m0 cap3_0) _ _ hKc hb hw0 nc0 rfl (Nat.le_refl _) (Nat.le_refl _); exact ⟨_, _, _, rfl, h1, h2, h3, rfl, h4, h5⟩)
            | (obtain ⟨h1, h2, h3, h4, h5⟩ := close_set (.int .i64 z0) (.slice B3_0_ m0 cap3_0) _ _ hKc hb hw0 nc1 rfl K0x.size (Nat.le_refl _); exact ⟨_, _, _, rfl, h1, h2, h3, rfl, h4, h5⟩)
            | (obtain ⟨h1, h2, h3, h4, h5⟩ := close_set (.int .i64 z0) (.slice B3_0_ m0 cap3_0) _ _ hKc hb hw0 nc2 rfl K1x.size (Nat.le_refl _); exact ⟨_, _, _, rfl, h1, h2, h3, rfl, h4, h5⟩)
            | (obtain ⟨h1, h2, h3, h4, h5⟩ := close_new 29 (.int .i64 z0) (.slice B3_0_ m0 cap3_0) hKc hb hw0 (Ext.refl _) (Nat.le_refl _); exact ⟨_, _, _, rfl, h1, h2, h3, rfl, h4, h5⟩)
      case rest =>
        obtain ⟨g3_0, B3_0_, cap3_0, rfl, hgl3, hgs3, hbk3, rfl, hw0, hb⟩ := hcut
        obtain ⟨w3, hwk⟩ : ∃ w', w' = wc := ⟨_, rfl⟩
        subst hwk
        clear ra0_0 ra0_1 ra1_0 ra1_1 raz0_0 raz0_1 raz1_0 raz1_1
        have s3 := hb.size
        have t3_0 := Lib.hid hw0
        have b3 := Lib.hid hbk3
        have K3 := Lib.hid (K2.out.trans (hb.mono K2.out.size))
        have Ba0_3 := Lib.hid (Ba0_2.out.below hb Ba0_2.out.lt)
        have Ba1_3 := Lib.hid (Ba1_2.out.below hb Ba1_2.out.lt)
        clear K2 Ba0_2 Ba1_2
        clear hb hw0 hbk3
        have ra0_0 := Ba0_3.out.rd 0 rfl
        have ra0_1 := Ba0_3.out.rd 1 rfl
        have ra1_0 := Ba1_3.out.rd 0 rfl
        have ra1_1 := Ba1_3.out.rd 1 rfl
        have r3_0 := b3.out.rd 0 rfl
        have r3_1 := b3.out.rd 1 rfl
        go_wp2_with fail
        clear ra0_0 ra0_1 ra1_0 ra1_1 r3_0 r3_1
        refine (HT0.out _ K3.out).mono ?_
        rintro e w4 ⟨A_4, rfl, hb, hw⟩
        have s4 := hb.size
        have t4 := Lib.hid hw.r
        have K4 := Lib.hid (K3.out.trans (hb.mono K3.out.size))
        have Ba0_4 := Lib.hid (Ba0_3.out.below hb Ba0_3.out.lt)
        have Ba1_4 := Lib.hid (Ba1_3.out.below hb Ba1_3.out.lt)
        have B3_4 := Lib.hid (b3.out.below hb b3.out.lt)
        have T3_0_4 := Lib.hid (t3_0.out.below hb)
        clear K3 Ba0_3 Ba1_3 b3 t3_0
        clear hb hw
        have ra0_0 := Ba0_4.out.rd 0 rfl
        have qa0_0 := (Ba0_4.out.ext ((Ext.refl _).alloc (Obj.cells #[.int .i64 c0, .slice A_4 n0 n0] 29))).rd 0 rfl
        have ra0_1 := Ba0_4.out.rd 1 rfl
        have qa0_1 := (Ba0_4.out.ext ((Ext.refl _).alloc (Obj.cells #[.int .i64 c0, .slice A_4 n0 n0] 29))).rd 1 rfl
        have ra1_0 := Ba1_4.out.rd 0 rfl
        have qa1_0 := (Ba1_4.out.ext ((Ext.refl _).alloc (Obj.cells #[.int .i64 c0, .slice A_4 n0 n0] 29))).rd 0 rfl
        have ra1_1 := Ba1_4.out.rd 1 rfl
        have qa1_1 := (Ba1_4.out.ext ((Ext.refl _).alloc (Obj.cells #[.int .i64 c0, .slice A_4 n0 n0] 29))).rd 1 rfl
        have r3_0 := B3_4.out.rd 0 rfl
        have q3_0 := (B3_4.out.ext ((Ext.refl _).alloc (Obj.cells #[.int .i64 c0, .slice A_4 n0 n0] 29))).rd 0 rfl
        have r3_1 := B3_4.out.rd 1 rfl
        have q3_1 := (B3_4.out.ext ((Ext.refl _).alloc (Obj.cells #[.int .i64 c0, .slice A_4 n0 n0] 29))).rd 1 rfl
        go_wp2_with fail
        clear ra0_0 qa0_0 ra0_1 qa0_1 ra1_0 qa1_0 ra1_1 qa1_1 r3_0 q3_0 r3_1 q3_1
        have hx : Ext w4 (w4.alloc (Obj.cells #[.int .i64 c0, .slice A_4 n0 n0] 29)) := (Ext.refl _).alloc _
        have sa5 : w4.heap.size + 1 ≤ (w4.alloc (Obj.cells #[.int .i64 c0, .slice A_4 n0 n0] 29)).heap.size := by simp
        have b5 := Lib.hid (Blk.new w4 29 #[.int .i64 c0, .slice A_4 n0 n0])
        generalize w4.alloc (Obj.cells #[.int .i64 c0, .slice A_4 n0 n0] 29) = w5 at *
        have K5 := Lib.hid (K4.out.trans (hx.below K4.out.size))
        have Ba0_5 := Lib.hid (Ba0_4.out.ext hx)
        have Ba1_5 := Lib.hid (Ba1_4.out.ext hx)
        have B3_5 := Lib.hid (B3_4.out.ext hx)
        have T3_0_5 := Lib.hid (T3_0_4.out.ext hx)
        have T4_5 := Lib.hid (t4.out.ext hx)
        clear K4 Ba0_4 Ba1_4 B3_4 T3_0_4 t4
        clear hx
        refine (HT1.out _ K5.out).mono ?_
        rintro e w6 ⟨A_6, rfl, hb, hw⟩
        have s6 := hb.size
        have t6 := Lib.hid hw.r
        have K6 := Lib.hid (K5.out.trans (hb.mono K5.out.size))
        have Ba0_6 := Lib.hid (Ba0_5.out.below hb Ba0_5.out.lt)
        have Ba1_6 := Lib.hid (Ba1_5.out.below hb Ba1_5.out.lt)
        have B3_6 := Lib.hid (B3_5.out.below hb B3_5.out.lt)
        have B5_6 := Lib.hid (b5.out.below hb b5.out.lt)
        have T3_0_6 := Lib.hid (T3_0_5.out.below hb)
        have T4_6 := Lib.hid (T4_5.out.below hb)
        clear K5 Ba0_5 Ba1_5 B3_5 b5 T3_0_5 T4_5
        clear hb hw
        have ra0_0 := Ba0_6.out.rd 0 rfl
        have qa0_0 := (Ba0_6.out.ext ((Ext.refl _).alloc (Obj.cells #[.int .i64 c1, .slice A_6 n1 n1] 29))).rd 0 rfl
        have ra0_1 := Ba0_6.out.rd 1 rfl
        have qa0_1 := (Ba0_6.out.ext ((Ext.refl _).alloc (Obj.cells #[.int .i64 c1, .slice A_6 n1 n1] 29))).rd 1 rfl
        have ra1_0 := Ba1_6.out.rd 0 rfl
        have qa1_0 := (Ba1_6.out.ext ((Ext.refl _).alloc (Obj.cells #[.int .i64 c1, .slice A_6 n1 n1] 29))).rd 0 rfl
        have ra1_1 := Ba1_6.out.rd 1 rfl
        have qa1_1 := (Ba1_6.out.ext ((Ext.refl _).alloc (Obj.cells #[.int .i64 c1, .slice A_6 n1 n1] 29))).rd 1 rfl
        have r3_0 := B3_6.out.rd 0 rfl
        have q3_0 := (B3_6.out.ext ((Ext.refl _).alloc (Obj.cells #[.int .i64 c1, .slice A_6 n1 n1] 29))).rd 0 rfl
        have r3_1 := B3_6.out.rd 1 rfl
        have q3_1 := (B3_6.out.ext ((Ext.refl _).alloc (Obj.cells #[.int .i64 c1, .slice A_6 n1 n1] 29))).rd 1 rfl
        have r5_0 := B5_6.out.rd 0 rfl
        have q5_0 := (B5_6.out.ext ((Ext.refl _).alloc (Obj.cells #[.int .i64 c1, .slice A_6 n1 n1] 29))).rd 0 rfl
        have r5_1 := B5_6.out.rd 1 rfl
        have q5_1 := (B5_6.out.ext ((Ext.refl _).alloc (Obj.cells #[.int .i64 c1, .slice A_6 n1 n1] 29))).rd 1 rfl
        go_wp2_with fail
        clear ra0_0 qa0_0 ra0_1 qa0_1 ra1_0 qa1_0 ra1_1 qa1_1 r3_0 q3_0 r3_1 q3_1 r5_0 q5_0 r5_1 q5_1
        have hx : Ext w6 (w6.alloc (Obj.cells #[.int .i64 c1, .slice A_6 n1 n1] 29)) := (Ext.refl _).alloc _
        have sa7 : w6.heap.size + 1 ≤ (w6.alloc (Obj.cells #[.int .i64 c1, .slice A_6 n1 n1] 29)).heap.size := by simp
        have b7 := Lib.hid (Blk.new w6 29 #[.int .i64 c1, .slice A_6 n1 n1])
        generalize w6.alloc (Obj.cells #[.int .i64 c1, .slice A_6 n1 n1] 29) = w7 at *
        have K7 := Lib.hid (K6.out.trans (hx.below K6.out.size))
        have Ba0_7 := Lib.hid (Ba0_6.out.ext hx)
        have Ba1_7 := Lib.hid (Ba1_6.out.ext hx)
        have B3_7 := Lib.hid (B3_6.out.ext hx)
        have B5_7 := Lib.hid (B5_6.out.ext hx)
        have T3_0_7 := Lib.hid (T3_0_6.out.ext hx)
        have T4_7 := Lib.hid (T4_6.out.ext hx)
        have T6_7 := Lib.hid (t6.out.ext hx)
        clear K6 Ba0_6 Ba1_6 B3_6 B5_6 T3_0_6 T4_6 t6
        clear hx
        refine (HI.out _ A_4 _ A_6 _ (Nat.le_refl _) T4_7.out.tr (Nat.le_refl _) T6_7.out.tr).mono ?_
        rintro e w8 ⟨B8_0_, cap8_0, rfl, hb, hw0⟩
        have s8 := hb.size
        have t8_0 := Lib.hid hw0.r
        have K8 := Lib.hid (K7.out.trans (hb.mono K7.out.size))
        have Ba0_8 := Lib.hid (Ba0_7.out.below hb Ba0_7.out.lt)
        have Ba1_8 := Lib.hid (Ba1_7.out.below hb Ba1_7.out.lt)
        have B3_8 := Lib.hid (B3_7.out.below hb B3_7.out.lt)
        have B5_8 := Lib.hid (B5_7.out.below hb B5_7.out.lt)
        have B7_8 := Lib.hid (b7.out.below hb b7.out.lt)
        have T3_0_8 := Lib.hid (T3_0_7.out.below hb)
        have T4_8 := Lib.hid (T4_7.out.below hb)
        have T6_8 := Lib.hid (T6_7.out.below hb)
        clear K7 Ba0_7 Ba1_7 B3_7 B5_7 b7 T3_0_7 T4_7 T6_7
        clear hb hw0
        have ra0_0 := Ba0_8.out.rd 0 rfl
        have qa0_0 := (Ba0_8.out.ext ((Ext.refl _).alloc (Obj.cells #[.int .i64 z0, .slice B8_0_ m0 cap8_0] 29))).rd 0 rfl
        have ra0_1 := Ba0_8.out.rd 1 rfl
        have qa0_1 := (Ba0_8.out.ext ((Ext.refl _).alloc (Obj.cells #[.int .i64 z0, .slice B8_0_ m0 cap8_0] 29))).rd 1 rfl
        have ra1_0 := Ba1_8.out.rd 0 rfl
        have qa1_0 := (Ba1_8.out.ext ((Ext.refl _).alloc (Obj.cells #[.int .i64 z0, .slice B8_0_ m0 cap8_0] 29))).rd 0 rfl
        have ra1_1 := Ba1_8.out.rd 1 rfl
        have qa1_1 := (Ba1_8.out.ext ((Ext.refl _).alloc (Obj.cells #[.int .i64 z0, .slice B8_0_ m0 cap8_0] 29))).rd 1 rfl
        have r3_0 := B3_8.out.rd 0 rfl
        have q3_0 := (B3_8.out.ext ((Ext.refl _).alloc (Obj.cells #[.int .i64 z0, .slice B8_0_ m0 cap8_0] 29))).rd 0 rfl
        have r3_1 := B3_8.out.rd 1 rfl
        have q3_1 := (B3_8.out.ext ((Ext.refl _).alloc (Obj.cells #[.int .i64 z0, .slice B8_0_ m0 cap8_0] 29))).rd 1 rfl
        have r5_0 := B5_8.out.rd 0 rfl
        have q5_0 := (B5_8.out.ext ((Ext.refl _).alloc (Obj.cells #[.int .i64 z0, .slice B8_0_ m0 cap8_0] 29))).rd 0 rfl
        have r5_1 := B5_8.out.rd 1 rfl
        have q5_1 := (B5_8.out.ext ((Ext.refl _).alloc (Obj.cells #[.int .i64 z0, .slice B8_0_ m0 cap8_0] 29))).rd 1 rfl
        have r7_0 := B7_8.out.rd 0 rfl
        have q7_0 := (B7_8.out.ext ((Ext.refl _).alloc (Obj.cells #[.int .i64 z0, .slice B8_0_ m0 cap8_0] 29))).rd 0 rfl
        have r7_1 := B7_8.out.rd 1 rfl
        have q7_1 := (B7_8.out.ext ((Ext.refl _).alloc (Obj.cells #[.int .i64 z0, .slice B8_0_ m0 cap8_0] 29))).rd 1 rfl
        go_wp2_with fail
        clear ra0_0 qa0_0 ra0_1 qa0_1 ra1_0 qa1_0 ra1_1 qa1_1 r3_0 q3_0 r3_1 q3_1 r5_0 q5_0 r5_1 q5_1 r7_0 q7_0 r7_1 q7_1
        have hx : Ext w8 (w8.alloc (Obj.cells #[.int .i64 z0, .slice B8_0_ m0 cap8_0] 29)) := (Ext.refl _).alloc _
        have sa9 : w8.heap.size + 1 ≤ (w8.alloc (Obj.cells #[.int .i64 z0, .slice B8_0_ m0 cap8_0] 29)).heap.size := by simp
        have b9 := Lib.hid (Blk.new w8 29 #[.int .i64 z0, .slice B8_0_ m0 cap8_0])
        generalize w8.alloc (Obj.cells #[.int .i64 z0, .slice B8_0_ m0 cap8_0] 29) = w9 at *
        have K9 := Lib.hid (K8.out.trans (hx.below K8.out.size))
        have Ba0_9 := Lib.hid (Ba0_8.out.ext hx)
        have Ba1_9 := Lib.hid (Ba1_8.out.ext hx)
        have B3_9 := Lib.hid (B3_8.out.ext hx)
        have B5_9 := Lib.hid (B5_8.out.ext hx)
        have B7_9 := Lib.hid (B7_8.out.ext hx)
        have T3_0_9 := Lib.hid (T3_0_8.out.ext hx)
        have T4_9 := Lib.hid (T4_8.out.ext hx)
        have T6_9 := Lib.hid (T6_8.out.ext hx)
        have T8_0_9 := Lib.hid (t8_0.out.ext hx)
        clear K8 Ba0_8 Ba1_8 B3_8 B5_8 B7_8 T3_0_8 T4_8 T6_8 t8_0
        clear hx
        refine (eqSet_any z0 z0 B8_0_ B3_0_ m0 m0 _ _ us0 us0 _ (by omega) HM0.out HM0.out T8_0_9.out.tr T3_0_9.out.tr).mono ?_
        rw [decide_eq_true (⟨rfl, rfl⟩ : z0 = z0 ∧ us0 = us0)]
        rintro e w10 ⟨rfl, hx⟩
        have s10 := (hx.below (Nat.le_refl _)).size
        have K10 := Lib.hid (K9.out.trans (hx.below K9.out.size))
        have Ba0_10 := Lib.hid (Ba0_9.out.ext hx)
        have Ba1_10 := Lib.hid (Ba1_9.out.ext hx)
        have B3_10 := Lib.hid (B3_9.out.ext hx)
        have B5_10 := Lib.hid (B5_9.out.ext hx)
        have B7_10 := Lib.hid (B7_9.out.ext hx)
        have B9_10 := Lib.hid (b9.out.ext hx)
        have T3_0_10 := Lib.hid (T3_0_9.out.ext hx)
        have T4_10 := Lib.hid (T4_9.out.ext hx)
        have T6_10 := Lib.hid (T6_9.out.ext hx)
        have T8_0_10 := Lib.hid (T8_0_9.out.ext hx)
        clear K9 Ba0_9 Ba1_9 B3_9 B5_9 B7_9 b9 T3_0_9 T4_9 T6_9 T8_0_9
        clear hx
        have ra0_0 := Ba0_10.out.rd 0 rfl
        have ra0_1 := Ba0_10.out.rd 1 rfl
        have ra1_0 := Ba1_10.out.rd 0 rfl
        have ra1_1 := Ba1_10.out.rd 1 rfl
        have r3_0 := B3_10.out.rd 0 rfl
        have r3_1 := B3_10.out.rd 1 rfl
        have r5_0 := B5_10.out.rd 0 rfl
        have r5_1 := B5_10.out.rd 1 rfl
        have r7_0 := B7_10.out.rd 0 rfl
        have r7_1 := B7_10.out.rd 1 rfl
        have r9_0 := B9_10.out.rd 0 rfl
        have r9_1 := B9_10.out.rd 1 rfl
        go_wp2_with fail
        clear ra0_0 ra0_1 ra1_0 ra1_1 r3_0 r3_1 r5_0 r5_1 r7_0 r7_1 r9_0 r9_1
        have ra0_0 := Ba0_10.out.rd 0 rfl
        have ra0_1 := Ba0_10.out.rd 1 rfl
        have ra1_0 := Ba1_10.out.rd 0 rfl
        have ra1_1 := Ba1_10.out.rd 1 rfl
        have r3_0 := B3_10.out.rd 0 rfl
        have r3_1 := B3_10.out.rd 1 rfl
        have r5_0 := B5_10.out.rd 0 rfl
        have r5_1 := B5_10.out.rd 1 rfl
        have r7_0 := B7_10.out.rd 0 rfl
        have r7_1 := B7_10.out.rd 1 rfl
        have r9_0 := B9_10.out.rd 0 rfl
        have r9_1 := B9_10.out.rd 1 rfl
        go_region_held3 (fun w' => w'.cell? ⟨w.heap.size, 0, none⟩ = some (.int .i64 c0) ∧ w'.cell? ⟨w.heap.size, 1, none⟩ = some (.slice A0 n0 q0) ∧ w'.cell? ⟨w4.heap.size, 0, none⟩ = some (.int .i64 c0) ∧ w'.cell? ⟨w4.heap.size, 1, none⟩ = some (.slice A_4 n0 n0))
          (first | exact ⟨ka0_0, ka0_1, k5_0, k5_1⟩ | exact ⟨la0_0, la0_1, l5_0, l5_1⟩ | go_keep)
          (first
            | (go_at_call 15; refine (HT0.out _ K10.out.drew).mono ?_; rintro e w11 ⟨A_11, rfl, hb, hw⟩; have s11 := hb.size; simp only [World.size_drew] at s11; have t11 := Lib.hid hw.r; have K11 := Lib.hid (K10.out.drew.trans (hb.mono K10.out.size)); have Ba0_11 := Lib.hid (Blk.below (w := w10.drew) Ba0_10.out hb Ba0_10.out.lt); have Ba1_11 := Lib.hid (Blk.below (w := w10.drew) Ba1_10.out hb Ba1_10.out.lt); have B3_11 := Lib.hid (Blk.below (w := w10.drew) B3_10.out hb B3_10.out.lt); have B5_11 := Lib.hid (Blk.below (w := w10.drew) B5_10.out hb B5_10.out.lt); have B7_11 := Lib.hid (Blk.below (w := w10.drew) B7_10.out hb B7_10.out.lt); have B9_11 := Lib.hid (Blk.below (w := w10.drew) B9_10.out hb B9_10.out.lt); have T3_0_11 := Lib.hid (TWr.below (w := w10.drew) T3_0_10.out hb); have T4_11 := Lib.hid (TWr.below (w := w10.drew) T4_10.out hb); have T6_11 := Lib.hid (TWr.below (w := w10.drew) T6_10.out hb); have T8_0_11 := Lib.hid (TWr.below (w := w10.drew) T8_0_10.out hb); clear K10 Ba0_10 Ba1_10 B3_10 B5_10 B7_10 B9_10 T3_0_10 T4_10 T6_10 T8_0_10; clear hb hw; have ka0_0 := Ba0_11.out.rd 0 rfl; have ka0_1 := Ba0_11.out.rd 1 rfl; have k5_0 := B5_11.out.rd 0 rfl; have k5_1 := B5_11.out.rd 1 rfl)
            | (go_at_call 18; refine (eqSet_any c0 c0 A_4 A_11 n0 n0 _ _ ts0 ts0 _ (by omega) HL0.out HL0.out T4_11.out.tr t11.out.tr).mono ?_; rw [decide_eq_true (⟨rfl, rfl⟩ : c0 = c0 ∧ ts0 = ts0)]; rintro e w12 ⟨rfl, hx⟩; have s12 := (hx.below (Nat.le_refl _)).size; clear ka0_0 ka0_1 k5_0 k5_1; have K12 := Lib.hid (K11.out.trans (hx.below K11.out.size)); have Ba0_12 := Lib.hid (Ba0_11.out.ext hx); have Ba1_12 := Lib.hid (Ba1_11.out.ext hx); have B3_12 := Lib.hid (B3_11.out.ext hx); have B5_12 := Lib.hid (B5_11.out.ext hx); have B7_12 := Lib.hid (B7_11.out.ext hx); have B9_12 := Lib.hid (B9_11.out.ext hx); have T3_0_12 := Lib.hid (T3_0_11.out.ext hx); have T4_12 := Lib.hid (T4_11.out.ext hx); have T6_12 := Lib.hid (T6_11.out.ext hx); have T8_0_12 := Lib.hid (T8_0_11.out.ext hx); have T11_12 := Lib.hid (t11.out.ext hx); clear K11 Ba0_11 Ba1_11 B3_11 B5_11 B7_11 B9_11 T3_0_11 T4_11 T6_11 T8_0_11 t11; clear hx; have la0_0 := Ba0_12.out.rd 0 rfl; have la0_1 := Ba0_12.out.rd 1 rfl; have l5_0 := B5_12.out.rd 0 rfl; have l5_1 := B5_12.out.rd 1 rfl))
        clear la0_0 la0_1 l5_0 l5_1 ra0_0 ra0_1 ra1_0 ra1_1 r3_0 r3_1 r5_0 r5_1 r7_0 r7_1 r9_0 r9_1
        clear T11_12
        have ra0_0 := Ba0_12.out.rd 0 rfl
        have ra0_1 := Ba0_12.out.rd 1 rfl
        have ra1_0 := Ba1_12.out.rd 0 rfl
        have ra1_1 := Ba1_12.out.rd 1 rfl
        have r3_0 := B3_12.out.rd 0 rfl
        have r3_1 := B3_12.out.rd 1 rfl
        have r5_0 := B5_12.out.rd 0 rfl
        have r5_1 := B5_12.out.rd 1 rfl
        have r7_0 := B7_12.out.rd 0 rfl
        have r7_1 := B7_12.out.rd 1 rfl
        have r9_0 := B9_12.out.rd 0 rfl
        have r9_1 := B9_12.out.rd 1 rfl
        go_wp2_with fail
        clear ra0_0 ra0_1 ra1_0 ra1_1 r3_0 r3_1 r5_0 r5_1 r7_0 r7_1 r9_0 r9_1
        have ra0_0 := Ba0_12.out.rd 0 rfl
        have ra0_1 := Ba0_12.out.rd 1 rfl
        have ra1_0 := Ba1_12.out.rd 0 rfl
        have ra1_1 := Ba1_12.out.rd 1 rfl
        have r3_0 := B3_12.out.rd 0 rfl
        have r3_1 := B3_12.out.rd 1 rfl
        have r5_0 := B5_12.out.rd 0 rfl
        have r5_1 := B5_12.out.rd 1 rfl
        have r7_0 := B7_12.out.rd 0 rfl
        have r7_1 := B7_12.out.rd 1 rfl
        have r9_0 := B9_12.out.rd 0 rfl
        have r9_1 := B9_12.out.rd 1 rfl
        go_region_held3 (fun w' => w'.cell? ⟨(w.heap.size + 1), 0, none⟩ = some (.int .i64 c1) ∧ w'.cell? ⟨(w.heap.size + 1), 1, none⟩ = some (.slice A1 n1 q1) ∧ w'.cell? ⟨w6.heap.size, 0, none⟩ = some (.int .i64 c1) ∧ w'.cell? ⟨w6.heap.size, 1, none⟩ = some (.slice A_6 n1 n1))
          (first | exact ⟨ka1_0, ka1_1, k7_0, k7_1⟩ | exact ⟨la1_0, la1_1, l7_0, l7_1⟩ | go_keep)
          (first
            | (go_at_call 15; refine (HT1.out _ K12.out.drew).mono ?_; rintro e w13 ⟨A_13, rfl, hb, hw⟩; have s13 := hb.size; simp only [World.size_drew] at s13; have t13 := Lib.hid hw.r; have K13 := Lib.hid (K12.out.drew.trans (hb.mono K12.out.size)); have Ba0_13 := Lib.hid (Blk.below (w := w12.drew) Ba0_12.out hb Ba0_12.out.lt); have Ba1_13 := Lib.hid (Blk.below (w := w12.drew) Ba1_12.out hb Ba1_12.out.lt); have B3_13 := Lib.hid (Blk.below (w := w12.drew) B3_12.out hb B3_12.out.lt); have B5_13 := Lib.hid (Blk.below (w := w12.drew) B5_12.out hb B5_12.out.lt); have B7_13 := Lib.hid (Blk.below (w := w12.drew) B7_12.out hb B7_12.out.lt); have B9_13 := Lib.hid (Blk.below (w := w12.drew) B9_12.out hb B9_12.out.lt); have T3_0_13 := Lib.hid (TWr.below (w := w12.drew) T3_0_12.out hb); have T4_13 := Lib.hid (TWr.below (w := w12.drew) T4_12.out hb); have T6_13 := Lib.hid (TWr.below (w := w12.drew) T6_12.out hb); have T8_0_13 := Lib.hid (TWr.below (w := w12.drew) T8_0_12.out hb); clear K12 Ba0_12 Ba1_12 B3_12 B5_12 B7_12 B9_12 T3_0_12 T4_12 T6_12 T8_0_12; clear hb hw; have ka1_0 := Ba1_13.out.rd 0 rfl; have ka1_1 := Ba1_13.out.rd 1 rfl; have k7_0 := B7_13.out.rd 0 rfl; have k7_1 := B7_13.out.rd 1 rfl)
            | (go_at_call 18; refine (eqSet_any c1 c1 A_6 A_13 n1 n1 _ _ ts1 ts1 _ (by omega) HL1.out HL1.out T6_13.out.tr t13.out.tr).mono ?_; rw [decide_eq_true (⟨rfl, rfl⟩ : c1 = c1 ∧ ts1 = ts1)]; rintro e w14 ⟨rfl, hx⟩; have s14 := (hx.below (Nat.le_refl _)).size; clear ka1_0 ka1_1 k7_0 k7_1; have K14 := Lib.hid (K13.out.trans (hx.below K13.out.size)); have Ba0_14 := Lib.hid (Ba0_13.out.ext hx); have Ba1_14 := Lib.hid (Ba1_13.out.ext hx); have B3_14 := Lib.hid (B3_13.out.ext hx); have B5_14 := Lib.hid (B5_13.out.ext hx); have B7_14 := Lib.hid (B7_13.out.ext hx); have B9_14 := Lib.hid (B9_13.out.ext hx); have T3_0_14 := Lib.hid (T3_0_13.out.ext hx); have T4_14 := Lib.hid (T4_13.out.ext hx); have T6_14 := Lib.hid (T6_13.out.ext hx); have T8_0_14 := Lib.hid (T8_0_13.out.ext hx); have T13_14 := Lib.hid (t13.out.ext hx); clear K13 Ba0_13 Ba1_13 B3_13 B5_13 B7_13 B9_13 T3_0_13 T4_13 T6_13 T8_0_13 t13; clear hx; have la1_0 := Ba1_14.out.rd 0 rfl; have la1_1 := Ba1_14.out.rd 1 rfl; have l7_0 := B7_14.out.rd 0 rfl; have l7_1 := B7_14.out.rd 1 rfl))
        clear la1_0 la1_1 l7_0 l7_1 ra0_0 ra0_1 ra1_0 ra1_1 r3_0 r3_1 r5_0 r5_1 r7_0 r7_1 r9_0 r9_1
        clear T13_14
        have ra0_0 := Ba0_14.out.rd 0 rfl
        have ra0_1 := Ba0_14.out.rd 1 rfl
        have ra1_0 := Ba1_14.out.rd 0 rfl
        have ra1_1 := Ba1_14.out.rd 1 rfl
        have r3_0 := B3_14.out.rd 0 rfl
        have r3_1 := B3_14.out.rd 1 rfl
        have r5_0 := B5_14.out.rd 0 rfl
        have r5_1 := B5_14.out.rd 1 rfl
        have r7_0 := B7_14.out.rd 0 rfl
        have r7_1 := B7_14.out.rd 1 rfl
        have r9_0 := B9_14.out.rd 0 rfl
        have r9_1 := B9_14.out.rd 1 rfl
        go_wp2_with fail
        clear ra0_0 ra0_1 ra1_0 ra1_1 r3_0 r3_1 r5_0 r5_1 r7_0 r7_1 r9_0 r9_1
        refine (markSet_at c0 A_4 n0 _ (1) ts0 _ _ _ (by omega) (by omega) (by omega) HL0.out T4_14.out).mono ?_
        rintro e w15 ⟨rfl, ho, hw⟩
        have s15 := ho.size
        have t15 := Lib.hid hw
        have K15 := Lib.hid (K14.out.trans (ho.below (by omega) K14.out.size))
        have Ba0_15 := Lib.hid (Ba0_14.out.only ho (by omega))
        have Ba1_15 := Lib.hid (Ba1_14.out.only ho (by omega))
        have B3_15 := Lib.hid (B3_14.out.only ho (by omega))
        have B5_15 := Lib.hid (B5_14.out.only ho (by omega))
        have B7_15 := Lib.hid (B7_14.out.only ho (by omega))
        have B9_15 := Lib.hid (B9_14.out.only ho (by omega))
        have T3_0_15 := Lib.hid (T3_0_14.out.only ho (by omega))
        have T6_15 := Lib.hid (T6_14.out.only ho (by omega))
        have T8_0_15 := Lib.hid (T8_0_14.out.only ho (by omega))
        clear K14 Ba0_14 Ba1_14 B3_14 B5_14 B7_14 B9_14 T3_0_14 T6_14 T8_0_14
        clear ho hw T4_14
        have ra0_0 := Ba0_15.out.rd 0 rfl
        have ra0_1 := Ba0_15.out.rd 1 rfl
        have ra1_0 := Ba1_15.out.rd 0 rfl
        have ra1_1 := Ba1_15.out.rd 1 rfl
        have r3_0 := B3_15.out.rd 0 rfl
        have r3_1 := B3_15.out.rd 1 rfl
        have r5_0 := B5_15.out.rd 0 rfl
        have r5_1 := B5_15.out.rd 1 rfl
        have r7_0 := B7_15.out.rd 0 rfl
        have r7_1 := B7_15.out.rd 1 rfl
        have r9_0 := B9_15.out.rd 0 rfl
        have r9_1 := B9_15.out.rd 1 rfl
        go_wp2_with fail
        clear ra0_0 ra0_1 ra1_0 ra1_1 r3_0 r3_1 r5_0 r5_1 r7_0 r7_1 r9_0 r9_1
        refine (markSet_at c1 A_6 n1 _ (1 + 4 * (n0 : Int)) ts1 _ _ _ (by omega) (by omega) (by omega) HL1.out T6_15.out).mono ?_
        rintro e w16 ⟨rfl, ho, hw⟩
        have s16 := ho.size
        have t16 := Lib.hid hw
        have K16 := Lib.hid (K15.out.trans (ho.below (by omega) K15.out.size))
        have Ba0_16 := Lib.hid (Ba0_15.out.only ho (by omega))
        have Ba1_16 := Lib.hid (Ba1_15.out.only ho (by omega))
        have B3_16 := Lib.hid (B3_15.out.only ho (by omega))
        have B5_16 := Lib.hid (B5_15.out.only ho (by omega))
        have B7_16 := Lib.hid (B7_15.out.only ho (by omega))
        have B9_16 := Lib.hid (B9_15.out.only ho (by omega))
        have T3_0_16 := Lib.hid (T3_0_15.out.only ho (by omega))
        have T4_16 := Lib.hid (t15.out.only ho (by omega))
        have T8_0_16 := Lib.hid (T8_0_15.out.only ho (by omega))
        clear K15 Ba0_15 Ba1_15 B3_15 B5_15 B7_15 B9_15 T3_0_15 t15 T8_0_15
        clear ho hw T6_15
        have ra0_0 := Ba0_16.out.rd 0 rfl
        have ra0_1 := Ba0_16.out.rd 1 rfl
        have ra1_0 := Ba1_16.out.rd 0 rfl
        have ra1_1 := Ba1_16.out.rd 1 rfl
        have r3_0 := B3_16.out.rd 0 rfl
        have r3_1 := B3_16.out.rd 1 rfl
        have r5_0 := B5_16.out.rd 0 rfl
        have r5_1 := B5_16.out.rd 1 rfl
        have r7_0 := B7_16.out.rd 0 rfl
        have r7_1 := B7_16.out.rd 1 rfl
        have r9_0 := B9_16.out.rd 0 rfl
        have r9_1 := B9_16.out.rd 1 rfl
        go_wp2_with fail
        clear ra0_0 ra0_1 ra1_0 ra1_1 r3_0 r3_1 r5_0 r5_1 r7_0 r7_1 r9_0 r9_1
        refine (eqSet_any z0 z0 B8_0_ B3_0_ m0 m0 _ _ us0 us0 _ (by omega) HM0.out HM0.out T8_0_16.out.tr T3_0_16.out.tr).mono ?_
        rw [decide_eq_true (⟨rfl, rfl⟩ : z0 = z0 ∧ us0 = us0)]
        rintro e w17 ⟨rfl, hx⟩
        have s17 := (hx.below (Nat.le_refl _)).size
        have K17 := Lib.hid (K16.out.trans (hx.below K16.out.size))
        have Ba0_17 := Lib.hid (Ba0_16.out.ext hx)
        have Ba1_17 := Lib.hid (Ba1_16.out.ext hx)
        have B3_17 := Lib.hid (B3_16.out.ext hx)
        have B5_17 := Lib.hid (B5_16.out.ext hx)
        have B7_17 := Lib.hid (B7_16.out.ext hx)
        have B9_17 := Lib.hid (B9_16.out.ext hx)
        have T3_0_17 := Lib.hid (T3_0_16.out.ext hx)
        have T4_17 := Lib.hid (T4_16.out.ext hx)
        have T6_17 := Lib.hid (t16.out.ext hx)
        have T8_0_17 := Lib.hid (T8_0_16.out.ext hx)
        clear K16 Ba0_16 Ba1_16 B3_16 B5_16 B7_16 B9_16 T3_0_16 T4_16 t16 T8_0_16
        clear hx
        have ra0_0 := Ba0_17.out.rd 0 rfl
        have ra0_1 := Ba0_17.out.rd 1 rfl
        have ra1_0 := Ba1_17.out.rd 0 rfl
        have ra1_1 := Ba1_17.out.rd 1 rfl
        have r3_0 := B3_17.out.rd 0 rfl
        have r3_1 := B3_17.out.rd 1 rfl
        have r5_0 := B5_17.out.rd 0 rfl
        have r5_1 := B5_17.out.rd 1 rfl
        have r7_0 := B7_17.out.rd 0 rfl
        have r7_1 := B7_17.out.rd 1 rfl
        have r9_0 := B9_17.out.rd 0 rfl
        have r9_1 := B9_17.out.rd 1 rfl
        go_wp2_with fail
        clear ra0_0 ra0_1 ra1_0 ra1_1 r3_0 r3_1 r5_0 r5_1 r7_0 r7_1 r9_0 r9_1
        refine (markSet_at z0 B8_0_ m0 _ (1) us0 _ _ _ (by omega) (by omega) (by omega) HM0.out T8_0_17.out).mono ?_
        rintro e w18 ⟨rfl, ho, hw⟩
        have s18 := ho.size
        have t18 := Lib.hid hw
        have K18 := Lib.hid (K17.out.trans (ho.below (by omega) K17.out.size))
        have Ba0_18 := Lib.hid (Ba0_17.out.only ho (by omega))
        have Ba1_18 := Lib.hid (Ba1_17.out.only ho (by omega))
        have B3_18 := Lib.hid (B3_17.out.only ho (by omega))
        have B5_18 := Lib.hid (B5_17.out.only ho (by omega))
        have B7_18 := Lib.hid (B7_17.out.only ho (by omega))
        have B9_18 := Lib.hid (B9_17.out.only ho (by omega))
        have T3_0_18 := Lib.hid (T3_0_17.out.only ho (by omega))
        have T4_18 := Lib.hid (T4_17.out.only ho (by omega))
        have T6_18 := Lib.hid (T6_17.out.only ho (by omega))
        clear K17 Ba0_17 Ba1_17 B3_17 B5_17 B7_17 B9_17 T3_0_17 T4_17 T6_17
        clear ho hw T8_0_17
        have ra0_0 := Ba0_18.out.rd 0 rfl
        have ra0_1 := Ba0_18.out.rd 1 rfl
        have ra1_0 := Ba1_18.out.rd 0 rfl
        have ra1_1 := Ba1_18.out.rd 1 rfl
        have r3_0 := B3_18.out.rd 0 rfl
        have r3_1 := B3_18.out.rd 1 rfl
        have r5_0 := B5_18.out.rd 0 rfl
        have r5_1 := B5_18.out.rd 1 rfl
        have r7_0 := B7_18.out.rd 0 rfl
        have r7_1 := B7_18.out.rd 1 rfl
        have r9_0 := B9_18.out.rd 0 rfl
        have r9_1 := B9_18.out.rd 1 rfl
        go_wp2_with fail
        clear ra0_0 ra0_1 ra1_0 ra1_1 r3_0 r3_1 r5_0 r5_1 r7_0 r7_1 r9_0 r9_1
        refine (heldSet_at z0 B8_0_ m0 _ (1) _ (by omega) (by omega) (by omega) t18.out.tr).mono ?_
        rintro e w19 ⟨rfl, hx⟩
        have s19 := (hx.below (Nat.le_refl _)).size
        have K19 := Lib.hid (K18.out.trans (hx.below K18.out.size))
        have Ba0_19 := Lib.hid (Ba0_18.out.ext hx)
        have Ba1_19 := Lib.hid (Ba1_18.out.ext hx)
        have B3_19 := Lib.hid (B3_18.out.ext hx)
        have B5_19 := Lib.hid (B5_18.out.ext hx)
        have B7_19 := Lib.hid (B7_18.out.ext hx)
        have B9_19 := Lib.hid (B9_18.out.ext hx)
        have T3_0_19 := Lib.hid (T3_0_18.out.ext hx)
        have T4_19 := Lib.hid (T4_18.out.ext hx)
        have T6_19 := Lib.hid (T6_18.out.ext hx)
        have T8_0_19 := Lib.hid (t18.out.ext hx)
        clear K18 Ba0_18 Ba1_18 B3_18 B5_18 B7_18 B9_18 T3_0_18 T4_18 T6_18 t18
        clear hx
        have ra0_0 := Ba0_19.out.rd 0 rfl
        have ra0_1 := Ba0_19.out.rd 1 rfl
        have ra1_0 := Ba1_19.out.rd 0 rfl
        have ra1_1 := Ba1_19.out.rd 1 rfl
        have r3_0 := B3_19.out.rd 0 rfl
        have r3_1 := B3_19.out.rd 1 rfl
        have r5_0 := B5_19.out.rd 0 rfl
        have r5_1 := B5_19.out.rd 1 rfl
        have r7_0 := B7_19.out.rd 0 rfl
        have r7_1 := B7_19.out.rd 1 rfl
        have r9_0 := B9_19.out.rd 0 rfl
        have r9_1 := B9_19.out.rd 1 rfl
        go_wp2_with fail
        clear ra0_0 ra0_1 ra1_0 ra1_1 r3_0 r3_1 r5_0 r5_1 r7_0 r7_1 r9_0 r9_1
        have ra0_0 := Ba0_19.out.rd 0 rfl
        have raz0_0 := (Ba0_19.out.ext ((Ext.refl _).alloc (Obj.cells #[.int .i64 0, .slice none 0 0] 29))).rd 0 rfl
        have ra0_1 := Ba0_19.out.rd 1 rfl
        have raz0_1 := (Ba0_19.out.ext ((Ext.refl _).alloc (Obj.cells #[.int .i64 0, .slice none 0 0] 29))).rd 1 rfl
        have ra1_0 := Ba1_19.out.rd 0 rfl
        have raz1_0 := (Ba1_19.out.ext ((Ext.refl _).alloc (Obj.cells #[.int .i64 0, .slice none 0 0] 29))).rd 0 rfl
        have ra1_1 := Ba1_19.out.rd 1 rfl
        have raz1_1 := (Ba1_19.out.ext ((Ext.refl _).alloc (Obj.cells #[.int .i64 0, .slice none 0 0] 29))).rd 1 rfl
        go_upto_region 30 with (fail)
        go_cut [15, 16] (fun v15 v16 wx => ∃ (g0 : Nat) (R0 : Option Addr) (p0 : Nat), v15 = .pointer (some ⟨g0, 0, none⟩) ∧ w19.heap.size ≤ g0 ∧ g0 < wx.heap.size ∧ Blk wx g0 29 #[.int .i64 z0, .slice R0 m0 p0] ∧ v16 = .int .i64 r1 ∧ TWr wx w19.heap.size wx.heap.size R0 us0 ∧ Below w19.heap.size w19 wx)
        case first =>
          go_region_law (first
            | (go_simp; go_at_call 15; with_reducible refine (HT0.out _ (K19.out.trans ((below_next0 (Below.refl w19.heap.size w19) (by first | exact Ext.refl _ | exact (Ext.refl _).drew | exact (Ext.refl _).alloc _ | exact ((Ext.refl _).alloc _).drew | exact ((Ext.refl _).drew).alloc _ | exact (((Ext.refl _).drew).alloc _).drew | exact ((Ext.refl _).alloc _).alloc _ | exact (((Ext.refl _).alloc _).alloc _).drew) (Nat.le_refl _)).mono K19.out.size))).mono ?_; rintro e w0x ⟨Ax0, rfl, hb, hw⟩; have K0x := below_next (Below.refl w19.heap.size w19) (by first | exact Ext.refl _ | exact (Ext.refl _).drew | exact (Ext.refl _).alloc _ | exact ((Ext.refl _).alloc _).drew | exact ((Ext.refl _).drew).alloc _ | exact (((Ext.refl _).drew).alloc _).drew | exact ((Ext.refl _).alloc _).alloc _ | exact (((Ext.refl _).alloc _).alloc _).drew) hb (Nat.le_refl _); have C0_0x := blk_next Ba0_19.out (by first | exact Ext.refl _ | exact (Ext.refl _).drew | exact (Ext.refl _).alloc _ | exact ((Ext.refl _).alloc _).drew | exact ((Ext.refl _).drew).alloc _ | exact (((Ext.refl _).drew).alloc _).drew | exact ((Ext.refl _).alloc _).alloc _ | exact (((Ext.refl _).alloc _).alloc _).drew) hb; have C1_0x := blk_next Ba1_19.out (by first | exact Ext.refl _ | exact (Ext.refl _).drew | exact (Ext.refl _).alloc _ | exact ((Ext.refl _).alloc _).drew | exact ((Ext.refl _).drew).alloc _ | exact (((Ext.refl _).drew).alloc _).drew | exact ((Ext.refl _).alloc _).alloc _ | exact (((Ext.refl _).alloc _).alloc _).drew) hb; have T0_0x := hw.r; (try have nb0 := blk_next (Blk.new w19 29 #[.int .i64 0, .slice none 0 0]) (by first | exact Ext.refl _ | exact (Ext.refl _).drew | exact (Ext.refl _).alloc _ | exact ((Ext.refl _).alloc _).drew | exact ((Ext.refl _).drew).alloc _ | exact (((Ext.refl _).drew).alloc _).drew | exact ((Ext.refl _).alloc _).alloc _ | exact (((Ext.refl _).alloc _).alloc _).drew) hb); clear hb hw; have rb00_0 := C0_0x.rd 0 rfl; have rb0z0_0 := (C0_0x.ext ((Ext.refl _).alloc (Obj.cells #[.int .i64 0, .slice none 0 0] 29))).rd 0 rfl; have rb00_1 := C0_0x.rd 1 rfl; have rb0z0_1 := (C0_0x.ext ((Ext.refl _).alloc (Obj.cells #[.int .i64 0, .slice none 0 0] 29))).rd 1 rfl; have rb01_0 := C1_0x.rd 0 rfl; have rb0z1_0 := (C1_0x.ext ((Ext.refl _).alloc (Obj.cells #[.int .i64 0, .slice none 0 0] 29))).rd 0 rfl; have rb01_1 := C1_0x.rd 1 rfl; have rb0z1_1 := (C1_0x.ext ((Ext.refl _).alloc (Obj.cells #[.int .i64 0, .slice none 0 0] 29))).rd 1 rfl)
            | (go_simp; go_at_call 15; with_reducible refine (HT1.out _ (K19.out.trans ((below_next0 K0x (by first | exact Ext.refl _ | exact (Ext.refl _).drew | exact (Ext.refl _).alloc _ | exact ((Ext.refl _).alloc _).drew | exact ((Ext.refl _).drew).alloc _ | exact (((Ext.refl _).drew).alloc _).drew | exact ((Ext.refl _).alloc _).alloc _ | exact (((Ext.refl _).alloc _).alloc _).drew) (Nat.le_refl _)).mono K19.out.size))).mono ?_; rintro e w1x ⟨Ax1, rfl, hb, hw⟩; have K1x := below_next K0x (by first | exact Ext.refl _ | exact (Ext.refl _).drew | exact (Ext.refl _).alloc _ | exact ((Ext.refl _).alloc _).drew | exact ((Ext.refl _).drew).alloc _ | exact (((Ext.refl _).drew).alloc _).drew | exact ((Ext.refl _).alloc _).alloc _ | exact (((Ext.refl _).alloc _).alloc _).drew) hb (Nat.le_refl _); have C0_1x := blk_next C0_0x (by first | exact Ext.refl _ | exact (Ext.refl _).drew | exact (Ext.refl _).alloc _ | exact ((Ext.refl _).alloc _).drew | exact ((Ext.refl _).drew).alloc _ | exact (((Ext.refl _).drew).alloc _).drew | exact ((Ext.refl _).alloc _).alloc _ | exact (((Ext.refl _).alloc _).alloc _).drew) hb; have C1_1x := blk_next C1_0x (by first | exact Ext.refl _ | exact (Ext.refl _).drew | exact (Ext.refl _).alloc _ | exact ((Ext.refl _).alloc _).drew | exact ((Ext.refl _).drew).alloc _ | exact (((Ext.refl _).drew).alloc _).drew | exact ((Ext.refl _).alloc _).alloc _ | exact (((Ext.refl _).alloc _).alloc _).drew) hb; have T0_1x := twr_next T0_0x (by first | exact Ext.refl _ | exact (Ext.refl _).drew | exact (Ext.refl _).alloc _ | exact ((Ext.refl _).alloc _).drew | exact ((Ext.refl _).drew).alloc _ | exact (((Ext.refl _).drew).alloc _).drew | exact ((Ext.refl _).alloc _).alloc _ | exact (((Ext.refl _).alloc _).alloc _).drew) hb; have T1_1x := hw.r; (try replace nb0 := blk_next nb0 (by first | exact Ext.refl _ | exact (Ext.refl _).drew | exact (Ext.refl _).alloc _ | exact ((Ext.refl _).alloc _).drew | exact ((Ext.refl _).drew).alloc _ | exact (((Ext.refl _).drew).alloc _).drew | exact ((Ext.refl _).alloc _).alloc _ | exact (((Ext.refl _).alloc _).alloc _).drew) hb); (try have nb1 := blk_next (Blk.new w0x 29 #[.int .i64 0, .slice none 0 0]) (by first | exact Ext.refl _ | exact (Ext.refl _).drew | exact (Ext.refl _).alloc _ | exact ((Ext.refl _).alloc _).drew | exact ((Ext.refl _).drew).alloc _ | exact (((Ext.refl _).drew).alloc _).drew | exact ((Ext.refl _).alloc _).alloc _ | exact (((Ext.refl _).alloc _).alloc _).drew) hb); clear hb hw; have rb10_0 := C0_1x.rd 0 rfl; have rb1z0_0 := (C0_1x.ext ((Ext.refl _).alloc (Obj.cells #[.int .i64 0, .slice none 0 0] 29))).rd 0 rfl; have rb10_1 := C0_1x.rd 1 rfl; have rb1z0_1 := (C0_1x.ext ((Ext.refl _).alloc (Obj.cells #[.int .i64 0, .slice none 0 0] 29))).rd 1 rfl; have rb11_0 := C1_1x.rd 0 rfl; have rb1z1_0 := (C1_1x.ext ((Ext.refl _).alloc (Obj.cells #[.int .i64 0, .slice none 0 0] 29))).rd 0 rfl; have rb11_1 := C1_1x.rd 1 rfl; have rb1z1_1 := (C1_1x.ext ((Ext.refl _).alloc (Obj.cells #[.int .i64 0, .slice none 0 0] 29))).rd 1 rfl)
            | (go_simp; go_at_call 27; with_reducible refine (HI.out _ Ax0 _ Ax1 _ (Nat.le_refl _) (T0_1x.ext (by first | exact Ext.refl _ | exact (Ext.refl _).drew | exact (Ext.refl _).alloc _ | exact ((Ext.refl _).alloc _).drew | exact ((Ext.refl _).drew).alloc _ | exact (((Ext.refl _).drew).alloc _).drew | exact ((Ext.refl _).alloc _).alloc _ | exact (((Ext.refl _).alloc _).alloc _).drew)).tr (Nat.le_refl _) (T1_1x.ext (by first | exact Ext.refl _ | exact (Ext.refl _).drew | exact (Ext.refl _).alloc _ | exact ((Ext.refl _).alloc _).drew | exact ((Ext.refl _).drew).alloc _ | exact (((Ext.refl _).drew).alloc _).drew | exact ((Ext.refl _).alloc _).alloc _ | exact (((Ext.refl _).alloc _).alloc _).drew)).tr).mono ?_; rintro e w20y ⟨B20_0_, cap20_0, rfl, hb, hw0⟩; have hKc := below_pair K1x (by first | exact Ext.refl _ | exact (Ext.refl _).drew | exact (Ext.refl _).alloc _ | exact ((Ext.refl _).alloc _).drew | exact ((Ext.refl _).drew).alloc _ | exact (((Ext.refl _).drew).alloc _).drew | exact ((Ext.refl _).alloc _).alloc _ | exact (((Ext.refl _).alloc _).alloc _).drew) hb (Nat.le_refl _); (try have nc0 := blk_pair nb0 (by first | exact Ext.refl _ | exact (Ext.refl _).drew | exact (Ext.refl _).alloc _ | exact ((Ext.refl _).alloc _).drew | exact ((Ext.refl _).drew).alloc _ | exact (((Ext.refl _).drew).alloc _).drew | exact ((Ext.refl _).alloc _).alloc _ | exact (((Ext.refl _).alloc _).alloc _).drew) hb); (try replace nb0 := blk_next nb0 (by first | exact Ext.refl _ | exact (Ext.refl _).drew | exact (Ext.refl _).alloc _ | exact ((Ext.refl _).alloc _).drew | exact ((Ext.refl _).drew).alloc _ | exact (((Ext.refl _).drew).alloc _).drew | exact ((Ext.refl _).alloc _).alloc _ | exact (((Ext.refl _).alloc _).alloc _).drew) hb); (try have nc1 := blk_pair nb1 (by first | exact Ext.refl _ | exact (Ext.refl _).drew | exact (Ext.refl _).alloc _ | exact ((Ext.refl _).alloc _).drew | exact ((Ext.refl _).drew).alloc _ | exact (((Ext.refl _).drew).alloc _).drew | exact ((Ext.refl _).alloc _).alloc _ | exact (((Ext.refl _).alloc _).alloc _).drew) hb); (try replace nb1 := blk_next nb1 (by first | exact Ext.refl _ | exact (Ext.refl _).drew | exact (Ext.refl _).alloc _ | exact ((Ext.refl _).alloc _).drew | exact ((Ext.refl _).drew).alloc _ | exact (((Ext.refl _).drew).alloc _).drew | exact ((Ext.refl _).alloc _).alloc _ | exact (((Ext.refl _).alloc _).alloc _).drew) hb); (try have nc2 := blk_pair (Blk.new w1x 29 #[.int .i64 0, .slice none 0 0]) (by first | exact Ext.refl _ | exact (Ext.refl _).drew | exact (Ext.refl _).alloc _ | exact ((Ext.refl _).alloc _).drew | exact ((Ext.refl _).drew).alloc _ | exact (((Ext.refl _).drew).alloc _).drew | exact ((Ext.refl _).alloc _).alloc _ | exact (((Ext.refl _).alloc _).alloc _).drew) hb); (try have nb2 := blk_next (Blk.new w1x 29 #[.int .i64 0, .slice none 0 0]) (by first | exact Ext.refl _ | exact (Ext.refl _).drew | exact (Ext.refl _).alloc _ | exact ((Ext.refl _).alloc _).drew | exact ((Ext.refl _).drew).alloc _ | exact (((Ext.refl _).drew).alloc _).drew | exact ((Ext.refl _).alloc _).alloc _ | exact (((Ext.refl _).alloc _).alloc _).drew) hb); (try have rr0 := nb0.rd 0 rfl); (try have zz0 := nb0.frozen 0); (try have rr1 := nb0.rd 1 rfl); (try have zz1 := nb0.frozen 1); (try have rr0 := nb1.rd 0 rfl); (try have zz0 := nb1.frozen 0); (try have rr1 := nb1.rd 1 rfl); (try have zz1 := nb1.frozen 1); (try have rr0 := nb2.rd 0 rfl); (try have zz0 := nb2.frozen 0); (try have rr1 := nb2.rd 1 rfl); (try have zz1 := nb2.frozen 1)))
          all_goals
            go_wp2_with fail
            go_meet
            first
              | (obtain ⟨h1, h2, h3, h4, h5⟩ := close_set (.int .i64 z0) (.slice B20_0_ m0 cap20_0) _ _ hKc hb hw0 nc0 rfl (Nat.le_refl _) (Nat.le_refl _); exact ⟨_, _, _, rfl, h1, h2, h3, rfl, h4, h5⟩)
              | (obtain ⟨h1, h2, h3, h4, h5⟩ := close_set (.int .i64 z0) (.slice B20_0_ m0 cap20_0) _ _ hKc hb hw0 nc1 rfl K0x.size (Nat.le_refl _); exact ⟨_, _, _, rfl, h1, h2, h3, rfl, h4, h5⟩)
              | (obtain ⟨h1, h2, h3, h4, h5⟩ := close_set (.int .i64 z0) (.slice B20_0_ m0 cap20_0) _ _ hKc hb hw0 nc2 rfl K1x.size (Nat.le_refl _); exact ⟨_, _, _, rfl, h1, h2, h3, rfl, h4, h5⟩)
              | (obtain ⟨h1, h2, h3, h4, h5⟩ := close_new 29 (.int .i64 z0) (.slice B20_0_ m0 cap20_0) hKc hb hw0 (Ext.refl _) (Nat.le_refl _); exact ⟨_, _, _, rfl, h1, h2, h3, rfl, h4, h5⟩)
        case rest =>
          obtain ⟨g20_0, B20_0_, cap20_0, rfl, hgl20, hgs20, hbk20, rfl, hw0, hb⟩ := hcut
          obtain ⟨w20, hwk⟩ : ∃ w', w' = wc := ⟨_, rfl⟩
          subst hwk
          clear ra0_0 ra0_1 ra1_0 ra1_1 raz0_0 raz0_1 raz1_0 raz1_1
          have s20 := hb.size
          have t20_0 := Lib.hid hw0
          have b20 := Lib.hid hbk20
          have K20 := Lib.hid (K19.out.trans (hb.mono K19.out.size))
          have Ba0_20 := Lib.hid (Ba0_19.out.below hb Ba0_19.out.lt)
          have Ba1_20 := Lib.hid (Ba1_19.out.below hb Ba1_19.out.lt)
          have B3_20 := Lib.hid (B3_19.out.below hb B3_19.out.lt)
          have B5_20 := Lib.hid (B5_19.out.below hb B5_19.out.lt)
          have B7_20 := Lib.hid (B7_19.out.below hb B7_19.out.lt)
          have B9_20 := Lib.hid (B9_19.out.below hb B9_19.out.lt)
          have T3_0_20 := Lib.hid (T3_0_19.out.below hb)
          have T4_20 := Lib.hid (T4_19.out.below hb)
          have T6_20 := Lib.hid (T6_19.out.below hb)
          have T8_0_20 := Lib.hid (T8_0_19.out.below hb)
          clear K19 Ba0_19 Ba1_19 B3_19 B5_19 B7_19 B9_19 T3_0_19 T4_19 T6_19 T8_0_19
          clear hb hw0 hbk20
          have ra0_0 := Ba0_20.out.rd 0 rfl
          have ra0_1 := Ba0_20.out.rd 1 rfl
          have ra1_0 := Ba1_20.out.rd 0 rfl
          have ra1_1 := Ba1_20.out.rd 1 rfl
          have r3_0 := B3_20.out.rd 0 rfl
          have r3_1 := B3_20.out.rd 1 rfl
          have r5_0 := B5_20.out.rd 0 rfl
          have r5_1 := B5_20.out.rd 1 rfl
          have r7_0 := B7_20.out.rd 0 rfl
          have r7_1 := B7_20.out.rd 1 rfl
          have r9_0 := B9_20.out.rd 0 rfl
          have r9_1 := B9_20.out.rd 1 rfl
          have r20_0 := b20.out.rd 0 rfl
          have r20_1 := b20.out.rd 1 rfl
          go_wp2_with fail
          clear ra0_0 ra0_1 ra1_0 ra1_1 r3_0 r3_1 r5_0 r5_1 r7_0 r7_1 r9_0 r9_1 r20_0 r20_1
          refine (eqSet_any z0 z0 B20_0_ B3_0_ m0 m0 _ _ us0 us0 _ (by omega) HM0.out HM0.out t20_0.out.tr T3_0_20.out.tr).mono ?_
          rw [decide_eq_true (⟨rfl, rfl⟩ : z0 = z0 ∧ us0 = us0)]
          rintro e w21 ⟨rfl, hx⟩
          have s21 := (hx.below (Nat.le_refl _)).size
          have K21 := Lib.hid (K20.out.trans (hx.below K20.out.size))
          have Ba0_21 := Lib.hid (Ba0_20.out.ext hx)
          have Ba1_21 := Lib.hid (Ba1_20.out.ext hx)
          have B3_21 := Lib.hid (B3_20.out.ext hx)
          have B5_21 := Lib.hid (B5_20.out.ext hx)
          have B7_21 := Lib.hid (B7_20.out.ext hx)
          have B9_21 := Lib.hid (B9_20.out.ext hx)
          have B20_21 := Lib.hid (b20.out.ext hx)
          have T3_0_21 := Lib.hid (T3_0_20.out.ext hx)
          have T4_21 := Lib.hid (T4_20.out.ext hx)
          have T6_21 := Lib.hid (T6_20.out.ext hx)
          have T8_0_21 := Lib.hid (T8_0_20.out.ext hx)
          have T20_0_21 := Lib.hid (t20_0.out.ext hx)
          clear K20 Ba0_20 Ba1_20 B3_20 B5_20 B7_20 B9_20 b20 T3_0_20 T4_20 T6_20 T8_0_20 t20_0
          clear hx
          have ra0_0 := Ba0_21.out.rd 0 rfl
          have ra0_1 := Ba0_21.out.rd 1 rfl
          have ra1_0 := Ba1_21.out.rd 0 rfl
          have ra1_1 := Ba1_21.out.rd 1 rfl
          have r3_0 := B3_21.out.rd 0 rfl
          have r3_1 := B3_21.out.rd 1 rfl
          have r5_0 := B5_21.out.rd 0 rfl
          have r5_1 := B5_21.out.rd 1 rfl
          have r7_0 := B7_21.out.rd 0 rfl
          have r7_1 := B7_21.out.rd 1 rfl
          have r9_0 := B9_21.out.rd 0 rfl
          have r9_1 := B9_21.out.rd 1 rfl
          have r20_0 := B20_21.out.rd 0 rfl
          have r20_1 := B20_21.out.rd 1 rfl
          go_wp2_with fail
          clear ra0_0 ra0_1 ra1_0 ra1_1 r3_0 r3_1 r5_0 r5_1 r7_0 r7_1 r9_0 r9_1 r20_0 r20_1
          refine (heldSet_at z0 B8_0_ m0 _ (1) _ (by omega) (by omega) (by omega) T8_0_21.out.tr).mono ?_
          rintro e w22 ⟨rfl, hx⟩
          have s22 := (hx.below (Nat.le_refl _)).size
          have K22 := Lib.hid (K21.out.trans (hx.below K21.out.size))
          have Ba0_22 := Lib.hid (Ba0_21.out.ext hx)
          have Ba1_22 := Lib.hid (Ba1_21.out.ext hx)
          have B3_22 := Lib.hid (B3_21.out.ext hx)
          have B5_22 := Lib.hid (B5_21.out.ext hx)
          have B7_22 := Lib.hid (B7_21.out.ext hx)
          have B9_22 := Lib.hid (B9_21.out.ext hx)
          have B20_22 := Lib.hid (B20_21.out.ext hx)
          have T3_0_22 := Lib.hid (T3_0_21.out.ext hx)
          have T4_22 := Lib.hid (T4_21.out.ext hx)
          have T6_22 := Lib.hid (T6_21.out.ext hx)
          have T8_0_22 := Lib.hid (T8_0_21.out.ext hx)
          have T20_0_22 := Lib.hid (T20_0_21.out.ext hx)
          clear K21 Ba0_21 Ba1_21 B3_21 B5_21 B7_21 B9_21 B20_21 T3_0_21 T4_21 T6_21 T8_0_21 T20_0_21
          clear hx
          have ra0_0 := Ba0_22.out.rd 0 rfl
          have ra0_1 := Ba0_22.out.rd 1 rfl
          have ra1_0 := Ba1_22.out.rd 0 rfl
          have ra1_1 := Ba1_22.out.rd 1 rfl
          have r3_0 := B3_22.out.rd 0 rfl
          have r3_1 := B3_22.out.rd 1 rfl
          have r5_0 := B5_22.out.rd 0 rfl
          have r5_1 := B5_22.out.rd 1 rfl
          have r7_0 := B7_22.out.rd 0 rfl
          have r7_1 := B7_22.out.rd 1 rfl
          have r9_0 := B9_22.out.rd 0 rfl
          have r9_1 := B9_22.out.rd 1 rfl
          have r20_0 := B20_22.out.rd 0 rfl
          have r20_1 := B20_22.out.rd 1 rfl
          go_wp2_with fail
          clear ra0_0 ra0_1 ra1_0 ra1_1 r3_0 r3_1 r5_0 r5_1 r7_0 r7_1 r9_0 r9_1 r20_0 r20_1
          go_ret
          exact ⟨rfl, K22.out⟩
theorem law_Stack (c0 : Int) (A0 : Option Addr) (n0 q0 : Nat) (ts0 : List Tl) (c1 : Int) (A1 : Option Addr) (n1 q1 : Nat) (ts1 : List Tl) (w : World)
    (hn0 : n0 ≤ 9223372036854775807) (hl0 : ts0.length = n0) (hA0 : TR w w.heap.size A0 ts0) (hn1 : n1 ≤ 9223372036854775807) (hl1 : ts1.length = n1) (hA1 : TR w w.heap.size A1 ts1) :
    Calls Try.prog 5 #[.agg #[.int .i64 c0, .slice A0 n0 q0], .agg #[.int .i64 c1, .slice A1 n1 q1]] w fun e w' => e = .returned (.bool true) ∧ Below w.heap.size w w' := by
  cases hs0 : isSet c0 ts0 with
  | false =>
    exact lawStackSets_core c0 A0 n0 q0 ts0 c1 A1 n1 q1 ts1 w hn0 hl0 hA0 hn1 hl1 hA1 0 [] 1 (by simp)
      (fun h W B0 e0 B1 e1 _ hB0 _ hB1 => specStackSets_1a c0 B0 n0 e0 ts0 c1 B1 n1 e1 ts1 W h.1 hl0 hB0 h.2 hl1 hB1 hs0)
      (fun h W B0 e0 B1 e1 _ hB0 _ hB1 => implStackSets_1a c0 B0 n0 e0 ts0 c1 B1 n1 e1 ts1 W h.1 hl0 hB0 h.2 hl1 hB1 hs0)
  | true =>
    cases hs1 : isSet c1 ts1 with
    | false =>
      exact lawStackSets_core c0 A0 n0 q0 ts0 c1 A1 n1 q1 ts1 w hn0 hl0 hA0 hn1 hl1 hA1 0 [] 1 (by simp)
        (fun h W B0 e0 B1 e1 _ hB0 _ hB1 => specStackSets_1b c0 B0 n0 e0 ts0 c1 B1 n1 e1 ts1 W h.1 hl0 hB0 h.2 hl1 hB1 hs0 hs1)
        (fun h W B0 e0 B1 e1 _ hB0 _ hB1 => implStackSets_1b c0 B0 n0 e0 ts0 c1 B1 n1 e1 ts1 W h.1 hl0 hB0 h.2 hl1 hB1 hs0 hs1)
    | true =>
      by_cases hlim : stkC c0 c1 ts0 ts1 ≤ 6 ∧ (stkT ts0 ts1).length ≤ 16
      · exact lawStackSets_core c0 A0 n0 q0 ts0 c1 A1 n1 q1 ts1 w hn0 hl0 hA0 hn1 hl1 hA1 (stkC c0 c1 ts0 ts1) (stkT ts0 ts1) 0 (by omega)
          (fun h W B0 e0 B1 e1 _ hB0 _ hB1 => specStackSets_gen c0 B0 n0 e0 ts0 c1 B1 n1 e1 ts1 W h.1 hl0 hB0 h.2 hl1 hB1 hs0 hs1 _ _ _ (fun X hX => by have := l04Made_any c0 B0 n0 e0 ts0 c1 B1 n1 e1 ts1 X hl0 ((hB0.below hX (Nat.le_refl _)).more hX.size) hl1 ((hB1.below hX (Nat.le_refl _)).more hX.size) hs0 hs1; unfold MadeRes at this; rw [if_pos hlim] at this; exact this))
          (fun h W B0 e0 B1 e1 _ hB0 _ hB1 => implStackSets_0 c0 B0 n0 e0 ts0 c1 B1 n1 e1 ts1 W h.1 hl0 hB0 h.2 hl1 hB1 hs0 hs1 hlim.1 hlim.2)
      · exact lawStackSets_core c0 A0 n0 q0 ts0 c1 A1 n1 q1 ts1 w hn0 hl0 hA0 hn1 hl1 hA1 0 [] 3 (by simp)
          (fun h W B0 e0 B1 e1 _ hB0 _ hB1 => specStackSets_gen c0 B0 n0 e0 ts0 c1 B1 n1 e1 ts1 W h.1 hl0 hB0 h.2 hl1 hB1 hs0 hs1 _ _ _ (fun X hX => by have := l04Made_any c0 B0 n0 e0 ts0 c1 B1 n1 e1 ts1 X hl0 ((hB0.below hX (Nat.le_refl _)).more hX.size) hl1 ((hB1.below hX (Nat.le_refl _)).more hX.size) hs0 hs1; unfold MadeRes at this; rw [if_neg hlim] at this; exact this))
          (fun h W B0 e0 B1 e1 _ hB0 _ hB1 => by
            by_cases h6 : stkC c0 c1 ts0 ts1 ≤ 6
            · exact implStackSets_3b c0 B0 n0 e0 ts0 c1 B1 n1 e1 ts1 W h.1 hl0 hB0 h.2 hl1 hB1 hs0 hs1 h6 (fun h9 => hlim ⟨h6, h9⟩)
            · exact implStackSets_3a c0 B0 n0 e0 ts0 c1 B1 n1 e1 ts1 W h.1 hl0 hB0 h.2 hl1 hB1 hs0 hs1 h6)
end Go.Proofs.Ytcakbnfpmpdljaa
