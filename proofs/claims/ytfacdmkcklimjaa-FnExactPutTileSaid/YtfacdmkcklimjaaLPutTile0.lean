/- The exact law over PutTile: walked. -/
import Derived.Test.YtfacdmkcklimjaaPt3
import Derived.Test.YtfacdmkcklimjaaSBridge
import Derived.Test.YtfacdmkcklimjaaGrow
import Derived.Test.YtfacdmkcklimjaaCut2
import Derived.Test.YtfacdmkcklimjaaMark2
import Derived.Deep.RegionHeld3
import Derived.Deep.RegionLaw
import Derived.Deep.DeepCutAuto
namespace Go.Proofs.Ytfacdmkcklimjaa
set_option linter.unusedVariables false
set_option linter.unusedSimpArgs false
open Go.RowKit Go.Sort

set_option maxRecDepth 100000 in
set_option maxHeartbeats 24000000 in
theorem lawPutTile_core (c0 : Int) (A0 : Option Addr) (n0 q0 : Nat) (ts0 : List Tl) (a1 b1 d1 f1 : Int) (w : World) (hn0 : n0 ≤ 9223372036854775807) (hl0 : ts0.length = n0) (hA0 : TR w w.heap.size A0 ts0) (z0 : Int) (us0 : List Tl) (r1 : Int) (hus0 : us0.length ≤ 65536)
    (hspec : n0 ≤ 1048576 → ∀ (W : World) (B0 : Option Addr) (e0 : Nat), n0 ≤ e0 → TR W W.heap.size B0 ts0 → Calls Try.prog 5 #[.agg #[.int .i64 c0, .slice B0 n0 e0], .agg #[.int .i64 a1, .int .i64 b1, .int .i64 d1, .int .i64 f1]] W (fun e w' => ∃ R0 p0, e = .returned (.tuple #[.agg #[.int .i64 z0, .slice R0 us0.length p0], .int .i64 r1]) ∧ Below W.heap.size W w' ∧ TW w' W.heap.size R0 us0))
    (himpl : n0 ≤ 1048576 → ∀ (W : World) (B0 : Option Addr) (e0 : Nat), n0 ≤ e0 → TR W W.heap.size B0 ts0 → Calls Try.prog 8 #[.agg #[.int .i64 c0, .slice B0 n0 e0], .agg #[.int .i64 a1, .int .i64 b1, .int .i64 d1, .int .i64 f1]] W (fun e w' => ∃ R0 p0, e = .returned (.tuple #[.agg #[.int .i64 z0, .slice R0 us0.length p0], .int .i64 r1]) ∧ Below W.heap.size W w' ∧ TW w' W.heap.size R0 us0)) :
    Calls Try.prog 3 #[.agg #[.int .i64 c0, .slice A0 n0 q0], .agg #[.int .i64 a1, .int .i64 b1, .int .i64 d1, .int .i64 f1]] w fun e w' => e = .returned (.bool true) ∧ Below w.heap.size w w' := by
  have hsz0 : (0 : Int) ≤ 1048576 → ∀ W, Calls Try.prog 4 #[.agg #[.int .i64 c0, .slice A0 n0 q0], .int .i64 1048576] W _ := fun h W => szSet_any c0 A0 n0 q0 1048576 W hn0 h (by omega)
  by_cases hbig0 : (1048576 : Int) < n0
  · replace hsz0 := hsz0 (by omega)
    simp only [if_pos hbig0] at hsz0
    clear hspec himpl
    go_enter Try.func3, Try.ntmps3
    go_wp2_with fail
    have hx0 : Ext w ((w.alloc (Obj.cells #[.int .i64 c0, .slice A0 n0 q0] 24)).alloc (Obj.cells #[.int .i64 a1, .int .i64 b1, .int .i64 d1, .int .i64 f1] 25)) := (((Ext.refl w).alloc _).alloc _)
    have b00 : Blk ((w.alloc (Obj.cells #[.int .i64 c0, .slice A0 n0 q0] 24)).alloc (Obj.cells #[.int .i64 a1, .int .i64 b1, .int .i64 d1, .int .i64 f1] 25)) w.heap.size 24 #[.int .i64 c0, .slice A0 n0 q0] := ((Blk.new w 24 #[.int .i64 c0, .slice A0 n0 q0]).ext (((Ext.refl _).alloc _)))
    have b01 : Blk ((w.alloc (Obj.cells #[.int .i64 c0, .slice A0 n0 q0] 24)).alloc (Obj.cells #[.int .i64 a1, .int .i64 b1, .int .i64 d1, .int .i64 f1] 25)) (w.heap.size + 1) 25 #[.int .i64 a1, .int .i64 b1, .int .i64 d1, .int .i64 f1] := by have := (Blk.new (w.alloc (Obj.cells #[.int .i64 c0, .slice A0 n0 q0] 24)) 25 #[.int .i64 a1, .int .i64 b1, .int .i64 d1, .int .i64 f1]); simpa using this
    have s0 : w.heap.size + 2 ≤ ((w.alloc (Obj.cells #[.int .i64 c0, .slice A0 n0 q0] 24)).alloc (Obj.cells #[.int .i64 a1, .int .i64 b1, .int .i64 d1, .int .i64 f1] 25)).heap.size := by simp
    have K0 := Lib.hid (hx0.below (Nat.le_refl _))
    have C00 := Lib.hid b00
    have C01 := Lib.hid b01
    clear hx0 b00 b01
    generalize ((w.alloc (Obj.cells #[.int .i64 c0, .slice A0 n0 q0] 24)).alloc (Obj.cells #[.int .i64 a1, .int .i64 b1, .int .i64 d1, .int .i64 f1] 25)) = w0 at *
    refine (hsz0 _).mono ?_
    rintro e w1 ⟨rfl, hx⟩
    have s1 := (hx.below (Nat.le_refl _)).size
    have K1 := Lib.hid (K0.out.trans (hx.below K0.out.size))
    have Ba0_1 := Lib.hid (C00.out.ext hx)
    have Ba1_1 := Lib.hid (C01.out.ext hx)
    clear K0 C00 C01
    clear hx
    have ra0_0 := Ba0_1.out.rd 0 rfl
    have ra0_1 := Ba0_1.out.rd 1 rfl
    have ra1_0 := Ba1_1.out.rd 0 rfl
    have ra1_1 := Ba1_1.out.rd 1 rfl
    have ra1_2 := Ba1_1.out.rd 2 rfl
    have ra1_3 := Ba1_1.out.rd 3 rfl
    go_wp2_with fail
    clear ra0_0 ra0_1 ra1_0 ra1_1 ra1_2 ra1_3
    go_ret
    exact ⟨rfl, K1.out⟩
  · skip
    replace hsz0 := hsz0 (by omega)
    simp only [if_neg hbig0] at hsz0
    have hneg0 : ¬ (1048576 - (n0 : Int) < 0) := by omega
    have hn'0 : n0 ≤ 1048576 := by omega
    have hts0 : ∀ W, Below w.heap.size w W → Calls Try.prog 6 #[.agg #[.int .i64 c0, .slice A0 n0 q0]] W _ := fun W hW => toSet_any c0 A0 n0 q0 ts0 W hn'0 hl0 ((hA0.below hW (Nat.le_refl _)).more hW.size)
    have htt1 := fun W => toTile_any (a1, b1, d1, f1) W
    simp only [tv] at htt1
    have HT1 := Lib.hid htt1
    clear htt1
    have HT0 := Lib.hid hts0
    have HL0 := Lib.hid hl0
    have HS := Lib.hid (hspec hn'0)
    have HI := Lib.hid (himpl hn'0)
    clear hspec himpl hts0 hA0 hl0
    generalize hm0 : us0.length = m0 at *
    have HM0 := Lib.hid hm0
    clear hm0
    have hcc1 : (r1 != r1) = false := by simp
    have hkn : ¬ (1 + 4 * (n0 : Int) < 0) := by omega
    have hkm0 : ¬ (1 + 4 * (m0 : Int) < 0) := by omega
    go_enter Try.func3, Try.ntmps3
    go_wp2_with fail
    have hx0 : Ext w ((w.alloc (Obj.cells #[.int .i64 c0, .slice A0 n0 q0] 24)).alloc (Obj.cells #[.int .i64 a1, .int .i64 b1, .int .i64 d1, .int .i64 f1] 25)) := (((Ext.refl w).alloc _).alloc _)
    have b00 : Blk ((w.alloc (Obj.cells #[.int .i64 c0, .slice A0 n0 q0] 24)).alloc (Obj.cells #[.int .i64 a1, .int .i64 b1, .int .i64 d1, .int .i64 f1] 25)) w.heap.size 24 #[.int .i64 c0, .slice A0 n0 q0] := ((Blk.new w 24 #[.int .i64 c0, .slice A0 n0 q0]).ext (((Ext.refl _).alloc _)))
    have b01 : Blk ((w.alloc (Obj.cells #[.int .i64 c0, .slice A0 n0 q0] 24)).alloc (Obj.cells #[.int .i64 a1, .int .i64 b1, .int .i64 d1, .int .i64 f1] 25)) (w.heap.size + 1) 25 #[.int .i64 a1, .int .i64 b1, .int .i64 d1, .int .i64 f1] := by have := (Blk.new (w.alloc (Obj.cells #[.int .i64 c0, .slice A0 n0 q0] 24)) 25 #[.int .i64 a1, .int .i64 b1, .int .i64 d1, .int .i64 f1]); simpa using this
    have s0 : w.heap.size + 2 ≤ ((w.alloc (Obj.cells #[.int .i64 c0, .slice A0 n0 q0] 24)).alloc (Obj.cells #[.int .i64 a1, .int .i64 b1, .int .i64 d1, .int .i64 f1] 25)).heap.size := by simp
    have K0 := Lib.hid (hx0.below (Nat.le_refl _))
    have C00 := Lib.hid b00
    have C01 := Lib.hid b01
    clear hx0 b00 b01
    generalize ((w.alloc (Obj.cells #[.int .i64 c0, .slice A0 n0 q0] 24)).alloc (Obj.cells #[.int .i64 a1, .int .i64 b1, .int .i64 d1, .int .i64 f1] 25)) = w0 at *
    refine (hsz0 _).mono ?_
    rintro e w1 ⟨rfl, hx⟩
    have s1 := (hx.below (Nat.le_refl _)).size
    have K1 := Lib.hid (K0.out.trans (hx.below K0.out.size))
    have Ba0_1 := Lib.hid (C00.out.ext hx)
    have Ba1_1 := Lib.hid (C01.out.ext hx)
    clear K0 C00 C01
    clear hx
    have ra0_0 := Ba0_1.out.rd 0 rfl
    have ra0_1 := Ba0_1.out.rd 1 rfl
    have ra1_0 := Ba1_1.out.rd 0 rfl
    have ra1_1 := Ba1_1.out.rd 1 rfl
    have ra1_2 := Ba1_1.out.rd 2 rfl
    have ra1_3 := Ba1_1.out.rd 3 rfl
    go_wp2_with fail
    clear ra0_0 ra0_1 ra1_0 ra1_1 ra1_2 ra1_3
    have ra0_0 := Ba0_1.out.rd 0 rfl
    have raz0_0 := (Ba0_1.out.ext ((Ext.refl _).alloc (Obj.cells #[.int .i64 0, .slice none 0 0] 29))).rd 0 rfl
    have ra0_1 := Ba0_1.out.rd 1 rfl
    have raz0_1 := (Ba0_1.out.ext ((Ext.refl _).alloc (Obj.cells #[.int .i64 0, .slice none 0 0] 29))).rd 1 rfl
    have ra1_0 := Ba1_1.out.rd 0 rfl
    have raz1_0 := (Ba1_1.out.ext ((Ext.refl _).alloc (Obj.cells #[.int .i64 0, .slice none 0 0] 29))).rd 0 rfl
    have ra1_1 := Ba1_1.out.rd 1 rfl
    have raz1_1 := (Ba1_1.out.ext ((Ext.refl _).alloc (Obj.cells #[.int .i64 0, .slice none 0 0] 29))).rd 1 rfl
    have ra1_2 := Ba1_1.out.rd 2 rfl
    have raz1_2 := (Ba1_1.out.ext ((Ext.refl _).alloc (Obj.cells #[.int .i64 0, .slice none 0 0] 29))).rd 2 rfl
    have ra1_3 := Ba1_1.out.rd 3 rfl
    have raz1_3 := (Ba1_1.out.ext ((Ext.refl _).alloc (Obj.cells #[.int .i64 0, .slice none 0 0] 29))).rd 3 rfl
    go_upto_region 5 with (fail)
    go_cut [6, 7] (fun v6 v7 wx => ∃ (g0 : Nat) (R0 : Option Addr) (p0 : Nat), v6 = .pointer (some ⟨g0, 0, none⟩) ∧ w1.heap.size ≤ g0 ∧ g0 < wx.heap.size ∧ Blk wx g0 29 #[.int .i64 z0, .slice R0 m0 p0] ∧ v7 = .int .i64 r1 ∧ TWr wx w1.heap.size wx.heap.size R0 us0 ∧ Below w1.heap.size w1 wx)
    case first =>
      go_region_law (first
        | (go_simp; go_at_call 6; with_reducible refine (HT0.out _ (K1.out.trans ((below_next0 (Below.refl w1.heap.size w1) (by first | exact Ext.refl _ | exact (Ext.refl _).drew | exact (Ext.refl _).alloc _ | exact ((Ext.refl _).alloc _).drew | exact ((Ext.refl _).drew).alloc _ | exact (((Ext.refl _).drew).alloc _).drew | exact ((Ext.refl _).alloc _).alloc _ | exact (((Ext.refl _).alloc _).alloc _).drew) (Nat.le_refl _)).mono K1.out.size))).mono ?_; rintro e w0x ⟨Ax0, rfl, hb, hw⟩; have K0x := below_next (Below.refl w1.heap.size w1) (by first | exact Ext.refl _ | exact (Ext.refl _).drew | exact (Ext.refl _).alloc _ | exact ((Ext.refl _).alloc _).drew | exact ((Ext.refl _).drew).alloc _ | exact (((Ext.refl _).drew).alloc _).drew | exact ((Ext.refl _).alloc _).alloc _ | exact (((Ext.refl _).alloc _).alloc _).drew) hb (Nat.le_refl _); have C0_0x := blk_next Ba0_1.out (by first | exact Ext.refl _ | exact (Ext.refl _).drew | exact (Ext.refl _).alloc _ | exact ((Ext.refl _).alloc _).drew | exact ((Ext.refl _).drew).alloc _ | exact (((Ext.refl _).drew).alloc _).drew | exact ((Ext.refl _).alloc _).alloc _ | exact (((Ext.refl _).alloc _).alloc _).drew) hb; have C1_0x := blk_next Ba1_1.out (by first | exact Ext.refl _ | exact (Ext.refl _).drew | exact (Ext.refl _).alloc _ | exact ((Ext.refl _).alloc _).drew | exact ((Ext.refl _).drew).alloc _ | exact (((Ext.refl _).drew).alloc _).drew | exact ((Ext.refl _).alloc _).alloc _ | exact (((Ext.refl _).alloc _).alloc _).drew) hb; have T0_0x := hw.r; (try have nb0 := blk_next (Blk.new w1 29 #[.int .i64 0, .slice none 0 0]) (by first | exact Ext.refl _ | exact (Ext.refl _).drew | exact (Ext.refl _).alloc _ | exact ((Ext.refl _).alloc _).drew | exact ((Ext.refl _).drew).alloc _ | exact (((Ext.refl _).drew).alloc _).drew | exact ((Ext.refl _).alloc _).alloc _ | exact (((Ext.refl _).alloc _).alloc _).drew) hb); clear hb hw; have rb00_0 := C0_0x.rd 0 rfl; have rb0z0_0 := (C0_0x.ext ((Ext.refl _).alloc (Obj.cells #[.int .i64 0, .slice none 0 0] 29))).rd 0 rfl; have rb00_1 := C0_0x.rd 1 rfl; have rb0z0_1 := (C0_0x.ext ((Ext.refl _).alloc (Obj.cells #[.int .i64 0, .slice none 0 0] 29))).rd 1 rfl; have rb01_0 := C1_0x.rd 0 rfl; have rb0z1_0 := (C1_0x.ext ((Ext.refl _).alloc (Obj.cells #[.int .i64 0, .slice none 0 0] 29))).rd 0 rfl; have rb01_1 := C1_0x.rd 1 rfl; have rb0z1_1 := (C1_0x.ext ((Ext.refl _).alloc (Obj.cells #[.int .i64 0, .slice none 0 0] 29))).rd 1 rfl; have rb01_2 := C1_0x.rd 2 rfl; have rb0z1_2 := (C1_0x.ext ((Ext.refl _).alloc (Obj.cells #[.int .i64 0, .slice none 0 0] 29))).rd 2 rfl; have rb01_3 := C1_0x.rd 3 rfl; have rb0z1_3 := (C1_0x.ext ((Ext.refl _).alloc (Obj.cells #[.int .i64 0, .slice none 0 0] 29))).rd 3 rfl)
        | (go_simp; go_at_call 7; with_reducible refine (HT1.out _).mono ?_; rintro e w1x ⟨rfl, hx9⟩; have hb := hx9.below (Nat.le_refl _); clear hx9; have K1x := below_next K0x (by first | exact Ext.refl _ | exact (Ext.refl _).drew | exact (Ext.refl _).alloc _ | exact ((Ext.refl _).alloc _).drew | exact ((Ext.refl _).drew).alloc _ | exact (((Ext.refl _).drew).alloc _).drew | exact ((Ext.refl _).alloc _).alloc _ | exact (((Ext.refl _).alloc _).alloc _).drew) hb (Nat.le_refl _); have C0_1x := blk_next C0_0x (by first | exact Ext.refl _ | exact (Ext.refl _).drew | exact (Ext.refl _).alloc _ | exact ((Ext.refl _).alloc _).drew | exact ((Ext.refl _).drew).alloc _ | exact (((Ext.refl _).drew).alloc _).drew | exact ((Ext.refl _).alloc _).alloc _ | exact (((Ext.refl _).alloc _).alloc _).drew) hb; have C1_1x := blk_next C1_0x (by first | exact Ext.refl _ | exact (Ext.refl _).drew | exact (Ext.refl _).alloc _ | exact ((Ext.refl _).alloc _).drew | exact ((Ext.refl _).drew).alloc _ | exact (((Ext.refl _).drew).alloc _).drew | exact ((Ext.refl _).alloc _).alloc _ | exact (((Ext.refl _).alloc _).alloc _).drew) hb; have T0_1x := twr_next T0_0x (by first | exact Ext.refl _ | exact (Ext.refl _).drew | exact (Ext.refl _).alloc _ | exact ((Ext.refl _).alloc _).drew | exact ((Ext.refl _).drew).alloc _ | exact (((Ext.refl _).drew).alloc _).drew | exact ((Ext.refl _).alloc _).alloc _ | exact (((Ext.refl _).alloc _).alloc _).drew) hb; (try replace nb0 := blk_next nb0 (by first | exact Ext.refl _ | exact (Ext.refl _).drew | exact (Ext.refl _).alloc _ | exact ((Ext.refl _).alloc _).drew | exact ((Ext.refl _).drew).alloc _ | exact (((Ext.refl _).drew).alloc _).drew | exact ((Ext.refl _).alloc _).alloc _ | exact (((Ext.refl _).alloc _).alloc _).drew) hb); (try have nb1 := blk_next (Blk.new w0x 29 #[.int .i64 0, .slice none 0 0]) (by first | exact Ext.refl _ | exact (Ext.refl _).drew | exact (Ext.refl _).alloc _ | exact ((Ext.refl _).alloc _).drew | exact ((Ext.refl _).drew).alloc _ | exact (((Ext.refl _).drew).alloc _).drew | exact ((Ext.refl _).alloc _).alloc _ | exact (((Ext.refl _).alloc _).alloc _).drew) hb); clear hb; have rb10_0 := C0_1x.rd 0 rfl; have rb1z0_0 := (C0_1x.ext ((Ext.refl _).alloc (Obj.cells #[.int .i64 0, .slice none 0 0] 29))).rd 0 rfl; have rb10_1 := C0_1x.rd 1 rfl; have rb1z0_1 := (C0_1x.ext ((Ext.refl _).alloc (Obj.cells #[.int .i64 0, .slice none 0 0] 29))).rd 1 rfl; have rb11_0 := C1_1x.rd 0 rfl; have rb1z1_0 := (C1_1x.ext ((Ext.refl _).alloc (Obj.cells #[.int .i64 0, .slice none 0 0] 29))).rd 0 rfl; have rb11_1 := C1_1x.rd 1 rfl; have rb1z1_1 := (C1_1x.ext ((Ext.refl _).alloc (Obj.cells #[.int .i64 0, .slice none 0 0] 29))).rd 1 rfl; have rb11_2 := C1_1x.rd 2 rfl; have rb1z1_2 := (C1_1x.ext ((Ext.refl _).alloc (Obj.cells #[.int .i64 0, .slice none 0 0] 29))).rd 2 rfl; have rb11_3 := C1_1x.rd 3 rfl; have rb1z1_3 := (C1_1x.ext ((Ext.refl _).alloc (Obj.cells #[.int .i64 0, .slice none 0 0] 29))).rd 3 rfl)
        | (go_simp; go_at_call 5; with_reducible refine (HS.out _ Ax0 _ (Nat.le_refl _) (T0_1x.ext (by first | exact Ext.refl _ | exact (Ext.refl _).drew | exact (Ext.refl _).alloc _ | exact ((Ext.refl _).alloc _).drew | exact ((Ext.refl _).drew).alloc _ | exact (((Ext.refl _).drew).alloc _).drew | exact ((Ext.refl _).alloc _).alloc _ | exact (((Ext.refl _).alloc _).alloc _).drew)).tr).mono ?_; rintro e w2y ⟨B2_0_, cap2_0, rfl, hb, hw0⟩; have hKc := below_pair K1x (by first | exact Ext.refl _ | exact (Ext.refl _).drew | exact (Ext.refl _).alloc _ | exact ((Ext.refl _).alloc _).drew | exact ((Ext.refl _).drew).alloc _ | exact (((Ext.refl _).drew).alloc _).drew | exact ((Ext.refl _).alloc _).alloc _ | exact (((Ext.refl _).alloc _).alloc _).drew) hb (Nat.le_refl _); (try have nc0 := blk_pair nb0 (by first | exact Ext.refl _ | exact (Ext.refl _).drew | exact (Ext.refl _).alloc _ | exact ((Ext.refl _).alloc _).drew | exact ((Ext.refl _).drew).alloc _ | exact (((Ext.refl _).drew).alloc _).drew | exact ((Ext.refl _).alloc _).alloc _ | exact (((Ext.refl _).alloc _).alloc _).drew) hb); (try replace nb0 := blk_next nb0 (by first | exact Ext.refl _ | exact (Ext.refl _).drew | exact (Ext.refl _).alloc _ | exact ((Ext.refl _).alloc _).drew | exact ((Ext.refl _).drew).alloc _ | exact (((Ext.refl _).drew).alloc _).drew | exact ((Ext.refl _).alloc _).alloc _ | exact (((Ext.refl _).alloc _).alloc _).drew) hb); (try have nc1 := blk_pair nb1 (by first | exact Ext.refl _ | exact (Ext.refl _).drew | exact (Ext.refl _).alloc _ | exact ((Ext.refl _).alloc _).drew | exact ((Ext.refl _).drew).alloc _ | exact (((Ext.refl _).drew).alloc _).drew | exact ((Ext.refl _).alloc _).alloc _ | exact (((Ext.refl _).alloc _).alloc _).drew) hb); (try replace nb1 := blk_next nb1 (by first | exact Ext.refl _ | exact (Ext.refl _).drew | exact (Ext.refl _).alloc _ | exact ((Ext.refl _).alloc _).drew | exact ((Ext.refl _).drew).alloc _ | exact (((Ext.refl _).drew).alloc _).drew | exact ((Ext.refl _).alloc _).alloc _ | exact (((Ext.refl _).alloc _).alloc _).drew) hb); (try have nc2 := blk_pair (Blk.new w1x 29 #[.int .i64 0, .slice none 0 0]) (by first | exact Ext.refl _ | exact (Ext.refl _).drew | exact (Ext.refl _).alloc _ | exact ((Ext.refl _).alloc _).drew | exact ((Ext.refl _).drew).alloc _ | exact (((Ext.refl _).drew).alloc _).drew | exact ((Ext.refl _).alloc _).alloc _ | exact (((Ext.refl _).alloc _).alloc _).drew) hb); (try have nb2 := blk_next (Blk.new w1x 29 #[.int .i64 0, .slice none 0 0]) (by first | exact Ext.refl _ | exact (Ext.refl _).drew | exact (Ext.refl _).alloc _ | exact ((Ext.refl _).alloc _).drew | exact ((Ext.refl _).drew).alloc _ | exact (((Ext.refl _).drew).alloc _).drew | exact ((Ext.refl _).alloc _).alloc _ | exact (((Ext.refl _).alloc _).alloc _).drew) hb); (try have rr0 := nb0.rd 0 rfl); (try have zz0 := nb0.frozen 0); (try have rr1 := nb0.rd 1 rfl); (try have zz1 := nb0.frozen 1); (try have rr0 := nb1.rd 0 rfl); (try have zz0 := nb1.frozen 0); (try have rr1 := nb1.rd 1 rfl); (try have zz1 := nb1.frozen 1); (try have rr0 := nb2.rd 0 rfl); (try have zz0 := nb2.frozen 0); (try have rr1 := nb2.rd 1 rfl); (try have zz1 := nb2.frozen 1)))
      all_goals
        go_wp2_with fail
        go_meet
        first
          | (obtain ⟨h1, h2, h3, h4, h5⟩ := close_set (.int .i64 z0) (.slice B2_0_ m0 cap2_0) _ _ hKc hb hw0 nc0 rfl (Nat.le_refl _) (Nat.le_refl _); exact ⟨_, _, _, rfl, h1, h2, h3, rfl, h4, h5⟩)
          | (obtain ⟨h1, h2, h3, h4, h5⟩ := close_set (.int .i64 z0) (.slice B2_0_ m0 cap2_0) _ _ hKc hb hw0 nc1 rfl K0x.size (Nat.le_refl _); exact ⟨_, _, _, rfl, h1, h2, h3, rfl, h4, h5⟩)
          | (obtain ⟨h1, h2, h3, h4, h5⟩ := close_set (.int .i64 z0) (.slice B2_0_ m0 cap2_0) _ _ hKc hb hw0 nc2 rfl K1x.size (Nat.le_refl _); exact ⟨_, _, _, rfl, h1, h2, h3, rfl, h4, h5⟩)
          | (obtain ⟨h1, h2, h3, h4, h5⟩ := close_new 29 (.int .i64 z0) (.slice B2_0_ m0 cap2_0) hKc hb hw0 (Ext.refl _) (Nat.le_refl _); exact ⟨_, _, _, rfl, h1, h2, h3, rfl, h4, h5⟩)
    case rest =>
      obtain ⟨g2_0, B2_0_, cap2_0, rfl, hgl2, hgs2, hbk2, rfl, hw0, hb⟩ := hcut
      obtain ⟨w2, hwk⟩ : ∃ w', w' = wc := ⟨_, rfl⟩
      subst hwk
      clear ra0_0 ra0_1 ra1_0 ra1_1 ra1_2 ra1_3 raz0_0 raz0_1 raz1_0 raz1_1 raz1_2 raz1_3
      have s2 := hb.size
      have t2_0 := Lib.hid hw0
      have b2 := Lib.hid hbk2
      have K2 := Lib.hid (K1.out.trans (hb.mono K1.out.size))
      have Ba0_2 := Lib.hid (Ba0_1.out.below hb Ba0_1.out.lt)
      have Ba1_2 := Lib.hid (Ba1_1.out.below hb Ba1_1.out.lt)
      clear K1 Ba0_1 Ba1_1
      clear hb hw0 hbk2
      have ra0_0 := Ba0_2.out.rd 0 rfl
      have ra0_1 := Ba0_2.out.rd 1 rfl
      have ra1_0 := Ba1_2.out.rd 0 rfl
      have ra1_1 := Ba1_2.out.rd 1 rfl
      have ra1_2 := Ba1_2.out.rd 2 rfl
      have ra1_3 := Ba1_2.out.rd 3 rfl
      have r2_0 := b2.out.rd 0 rfl
      have r2_1 := b2.out.rd 1 rfl
      go_wp2_with fail
      clear ra0_0 ra0_1 ra1_0 ra1_1 ra1_2 ra1_3 r2_0 r2_1
      refine (HT0.out _ K2.out).mono ?_
      rintro e w3 ⟨A_3, rfl, hb, hw⟩
      have s3 := hb.size
      have t3 := Lib.hid hw.r
      have K3 := Lib.hid (K2.out.trans (hb.mono K2.out.size))
      have Ba0_3 := Lib.hid (Ba0_2.out.below hb Ba0_2.out.lt)
      have Ba1_3 := Lib.hid (Ba1_2.out.below hb Ba1_2.out.lt)
      have B2_3 := Lib.hid (b2.out.below hb b2.out.lt)
      have T2_0_3 := Lib.hid (t2_0.out.below hb)
      clear K2 Ba0_2 Ba1_2 b2 t2_0
      clear hb hw
      have ra0_0 := Ba0_3.out.rd 0 rfl
      have qa0_0 := (Ba0_3.out.ext ((Ext.refl _).alloc (Obj.cells #[.int .i64 c0, .slice A_3 n0 n0] 29))).rd 0 rfl
      have ra0_1 := Ba0_3.out.rd 1 rfl
      have qa0_1 := (Ba0_3.out.ext ((Ext.refl _).alloc (Obj.cells #[.int .i64 c0, .slice A_3 n0 n0] 29))).rd 1 rfl
      have ra1_0 := Ba1_3.out.rd 0 rfl
      have qa1_0 := (Ba1_3.out.ext ((Ext.refl _).alloc (Obj.cells #[.int .i64 c0, .slice A_3 n0 n0] 29))).rd 0 rfl
      have ra1_1 := Ba1_3.out.rd 1 rfl
      have qa1_1 := (Ba1_3.out.ext ((Ext.refl _).alloc (Obj.cells #[.int .i64 c0, .slice A_3 n0 n0] 29))).rd 1 rfl
      have ra1_2 := Ba1_3.out.rd 2 rfl
      have qa1_2 := (Ba1_3.out.ext ((Ext.refl _).alloc (Obj.cells #[.int .i64 c0, .slice A_3 n0 n0] 29))).rd 2 rfl
      have ra1_3 := Ba1_3.out.rd 3 rfl
      have qa1_3 := (Ba1_3.out.ext ((Ext.refl _).alloc (Obj.cells #[.int .i64 c0, .slice A_3 n0 n0] 29))).rd 3 rfl
      have r2_0 := B2_3.out.rd 0 rfl
      have q2_0 := (B2_3.out.ext ((Ext.refl _).alloc (Obj.cells #[.int .i64 c0, .slice A_3 n0 n0] 29))).rd 0 rfl
      have r2_1 := B2_3.out.rd 1 rfl
      have q2_1 := (B2_3.out.ext ((Ext.refl _).alloc (Obj.cells #[.int .i64 c0, .slice A_3 n0 n0] 29))).rd 1 rfl
      go_wp2_with fail
      clear ra0_0 qa0_0 ra0_1 qa0_1 ra1_0 qa1_0 ra1_1 qa1_1 ra1_2 qa1_2 ra1_3 qa1_3 r2_0 q2_0 r2_1 q2_1
      have hx : Ext w3 (w3.alloc (Obj.cells #[.int .i64 c0, .slice A_3 n0 n0] 29)) := (Ext.refl _).alloc _
      have sa4 : w3.heap.size + 1 ≤ (w3.alloc (Obj.cells #[.int .i64 c0, .slice A_3 n0 n0] 29)).heap.size := by simp
      have b4 := Lib.hid (Blk.new w3 29 #[.int .i64 c0, .slice A_3 n0 n0])
      generalize w3.alloc (Obj.cells #[.int .i64 c0, .slice A_3 n0 n0] 29) = w4 at *
      have K4 := Lib.hid (K3.out.trans (hx.below K3.out.size))
      have Ba0_4 := Lib.hid (Ba0_3.out.ext hx)
      have Ba1_4 := Lib.hid (Ba1_3.out.ext hx)
      have B2_4 := Lib.hid (B2_3.out.ext hx)
      have T2_0_4 := Lib.hid (T2_0_3.out.ext hx)
      have T3_4 := Lib.hid (t3.out.ext hx)
      clear K3 Ba0_3 Ba1_3 B2_3 T2_0_3 t3
      clear hx
      have ra1_0 := Ba1_4.out.rd 0 rfl
      have raz1_0 := (Ba1_4.out.ext ((Ext.refl _).alloc (Obj.cells #[.int .i64 0, .slice none 0 0] 29))).rd 0 rfl
      have ra1_1 := Ba1_4.out.rd 1 rfl
      have raz1_1 := (Ba1_4.out.ext ((Ext.refl _).alloc (Obj.cells #[.int .i64 0, .slice none 0 0] 29))).rd 1 rfl
      have ra1_2 := Ba1_4.out.rd 2 rfl
      have raz1_2 := (Ba1_4.out.ext ((Ext.refl _).alloc (Obj.cells #[.int .i64 0, .slice none 0 0] 29))).rd 2 rfl
      have ra1_3 := Ba1_4.out.rd 3 rfl
      have raz1_3 := (Ba1_4.out.ext ((Ext.refl _).alloc (Obj.cells #[.int .i64 0, .slice none 0 0] 29))).rd 3 rfl
      have ra0_0 := b4.out.rd 0 rfl
      have raz0_0 := (b4.out.ext ((Ext.refl _).alloc (Obj.cells #[.int .i64 0, .slice none 0 0] 29))).rd 0 rfl
      have ra0_1 := b4.out.rd 1 rfl
      have raz0_1 := (b4.out.ext ((Ext.refl _).alloc (Obj.cells #[.int .i64 0, .slice none 0 0] 29))).rd 1 rfl
      go_upto_region 7 with (fail)
      go_cut [9, 10] (fun v9 v10 wx => ∃ (g0 : Nat) (R0 : Option Addr) (p0 : Nat), v9 = .pointer (some ⟨g0, 0, none⟩) ∧ w4.heap.size ≤ g0 ∧ g0 < wx.heap.size ∧ Blk wx g0 29 #[.int .i64 z0, .slice R0 m0 p0] ∧ v10 = .int .i64 r1 ∧ (∃ lo hi, w4.heap.size ≤ lo ∧ hi ≤ wx.heap.size ∧ (g0 < lo ∨ hi ≤ g0) ∧ TWr wx lo hi R0 us0) ∧ Below w4.heap.size w4 wx)
      case first =>
        go_region_law (first
          | (go_simp; go_at_call 7; with_reducible refine (HT1.out _).mono ?_; rintro e w0x ⟨rfl, hx9⟩; have hb := hx9.below (Nat.le_refl _); clear hx9; have K0x := below_next (Below.refl w4.heap.size w4) (by first | exact Ext.refl _ | exact (Ext.refl _).drew | exact (Ext.refl _).alloc _ | exact ((Ext.refl _).alloc _).drew | exact ((Ext.refl _).drew).alloc _ | exact (((Ext.refl _).drew).alloc _).drew | exact ((Ext.refl _).alloc _).alloc _ | exact (((Ext.refl _).alloc _).alloc _).drew) hb (Nat.le_refl _); have C1_0x := blk_next Ba1_4.out (by first | exact Ext.refl _ | exact (Ext.refl _).drew | exact (Ext.refl _).alloc _ | exact ((Ext.refl _).alloc _).drew | exact ((Ext.refl _).drew).alloc _ | exact (((Ext.refl _).drew).alloc _).drew | exact ((Ext.refl _).alloc _).alloc _ | exact (((Ext.refl _).alloc _).alloc _).drew) hb; have C0_0x := blk_next b4.out (by first | exact Ext.refl _ | exact (Ext.refl _).drew | exact (Ext.refl _).alloc _ | exact ((Ext.refl _).alloc _).drew | exact ((Ext.refl _).drew).alloc _ | exact (((Ext.refl _).drew).alloc _).drew | exact ((Ext.refl _).alloc _).alloc _ | exact (((Ext.refl _).alloc _).alloc _).drew) hb; have T0_0x := twr_next T3_4.out (by first | exact Ext.refl _ | exact (Ext.refl _).drew | exact (Ext.refl _).alloc _ | exact ((Ext.refl _).alloc _).drew | exact ((Ext.refl _).drew).alloc _ | exact (((Ext.refl _).drew).alloc _).drew | exact ((Ext.refl _).alloc _).alloc _ | exact (((Ext.refl _).alloc _).alloc _).drew) hb; (try have nb0 := blk_next (Blk.new w4 29 #[.int .i64 0, .slice none 0 0]) (by first | exact Ext.refl _ | exact (Ext.refl _).drew | exact (Ext.refl _).alloc _ | exact ((Ext.refl _).alloc _).drew | exact ((Ext.refl _).drew).alloc _ | exact (((Ext.refl _).drew).alloc _).drew | exact ((Ext.refl _).alloc _).alloc _ | exact (((Ext.refl _).alloc _).alloc _).drew) hb); clear hb; have rb01_0 := C1_0x.rd 0 rfl; have rb0z1_0 := (C1_0x.ext ((Ext.refl _).alloc (Obj.cells #[.int .i64 0, .slice none 0 0] 29))).rd 0 rfl; have rb01_1 := C1_0x.rd 1 rfl; have rb0z1_1 := (C1_0x.ext ((Ext.refl _).alloc (Obj.cells #[.int .i64 0, .slice none 0 0] 29))).rd 1 rfl; have rb01_2 := C1_0x.rd 2 rfl; have rb0z1_2 := (C1_0x.ext ((Ext.refl _).alloc (Obj.cells #[.int .i64 0, .slice none 0 0] 29))).rd 2 rfl; have rb01_3 := C1_0x.rd 3 rfl; have rb0z1_3 := (C1_0x.ext ((Ext.refl _).alloc (Obj.cells #[.int .i64 0, .slice none 0 0] 29))).rd 3 rfl; have rb00_0 := C0_0x.rd 0 rfl; have rb0z0_0 := (C0_0x.ext ((Ext.refl _).alloc (Obj.cells #[.int .i64 0, .slice none 0 0] 29))).rd 0 rfl; have rb00_1 := C0_0x.rd 1 rfl; have rb0z0_1 := (C0_0x.ext ((Ext.refl _).alloc (Obj.cells #[.int .i64 0, .slice none 0 0] 29))).rd 1 rfl)
          | (go_simp; go_at_call 8; with_reducible refine (HI.out _ A_3 _ (Nat.le_refl _) (T0_0x.ext (by first | exact Ext.refl _ | exact (Ext.refl _).drew | exact (Ext.refl _).alloc _ | exact ((Ext.refl _).alloc _).drew | exact ((Ext.refl _).drew).alloc _ | exact (((Ext.refl _).drew).alloc _).drew | exact ((Ext.refl _).alloc _).alloc _ | exact (((Ext.refl _).alloc _).alloc _).drew)).tr).mono ?_; rintro e w5y ⟨B5_0_, cap5_0, rfl, hb, hw0⟩; have hKc := below_pair K0x (by first | exact Ext.refl _ | exact (Ext.refl _).drew | exact (Ext.refl _).alloc _ | exact ((Ext.refl _).alloc _).drew | exact ((Ext.refl _).drew).alloc _ | exact (((Ext.refl _).drew).alloc _).drew | exact ((Ext.refl _).alloc _).alloc _ | exact (((Ext.refl _).alloc _).alloc _).drew) hb (Nat.le_refl _); (try have nc0 := blk_pair nb0 (by first | exact Ext.refl _ | exact (Ext.refl _).drew | exact (Ext.refl _).alloc _ | exact ((Ext.refl _).alloc _).drew | exact ((Ext.refl _).drew).alloc _ | exact (((Ext.refl _).drew).alloc _).drew | exact ((Ext.refl _).alloc _).alloc _ | exact (((Ext.refl _).alloc _).alloc _).drew) hb); (try replace nb0 := blk_next nb0 (by first | exact Ext.refl _ | exact (Ext.refl _).drew | exact (Ext.refl _).alloc _ | exact ((Ext.refl _).alloc _).drew | exact ((Ext.refl _).drew).alloc _ | exact (((Ext.refl _).drew).alloc _).drew | exact ((Ext.refl _).alloc _).alloc _ | exact (((Ext.refl _).alloc _).alloc _).drew) hb); (try have nc1 := blk_pair (Blk.new w0x 29 #[.int .i64 0, .slice none 0 0]) (by first | exact Ext.refl _ | exact (Ext.refl _).drew | exact (Ext.refl _).alloc _ | exact ((Ext.refl _).alloc _).drew | exact ((Ext.refl _).drew).alloc _ | exact (((Ext.refl _).drew).alloc _).drew | exact ((Ext.refl _).alloc _).alloc _ | exact (((Ext.refl _).alloc _).alloc _).drew) hb); (try have nb1 := blk_next (Blk.new w0x 29 #[.int .i64 0, .slice none 0 0]) (by first | exact Ext.refl _ | exact (Ext.refl _).drew | exact (Ext.refl _).alloc _ | exact ((Ext.refl _).alloc _).drew | exact ((Ext.refl _).drew).alloc _ | exact (((Ext.refl _).drew).alloc _).drew | exact ((Ext.refl _).alloc _).alloc _ | exact (((Ext.refl _).alloc _).alloc _).drew) hb); (try have rr0 := nb0.rd 0 rfl); (try have zz0 := nb0.frozen 0); (try have rr1 := nb0.rd 1 rfl); (try have zz1 := nb0.frozen 1); (try have rr0 := nb1.rd 0 rfl); (try have zz0 := nb1.frozen 0); (try have rr1 := nb1.rd 1 rfl); (try have zz1 := nb1.frozen 1)))
        all_goals
          go_wp2_with fail
          go_meet
          first
            | (obtain ⟨h1, h2, h3, h4, h5⟩ := close_set2 (.int .i64 z0) (.slice B5_0_ m0 cap5_0) _ _ hKc hb hw0 nc0 rfl (Nat.le_refl _) (Nat.le_refl _); exact ⟨_, _, _, rfl, h1, h2, h3, rfl, h4, h5⟩)
            | (obtain ⟨h1, h2, h3, h4, h5⟩ := close_set2 (.int .i64 z0) (.slice B5_0_ m0 cap5_0) _ _ hKc hb hw0 nc1 rfl K0x.size (Nat.le_refl _); exact ⟨_, _, _, rfl, h1, h2, h3, rfl, h4, h5⟩)
            | (obtain ⟨h1, h2, h3, h4, h5⟩ := close_new2 29 (.int .i64 z0) (.slice B5_0_ m0 cap5_0) hKc hb hw0 (Ext.refl _) (Nat.le_refl _); exact ⟨_, _, _, rfl, h1, h2, h3, rfl, h4, h5⟩)
      case rest =>
        obtain ⟨g5_0, B5_0_, cap5_0, rfl, hgl5, hgs5, hbk5, rfl, ⟨lo5, hi5, hlo5, hhi5, hap5, hw0⟩, hb⟩ := hcut
        obtain ⟨w5, hwk⟩ : ∃ w', w' = wc := ⟨_, rfl⟩
        subst hwk
        clear ra1_0 ra1_1 ra1_2 ra1_3 ra0_0 ra0_1 raz1_0 raz1_1 raz1_2 raz1_3 raz0_0 raz0_1
        have s5 := hb.size
        have t5_0 := Lib.hid hw0
        have b5 := Lib.hid hbk5
        have K5 := Lib.hid (K4.out.trans (hb.mono K4.out.size))
        have Ba0_5 := Lib.hid (Ba0_4.out.below hb Ba0_4.out.lt)
        have Ba1_5 := Lib.hid (Ba1_4.out.below hb Ba1_4.out.lt)
        have B2_5 := Lib.hid (B2_4.out.below hb B2_4.out.lt)
        have B4_5 := Lib.hid (b4.out.below hb b4.out.lt)
        have T2_0_5 := Lib.hid (T2_0_4.out.below hb)
        have T3_5 := Lib.hid (T3_4.out.below hb)
        clear K4 Ba0_4 Ba1_4 B2_4 b4 T2_0_4 T3_4
        clear hb hw0 hbk5
        have ra0_0 := Ba0_5.out.rd 0 rfl
        have ra0_1 := Ba0_5.out.rd 1 rfl
        have ra1_0 := Ba1_5.out.rd 0 rfl
        have ra1_1 := Ba1_5.out.rd 1 rfl
        have ra1_2 := Ba1_5.out.rd 2 rfl
        have ra1_3 := Ba1_5.out.rd 3 rfl
        have r2_0 := B2_5.out.rd 0 rfl
        have r2_1 := B2_5.out.rd 1 rfl
        have r4_0 := B4_5.out.rd 0 rfl
        have r4_1 := B4_5.out.rd 1 rfl
        have r5_0 := b5.out.rd 0 rfl
        have r5_1 := b5.out.rd 1 rfl
        go_wp2_with fail
        clear ra0_0 ra0_1 ra1_0 ra1_1 ra1_2 ra1_3 r2_0 r2_1 r4_0 r4_1 r5_0 r5_1
        refine (eqSet_any z0 z0 B5_0_ B2_0_ m0 m0 _ _ us0 us0 _ (by omega) HM0.out HM0.out t5_0.out.tr T2_0_5.out.tr).mono ?_
        rw [decide_eq_true (⟨rfl, rfl⟩ : z0 = z0 ∧ us0 = us0)]
        rintro e w6 ⟨rfl, hx⟩
        have s6 := (hx.below (Nat.le_refl _)).size
        have K6 := Lib.hid (K5.out.trans (hx.below K5.out.size))
        have Ba0_6 := Lib.hid (Ba0_5.out.ext hx)
        have Ba1_6 := Lib.hid (Ba1_5.out.ext hx)
        have B2_6 := Lib.hid (B2_5.out.ext hx)
        have B4_6 := Lib.hid (B4_5.out.ext hx)
        have B5_6 := Lib.hid (b5.out.ext hx)
        have T2_0_6 := Lib.hid (T2_0_5.out.ext hx)
        have T3_6 := Lib.hid (T3_5.out.ext hx)
        have T5_0_6 := Lib.hid (t5_0.out.ext hx)
        clear K5 Ba0_5 Ba1_5 B2_5 B4_5 b5 T2_0_5 T3_5 t5_0
        clear hx
        have ra0_0 := Ba0_6.out.rd 0 rfl
        have ra0_1 := Ba0_6.out.rd 1 rfl
        have ra1_0 := Ba1_6.out.rd 0 rfl
        have ra1_1 := Ba1_6.out.rd 1 rfl
        have ra1_2 := Ba1_6.out.rd 2 rfl
        have ra1_3 := Ba1_6.out.rd 3 rfl
        have r2_0 := B2_6.out.rd 0 rfl
        have r2_1 := B2_6.out.rd 1 rfl
        have r4_0 := B4_6.out.rd 0 rfl
        have r4_1 := B4_6.out.rd 1 rfl
        have r5_0 := B5_6.out.rd 0 rfl
        have r5_1 := B5_6.out.rd 1 rfl
        go_wp2_with fail
        clear ra0_0 ra0_1 ra1_0 ra1_1 ra1_2 ra1_3 r2_0 r2_1 r4_0 r4_1 r5_0 r5_1
        have ra0_0 := Ba0_6.out.rd 0 rfl
        have ra0_1 := Ba0_6.out.rd 1 rfl
        have ra1_0 := Ba1_6.out.rd 0 rfl
        have ra1_1 := Ba1_6.out.rd 1 rfl
        have r2_0 := B2_6.out.rd 0 rfl
        have r2_1 := B2_6.out.rd 1 rfl
        have r4_0 := B4_6.out.rd 0 rfl
        have r4_1 := B4_6.out.rd 1 rfl
        have r5_0 := B5_6.out.rd 0 rfl
        have r5_1 := B5_6.out.rd 1 rfl
        go_region_held3 (fun w' => w'.cell? ⟨w.heap.size, 0, none⟩ = some (.int .i64 c0) ∧ w'.cell? ⟨w.heap.size, 1, none⟩ = some (.slice A0 n0 q0) ∧ w'.cell? ⟨w3.heap.size, 0, none⟩ = some (.int .i64 c0) ∧ w'.cell? ⟨w3.heap.size, 1, none⟩ = some (.slice A_3 n0 n0))
          (first | exact ⟨ka0_0, ka0_1, k4_0, k4_1⟩ | exact ⟨la0_0, la0_1, l4_0, l4_1⟩ | go_keep)
          (first
            | (go_at_call 6; refine (HT0.out _ K6.out.drew).mono ?_; rintro e w7 ⟨A_7, rfl, hb, hw⟩; have s7 := hb.size; simp only [World.size_drew] at s7; have t7 := Lib.hid hw.r; have K7 := Lib.hid (K6.out.drew.trans (hb.mono K6.out.size)); have Ba0_7 := Lib.hid (Blk.below (w := w6.drew) Ba0_6.out hb Ba0_6.out.lt); have Ba1_7 := Lib.hid (Blk.below (w := w6.drew) Ba1_6.out hb Ba1_6.out.lt); have B2_7 := Lib.hid (Blk.below (w := w6.drew) B2_6.out hb B2_6.out.lt); have B4_7 := Lib.hid (Blk.below (w := w6.drew) B4_6.out hb B4_6.out.lt); have B5_7 := Lib.hid (Blk.below (w := w6.drew) B5_6.out hb B5_6.out.lt); have T2_0_7 := Lib.hid (TWr.below (w := w6.drew) T2_0_6.out hb); have T3_7 := Lib.hid (TWr.below (w := w6.drew) T3_6.out hb); have T5_0_7 := Lib.hid (TWr.below (w := w6.drew) T5_0_6.out hb); clear K6 Ba0_6 Ba1_6 B2_6 B4_6 B5_6 T2_0_6 T3_6 T5_0_6; clear hb hw; have ka0_0 := Ba0_7.out.rd 0 rfl; have ka0_1 := Ba0_7.out.rd 1 rfl; have k4_0 := B4_7.out.rd 0 rfl; have k4_1 := B4_7.out.rd 1 rfl)
            | (go_at_call 9; refine (eqSet_any c0 c0 A_3 A_7 n0 n0 _ _ ts0 ts0 _ (by omega) HL0.out HL0.out T3_7.out.tr t7.out.tr).mono ?_; rw [decide_eq_true (⟨rfl, rfl⟩ : c0 = c0 ∧ ts0 = ts0)]; rintro e w8 ⟨rfl, hx⟩; have s8 := (hx.below (Nat.le_refl _)).size; clear ka0_0 ka0_1 k4_0 k4_1; have K8 := Lib.hid (K7.out.trans (hx.below K7.out.size)); have Ba0_8 := Lib.hid (Ba0_7.out.ext hx); have Ba1_8 := Lib.hid (Ba1_7.out.ext hx); have B2_8 := Lib.hid (B2_7.out.ext hx); have B4_8 := Lib.hid (B4_7.out.ext hx); have B5_8 := Lib.hid (B5_7.out.ext hx); have T2_0_8 := Lib.hid (T2_0_7.out.ext hx); have T3_8 := Lib.hid (T3_7.out.ext hx); have T5_0_8 := Lib.hid (T5_0_7.out.ext hx); have T7_8 := Lib.hid (t7.out.ext hx); clear K7 Ba0_7 Ba1_7 B2_7 B4_7 B5_7 T2_0_7 T3_7 T5_0_7 t7; clear hx; have la0_0 := Ba0_8.out.rd 0 rfl; have la0_1 := Ba0_8.out.rd 1 rfl; have l4_0 := B4_8.out.rd 0 rfl; have l4_1 := B4_8.out.rd 1 rfl))
        clear la0_0 la0_1 l4_0 l4_1 ra0_0 ra0_1 ra1_0 ra1_1 r2_0 r2_1 r4_0 r4_1 r5_0 r5_1
        clear T7_8
        have ra0_0 := Ba0_8.out.rd 0 rfl
        have ra0_1 := Ba0_8.out.rd 1 rfl
        have ra1_0 := Ba1_8.out.rd 0 rfl
        have ra1_1 := Ba1_8.out.rd 1 rfl
        have ra1_2 := Ba1_8.out.rd 2 rfl
        have ra1_3 := Ba1_8.out.rd 3 rfl
        have r2_0 := B2_8.out.rd 0 rfl
        have r2_1 := B2_8.out.rd 1 rfl
        have r4_0 := B4_8.out.rd 0 rfl
        have r4_1 := B4_8.out.rd 1 rfl
        have r5_0 := B5_8.out.rd 0 rfl
        have r5_1 := B5_8.out.rd 1 rfl
        go_wp2_with fail
        clear ra0_0 ra0_1 ra1_0 ra1_1 ra1_2 ra1_3 r2_0 r2_1 r4_0 r4_1 r5_0 r5_1
        refine (markSet_at c0 A_3 n0 _ (1) ts0 _ _ _ (by omega) (by omega) (by omega) HL0.out T3_8.out).mono ?_
        rintro e w9 ⟨rfl, ho, hw⟩
        have s9 := ho.size
        have t9 := Lib.hid hw
        have K9 := Lib.hid (K8.out.trans (ho.below (by omega) K8.out.size))
        have Ba0_9 := Lib.hid (Ba0_8.out.only ho (by omega))
        have Ba1_9 := Lib.hid (Ba1_8.out.only ho (by omega))
        have B2_9 := Lib.hid (B2_8.out.only ho (by omega))
        have B4_9 := Lib.hid (B4_8.out.only ho (by omega))
        have B5_9 := Lib.hid (B5_8.out.only ho (by omega))
        have T2_0_9 := Lib.hid (T2_0_8.out.only ho (by omega))
        have T5_0_9 := Lib.hid (T5_0_8.out.only ho (by omega))
        clear K8 Ba0_8 Ba1_8 B2_8 B4_8 B5_8 T2_0_8 T5_0_8
        clear ho hw T3_8
        have ra0_0 := Ba0_9.out.rd 0 rfl
        have ra0_1 := Ba0_9.out.rd 1 rfl
        have ra1_0 := Ba1_9.out.rd 0 rfl
        have ra1_1 := Ba1_9.out.rd 1 rfl
        have ra1_2 := Ba1_9.out.rd 2 rfl
        have ra1_3 := Ba1_9.out.rd 3 rfl
        have r2_0 := B2_9.out.rd 0 rfl
        have r2_1 := B2_9.out.rd 1 rfl
        have r4_0 := B4_9.out.rd 0 rfl
        have r4_1 := B4_9.out.rd 1 rfl
        have r5_0 := B5_9.out.rd 0 rfl
        have r5_1 := B5_9.out.rd 1 rfl
        go_wp2_with fail
        clear ra0_0 ra0_1 ra1_0 ra1_1 ra1_2 ra1_3 r2_0 r2_1 r4_0 r4_1 r5_0 r5_1
        refine (eqSet_any z0 z0 B5_0_ B2_0_ m0 m0 _ _ us0 us0 _ (by omega) HM0.out HM0.out T5_0_9.out.tr T2_0_9.out.tr).mono ?_
        rw [decide_eq_true (⟨rfl, rfl⟩ : z0 = z0 ∧ us0 = us0)]
        rintro e w10 ⟨rfl, hx⟩
        have s10 := (hx.below (Nat.le_refl _)).size
        have K10 := Lib.hid (K9.out.trans (hx.below K9.out.size))
        have Ba0_10 := Lib.hid (Ba0_9.out.ext hx)
        have Ba1_10 := Lib.hid (Ba1_9.out.ext hx)
        have B2_10 := Lib.hid (B2_9.out.ext hx)
        have B4_10 := Lib.hid (B4_9.out.ext hx)
        have B5_10 := Lib.hid (B5_9.out.ext hx)
        have T2_0_10 := Lib.hid (T2_0_9.out.ext hx)
        have T3_10 := Lib.hid (t9.out.ext hx)
        have T5_0_10 := Lib.hid (T5_0_9.out.ext hx)
        clear K9 Ba0_9 Ba1_9 B2_9 B4_9 B5_9 T2_0_9 t9 T5_0_9
        clear hx
        have ra0_0 := Ba0_10.out.rd 0 rfl
        have ra0_1 := Ba0_10.out.rd 1 rfl
        have ra1_0 := Ba1_10.out.rd 0 rfl
        have ra1_1 := Ba1_10.out.rd 1 rfl
        have ra1_2 := Ba1_10.out.rd 2 rfl
        have ra1_3 := Ba1_10.out.rd 3 rfl
        have r2_0 := B2_10.out.rd 0 rfl
        have r2_1 := B2_10.out.rd 1 rfl
        have r4_0 := B4_10.out.rd 0 rfl
        have r4_1 := B4_10.out.rd 1 rfl
        have r5_0 := B5_10.out.rd 0 rfl
        have r5_1 := B5_10.out.rd 1 rfl
        go_wp2_with fail
        clear ra0_0 ra0_1 ra1_0 ra1_1 ra1_2 ra1_3 r2_0 r2_1 r4_0 r4_1 r5_0 r5_1
        refine (markSet_at z0 B5_0_ m0 _ (1) us0 _ _ _ (by omega) (by omega) (by omega) HM0.out T5_0_10.out).mono ?_
        rintro e w11 ⟨rfl, ho, hw⟩
        have s11 := ho.size
        have t11 := Lib.hid hw
        have K11 := Lib.hid (K10.out.trans (ho.below (by omega) K10.out.size))
        have Ba0_11 := Lib.hid (Ba0_10.out.only ho (by omega))
        have Ba1_11 := Lib.hid (Ba1_10.out.only ho (by omega))
        have B2_11 := Lib.hid (B2_10.out.only ho (by omega))
        have B4_11 := Lib.hid (B4_10.out.only ho (by omega))
        have B5_11 := Lib.hid (B5_10.out.only ho (by omega))
        have T2_0_11 := Lib.hid (T2_0_10.out.only ho (by omega))
        have T3_11 := Lib.hid (T3_10.out.only ho (by omega))
        clear K10 Ba0_10 Ba1_10 B2_10 B4_10 B5_10 T2_0_10 T3_10
        clear ho hw T5_0_10
        have ra0_0 := Ba0_11.out.rd 0 rfl
        have ra0_1 := Ba0_11.out.rd 1 rfl
        have ra1_0 := Ba1_11.out.rd 0 rfl
        have ra1_1 := Ba1_11.out.rd 1 rfl
        have ra1_2 := Ba1_11.out.rd 2 rfl
        have ra1_3 := Ba1_11.out.rd 3 rfl
        have r2_0 := B2_11.out.rd 0 rfl
        have r2_1 := B2_11.out.rd 1 rfl
        have r4_0 := B4_11.out.rd 0 rfl
        have r4_1 := B4_11.out.rd 1 rfl
        have r5_0 := B5_11.out.rd 0 rfl
        have r5_1 := B5_11.out.rd 1 rfl
        go_wp2_with fail
        clear ra0_0 ra0_1 ra1_0 ra1_1 ra1_2 ra1_3 r2_0 r2_1 r4_0 r4_1 r5_0 r5_1
        refine (heldSet_at z0 B5_0_ m0 _ (1) _ (by omega) (by omega) (by omega) t11.out.tr).mono ?_
        rintro e w12 ⟨rfl, hx⟩
        have s12 := (hx.below (Nat.le_refl _)).size
        have K12 := Lib.hid (K11.out.trans (hx.below K11.out.size))
        have Ba0_12 := Lib.hid (Ba0_11.out.ext hx)
        have Ba1_12 := Lib.hid (Ba1_11.out.ext hx)
        have B2_12 := Lib.hid (B2_11.out.ext hx)
        have B4_12 := Lib.hid (B4_11.out.ext hx)
        have B5_12 := Lib.hid (B5_11.out.ext hx)
        have T2_0_12 := Lib.hid (T2_0_11.out.ext hx)
        have T3_12 := Lib.hid (T3_11.out.ext hx)
        have T5_0_12 := Lib.hid (t11.out.ext hx)
        clear K11 Ba0_11 Ba1_11 B2_11 B4_11 B5_11 T2_0_11 T3_11 t11
        clear hx
        have ra0_0 := Ba0_12.out.rd 0 rfl
        have ra0_1 := Ba0_12.out.rd 1 rfl
        have ra1_0 := Ba1_12.out.rd 0 rfl
        have ra1_1 := Ba1_12.out.rd 1 rfl
        have ra1_2 := Ba1_12.out.rd 2 rfl
        have ra1_3 := Ba1_12.out.rd 3 rfl
        have r2_0 := B2_12.out.rd 0 rfl
        have r2_1 := B2_12.out.rd 1 rfl
        have r4_0 := B4_12.out.rd 0 rfl
        have r4_1 := B4_12.out.rd 1 rfl
        have r5_0 := B5_12.out.rd 0 rfl
        have r5_1 := B5_12.out.rd 1 rfl
        go_wp2_with fail
        clear ra0_0 ra0_1 ra1_0 ra1_1 ra1_2 ra1_3 r2_0 r2_1 r4_0 r4_1 r5_0 r5_1
        have ra0_0 := Ba0_12.out.rd 0 rfl
        have raz0_0 := (Ba0_12.out.ext ((Ext.refl _).alloc (Obj.cells #[.int .i64 0, .slice none 0 0] 29))).rd 0 rfl
        have ra0_1 := Ba0_12.out.rd 1 rfl
        have raz0_1 := (Ba0_12.out.ext ((Ext.refl _).alloc (Obj.cells #[.int .i64 0, .slice none 0 0] 29))).rd 1 rfl
        have ra1_0 := Ba1_12.out.rd 0 rfl
        have raz1_0 := (Ba1_12.out.ext ((Ext.refl _).alloc (Obj.cells #[.int .i64 0, .slice none 0 0] 29))).rd 0 rfl
        have ra1_1 := Ba1_12.out.rd 1 rfl
        have raz1_1 := (Ba1_12.out.ext ((Ext.refl _).alloc (Obj.cells #[.int .i64 0, .slice none 0 0] 29))).rd 1 rfl
        have ra1_2 := Ba1_12.out.rd 2 rfl
        have raz1_2 := (Ba1_12.out.ext ((Ext.refl _).alloc (Obj.cells #[.int .i64 0, .slice none 0 0] 29))).rd 2 rfl
        have ra1_3 := Ba1_12.out.rd 3 rfl
        have raz1_3 := (Ba1_12.out.ext ((Ext.refl _).alloc (Obj.cells #[.int .i64 0, .slice none 0 0] 29))).rd 3 rfl
        go_upto_region 23 with (fail)
        go_cut [14, 15] (fun v14 v15 wx => ∃ (g0 : Nat) (R0 : Option Addr) (p0 : Nat), v14 = .pointer (some ⟨g0, 0, none⟩) ∧ w12.heap.size ≤ g0 ∧ g0 < wx.heap.size ∧ Blk wx g0 29 #[.int .i64 z0, .slice R0 m0 p0] ∧ v15 = .int .i64 r1 ∧ TWr wx w12.heap.size wx.heap.size R0 us0 ∧ Below w12.heap.size w12 wx)
        case first =>
          go_region_law (first
            | (go_simp; go_at_call 6; with_reducible refine (HT0.out _ (K12.out.trans ((below_next0 (Below.refl w12.heap.size w12) (by first | exact Ext.refl _ | exact (Ext.refl _).drew | exact (Ext.refl _).alloc _ | exact ((Ext.refl _).alloc _).drew | exact ((Ext.refl _).drew).alloc _ | exact (((Ext.refl _).drew).alloc _).drew | exact ((Ext.refl _).alloc _).alloc _ | exact (((Ext.refl _).alloc _).alloc _).drew) (Nat.le_refl _)).mono K12.out.size))).mono ?_; rintro e w0x ⟨Ax0, rfl, hb, hw⟩; have K0x := below_next (Below.refl w12.heap.size w12) (by first | exact Ext.refl _ | exact (Ext.refl _).drew | exact (Ext.refl _).alloc _ | exact ((Ext.refl _).alloc _).drew | exact ((Ext.refl _).drew).alloc _ | exact (((Ext.refl _).drew).alloc _).drew | exact ((Ext.refl _).alloc _).alloc _ | exact (((Ext.refl _).alloc _).alloc _).drew) hb (Nat.le_refl _); have C0_0x := blk_next Ba0_12.out (by first | exact Ext.refl _ | exact (Ext.refl _).drew | exact (Ext.refl _).alloc _ | exact ((Ext.refl _).alloc _).drew | exact ((Ext.refl _).drew).alloc _ | exact (((Ext.refl _).drew).alloc _).drew | exact ((Ext.refl _).alloc _).alloc _ | exact (((Ext.refl _).alloc _).alloc _).drew) hb; have C1_0x := blk_next Ba1_12.out (by first | exact Ext.refl _ | exact (Ext.refl _).drew | exact (Ext.refl _).alloc _ | exact ((Ext.refl _).alloc _).drew | exact ((Ext.refl _).drew).alloc _ | exact (((Ext.refl _).drew).alloc _).drew | exact ((Ext.refl _).alloc _).alloc _ | exact (((Ext.refl _).alloc _).alloc _).drew) hb; have T0_0x := hw.r; (try have nb0 := blk_next (Blk.new w12 29 #[.int .i64 0, .slice none 0 0]) (by first | exact Ext.refl _ | exact (Ext.refl _).drew | exact (Ext.refl _).alloc _ | exact ((Ext.refl _).alloc _).drew | exact ((Ext.refl _).drew).alloc _ | exact (((Ext.refl _).drew).alloc _).drew | exact ((Ext.refl _).alloc _).alloc _ | exact (((Ext.refl _).alloc _).alloc _).drew) hb); clear hb hw; have rb00_0 := C0_0x.rd 0 rfl; have rb0z0_0 := (C0_0x.ext ((Ext.refl _).alloc (Obj.cells #[.int .i64 0, .slice none 0 0] 29))).rd 0 rfl; have rb00_1 := C0_0x.rd 1 rfl; have rb0z0_1 := (C0_0x.ext ((Ext.refl _).alloc (Obj.cells #[.int .i64 0, .slice none 0 0] 29))).rd 1 rfl; have rb01_0 := C1_0x.rd 0 rfl; have rb0z1_0 := (C1_0x.ext ((Ext.refl _).alloc (Obj.cells #[.int .i64 0, .slice none 0 0] 29))).rd 0 rfl; have rb01_1 := C1_0x.rd 1 rfl; have rb0z1_1 := (C1_0x.ext ((Ext.refl _).alloc (Obj.cells #[.int .i64 0, .slice none 0 0] 29))).rd 1 rfl; have rb01_2 := C1_0x.rd 2 rfl; have rb0z1_2 := (C1_0x.ext ((Ext.refl _).alloc (Obj.cells #[.int .i64 0, .slice none 0 0] 29))).rd 2 rfl; have rb01_3 := C1_0x.rd 3 rfl; have rb0z1_3 := (C1_0x.ext ((Ext.refl _).alloc (Obj.cells #[.int .i64 0, .slice none 0 0] 29))).rd 3 rfl)
            | (go_simp; go_at_call 7; with_reducible refine (HT1.out _).mono ?_; rintro e w1x ⟨rfl, hx9⟩; have hb := hx9.below (Nat.le_refl _); clear hx9; have K1x := below_next K0x (by first | exact Ext.refl _ | exact (Ext.refl _).drew | exact (Ext.refl _).alloc _ | exact ((Ext.refl _).alloc _).drew | exact ((Ext.refl _).drew).alloc _ | exact (((Ext.refl _).drew).alloc _).drew | exact ((Ext.refl _).alloc _).alloc _ | exact (((Ext.refl _).alloc _).alloc _).drew) hb (Nat.le_refl _); have C0_1x := blk_next C0_0x (by first | exact Ext.refl _ | exact (Ext.refl _).drew | exact (Ext.refl _).alloc _ | exact ((Ext.refl _).alloc _).drew | exact ((Ext.refl _).drew).alloc _ | exact (((Ext.refl _).drew).alloc _).drew | exact ((Ext.refl _).alloc _).alloc _ | exact (((Ext.refl _).alloc _).alloc _).drew) hb; have C1_1x := blk_next C1_0x (by first | exact Ext.refl _ | exact (Ext.refl _).drew | exact (Ext.refl _).alloc _ | exact ((Ext.refl _).alloc _).drew | exact ((Ext.refl _).drew).alloc _ | exact (((Ext.refl _).drew).alloc _).drew | exact ((Ext.refl _).alloc _).alloc _ | exact (((Ext.refl _).alloc _).alloc _).drew) hb; have T0_1x := twr_next T0_0x (by first | exact Ext.refl _ | exact (Ext.refl _).drew | exact (Ext.refl _).alloc _ | exact ((Ext.refl _).alloc _).drew | exact ((Ext.refl _).drew).alloc _ | exact (((Ext.refl _).drew).alloc _).drew | exact ((Ext.refl _).alloc _).alloc _ | exact (((Ext.refl _).alloc _).alloc _).drew) hb; (try replace nb0 := blk_next nb0 (by first | exact Ext.refl _ | exact (Ext.refl _).drew | exact (Ext.refl _).alloc _ | exact ((Ext.refl _).alloc _).drew | exact ((Ext.refl _).drew).alloc _ | exact (((Ext.refl _).drew).alloc _).drew | exact ((Ext.refl _).alloc _).alloc _ | exact (((Ext.refl _).alloc _).alloc _).drew) hb); (try have nb1 := blk_next (Blk.new w0x 29 #[.int .i64 0, .slice none 0 0]) (by first | exact Ext.refl _ | exact (Ext.refl _).drew | exact (Ext.refl _).alloc _ | exact ((Ext.refl _).alloc _).drew | exact ((Ext.refl _).drew).alloc _ | exact (((Ext.refl _).drew).alloc _).drew | exact ((Ext.refl _).alloc _).alloc _ | exact (((Ext.refl _).alloc _).alloc _).drew) hb); clear hb; have rb10_0 := C0_1x.rd 0 rfl; have rb1z0_0 := (C0_1x.ext ((Ext.refl _).alloc (Obj.cells #[.int .i64 0, .slice none 0 0] 29))).rd 0 rfl; have rb10_1 := C0_1x.rd 1 rfl; have rb1z0_1 := (C0_1x.ext ((Ext.refl _).alloc (Obj.cells #[.int .i64 0, .slice none 0 0] 29))).rd 1 rfl; have rb11_0 := C1_1x.rd 0 rfl; have rb1z1_0 := (C1_1x.ext ((Ext.refl _).alloc (Obj.cells #[.int .i64 0, .slice none 0 0] 29))).rd 0 rfl; have rb11_1 := C1_1x.rd 1 rfl; have rb1z1_1 := (C1_1x.ext ((Ext.refl _).alloc (Obj.cells #[.int .i64 0, .slice none 0 0] 29))).rd 1 rfl; have rb11_2 := C1_1x.rd 2 rfl; have rb1z1_2 := (C1_1x.ext ((Ext.refl _).alloc (Obj.cells #[.int .i64 0, .slice none 0 0] 29))).rd 2 rfl; have rb11_3 := C1_1x.rd 3 rfl; have rb1z1_3 := (C1_1x.ext ((Ext.refl _).alloc (Obj.cells #[.int .i64 0, .slice none 0 0] 29))).rd 3 rfl)
            | (go_simp; go_at_call 8; with_reducible refine (HI.out _ Ax0 _ (Nat.le_refl _) (T0_1x.ext (by first | exact Ext.refl _ | exact (Ext.refl _).drew | exact (Ext.refl _).alloc _ | exact ((Ext.refl _).alloc _).drew | exact ((Ext.refl _).drew).alloc _ | exact (((Ext.refl _).drew).alloc _).drew | exact ((Ext.refl _).alloc _).alloc _ | exact (((Ext.refl _).alloc _).alloc _).drew)).tr).mono ?_; rintro e w13y ⟨B13_0_, cap13_0, rfl, hb, hw0⟩; have hKc := below_pair K1x (by first | exact Ext.refl _ | exact (Ext.refl _).drew | exact (Ext.refl _).alloc _ | exact ((Ext.refl _).alloc _).drew | exact ((Ext.refl _).drew).alloc _ | exact (((Ext.refl _).drew).alloc _).drew | exact ((Ext.refl _).alloc _).alloc _ | exact (((Ext.refl _).alloc _).alloc _).drew) hb (Nat.le_refl _); (try have nc0 := blk_pair nb0 (by first | exact Ext.refl _ | exact (Ext.refl _).drew | exact (Ext.refl _).alloc _ | exact ((Ext.refl _).alloc _).drew | exact ((Ext.refl _).drew).alloc _ | exact (((Ext.refl _).drew).alloc _).drew | exact ((Ext.refl _).alloc _).alloc _ | exact (((Ext.refl _).alloc _).alloc _).drew) hb); (try replace nb0 := blk_next nb0 (by first | exact Ext.refl _ | exact (Ext.refl _).drew | exact (Ext.refl _).alloc _ | exact ((Ext.refl _).alloc _).drew | exact ((Ext.refl _).drew).alloc _ | exact (((Ext.refl _).drew).alloc _).drew | exact ((Ext.refl _).alloc _).alloc _ | exact (((Ext.refl _).alloc _).alloc _).drew) hb); (try have nc1 := blk_pair nb1 (by first | exact Ext.refl _ | exact (Ext.refl _).drew | exact (Ext.refl _).alloc _ | exact ((Ext.refl _).alloc _).drew | exact ((Ext.refl _).drew).alloc _ | exact (((Ext.refl _).drew).alloc _).drew | exact ((Ext.refl _).alloc _).alloc _ | exact (((Ext.refl _).alloc _).alloc _).drew) hb); (try replace nb1 := blk_next nb1 (by first | exact Ext.refl _ | exact (Ext.refl _).drew | exact (Ext.refl _).alloc _ | exact ((Ext.refl _).alloc _).drew | exact ((Ext.refl _).drew).alloc _ | exact (((Ext.refl _).drew).alloc _).drew | exact ((Ext.refl _).alloc _).alloc _ | exact (((Ext.refl _).alloc _).alloc _).drew) hb); (try have nc2 := blk_pair (Blk.new w1x 29 #[.int .i64 0, .slice none 0 0]) (by first | exact Ext.refl _ | exact (Ext.refl _).drew | exact (Ext.refl _).alloc _ | exact ((Ext.refl _).alloc _).drew | exact ((Ext.refl _).drew).alloc _ | exact (((Ext.refl _).drew).alloc _).drew | exact ((Ext.refl _).alloc _).alloc _ | exact (((Ext.refl _).alloc _).alloc _).drew) hb); (try have nb2 := blk_next (Blk.new w1x 29 #[.int .i64 0, .slice none 0 0]) (by first | exact Ext.refl _ | exact (Ext.refl _).drew | exact (Ext.refl _).alloc _ | exact ((Ext.refl _).alloc _).drew | exact ((Ext.refl _).drew).alloc _ | exact (((Ext.refl _).drew).alloc _).drew | exact ((Ext.refl _).alloc _).alloc _ | exact (((Ext.refl _).alloc _).alloc _).drew) hb); (try have rr0 := nb0.rd 0 rfl); (try have zz0 := nb0.frozen 0); (try have rr1 := nb0.rd 1 rfl); (try have zz1 := nb0.frozen 1); (try have rr0 := nb1.rd 0 rfl); (try have zz0 := nb1.frozen 0); (try have rr1 := nb1.rd 1 rfl); (try have zz1 := nb1.frozen 1); (try have rr0 := nb2.rd 0 rfl); (try have zz0 := nb2.frozen 0); (try have rr1 := nb2.rd 1 rfl); (try have zz1 := nb2.frozen 1)))
          all_goals
            go_wp2_with fail
            go_meet
            first
              | (obtain ⟨h1, h2, h3, h4, h5⟩ := close_set (.int .i64 z0) (.slice B13_0_ m0 cap13_0) _ _ hKc hb hw0 nc0 rfl (Nat.le_refl _) (Nat.le_refl _); exact ⟨_, _, _, rfl, h1, h2, h3, rfl, h4, h5⟩)
              | (obtain ⟨h1, h2, h3, h4, h5⟩ := close_set (.int .i64 z0) (.slice B13_0_ m0 cap13_0) _ _ hKc hb hw0 nc1 rfl K0x.size (Nat.le_refl _); exact ⟨_, _, _, rfl, h1, h2, h3, rfl, h4, h5⟩)
              | (obtain ⟨h1, h2, h3, h4, h5⟩ := close_set (.int .i64 z0) (.slice B13_0_ m0 cap13_0) _ _ hKc hb hw0 nc2 rfl K1x.size (Nat.le_refl _); exact ⟨_, _, _, rfl, h1, h2, h3, rfl, h4, h5⟩)
              | (obtain ⟨h1, h2, h3, h4, h5⟩ := close_new 29 (.int .i64 z0) (.slice B13_0_ m0 cap13_0) hKc hb hw0 (Ext.refl _) (Nat.le_refl _); exact ⟨_, _, _, rfl, h1, h2, h3, rfl, h4, h5⟩)
        case rest =>
          obtain ⟨g13_0, B13_0_, cap13_0, rfl, hgl13, hgs13, hbk13, rfl, hw0, hb⟩ := hcut
          obtain ⟨w13, hwk⟩ : ∃ w', w' = wc := ⟨_, rfl⟩
          subst hwk
          clear ra0_0 ra0_1 ra1_0 ra1_1 ra1_2 ra1_3 raz0_0 raz0_1 raz1_0 raz1_1 raz1_2 raz1_3
          have s13 := hb.size
          have t13_0 := Lib.hid hw0
          have b13 := Lib.hid hbk13
          have K13 := Lib.hid (K12.out.trans (hb.mono K12.out.size))
          have Ba0_13 := Lib.hid (Ba0_12.out.below hb Ba0_12.out.lt)
          have Ba1_13 := Lib.hid (Ba1_12.out.below hb Ba1_12.out.lt)
          have B2_13 := Lib.hid (B2_12.out.below hb B2_12.out.lt)
          have B4_13 := Lib.hid (B4_12.out.below hb B4_12.out.lt)
          have B5_13 := Lib.hid (B5_12.out.below hb B5_12.out.lt)
          have T2_0_13 := Lib.hid (T2_0_12.out.below hb)
          have T3_13 := Lib.hid (T3_12.out.below hb)
          have T5_0_13 := Lib.hid (T5_0_12.out.below hb)
          clear K12 Ba0_12 Ba1_12 B2_12 B4_12 B5_12 T2_0_12 T3_12 T5_0_12
          clear hb hw0 hbk13
          have ra0_0 := Ba0_13.out.rd 0 rfl
          have ra0_1 := Ba0_13.out.rd 1 rfl
          have ra1_0 := Ba1_13.out.rd 0 rfl
          have ra1_1 := Ba1_13.out.rd 1 rfl
          have ra1_2 := Ba1_13.out.rd 2 rfl
          have ra1_3 := Ba1_13.out.rd 3 rfl
          have r2_0 := B2_13.out.rd 0 rfl
          have r2_1 := B2_13.out.rd 1 rfl
          have r4_0 := B4_13.out.rd 0 rfl
          have r4_1 := B4_13.out.rd 1 rfl
          have r5_0 := B5_13.out.rd 0 rfl
          have r5_1 := B5_13.out.rd 1 rfl
          have r13_0 := b13.out.rd 0 rfl
          have r13_1 := b13.out.rd 1 rfl
          go_wp2_with fail
          clear ra0_0 ra0_1 ra1_0 ra1_1 ra1_2 ra1_3 r2_0 r2_1 r4_0 r4_1 r5_0 r5_1 r13_0 r13_1
          refine (eqSet_any z0 z0 B13_0_ B2_0_ m0 m0 _ _ us0 us0 _ (by omega) HM0.out HM0.out t13_0.out.tr T2_0_13.out.tr).mono ?_
          rw [decide_eq_true (⟨rfl, rfl⟩ : z0 = z0 ∧ us0 = us0)]
          rintro e w14 ⟨rfl, hx⟩
          have s14 := (hx.below (Nat.le_refl _)).size
          have K14 := Lib.hid (K13.out.trans (hx.below K13.out.size))
          have Ba0_14 := Lib.hid (Ba0_13.out.ext hx)
          have Ba1_14 := Lib.hid (Ba1_13.out.ext hx)
          have B2_14 := Lib.hid (B2_13.out.ext hx)
          have B4_14 := Lib.hid (B4_13.out.ext hx)
          have B5_14 := Lib.hid (B5_13.out.ext hx)
          have B13_14 := Lib.hid (b13.out.ext hx)
          have T2_0_14 := Lib.hid (T2_0_13.out.ext hx)
          have T3_14 := Lib.hid (T3_13.out.ext hx)
          have T5_0_14 := Lib.hid (T5_0_13.out.ext hx)
          have T13_0_14 := Lib.hid (t13_0.out.ext hx)
          clear K13 Ba0_13 Ba1_13 B2_13 B4_13 B5_13 b13 T2_0_13 T3_13 T5_0_13 t13_0
          clear hx
          have ra0_0 := Ba0_14.out.rd 0 rfl
          have ra0_1 := Ba0_14.out.rd 1 rfl
          have ra1_0 := Ba1_14.out.rd 0 rfl
          have ra1_1 := Ba1_14.out.rd 1 rfl
          have ra1_2 := Ba1_14.out.rd 2 rfl
          have ra1_3 := Ba1_14.out.rd 3 rfl
          have r2_0 := B2_14.out.rd 0 rfl
          have r2_1 := B2_14.out.rd 1 rfl
          have r4_0 := B4_14.out.rd 0 rfl
          have r4_1 := B4_14.out.rd 1 rfl
          have r5_0 := B5_14.out.rd 0 rfl
          have r5_1 := B5_14.out.rd 1 rfl
          have r13_0 := B13_14.out.rd 0 rfl
          have r13_1 := B13_14.out.rd 1 rfl
          go_wp2_with fail
          clear ra0_0 ra0_1 ra1_0 ra1_1 ra1_2 ra1_3 r2_0 r2_1 r4_0 r4_1 r5_0 r5_1 r13_0 r13_1
          refine (heldSet_at z0 B5_0_ m0 _ (1) _ (by omega) (by omega) (by omega) T5_0_14.out.tr).mono ?_
          rintro e w15 ⟨rfl, hx⟩
          have s15 := (hx.below (Nat.le_refl _)).size
          have K15 := Lib.hid (K14.out.trans (hx.below K14.out.size))
          have Ba0_15 := Lib.hid (Ba0_14.out.ext hx)
          have Ba1_15 := Lib.hid (Ba1_14.out.ext hx)
          have B2_15 := Lib.hid (B2_14.out.ext hx)
          have B4_15 := Lib.hid (B4_14.out.ext hx)
          have B5_15 := Lib.hid (B5_14.out.ext hx)
          have B13_15 := Lib.hid (B13_14.out.ext hx)
          have T2_0_15 := Lib.hid (T2_0_14.out.ext hx)
          have T3_15 := Lib.hid (T3_14.out.ext hx)
          have T5_0_15 := Lib.hid (T5_0_14.out.ext hx)
          have T13_0_15 := Lib.hid (T13_0_14.out.ext hx)
          clear K14 Ba0_14 Ba1_14 B2_14 B4_14 B5_14 B13_14 T2_0_14 T3_14 T5_0_14 T13_0_14
          clear hx
          have ra0_0 := Ba0_15.out.rd 0 rfl
          have ra0_1 := Ba0_15.out.rd 1 rfl
          have ra1_0 := Ba1_15.out.rd 0 rfl
          have ra1_1 := Ba1_15.out.rd 1 rfl
          have ra1_2 := Ba1_15.out.rd 2 rfl
          have ra1_3 := Ba1_15.out.rd 3 rfl
          have r2_0 := B2_15.out.rd 0 rfl
          have r2_1 := B2_15.out.rd 1 rfl
          have r4_0 := B4_15.out.rd 0 rfl
          have r4_1 := B4_15.out.rd 1 rfl
          have r5_0 := B5_15.out.rd 0 rfl
          have r5_1 := B5_15.out.rd 1 rfl
          have r13_0 := B13_15.out.rd 0 rfl
          have r13_1 := B13_15.out.rd 1 rfl
          go_wp2_with fail
          clear ra0_0 ra0_1 ra1_0 ra1_1 ra1_2 ra1_3 r2_0 r2_1 r4_0 r4_1 r5_0 r5_1 r13_0 r13_1
          go_ret
          exact ⟨rfl, K15.out⟩
end Go.Proofs.Ytfacdmkcklimjaa
