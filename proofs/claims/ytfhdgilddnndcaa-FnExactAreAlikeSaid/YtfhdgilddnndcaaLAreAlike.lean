/- The exact law over AreAlike: walked. -/
import Derived.Test.YtfhdgilddnndcaaTn7
import Derived.Test.YtfhdgilddnndcaaMark2
import Derived.Test.YtfhdgilddnndcaaSBridge
import Derived.Test.YtfhdgilddnndcaaCut2
import Derived.Deep.RegionHeld3
import Derived.Deep.RegionLaw
import Derived.Deep.DeepCutAuto
namespace Go.Proofs.Ytfhdgilddnndcaa
set_option linter.unusedVariables false
set_option linter.unusedSimpArgs false
open Go.RowKit Go.Sort

set_option maxRecDepth 100000 in
set_option maxHeartbeats 4000000 in
theorem lawAreAlike_core (a0 b0 d0 f0 : Int) (a1 b1 d1 f1 : Int) (w : World)  (r0 : Bool) (r1 : Bool) (r2 : Int) 
    (hspec : True → ∀ (W : World) , Calls Try.prog 33 #[.agg #[.int .i64 a0, .int .i64 b0, .int .i64 d0, .int .i64 f0], .agg #[.int .i64 a1, .int .i64 b1, .int .i64 d1, .int .i64 f1]] W (fun e w' => e = .returned (.tuple #[.bool r0, .bool r1, .int .i64 r2]) ∧ Below W.heap.size W w'))
    (himpl : True → ∀ (W : World) , Calls Try.prog 34 #[.agg #[.int .i64 a0, .int .i64 b0, .int .i64 d0, .int .i64 f0], .agg #[.int .i64 a1, .int .i64 b1, .int .i64 d1, .int .i64 f1]] W (fun e w' => e = .returned (.tuple #[.bool r0, .bool r1, .int .i64 r2]) ∧ Below W.heap.size W w')) :
    Calls Try.prog 7 #[.agg #[.int .i64 a0, .int .i64 b0, .int .i64 d0, .int .i64 f0], .agg #[.int .i64 a1, .int .i64 b1, .int .i64 d1, .int .i64 f1]] w fun e w' => e = .returned (.bool true) ∧ Below w.heap.size w w' := by
  have htt0 := fun W => toTile_any (a0, b0, d0, f0) W
  simp only [tv] at htt0
  have HT0 := Lib.hid htt0
  clear htt0
  have htt1 := fun W => toTile_any (a1, b1, d1, f1) W
  simp only [tv] at htt1
  have HT1 := Lib.hid htt1
  clear htt1
  have HS := Lib.hid (hspec trivial)
  have HI := Lib.hid (himpl trivial)
  clear hspec himpl 
  have hcc0 : (r0 != r0) = false := by simp
  have hcc1 : (r1 != r1) = false := by simp
  have hcc2 : (r2 != r2) = false := by simp
  go_enter Try.func7, Try.ntmps7
  go_wp2_with fail
  have hx0 : Ext w ((w.alloc (Obj.cells #[.int .i64 a0, .int .i64 b0, .int .i64 d0, .int .i64 f0] 35)).alloc (Obj.cells #[.int .i64 a1, .int .i64 b1, .int .i64 d1, .int .i64 f1] 35)) := (((Ext.refl w).alloc _).alloc _)
  have b00 : Blk ((w.alloc (Obj.cells #[.int .i64 a0, .int .i64 b0, .int .i64 d0, .int .i64 f0] 35)).alloc (Obj.cells #[.int .i64 a1, .int .i64 b1, .int .i64 d1, .int .i64 f1] 35)) w.heap.size 35 #[.int .i64 a0, .int .i64 b0, .int .i64 d0, .int .i64 f0] := ((Blk.new w 35 #[.int .i64 a0, .int .i64 b0, .int .i64 d0, .int .i64 f0]).ext (((Ext.refl _).alloc _)))
  have b01 : Blk ((w.alloc (Obj.cells #[.int .i64 a0, .int .i64 b0, .int .i64 d0, .int .i64 f0] 35)).alloc (Obj.cells #[.int .i64 a1, .int .i64 b1, .int .i64 d1, .int .i64 f1] 35)) (w.heap.size + 1) 35 #[.int .i64 a1, .int .i64 b1, .int .i64 d1, .int .i64 f1] := by have := (Blk.new (w.alloc (Obj.cells #[.int .i64 a0, .int .i64 b0, .int .i64 d0, .int .i64 f0] 35)) 35 #[.int .i64 a1, .int .i64 b1, .int .i64 d1, .int .i64 f1]); simpa using this
  have s0 : w.heap.size + 2 ≤ ((w.alloc (Obj.cells #[.int .i64 a0, .int .i64 b0, .int .i64 d0, .int .i64 f0] 35)).alloc (Obj.cells #[.int .i64 a1, .int .i64 b1, .int .i64 d1, .int .i64 f1] 35)).heap.size := by simp
  have K0 := Lib.hid (hx0.below (Nat.le_refl _))
  have C00 := Lib.hid b00
  have C01 := Lib.hid b01
  clear hx0 b00 b01
  generalize ((w.alloc (Obj.cells #[.int .i64 a0, .int .i64 b0, .int .i64 d0, .int .i64 f0] 35)).alloc (Obj.cells #[.int .i64 a1, .int .i64 b1, .int .i64 d1, .int .i64 f1] 35)) = w0 at *
  have ra0_0 := C00.out.rd 0 rfl
  have ra0_1 := C00.out.rd 1 rfl
  have ra0_2 := C00.out.rd 2 rfl
  have ra0_3 := C00.out.rd 3 rfl
  have ra1_0 := C01.out.rd 0 rfl
  have ra1_1 := C01.out.rd 1 rfl
  have ra1_2 := C01.out.rd 2 rfl
  have ra1_3 := C01.out.rd 3 rfl
  go_upto_region 2 with (fail)
  go_cut [5, 6, 7] (fun v5 v6 v7 wx => v5 = .bool r0 ∧ v6 = .bool r1 ∧ v7 = .int .i64 r2 ∧ Below w0.heap.size w0 wx)
  case first =>
    go_region_law (first
      | (go_simp; go_at_call 25; with_reducible refine (HT0.out _).mono ?_; rintro e w0x ⟨rfl, hx9⟩; have hb := hx9.below (Nat.le_refl _); clear hx9; have K0x := below_next (Below.refl w0.heap.size w0) (by first | exact Ext.refl _ | exact (Ext.refl _).drew | exact (Ext.refl _).alloc _ | exact ((Ext.refl _).alloc _).drew | exact ((Ext.refl _).drew).alloc _ | exact (((Ext.refl _).drew).alloc _).drew | exact ((Ext.refl _).alloc _).alloc _ | exact (((Ext.refl _).alloc _).alloc _).drew) hb (Nat.le_refl _); have C0_0x := blk_next C00.out (by first | exact Ext.refl _ | exact (Ext.refl _).drew | exact (Ext.refl _).alloc _ | exact ((Ext.refl _).alloc _).drew | exact ((Ext.refl _).drew).alloc _ | exact (((Ext.refl _).drew).alloc _).drew | exact ((Ext.refl _).alloc _).alloc _ | exact (((Ext.refl _).alloc _).alloc _).drew) hb; have C1_0x := blk_next C01.out (by first | exact Ext.refl _ | exact (Ext.refl _).drew | exact (Ext.refl _).alloc _ | exact ((Ext.refl _).alloc _).drew | exact ((Ext.refl _).drew).alloc _ | exact (((Ext.refl _).drew).alloc _).drew | exact ((Ext.refl _).alloc _).alloc _ | exact (((Ext.refl _).alloc _).alloc _).drew) hb; clear hb; have rb00_0 := C0_0x.rd 0 rfl; have rb00_1 := C0_0x.rd 1 rfl; have rb00_2 := C0_0x.rd 2 rfl; have rb00_3 := C0_0x.rd 3 rfl; have rb01_0 := C1_0x.rd 0 rfl; have rb01_1 := C1_0x.rd 1 rfl; have rb01_2 := C1_0x.rd 2 rfl; have rb01_3 := C1_0x.rd 3 rfl)
      | (go_simp; go_at_call 25; with_reducible refine (HT1.out _).mono ?_; rintro e w1x ⟨rfl, hx9⟩; have hb := hx9.below (Nat.le_refl _); clear hx9; have K1x := below_next K0x (by first | exact Ext.refl _ | exact (Ext.refl _).drew | exact (Ext.refl _).alloc _ | exact ((Ext.refl _).alloc _).drew | exact ((Ext.refl _).drew).alloc _ | exact (((Ext.refl _).drew).alloc _).drew | exact ((Ext.refl _).alloc _).alloc _ | exact (((Ext.refl _).alloc _).alloc _).drew) hb (Nat.le_refl _); have C0_1x := blk_next C0_0x (by first | exact Ext.refl _ | exact (Ext.refl _).drew | exact (Ext.refl _).alloc _ | exact ((Ext.refl _).alloc _).drew | exact ((Ext.refl _).drew).alloc _ | exact (((Ext.refl _).drew).alloc _).drew | exact ((Ext.refl _).alloc _).alloc _ | exact (((Ext.refl _).alloc _).alloc _).drew) hb; have C1_1x := blk_next C1_0x (by first | exact Ext.refl _ | exact (Ext.refl _).drew | exact (Ext.refl _).alloc _ | exact ((Ext.refl _).alloc _).drew | exact ((Ext.refl _).drew).alloc _ | exact (((Ext.refl _).drew).alloc _).drew | exact ((Ext.refl _).alloc _).alloc _ | exact (((Ext.refl _).alloc _).alloc _).drew) hb; clear hb; have rb10_0 := C0_1x.rd 0 rfl; have rb10_1 := C0_1x.rd 1 rfl; have rb10_2 := C0_1x.rd 2 rfl; have rb10_3 := C0_1x.rd 3 rfl; have rb11_0 := C1_1x.rd 0 rfl; have rb11_1 := C1_1x.rd 1 rfl; have rb11_2 := C1_1x.rd 2 rfl; have rb11_3 := C1_1x.rd 3 rfl)
      | (go_simp; go_at_call 33; with_reducible refine (HS.out _ ).mono ?_; rintro e w1y ⟨rfl, hb⟩; have hKc := below_pair K1x (by first | exact Ext.refl _ | exact (Ext.refl _).drew | exact (Ext.refl _).alloc _ | exact ((Ext.refl _).alloc _).drew | exact ((Ext.refl _).drew).alloc _ | exact (((Ext.refl _).drew).alloc _).drew | exact ((Ext.refl _).alloc _).alloc _ | exact (((Ext.refl _).alloc _).alloc _).drew) hb (Nat.le_refl _)))
    all_goals
      go_wp2_with fail
      go_meet
      have hBc := hKc.size
      have hbs := hb.size
      exact ⟨rfl, rfl, rfl, below_next0 (below_next K1x (by first | exact Ext.refl _ | exact (Ext.refl _).drew | exact (Ext.refl _).alloc _ | exact ((Ext.refl _).alloc _).drew | exact ((Ext.refl _).drew).alloc _ | exact (((Ext.refl _).drew).alloc _).drew | exact ((Ext.refl _).alloc _).alloc _ | exact (((Ext.refl _).alloc _).alloc _).drew) hb (Nat.le_refl _)) (by first | exact Ext.refl _ | exact (Ext.refl _).drew | exact (Ext.refl _).alloc _ | exact ((Ext.refl _).alloc _).drew | exact ((Ext.refl _).drew).alloc _ | exact (((Ext.refl _).drew).alloc _).drew | exact ((Ext.refl _).alloc _).alloc _ | exact (((Ext.refl _).alloc _).alloc _).drew) (Nat.le_refl _)⟩
  case rest =>
    obtain ⟨rfl, rfl, rfl, hb⟩ := hcut
    obtain ⟨w1, hwk⟩ : ∃ w', w' = wc := ⟨_, rfl⟩
    subst hwk
    clear ra0_0 ra0_1 ra0_2 ra0_3 ra1_0 ra1_1 ra1_2 ra1_3
    have s1 := hb.size
    have K1 := Lib.hid (K0.out.trans (hb.mono K0.out.size))
    have Ba0_1 := Lib.hid (C00.out.below hb C00.out.lt)
    have Ba1_1 := Lib.hid (C01.out.below hb C01.out.lt)
    clear K0 C00 C01
    clear hb
    have ra0_0 := Ba0_1.out.rd 0 rfl
    have ra0_1 := Ba0_1.out.rd 1 rfl
    have ra0_2 := Ba0_1.out.rd 2 rfl
    have ra0_3 := Ba0_1.out.rd 3 rfl
    have ra1_0 := Ba1_1.out.rd 0 rfl
    have ra1_1 := Ba1_1.out.rd 1 rfl
    have ra1_2 := Ba1_1.out.rd 2 rfl
    have ra1_3 := Ba1_1.out.rd 3 rfl
    go_wp2_with fail
    clear ra0_0 ra0_1 ra0_2 ra0_3 ra1_0 ra1_1 ra1_2 ra1_3
    have ra0_0 := Ba0_1.out.rd 0 rfl
    have ra0_1 := Ba0_1.out.rd 1 rfl
    have ra0_2 := Ba0_1.out.rd 2 rfl
    have ra0_3 := Ba0_1.out.rd 3 rfl
    have ra1_0 := Ba1_1.out.rd 0 rfl
    have ra1_1 := Ba1_1.out.rd 1 rfl
    have ra1_2 := Ba1_1.out.rd 2 rfl
    have ra1_3 := Ba1_1.out.rd 3 rfl
    go_upto_region 3 with (fail)
    go_cut [8, 9, 10] (fun v8 v9 v10 wx => v8 = .bool r0 ∧ v9 = .bool r1 ∧ v10 = .int .i64 r2 ∧ Below w1.heap.size w1 wx)
    case first =>
      go_region_law (first
        | (go_simp; go_at_call 25; with_reducible refine (HT0.out _).mono ?_; rintro e w0x ⟨rfl, hx9⟩; have hb := hx9.below (Nat.le_refl _); clear hx9; have K0x := below_next (Below.refl w1.heap.size w1) (by first | exact Ext.refl _ | exact (Ext.refl _).drew | exact (Ext.refl _).alloc _ | exact ((Ext.refl _).alloc _).drew | exact ((Ext.refl _).drew).alloc _ | exact (((Ext.refl _).drew).alloc _).drew | exact ((Ext.refl _).alloc _).alloc _ | exact (((Ext.refl _).alloc _).alloc _).drew) hb (Nat.le_refl _); have C0_0x := blk_next Ba0_1.out (by first | exact Ext.refl _ | exact (Ext.refl _).drew | exact (Ext.refl _).alloc _ | exact ((Ext.refl _).alloc _).drew | exact ((Ext.refl _).drew).alloc _ | exact (((Ext.refl _).drew).alloc _).drew | exact ((Ext.refl _).alloc _).alloc _ | exact (((Ext.refl _).alloc _).alloc _).drew) hb; have C1_0x := blk_next Ba1_1.out (by first | exact Ext.refl _ | exact (Ext.refl _).drew | exact (Ext.refl _).alloc _ | exact ((Ext.refl _).alloc _).drew | exact ((Ext.refl _).drew).alloc _ | exact (((Ext.refl _).drew).alloc _).drew | exact ((Ext.refl _).alloc _).alloc _ | exact (((Ext.refl _).alloc _).alloc _).drew) hb; clear hb; have rb00_0 := C0_0x.rd 0 rfl; have rb00_1 := C0_0x.rd 1 rfl; have rb00_2 := C0_0x.rd 2 rfl; have rb00_3 := C0_0x.rd 3 rfl; have rb01_0 := C1_0x.rd 0 rfl; have rb01_1 := C1_0x.rd 1 rfl; have rb01_2 := C1_0x.rd 2 rfl; have rb01_3 := C1_0x.rd 3 rfl)
        | (go_simp; go_at_call 25; with_reducible refine (HT1.out _).mono ?_; rintro e w1x ⟨rfl, hx9⟩; have hb := hx9.below (Nat.le_refl _); clear hx9; have K1x := below_next K0x (by first | exact Ext.refl _ | exact (Ext.refl _).drew | exact (Ext.refl _).alloc _ | exact ((Ext.refl _).alloc _).drew | exact ((Ext.refl _).drew).alloc _ | exact (((Ext.refl _).drew).alloc _).drew | exact ((Ext.refl _).alloc _).alloc _ | exact (((Ext.refl _).alloc _).alloc _).drew) hb (Nat.le_refl _); have C0_1x := blk_next C0_0x (by first | exact Ext.refl _ | exact (Ext.refl _).drew | exact (Ext.refl _).alloc _ | exact ((Ext.refl _).alloc _).drew | exact ((Ext.refl _).drew).alloc _ | exact (((Ext.refl _).drew).alloc _).drew | exact ((Ext.refl _).alloc _).alloc _ | exact (((Ext.refl _).alloc _).alloc _).drew) hb; have C1_1x := blk_next C1_0x (by first | exact Ext.refl _ | exact (Ext.refl _).drew | exact (Ext.refl _).alloc _ | exact ((Ext.refl _).alloc _).drew | exact ((Ext.refl _).drew).alloc _ | exact (((Ext.refl _).drew).alloc _).drew | exact ((Ext.refl _).alloc _).alloc _ | exact (((Ext.refl _).alloc _).alloc _).drew) hb; clear hb; have rb10_0 := C0_1x.rd 0 rfl; have rb10_1 := C0_1x.rd 1 rfl; have rb10_2 := C0_1x.rd 2 rfl; have rb10_3 := C0_1x.rd 3 rfl; have rb11_0 := C1_1x.rd 0 rfl; have rb11_1 := C1_1x.rd 1 rfl; have rb11_2 := C1_1x.rd 2 rfl; have rb11_3 := C1_1x.rd 3 rfl)
        | (go_simp; go_at_call 34; with_reducible refine (HI.out _ ).mono ?_; rintro e w2y ⟨rfl, hb⟩; have hKc := below_pair K1x (by first | exact Ext.refl _ | exact (Ext.refl _).drew | exact (Ext.refl _).alloc _ | exact ((Ext.refl _).alloc _).drew | exact ((Ext.refl _).drew).alloc _ | exact (((Ext.refl _).drew).alloc _).drew | exact ((Ext.refl _).alloc _).alloc _ | exact (((Ext.refl _).alloc _).alloc _).drew) hb (Nat.le_refl _)))
      all_goals
        go_wp2_with fail
        go_meet
        have hBc := hKc.size
        have hbs := hb.size
        exact ⟨rfl, rfl, rfl, below_next0 (below_next K1x (by first | exact Ext.refl _ | exact (Ext.refl _).drew | exact (Ext.refl _).alloc _ | exact ((Ext.refl _).alloc _).drew | exact ((Ext.refl _).drew).alloc _ | exact (((Ext.refl _).drew).alloc _).drew | exact ((Ext.refl _).alloc _).alloc _ | exact (((Ext.refl _).alloc _).alloc _).drew) hb (Nat.le_refl _)) (by first | exact Ext.refl _ | exact (Ext.refl _).drew | exact (Ext.refl _).alloc _ | exact ((Ext.refl _).alloc _).drew | exact ((Ext.refl _).drew).alloc _ | exact (((Ext.refl _).drew).alloc _).drew | exact ((Ext.refl _).alloc _).alloc _ | exact (((Ext.refl _).alloc _).alloc _).drew) (Nat.le_refl _)⟩
    case rest =>
      obtain ⟨rfl, rfl, rfl, hb⟩ := hcut
      obtain ⟨w2, hwk⟩ : ∃ w', w' = wc := ⟨_, rfl⟩
      subst hwk
      clear ra0_0 ra0_1 ra0_2 ra0_3 ra1_0 ra1_1 ra1_2 ra1_3
      have s2 := hb.size
      have K2 := Lib.hid (K1.out.trans (hb.mono K1.out.size))
      have Ba0_2 := Lib.hid (Ba0_1.out.below hb Ba0_1.out.lt)
      have Ba1_2 := Lib.hid (Ba1_1.out.below hb Ba1_1.out.lt)
      clear K1 Ba0_1 Ba1_1
      clear hb
      have ra0_0 := Ba0_2.out.rd 0 rfl
      have ra0_1 := Ba0_2.out.rd 1 rfl
      have ra0_2 := Ba0_2.out.rd 2 rfl
      have ra0_3 := Ba0_2.out.rd 3 rfl
      have ra1_0 := Ba1_2.out.rd 0 rfl
      have ra1_1 := Ba1_2.out.rd 1 rfl
      have ra1_2 := Ba1_2.out.rd 2 rfl
      have ra1_3 := Ba1_2.out.rd 3 rfl
      go_wp2_with fail
      clear ra0_0 ra0_1 ra0_2 ra0_3 ra1_0 ra1_1 ra1_2 ra1_3
      go_ret
      exact ⟨rfl, K2.out⟩
theorem law_AreAlike (a0 b0 d0 f0 a1 b1 d1 f1 : Int) (w : World) :
    Calls Try.prog 7 #[.agg #[.int .i64 a0, .int .i64 b0, .int .i64 d0, .int .i64 f0], .agg #[.int .i64 a1, .int .i64 b1, .int .i64 d1, .int .i64 f1]] w fun e w' => e = .returned (.bool true) ∧ Below w.heap.size w w' := by
  by_cases h : tileOk 6 (a0, b0, d0, f0) = true ∧ tileOk 6 (a1, b1, d1, f1) = true
  · exact lawAreAlike_core a0 b0 d0 f0 a1 b1 d1 f1 w _ _ 0 (fun _ W => specAreAlike_0 (a0, b0, d0, f0) (a1, b1, d1, f1) W h.1 h.2) (fun _ W => implAreAlike_0 (a0, b0, d0, f0) (a1, b1, d1, f1) W h.1 h.2)
  · have h2 : tileOk 6 (a0, b0, d0, f0) = true → tileOk 6 (a1, b1, d1, f1) = false := fun h1 => by
      cases h3 : tileOk 6 (a1, b1, d1, f1) with
      | false => rfl
      | true => exact absurd ⟨h1, h3⟩ h
    exact lawAreAlike_core a0 b0 d0 f0 a1 b1 d1 f1 w false false 2 (fun _ W => specAreAlike_2 (a0, b0, d0, f0) (a1, b1, d1, f1) W h2) (fun _ W => implAreAlike_2 (a0, b0, d0, f0) (a1, b1, d1, f1) W h2)
end Go.Proofs.Ytfhdgilddnndcaa
