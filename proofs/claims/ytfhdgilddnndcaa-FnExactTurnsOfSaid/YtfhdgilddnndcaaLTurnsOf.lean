/- The exact law over TurnsOf: walked. -/
import Derived.Test.YtfhdgilddnndcaaTn3
import Derived.Test.YtfhdgilddnndcaaMark2
import Derived.Deep.RegionHeld3
import Derived.Deep.RegionLaw
import Derived.Deep.DeepCutAuto
namespace Go.Proofs.Ytfhdgilddnndcaa
set_option linter.unusedVariables false
set_option linter.unusedSimpArgs false
open Go.RowKit Go.Sort

set_option maxRecDepth 100000 in
set_option maxHeartbeats 4000000 in
theorem lawTurnsOf_core (a0 b0 d0 f0 : Int) (w : World)  (us0 : List Tl) (r1 : Int) (hus0 : us0.length ≤ 65536)
    (hspec : True → ∀ (W : World) , Calls Try.prog 24 #[.agg #[.int .i64 a0, .int .i64 b0, .int .i64 d0, .int .i64 f0]] W (fun e w' => ∃ R0 p0, e = .returned (.tuple #[.slice R0 us0.length p0, .int .i64 r1]) ∧ Below W.heap.size W w' ∧ TW w' W.heap.size R0 us0))
    (himpl : True → ∀ (W : World) , Calls Try.prog 26 #[.agg #[.int .i64 a0, .int .i64 b0, .int .i64 d0, .int .i64 f0]] W (fun e w' => ∃ R0 p0, e = .returned (.tuple #[.slice R0 us0.length p0, .int .i64 r1]) ∧ Below W.heap.size W w' ∧ TW w' W.heap.size R0 us0)) :
    Calls Try.prog 4 #[.agg #[.int .i64 a0, .int .i64 b0, .int .i64 d0, .int .i64 f0]] w fun e w' => e = .returned (.bool true) ∧ Below w.heap.size w w' := by
  have htt0 := fun W => toTile_any (a0, b0, d0, f0) W
  simp only [tv] at htt0
  have HT0 := Lib.hid htt0
  clear htt0
  have HS := Lib.hid (hspec trivial)
  have HI := Lib.hid (himpl trivial)
  clear hspec himpl 
  generalize hm0 : us0.length = m0 at *
  have HM0 := Lib.hid hm0
  clear hm0
  have hcc1 : (r1 != r1) = false := by simp
  have hkn : ¬ (1 < 0) := by omega
  have hkm0 : ¬ (1 + 4 * (m0 : Int) < 0) := by omega
  go_enter Try.func4, Try.ntmps4
  go_wp2_with fail
  have hx0 : Ext w (w.alloc (Obj.cells #[.int .i64 a0, .int .i64 b0, .int .i64 d0, .int .i64 f0] 35)) := ((Ext.refl w).alloc _)
  have b00 : Blk (w.alloc (Obj.cells #[.int .i64 a0, .int .i64 b0, .int .i64 d0, .int .i64 f0] 35)) w.heap.size 35 #[.int .i64 a0, .int .i64 b0, .int .i64 d0, .int .i64 f0] := (Blk.new w 35 #[.int .i64 a0, .int .i64 b0, .int .i64 d0, .int .i64 f0])
  have s0 : w.heap.size + 1 ≤ (w.alloc (Obj.cells #[.int .i64 a0, .int .i64 b0, .int .i64 d0, .int .i64 f0] 35)).heap.size := by simp
  have K0 := Lib.hid (hx0.below (Nat.le_refl _))
  have C00 := Lib.hid b00
  clear hx0 b00
  generalize (w.alloc (Obj.cells #[.int .i64 a0, .int .i64 b0, .int .i64 d0, .int .i64 f0] 35)) = w0 at *
  refine (HT0.out _).mono ?_
  rintro e w1 ⟨rfl, hx⟩
  have s1 := (hx.below (Nat.le_refl _)).size
  have K1 := Lib.hid (K0.out.trans (hx.below K0.out.size))
  have Ba0_1 := Lib.hid (C00.out.ext hx)
  clear K0 C00
  clear hx
  have ra0_0 := Ba0_1.out.rd 0 rfl
  have ra0_1 := Ba0_1.out.rd 1 rfl
  have ra0_2 := Ba0_1.out.rd 2 rfl
  have ra0_3 := Ba0_1.out.rd 3 rfl
  go_wp2_with fail
  clear ra0_0 ra0_1 ra0_2 ra0_3
  refine (HS.out _ ).mono ?_
  rintro e w2 ⟨B2_0_, cap2_0, rfl, hb, hw0⟩
  have s2 := hb.size
  have t2_0 := Lib.hid hw0.r
  have K2 := Lib.hid (K1.out.trans (hb.mono K1.out.size))
  have Ba0_2 := Lib.hid (Ba0_1.out.below hb Ba0_1.out.lt)
  clear K1 Ba0_1
  clear hb hw0
  have ra0_0 := Ba0_2.out.rd 0 rfl
  have ra0_1 := Ba0_2.out.rd 1 rfl
  have ra0_2 := Ba0_2.out.rd 2 rfl
  have ra0_3 := Ba0_2.out.rd 3 rfl
  go_wp2_with fail
  clear ra0_0 ra0_1 ra0_2 ra0_3
  refine (HT0.out _).mono ?_
  rintro e w3 ⟨rfl, hx⟩
  have s3 := (hx.below (Nat.le_refl _)).size
  have K3 := Lib.hid (K2.out.trans (hx.below K2.out.size))
  have Ba0_3 := Lib.hid (Ba0_2.out.ext hx)
  have T2_0_3 := Lib.hid (t2_0.out.ext hx)
  clear K2 Ba0_2 t2_0
  clear hx
  have ra0_0 := Ba0_3.out.rd 0 rfl
  have ra0_1 := Ba0_3.out.rd 1 rfl
  have ra0_2 := Ba0_3.out.rd 2 rfl
  have ra0_3 := Ba0_3.out.rd 3 rfl
  go_wp2_with fail
  clear ra0_0 ra0_1 ra0_2 ra0_3
  refine (HI.out _ ).mono ?_
  rintro e w4 ⟨B4_0_, cap4_0, rfl, hb, hw0⟩
  have s4 := hb.size
  have t4_0 := Lib.hid hw0.r
  have K4 := Lib.hid (K3.out.trans (hb.mono K3.out.size))
  have Ba0_4 := Lib.hid (Ba0_3.out.below hb Ba0_3.out.lt)
  have T2_0_4 := Lib.hid (T2_0_3.out.below hb)
  clear K3 Ba0_3 T2_0_3
  clear hb hw0
  have ra0_0 := Ba0_4.out.rd 0 rfl
  have ra0_1 := Ba0_4.out.rd 1 rfl
  have ra0_2 := Ba0_4.out.rd 2 rfl
  have ra0_3 := Ba0_4.out.rd 3 rfl
  go_wp2_with fail
  clear ra0_0 ra0_1 ra0_2 ra0_3
  refine (eqTileS_any B4_0_ B2_0_ m0 m0 _ _ us0 us0 _ (by omega) HM0.out HM0.out t4_0.out.tr T2_0_4.out.tr).mono ?_
  rw [decide_eq_true (rfl : us0 = us0)]
  rintro e w5 ⟨rfl, hx⟩
  have s5 := (hx.below (Nat.le_refl _)).size
  have K5 := Lib.hid (K4.out.trans (hx.below K4.out.size))
  have Ba0_5 := Lib.hid (Ba0_4.out.ext hx)
  have T2_0_5 := Lib.hid (T2_0_4.out.ext hx)
  have T4_0_5 := Lib.hid (t4_0.out.ext hx)
  clear K4 Ba0_4 T2_0_4 t4_0
  clear hx
  have ra0_0 := Ba0_5.out.rd 0 rfl
  have ra0_1 := Ba0_5.out.rd 1 rfl
  have ra0_2 := Ba0_5.out.rd 2 rfl
  have ra0_3 := Ba0_5.out.rd 3 rfl
  go_wp2_with fail
  clear ra0_0 ra0_1 ra0_2 ra0_3
  refine (markTileS_any B4_0_ m0 _ (1) us0 _ _ _ (by omega) (by omega) (by omega) HM0.out T4_0_5.out).mono ?_
  rintro e w6 ⟨rfl, ho, hw⟩
  have s6 := ho.size
  have t6 := Lib.hid hw
  have K6 := Lib.hid (K5.out.trans (ho.below (by omega) K5.out.size))
  have Ba0_6 := Lib.hid (Ba0_5.out.only ho (by omega))
  have T2_0_6 := Lib.hid (T2_0_5.out.only ho (by omega))
  clear K5 Ba0_5 T2_0_5
  clear ho hw T4_0_5
  have ra0_0 := Ba0_6.out.rd 0 rfl
  have ra0_1 := Ba0_6.out.rd 1 rfl
  have ra0_2 := Ba0_6.out.rd 2 rfl
  have ra0_3 := Ba0_6.out.rd 3 rfl
  go_wp2_with fail
  clear ra0_0 ra0_1 ra0_2 ra0_3
  refine (heldTileS_any B4_0_ m0 _ (1) _ (by omega) (by omega) (by omega) t6.out.tr).mono ?_
  rintro e w7 ⟨rfl, hx⟩
  have s7 := (hx.below (Nat.le_refl _)).size
  have K7 := Lib.hid (K6.out.trans (hx.below K6.out.size))
  have Ba0_7 := Lib.hid (Ba0_6.out.ext hx)
  have T2_0_7 := Lib.hid (T2_0_6.out.ext hx)
  have T4_0_7 := Lib.hid (t6.out.ext hx)
  clear K6 Ba0_6 T2_0_6 t6
  clear hx
  have ra0_0 := Ba0_7.out.rd 0 rfl
  have ra0_1 := Ba0_7.out.rd 1 rfl
  have ra0_2 := Ba0_7.out.rd 2 rfl
  have ra0_3 := Ba0_7.out.rd 3 rfl
  go_wp2_with fail
  clear ra0_0 ra0_1 ra0_2 ra0_3
  refine (HT0.out _).mono ?_
  rintro e w8 ⟨rfl, hx⟩
  have s8 := (hx.below (Nat.le_refl _)).size
  have K8 := Lib.hid (K7.out.trans (hx.below K7.out.size))
  have Ba0_8 := Lib.hid (Ba0_7.out.ext hx)
  have T2_0_8 := Lib.hid (T2_0_7.out.ext hx)
  have T4_0_8 := Lib.hid (T4_0_7.out.ext hx)
  clear K7 Ba0_7 T2_0_7 T4_0_7
  clear hx
  have ra0_0 := Ba0_8.out.rd 0 rfl
  have ra0_1 := Ba0_8.out.rd 1 rfl
  have ra0_2 := Ba0_8.out.rd 2 rfl
  have ra0_3 := Ba0_8.out.rd 3 rfl
  go_wp2_with fail
  clear ra0_0 ra0_1 ra0_2 ra0_3
  refine (HI.out _ ).mono ?_
  rintro e w9 ⟨B9_0_, cap9_0, rfl, hb, hw0⟩
  have s9 := hb.size
  have t9_0 := Lib.hid hw0.r
  have K9 := Lib.hid (K8.out.trans (hb.mono K8.out.size))
  have Ba0_9 := Lib.hid (Ba0_8.out.below hb Ba0_8.out.lt)
  have T2_0_9 := Lib.hid (T2_0_8.out.below hb)
  have T4_0_9 := Lib.hid (T4_0_8.out.below hb)
  clear K8 Ba0_8 T2_0_8 T4_0_8
  clear hb hw0
  have ra0_0 := Ba0_9.out.rd 0 rfl
  have ra0_1 := Ba0_9.out.rd 1 rfl
  have ra0_2 := Ba0_9.out.rd 2 rfl
  have ra0_3 := Ba0_9.out.rd 3 rfl
  go_wp2_with fail
  clear ra0_0 ra0_1 ra0_2 ra0_3
  refine (eqTileS_any B9_0_ B2_0_ m0 m0 _ _ us0 us0 _ (by omega) HM0.out HM0.out t9_0.out.tr T2_0_9.out.tr).mono ?_
  rw [decide_eq_true (rfl : us0 = us0)]
  rintro e w10 ⟨rfl, hx⟩
  have s10 := (hx.below (Nat.le_refl _)).size
  have K10 := Lib.hid (K9.out.trans (hx.below K9.out.size))
  have Ba0_10 := Lib.hid (Ba0_9.out.ext hx)
  have T2_0_10 := Lib.hid (T2_0_9.out.ext hx)
  have T4_0_10 := Lib.hid (T4_0_9.out.ext hx)
  have T9_0_10 := Lib.hid (t9_0.out.ext hx)
  clear K9 Ba0_9 T2_0_9 T4_0_9 t9_0
  clear hx
  have ra0_0 := Ba0_10.out.rd 0 rfl
  have ra0_1 := Ba0_10.out.rd 1 rfl
  have ra0_2 := Ba0_10.out.rd 2 rfl
  have ra0_3 := Ba0_10.out.rd 3 rfl
  go_wp2_with fail
  clear ra0_0 ra0_1 ra0_2 ra0_3
  refine (heldTileS_any B4_0_ m0 _ (1) _ (by omega) (by omega) (by omega) T4_0_10.out.tr).mono ?_
  rintro e w11 ⟨rfl, hx⟩
  have s11 := (hx.below (Nat.le_refl _)).size
  have K11 := Lib.hid (K10.out.trans (hx.below K10.out.size))
  have Ba0_11 := Lib.hid (Ba0_10.out.ext hx)
  have T2_0_11 := Lib.hid (T2_0_10.out.ext hx)
  have T4_0_11 := Lib.hid (T4_0_10.out.ext hx)
  have T9_0_11 := Lib.hid (T9_0_10.out.ext hx)
  clear K10 Ba0_10 T2_0_10 T4_0_10 T9_0_10
  clear hx
  have ra0_0 := Ba0_11.out.rd 0 rfl
  have ra0_1 := Ba0_11.out.rd 1 rfl
  have ra0_2 := Ba0_11.out.rd 2 rfl
  have ra0_3 := Ba0_11.out.rd 3 rfl
  go_wp2_with fail
  clear ra0_0 ra0_1 ra0_2 ra0_3
  go_ret
  exact ⟨rfl, K11.out⟩
theorem law_TurnsOf (a0 b0 d0 f0 : Int) (w : World) :
    Calls Try.prog 4 #[.agg #[.int .i64 a0, .int .i64 b0, .int .i64 d0, .int .i64 f0]] w fun e w' => e = .returned (.bool true) ∧ Below w.heap.size w w' := by
  cases hs : tileOk 6 (a0, b0, d0, f0) with
  | false => exact lawTurnsOf_core a0 b0 d0 f0 w [] 2 (by simp) (fun _ W => specTurnsOf_2 (a0, b0, d0, f0) W hs) (fun _ W => implTurnsOf_2 (a0, b0, d0, f0) W hs)
  | true => exact lawTurnsOf_core a0 b0 d0 f0 w (turnsL (a0, b0, d0, f0)) 0 (by simp [turnsL]) (fun _ W => specTurnsOf_0 (a0, b0, d0, f0) W hs) (fun _ W => implTurnsOf_0 (a0, b0, d0, f0) W hs)
end Go.Proofs.Ytfhdgilddnndcaa
