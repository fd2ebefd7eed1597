/- The exact law over TurnNumber: walked. -/
import Derived.Test.YtfhdgilddnndcaaTn8
import Derived.Test.YtfhdgilddnndcaaMark2
import Derived.Deep.RegionHeld3
import Derived.Deep.RegionLaw
import Derived.Deep.DeepCutAuto
namespace Go.Proofs.Ytfhdgilddnndcaa
set_option linter.unusedVariables false
set_option linter.unusedSimpArgs false
open Go.RowKit Go.Sort

set_option maxRecDepth 100000 in
set_option maxHeartbeats 4000000 in
theorem lawTurnNumber_core (a0 b0 d0 f0 : Int) (w : World)  (r0 : Int) (r1 : Int) 
    (hspec : True → ∀ (W : World) , Calls Try.prog 31 #[.agg #[.int .i64 a0, .int .i64 b0, .int .i64 d0, .int .i64 f0]] W (fun e w' => e = .returned (.tuple #[.int .i64 r0, .int .i64 r1]) ∧ Below W.heap.size W w'))
    (himpl : True → ∀ (W : World) , Calls Try.prog 32 #[.agg #[.int .i64 a0, .int .i64 b0, .int .i64 d0, .int .i64 f0]] W (fun e w' => e = .returned (.tuple #[.int .i64 r0, .int .i64 r1]) ∧ Below W.heap.size W w')) :
    Calls Try.prog 6 #[.agg #[.int .i64 a0, .int .i64 b0, .int .i64 d0, .int .i64 f0]] w fun e w' => e = .returned (.bool true) ∧ Below w.heap.size w w' := by
  have htt0 := fun W => toTile_any (a0, b0, d0, f0) W
  simp only [tv] at htt0
  have HT0 := Lib.hid htt0
  clear htt0
  have HS := Lib.hid (hspec trivial)
  have HI := Lib.hid (himpl trivial)
  clear hspec himpl 
  have hcc0 : (r0 != r0) = false := by simp
  have hcc1 : (r1 != r1) = false := by simp
  go_enter Try.func6, Try.ntmps6
  go_wp2_with fail
  have hx0 : Ext w (w.alloc (Obj.cells #[.int .i64 a0, .int .i64 b0, .int .i64 d0, .int .i64 f0] 35)) := ((Ext.refl w).alloc _)
  have b00 : Blk (w.alloc (Obj.cells #[.int .i64 a0, .int .i64 b0, .int .i64 d0, .int .i64 f0] 35)) w.heap.size 35 #[.int .i64 a0, .int .i64 b0, .int .i64 d0, .int .i64 f0] := (Blk.new w 35 #[.int .i64 a0, .int .i64 b0, .int .i64 d0, .int .i64 f0])
  have s0 : w.heap.size + 1 ≤ (w.alloc (Obj.cells #[.int .i64 a0, .int .i64 b0, .int .i64 d0, .int .i64 f0] 35)).heap.size := by simp
  have K0 := Lib.hid (hx0.below (Nat.le_refl _))
  have C00 := Lib.hid b00
  clear hx0 b00
  generalize (w.alloc (Obj.cells #[.int .i64 a0, .int .i64 b0, .int .i64 d0, .int .i64 f0] 35)) = w0 at *
  refine (HT0.out _).mono ?_
  rintro e w1 ⟨rfl, hx⟩
  have s1 := (hx.below (Nat.le_refl _)).size
  have K1 := Lib.hid (K0.out.trans (hx.below K0.out.size))
  have Ba0_1 := Lib.hid (C00.out.ext hx)
  clear K0 C00
  clear hx
  have ra0_0 := Ba0_1.out.rd 0 rfl
  have ra0_1 := Ba0_1.out.rd 1 rfl
  have ra0_2 := Ba0_1.out.rd 2 rfl
  have ra0_3 := Ba0_1.out.rd 3 rfl
  go_wp2_with fail
  clear ra0_0 ra0_1 ra0_2 ra0_3
  refine (HS.out _ ).mono ?_
  rintro e w2 ⟨rfl, hb⟩
  have s2 := hb.size
  have K2 := Lib.hid (K1.out.trans (hb.mono K1.out.size))
  have Ba0_2 := Lib.hid (Ba0_1.out.below hb Ba0_1.out.lt)
  clear K1 Ba0_1
  clear hb
  have ra0_0 := Ba0_2.out.rd 0 rfl
  have ra0_1 := Ba0_2.out.rd 1 rfl
  have ra0_2 := Ba0_2.out.rd 2 rfl
  have ra0_3 := Ba0_2.out.rd 3 rfl
  go_wp2_with fail
  clear ra0_0 ra0_1 ra0_2 ra0_3
  refine (HT0.out _).mono ?_
  rintro e w3 ⟨rfl, hx⟩
  have s3 := (hx.below (Nat.le_refl _)).size
  have K3 := Lib.hid (K2.out.trans (hx.below K2.out.size))
  have Ba0_3 := Lib.hid (Ba0_2.out.ext hx)
  clear K2 Ba0_2
  clear hx
  have ra0_0 := Ba0_3.out.rd 0 rfl
  have ra0_1 := Ba0_3.out.rd 1 rfl
  have ra0_2 := Ba0_3.out.rd 2 rfl
  have ra0_3 := Ba0_3.out.rd 3 rfl
  go_wp2_with fail
  clear ra0_0 ra0_1 ra0_2 ra0_3
  refine (HI.out _ ).mono ?_
  rintro e w4 ⟨rfl, hb⟩
  have s4 := hb.size
  have K4 := Lib.hid (K3.out.trans (hb.mono K3.out.size))
  have Ba0_4 := Lib.hid (Ba0_3.out.below hb Ba0_3.out.lt)
  clear K3 Ba0_3
  clear hb
  have ra0_0 := Ba0_4.out.rd 0 rfl
  have ra0_1 := Ba0_4.out.rd 1 rfl
  have ra0_2 := Ba0_4.out.rd 2 rfl
  have ra0_3 := Ba0_4.out.rd 3 rfl
  go_wp2_with fail
  clear ra0_0 ra0_1 ra0_2 ra0_3
  go_ret
  exact ⟨rfl, K4.out⟩
theorem law_TurnNumber (a0 b0 d0 f0 : Int) (w : World) :
    Calls Try.prog 6 #[.agg #[.int .i64 a0, .int .i64 b0, .int .i64 d0, .int .i64 f0]] w fun e w' => e = .returned (.bool true) ∧ Below w.heap.size w w' := by
  cases hs : tileOk 6 (a0, b0, d0, f0) with
  | false => exact lawTurnNumber_core a0 b0 d0 f0 w 0 2 (fun _ W => specTurnNumber_2 (a0, b0, d0, f0) W hs) (fun _ W => implTurnNumber_2 (a0, b0, d0, f0) W hs)
  | true => exact lawTurnNumber_core a0 b0 d0 f0 w _ 0 (fun _ W => specTurnNumber_0 (a0, b0, d0, f0) W hs) (fun _ W => implTurnNumber_0 (a0, b0, d0, f0) W hs)
end Go.Proofs.Ytfhdgilddnndcaa
