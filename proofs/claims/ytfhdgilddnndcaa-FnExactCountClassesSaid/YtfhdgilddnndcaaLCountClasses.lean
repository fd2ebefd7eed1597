/- The exact law over CountClasses: walked. -/
import Derived.Test.YtfhdgilddnndcaaCl2
import Derived.Test.YtfhdgilddnndcaaMark2
import Derived.Deep.RegionHeld3
import Derived.Deep.RegionLaw
import Derived.Deep.DeepCutAuto
namespace Go.Proofs.Ytfhdgilddnndcaa
set_option linter.unusedVariables false
set_option linter.unusedSimpArgs false
open Go.RowKit Go.Sort

set_option maxRecDepth 100000 in
set_option maxHeartbeats 4000000 in
theorem lawCountClasses_core (i0 : Int) (w : World)  (r0 : Int) (r1 : Int) 
    (hspec : True → ∀ (W : World) , Calls Try.prog 42 #[.int .i64 i0] W (fun e w' => e = .returned (.tuple #[.int .i64 r0, .int .i64 r1]) ∧ Below W.heap.size W w'))
    (himpl : True → ∀ (W : World) , Calls Try.prog 43 #[.int .i64 i0] W (fun e w' => e = .returned (.tuple #[.int .i64 r0, .int .i64 r1]) ∧ Below W.heap.size W w')) :
    Calls Try.prog 10 #[.int .i64 i0] w fun e w' => e = .returned (.bool true) ∧ Below w.heap.size w w' := by
  have HS := Lib.hid (hspec trivial)
  have HI := Lib.hid (himpl trivial)
  clear hspec himpl 
  have hcc0 : (r0 != r0) = false := by simp
  have hcc1 : (r1 != r1) = false := by simp
  go_enter Try.func10, Try.ntmps10
  go_wp2_with fail
  have K0 := Lib.hid (Below.refl w.heap.size w)
  refine (HS.out _ ).mono ?_
  rintro e w1 ⟨rfl, hb⟩
  have s1 := hb.size
  have K1 := Lib.hid (K0.out.trans (hb.mono K0.out.size))
  clear K0
  clear hb
  go_wp2_with fail
  refine (HI.out _ ).mono ?_
  rintro e w2 ⟨rfl, hb⟩
  have s2 := hb.size
  have K2 := Lib.hid (K1.out.trans (hb.mono K1.out.size))
  clear K1
  clear hb
  go_wp2_with fail
  go_ret
  exact ⟨rfl, K2.out⟩
theorem law_CountClasses (i0 : Int) (w : World) :
    Calls Try.prog 10 #[.int .i64 i0] w fun e w' => e = .returned (.bool true) ∧ Below w.heap.size w w' :=
  lawCountClasses_core i0 w _ _ (fun _ W => specCountClasses_any i0 W) (fun _ W => implCountClasses_any i0 W)
end Go.Proofs.Ytfhdgilddnndcaa
