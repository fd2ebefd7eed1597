/- Sets that are written over with marks from any number on, and read again. -/
import Derived.Test.YtleabblnikbmpaaHeld
namespace Go.Proofs.Ytleabblnikbmpaa
set_option linter.unusedVariables false
set_option linter.unusedSimpArgs false
open Go.RowKit Go.Sort

theorem markSet_at (c0 : Int) (A : Option Addr) (n c : Nat) (k : Int) (ts : List Tl) (lo hi : Nat) (w : World) (hn : n ≤ 1048576) (hk0 : 0 ≤ k) (hk1 : k ≤ 16777216) (hl : ts.length = n) (hA : TWr w lo hi A ts) :
    Calls Try.prog 24 #[.agg #[.int .i64 c0, .slice A n c], .int .i64 k] w fun e w' => e = .returned (.int .i64 (k + 4 * n)) ∧ OnlyR lo hi w w' ∧ TWr w' lo hi A (marks k n) := by
  have hcon : ∀ W, Ext w W → Calls Try.prog 60 #[.slice A n c, .int .i64 k] W _ := fun W hW => markTileS_any A n c k ts lo hi W hn hk0 hk1 hl (hA.ext hW)
  have HC := Lib.hid hcon
  clear hcon hA
  go_enter Try.func24, Try.ntmps24
  go_wp2_with fail
  refine (HC.out _ ((Ext.refl w).alloc _)).mono ?_
  rintro e w' ⟨rfl, hx, hw⟩
  have HX := Lib.hid hx
  have HW := Lib.hid hw
  clear hx hw
  go_wp2_with fail
  go_ret
  exact ⟨rfl, OnlyR.after ((Ext.refl w).alloc _) HX.out, HW.out⟩
end Go.Proofs.Ytleabblnikbmpaa
