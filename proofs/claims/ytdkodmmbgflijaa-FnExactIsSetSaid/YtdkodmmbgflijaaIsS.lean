/- The model's door of IsSet. -/
import Derived.Test.YtdkodmmbgflijaaIs2
namespace Go.Proofs.Ytdkodmmbgflijaa
set_option linter.unusedVariables false
set_option linter.unusedSimpArgs false
open Go.RowKit Go.Sort

theorem specIsSet_any (c0 : Int) (A : Option Addr) (n c : Nat) (ts : List Tl) (w : World) (hn : n ≤ 1152921504606846976) (hl : ts.length = n) (hA : TR w w.heap.size A ts) :
   Calls Try.prog 16 #[.agg #[.int .i64 c0, .slice A n c]] w fun e w' => e = .returned (.bool (isSet c0 ts)) ∧ Ext w w' := by
  have hcon : ∀ W, Ext w W → Calls Try.prog 52 #[.agg #[.int .i64 c0, .slice A n c]] W _ := fun W hW => l01Is_any c0 A n c ts W hn hl ((hA.ext hW (Nat.le_refl _)).more (hW.below (Nat.le_refl _)).size)
  have HC := Lib.hid hcon
  clear hcon hA
  generalize isSet c0 ts = r at HC ⊢
  go_enter Try.func16, Try.ntmps16
  go_wp2_with fail
  refine (HC.out _ ((Ext.refl w).alloc _)).mono ?_
  rintro e w' ⟨rfl, hx⟩
  have HX := Lib.hid hx
  clear hx
  go_wp2_with fail
  go_ret
  exact ⟨rfl, ((Ext.refl w).alloc _).trans HX.out⟩
end Go.Proofs.Ytdkodmmbgflijaa
