/- CountColumns; the program's side. -/
import Derived.Test.YtblcghefnikmeaaGc6
import Derived.Test.YtblcghefnikmeaaCnt2
import Derived.Lib.Hide
namespace Go.Proofs.Ytblcghefnikmeaa
set_option linter.unusedVariables false
set_option linter.unusedSimpArgs false
open Go.RowKit Go.Sort

set_option maxRecDepth 100000 in
set_option maxHeartbeats 4000000 in
theorem implCountColumns_0 (C : Nat) (A : Option Addr) (n c : Nat) (ts : List Tl) (h : Nat) (w : World) (hl : ts.length = n) (hA : TR w w.heap.size A ts) (hs : isSet (C : Int) ts = true) (h1 : 1 ≤ h) (h4 : h ≤ 4) (hC7 : C ^ h ≤ 700) (hN : (colsL ts h).length ≤ 5000) :
    Calls Try.prog 16 #[.agg #[.int .i64 (C : Int), .slice A n c], .int .i64 (h : Int)] w (IntRes w ((colsL ts h).length : Nat) 0) := by
  have hgo : ∀ W, Ext w W → Calls Try.prog 48 #[.agg #[.int .i64 (C : Int), .slice A n c], .int .i64 (h : Int)] W _ := fun W hW => graphOf_0 C A n c ts h W hl ((hA.ext hW (Nat.le_refl _)).more (hW.below (Nat.le_refl _)).size) hs h1 h4 hC7 hN
  unfold GraphRes at hgo
  generalize (colsL ts h).length = N at *
  have HG := Lib.hid hgo
  clear hgo hA hs
  go_enter Try.func16, Try.ntmps16
  go_wp2_with fail
  refine (HG.out _ ((Ext.refl w).alloc _)).mono ?_
  rintro e w1 ⟨R, q, E, qe, rfl, hb, -, -⟩
  have HB := Lib.hid ((((Ext.refl w).alloc (.cells #[.int .i64 (C : Int), .slice A n c] 30)).below (Nat.le_refl _)).trans (hb.mono (by simp)))
  have hszb := HB.out.size
  clear hb
  go_wp2_with fail
  go_ret2
  exact IntRes.mk rfl (HB.out.alloc hszb _)

set_option maxRecDepth 100000 in
set_option maxHeartbeats 4000000 in
theorem implCountColumns_no (c0 : Int) (A : Option Addr) (n c : Nat) (ts : List Tl) (h : Int) (w : World) (hn : n ≤ 1048576) (hl : ts.length = n) (hA : TR w w.heap.size A ts) (hg : gCode c0 ts h ≠ 0) :
    Calls Try.prog 16 #[.agg #[.int .i64 c0, .slice A n c], .int .i64 h] w (IntRes w 0 (gCode c0 ts h)) := by
  have hgo : ∀ W, Ext w W → Calls Try.prog 48 #[.agg #[.int .i64 c0, .slice A n c], .int .i64 h] W _ := fun W hW => graphOf_no c0 A n c ts h W hn hl ((hA.ext hW (Nat.le_refl _)).more (hW.below (Nat.le_refl _)).size) hg
  unfold NoGraph at hgo
  generalize gCode c0 ts h = code at *
  have hne : (code != 0) = true := by simp [hg]
  have HG := Lib.hid hgo
  clear hgo hA
  go_enter Try.func16, Try.ntmps16
  go_wp2_with fail
  refine (HG.out _ ((Ext.refl w).alloc _)).mono ?_
  rintro e w1 ⟨rfl, hb⟩
  have HB := Lib.hid ((((Ext.refl w).alloc (.cells #[.int .i64 c0, .slice A n c] 30)).below (Nat.le_refl _)).trans (hb.mono (by simp)))
  have hszb := HB.out.size
  clear hb
  go_wp2_with fail
  go_ret2
  exact IntRes.mk rfl (HB.out.alloc hszb _)
end Go.Proofs.Ytblcghefnikmeaa
