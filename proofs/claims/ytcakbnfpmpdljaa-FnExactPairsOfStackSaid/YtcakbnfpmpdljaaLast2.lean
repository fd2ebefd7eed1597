/- The numbers of the tiles of a set, as a list of the call's own. -/
import Derived.Test.YtcakbnfpmpdljaaLast1
import Derived.Test.YtcakbnfpmpdljaaAppI
import Derived.Lib.Hide
namespace Go.Proofs.Ytcakbnfpmpdljaa
set_option linter.unusedVariables false
set_option linter.unusedSimpArgs false
open Go.RowKit Go.Sort

/-- 0 to n - 1. -/
def upTo (n : Nat) : List Int := (List.range n).map fun k : Nat => (k : Int)
theorem upTo_len (n : Nat) : (upTo n).length = n := by simp [upTo]
set_option maxRecDepth 100000 in
set_option maxHeartbeats 1000000 in
theorem tileNumbers_any (c0 : Int) (A : Option Addr) (n c : Nat) (w : World) (hn : n ≤ 1048576) :
    Calls Try.prog 90 #[.agg #[.int .i64 c0, .slice A n c]] w fun e w' => ∃ A' cap, e = .returned (.slice A' n cap) ∧ Below w.heap.size w w' ∧ IWr w' w.heap.size w'.heap.size A' (upTo n) := by
  go_enter Try.func90, Try.ntmps90
  go_wp2_with fail
  obtain ⟨W0, hW0⟩ : ∃ W0, w.alloc (Obj.cells #[.int .i64 c0, .slice A n c] 29) = W0 := ⟨_, rfl⟩
  have hs0 : W0.heap.size = w.heap.size + 1 := by rw [← hW0]; simp
  have hE : Ext w W0 := by rw [← hW0]; exact (Ext.refl w).alloc _
  have HH := Lib.hid (And.intro hs0 hE)
  rw [hW0]
  clear hW0 hs0 hE
  go_loopw [3, 8] (fun v i wr => ∃ k : Nat, k ≤ n ∧ i = .int .i64 k ∧ wr.ownsRow W0.heap.size 2 1 v k (vis (upTo k)) ∧ Below W0.heap.size W0 wr) (fun _ i _ => n - (intOf i).toNat)
  case atStart => exact ⟨0, Nat.zero_le _, rfl, World.ownsRow_nil _ _ _ _, Below.refl _ _⟩
  case round =>
    obtain ⟨k, hk, rfl, hown, hb⟩ := hrel
    have HO := Lib.hid hown
    have HB := Lib.hid hb
    clear hown hb
    by_cases hlt : k < n
    · go_wp2_with (at_builtin; refine wpList_push rfl _ _ rfl W0.heap.size _ k _ rfl (HO.out.alloc _) wr.heap.size (k : Int) rfl (heap_alloc_new wr _) ?c1 ?c2 ?c3 ?_)
      case c1 => unfold maxLen; omega
      case c2 => omega
      case c3 => have := HB.out.size; simp; omega
      intro v' w3 hown' hgrow _
      have e1 : vis (upTo k) ++ [vi (k : Int)] = vis (upTo (k + 1)) := by simp [vis, upTo, List.range_succ]
      rw [e1] at hown'
      have O3 := Lib.hid hown'
      have B3 := Lib.hid ((HB.out.alloc HB.out.size _).grown hgrow (by have := HB.out.size; simp; omega) (fun j hj => (HO.out.lt j hj).1))
      clear hown' hgrow HO HB
      go_wp2_with fail
      go_roundw
      case rel => exact ⟨k + 1, by omega, by go_num, O3.out, B3.out⟩
      case measure => simp [intOf]; omega
    · obtain rfl : k = n := by omega
      obtain ⟨A2, cap2, rfl, hcap, htw⟩ := own_iwr HO.out (by rw [upTo_len])
      have HT := Lib.hid htw
      clear htw HO
      go_wp2_with fail
      go_ret
      exact ⟨A2, cap2, rfl, (HH.out.2.below (Nat.le_refl _)).trans (HB.out.mono (by have := HH.out.1; omega)), HT.out.low (by have := HH.out.1; omega)⟩
end Go.Proofs.Ytcakbnfpmpdljaa
