/- The model's code of a set and the number of a tile. -/
import Derived.Test.YtdkodmmbgflijaaNum
namespace Go.Proofs.Ytdkodmmbgflijaa
set_option linter.unusedVariables false
set_option linter.unusedSimpArgs false
open Go.RowKit Go.Sort

set_option maxHeartbeats 400000 in
theorem l01Numbers_any (c0 : Int) (A : Option Addr) (n c : Nat) (ts : List Tl) (i : Int) (w : World) (hn : n ≤ 1048576) (hl : ts.length = n) (hA : TR w w.heap.size A ts) :
    Calls Try.prog 69 #[.agg #[.int .i64 c0, .slice A n c], .int .i64 i] w fun e w' => e = .returned (.int .i64 (numCode c0 ts i)) ∧ Ext w w' := by
  have his : ∀ W, Ext w W → Calls Try.prog 52 #[.agg #[.int .i64 c0, .slice A n c]] W _ := fun W hW => l01Is_any c0 A n c ts W (by omega) hl ((hA.ext hW (Nat.le_refl _)).more (hW.below (Nat.le_refl _)).size)
  have HI := Lib.hid his
  clear his hA
  unfold numCode
  cases hs : isSet c0 ts with
  | false =>
    rw [hs] at HI
    go_enter Try.func69, Try.ntmps69
    go_wp2_with fail
    refine (HI.out _ ((Ext.refl w).alloc _)).mono ?_
    rintro e w1 ⟨rfl, hx⟩
    have HX := Lib.hid hx
    clear hx
    go_wp2_with fail
    go_ret
    exact ⟨ret_i (by simp), ((Ext.refl w).alloc _).trans HX.out⟩
  | true =>
    rw [hs] at HI
    have hi0 : ((n : Int) - 1) ≤ 1048576 := by omega
    by_cases hr : 0 ≤ i ∧ i < n
    all_goals
      have hd : decide (0 ≤ i ∧ i ≤ (n : Int) - 1) = decide (0 ≤ i ∧ i < n) := by by_cases h : 0 ≤ i ∧ i < n <;> simp [h] <;> omega
      have hin := fun W => l01In_any i 0 ((n : Int) - 1) W
      rw [hd] at hin
      clear hd
      go_enter Try.func69, Try.ntmps69
      go_wp2_with fail
      refine (HI.out _ ((Ext.refl w).alloc _)).mono ?_
      rintro e w1 ⟨rfl, hx⟩
      have HX := Lib.hid hx
      have r1 := ((Blk.new w _ _).ext hx).rd 1 rfl
      clear hx
      go_wp2_with (go_at_call 96; refine (hin _).mono ?_; rintro e w' ⟨rfl, rfl⟩)
    · go_ret
      exact ⟨ret_i (by simp only [hl, if_pos hr, if_true]), ((Ext.refl w).alloc _).trans HX.out⟩
    · go_ret
      exact ⟨ret_i (by simp only [hl, if_neg hr, if_true]), ((Ext.refl w).alloc _).trans HX.out⟩
end Go.Proofs.Ytdkodmmbgflijaa
