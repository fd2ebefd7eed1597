/- TakeTile: the program's function, all cases. -/
import Derived.Test.YtdkodmmbgflijaaTakeP
namespace Go.Proofs.Ytdkodmmbgflijaa
set_option linter.unusedVariables false
set_option linter.unusedSimpArgs false
open Go.RowKit Go.Sort

set_option maxHeartbeats 1000000 in
theorem implTake_any (c0 : Int) (A : Option Addr) (n c : Nat) (ts : List Tl) (i : Int) (w : World) (hn : n ≤ 1048576) (hnc : n ≤ c) (hl : ts.length = n) (hA : TR w w.heap.size A ts) :
    Calls Try.prog 31 #[.agg #[.int .i64 c0, .slice A n c], .int .i64 i] w (TakeRes c0 ts i w) := by
  by_cases hz : numCode c0 ts i = 0
  · obtain ⟨hs, hi0, hi1⟩ := numCode_zero hz
    obtain ⟨k, rfl⟩ : ∃ k : Nat, i = k := ⟨i.toNat, by omega⟩
    have hn16 := isSet_len hs
    have := implTake_yes c0 A n c ts k w (by omega) (by omega) hnc hl hA hs
    unfold TakeRes
    rw [if_pos hz]
    simpa only [Int.toNat_natCast] using this
  · have his : ∀ W, Ext w W → Calls Try.prog 18 #[.agg #[.int .i64 c0, .slice A n c]] W _ := fun W hW => isSet_any c0 A n c ts W (by omega) hl ((hA.ext hW (Nat.le_refl _)).more (hW.below (Nat.le_refl _)).size)
    have HI := Lib.hid his
    clear his hA
    unfold TakeRes
    rw [if_neg hz]
    cases hs : isSet c0 ts with
    | false =>
      rw [hs] at HI
      have hq : numCode c0 ts i = 1 := by simp [numCode, hs]
      rw [hq]
      clear hq hz hs
      unfold SetRes
      go_enter Try.func31, Try.ntmps31
      go_wp2_with fail
      refine (HI.out _ (((Ext.refl w).alloc _).alloc _)).mono ?_
      rintro e w1 ⟨rfl, hx⟩
      have X1 := Lib.hid ((((Ext.refl w).alloc _).alloc _).trans hx)
      have hQ : Blk w1 (w.heap.size + 1) 29 #[.int .i64 0, .slice none 0 0] := by have := (Blk.new (w.alloc (Obj.cells #[.int .i64 c0, .slice A n c] 29)) 29 #[.int .i64 0, .slice none 0 0]).ext hx; simpa using this
      have r0 := hQ.rd 0 rfl
      have r1 := hQ.rd 1 rfl
      have z0 := hQ.frozen 0
      have z1 := hQ.frozen 1
      clear hx hQ
      go_wp2_with fail
      refine bodyPost_ret (v := .tuple #[.agg #[.int .i64 0, .slice none 0 0], .int .i64 1]) (by simp [results, Try.results31, go_sem, r0, r1, z0, z1]) rfl ⟨none, 0, rfl, ?_, fun h => absurd h (Nat.lt_irrefl _)⟩
      exact ((X1.out.below (Nat.le_refl _)).setCell (by simp) _).setCell (by simp) _
    | true =>
      rw [hs] at HI
      have hr : ¬ (0 ≤ i ∧ i < n) := by
        intro h
        exact hz (by simp only [numCode, hs, if_true, hl, if_pos h])
      have hq : numCode c0 ts i = 2 := by simp only [numCode, hs, if_true, hl, if_neg hr]
      rw [hq]
      have hit : ∀ W, Calls Try.prog 71 #[.agg #[.int .i64 c0, .slice A n c], .int .i64 i] W _ := fun W => isTileNumber_any c0 A n c i W (by omega)
      rw [decide_eq_false hr] at hit
      have HT := Lib.hid hit
      clear hq hz hs hit hr
      unfold SetRes
      go_enter Try.func31, Try.ntmps31
      go_wp2_with fail
      refine (HI.out _ (((Ext.refl w).alloc _).alloc _)).mono ?_
      rintro e w1 ⟨rfl, hx⟩
      have X1 := Lib.hid ((((Ext.refl w).alloc _).alloc _).trans hx)
      have hR := (((Blk.new w _ _).ext ((Ext.refl _).alloc (Obj.cells #[.int .i64 0, .slice none 0 0] 29))).ext hx : Blk w1 w.heap.size 29 #[.int .i64 c0, .slice A n c])
      have hQ : Blk w1 (w.heap.size + 1) 29 #[.int .i64 0, .slice none 0 0] := by have := (Blk.new (w.alloc (Obj.cells #[.int .i64 c0, .slice A n c] 29)) 29 #[.int .i64 0, .slice none 0 0]).ext hx; simpa using this
      have b0 := hR.rd 0 rfl
      have b1 := hR.rd 1 rfl
      have HQ := Lib.hid hQ
      clear hx hR hQ
      go_wp2_with fail
      refine (HT.out _).mono ?_
      rintro e w2 ⟨rfl, hx⟩
      have X2 := Lib.hid (X1.out.trans hx)
      have hQ2 := HQ.out.ext hx
      have r0 := hQ2.rd 0 rfl
      have r1 := hQ2.rd 1 rfl
      have z0 := hQ2.frozen 0
      have z1 := hQ2.frozen 1
      clear hx b0 b1 hQ2
      go_wp2_with fail
      refine bodyPost_ret (v := .tuple #[.agg #[.int .i64 0, .slice none 0 0], .int .i64 2]) (by simp [results, Try.results31, go_sem, r0, r1, z0, z1]) rfl ⟨none, 0, rfl, ?_, fun h => absurd h (Nat.lt_irrefl _)⟩
      exact ((X2.out.below (Nat.le_refl _)).setCell (by simp) _).setCell (by simp) _
end Go.Proofs.Ytdkodmmbgflijaa
