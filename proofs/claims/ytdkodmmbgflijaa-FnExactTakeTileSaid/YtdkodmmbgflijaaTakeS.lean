/- TakeTile: the model's function. -/
import Derived.Test.YtdkodmmbgflijaaTakeM
namespace Go.Proofs.Ytdkodmmbgflijaa
set_option linter.unusedVariables false
set_option linter.unusedSimpArgs false
open Go.RowKit Go.Sort

/-- What taking a tile hands back. -/
def TakeRes (c0 : Int) (ts : List Tl) (i : Int) (w : World) : Ending → World → Prop := if numCode c0 ts i = 0 then SetRes w c0 (without ts i.toNat) 0 else SetRes w 0 [] (numCode c0 ts i)
theorem numCode_zero {c0 : Int} {ts : List Tl} {i : Int} (h : numCode c0 ts i = 0) : isSet c0 ts = true ∧ 0 ≤ i ∧ i < ts.length := by
  unfold numCode at h
  split at h
  · split at h
    · exact ⟨by assumption, by assumption⟩
    · cases h
  · cases h

set_option maxHeartbeats 1000000 in
theorem specTake_any (c0 : Int) (A : Option Addr) (n c : Nat) (ts : List Tl) (i : Int) (w : World) (hn : n ≤ 1048576) (hnc : n ≤ c) (hl : ts.length = n) (hA : TR w w.heap.size A ts) :
    Calls Try.prog 30 #[.agg #[.int .i64 c0, .slice A n c], .int .i64 i] w (TakeRes c0 ts i w) := by
  have his : ∀ W, Ext w W → Calls Try.prog 69 #[.agg #[.int .i64 c0, .slice A n c], .int .i64 i] W _ := fun W hW => l01Numbers_any c0 A n c ts i W hn hl ((hA.ext hW (Nat.le_refl _)).more (hW.below (Nat.le_refl _)).size)
  have HI := Lib.hid his
  have HA := Lib.hid hA
  clear his hA
  unfold TakeRes
  by_cases hz : numCode c0 ts i = 0
  · rw [if_pos hz]
    rw [hz] at HI
    obtain ⟨hs, hi0, hi1⟩ := numCode_zero hz
    obtain ⟨k, rfl⟩ : ∃ k : Nat, i = k := ⟨i.toNat, by omega⟩
    have hk : k < n := by omega
    have hn16 := isSet_len hs
    simp only [Int.toNat_natCast]
    have HC := Lib.hid (fun W (hW : Ext w W) => l01Without_any c0 A n c ts k W (by omega) hk hnc hl ((HA.out.ext hW (Nat.le_refl _)).more (hW.below (Nat.le_refl _)).size))
    clear hz hs hi0 hi1
    unfold SetRes
    go_enter Try.func30, Try.ntmps30
    go_wp2_with fail
    refine (HI.out _ (((Ext.refl w).alloc _).alloc _)).mono ?_
    rintro e w1 ⟨rfl, hx⟩
    have X1 := Lib.hid ((((Ext.refl w).alloc _).alloc _).trans hx)
    have hR := (((Blk.new w _ _).ext ((Ext.refl _).alloc (Obj.cells #[.int .i64 0, .slice none 0 0] 29))).ext hx : Blk w1 w.heap.size 29 #[.int .i64 c0, .slice A n c])
    have hQ : Blk w1 (w.heap.size + 1) 29 #[.int .i64 0, .slice none 0 0] := by have := (Blk.new (w.alloc (Obj.cells #[.int .i64 c0, .slice A n c] 29)) 29 #[.int .i64 0, .slice none 0 0]).ext hx; simpa using this
    have b0 := hR.rd 0 rfl
    have b1 := hR.rd 1 rfl
    have HQ := Lib.hid hQ
    clear hx hR hQ
    go_wp2_with fail
    refine (HC.out _ X1.out).mono ?_
    rintro e w2 ⟨A', cap, rfl, hb, htw⟩
    have HB := Lib.hid hb
    have HW := Lib.hid htw
    have hQ2 := HQ.out.below hb HQ.out.lt
    have r0 := hQ2.rd 0 rfl
    have r1 := hQ2.rd 1 rfl
    have z0 := hQ2.frozen 0
    have z1 := hQ2.frozen 1
    have hz1 := hQ2.lt
    clear hb htw hQ2 b0 b1
    go_wp2_with fail
    refine bodyPost_ret (v := .tuple #[.agg #[.int .i64 c0, .slice A' (without ts k).length cap], .int .i64 0]) (by simp [results, Try.results30, go_sem, r0, r1, z0, z1]) rfl ⟨A', cap, rfl, ?_, ?_⟩
    · have h0 : Below w.heap.size w w2 := (X1.out.below (Nat.le_refl _)).trans (HB.out.mono (X1.out.below (Nat.le_refl _)).size)
      exact (h0.setCell (by simp) _).setCell (by simp) _
    · have h1 := HQ.out.lt
      exact ((HW.out.far (by simpa using h1) _).far (by simpa using h1) _).low (X1.out.below (Nat.le_refl _)).size
  · rw [if_neg hz]
    generalize numCode c0 ts i = q at *
    have hq : ¬ (q = 0) := hz
    clear hz HA
    unfold SetRes
    go_enter Try.func30, Try.ntmps30
    go_wp2_with fail
    refine (HI.out _ (((Ext.refl w).alloc _).alloc _)).mono ?_
    rintro e w1 ⟨rfl, hx⟩
    have X1 := Lib.hid ((((Ext.refl w).alloc _).alloc _).trans hx)
    have hQ : Blk w1 (w.heap.size + 1) 29 #[.int .i64 0, .slice none 0 0] := by have := (Blk.new (w.alloc (Obj.cells #[.int .i64 c0, .slice A n c] 29)) 29 #[.int .i64 0, .slice none 0 0]).ext hx; simpa using this
    have r0 := hQ.rd 0 rfl
    have r1 := hQ.rd 1 rfl
    have z0 := hQ.frozen 0
    have z1 := hQ.frozen 1
    clear hx hQ
    go_wp2_with fail
    refine bodyPost_ret (v := .tuple #[.agg #[.int .i64 0, .slice none 0 0], .int .i64 q]) (by simp [results, Try.results30, go_sem, r0, r1, z0, z1]) rfl ⟨none, 0, rfl, ?_, fun h => absurd h (Nat.lt_irrefl _)⟩
    exact ((X1.out.below (Nat.le_refl _)).setCell (by simp) _).setCell (by simp) _
end Go.Proofs.Ytdkodmmbgflijaa
