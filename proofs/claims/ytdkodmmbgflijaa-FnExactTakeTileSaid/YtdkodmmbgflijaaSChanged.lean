/- The model's flipped, mirrored, turned and transposed sets. -/
import Derived.Test.YtdkodmmbgflijaaMChanged
import Derived.Test.YtdkodmmbgflijaaNum
namespace Go.Proofs.Ytdkodmmbgflijaa
set_option linter.unusedVariables false
set_option linter.unusedSimpArgs false
open Go.RowKit Go.Sort

set_option maxHeartbeats 400000 in
theorem l01Flipped_any (c0 : Int) (A : Option Addr) (n c : Nat) (ts : List Tl) (w : World) (hn : n ≤ 65536) (hl : ts.length = n) (hA : TR w w.heap.size A ts) :
    Calls Try.prog 58 #[.agg #[.int .i64 c0, .slice A n c]] w fun e w' => ∃ A' cap, e = .returned (.agg #[.int .i64 c0, .slice A' (sortT (ts.map flippedT)).length cap]) ∧ Below w.heap.size w w' ∧ TW w' w.heap.size A' (sortT (ts.map flippedT)) := by
  have hcon : ∀ W, Ext w W → Calls Try.prog 103 #[.agg #[.int .i64 c0, .slice A n c], .int .i64 0, .int .i64 3, .int .i64 2, .int .i64 1] W _ := fun W hW => l01Changed_flipped c0 A n c ts W hn hl ((hA.ext hW (Nat.le_refl _)).more (hW.below (Nat.le_refl _)).size)
  have HC := Lib.hid hcon
  clear hcon hA
  go_enter Try.func58, Try.ntmps58
  go_wp2_with fail
  refine (HC.out _ (((Ext.refl w).alloc _).alloc _)).mono ?_
  rintro e w1 ⟨A', cap, rfl, hb, htw⟩
  have HB := Lib.hid hb
  have HW := Lib.hid htw
  clear htw
  obtain ⟨hc, hf⟩ := bcell hb
  have hz : w.heap.size + 1 < w1.heap.size := by have := hb.size; simp at this; omega
  clear hb
  go_wp2_with fail
  refine bodyPost_ret (v := .agg #[.int .i64 c0, .slice A' (sortT (ts.map flippedT)).length cap]) (by simp [results, Try.results58, go_sem, hc, hz]) rfl ⟨A', cap, rfl, ?_, ?_⟩
  · have h0 : Below w.heap.size w w1 := (((Below.refl w.heap.size w).alloc (Nat.le_refl _) _).alloc (by simp) _).trans (HB.out.mono (by simp; omega))
    exact (h0.setCell (by simp) _).setCell (by simp) _
  · have h0 : TW w1 (w.heap.size + 1 + 1) A' (sortT (ts.map flippedT)) := by simpa using HW.out
    exact ((h0.far (by simp) _).far (by simp) _).low (by omega)

set_option maxHeartbeats 400000 in
theorem specFlipped_any (c0 : Int) (A : Option Addr) (n c : Nat) (ts : List Tl) (w : World) (hn : n ≤ 1048576) (hl : ts.length = n) (hA : TR w w.heap.size A ts) :
    Calls Try.prog 20 #[.agg #[.int .i64 c0, .slice A n c]] w (if isSet c0 ts = true then SetRes w c0 (sortT (ts.map flippedT)) 0 else SetRes w 0 [] 1) := by
  have his : ∀ W, Ext w W → Calls Try.prog 52 #[.agg #[.int .i64 c0, .slice A n c]] W _ := fun W hW => l01Is_any c0 A n c ts W (by omega) hl ((hA.ext hW (Nat.le_refl _)).more (hW.below (Nat.le_refl _)).size)
  have hcon : isSet c0 ts = true → ∀ W, Ext w W → Calls Try.prog 58 #[.agg #[.int .i64 c0, .slice A n c]] W _ := fun hi W hW => l01Flipped_any c0 A n c ts W (by have := isSet_len hi; omega) hl ((hA.ext hW (Nat.le_refl _)).more (hW.below (Nat.le_refl _)).size)
  have HC := Lib.hid hcon
  have HI := Lib.hid his
  clear hcon his hA
  cases hs : isSet c0 ts with
  | true =>
    rw [if_pos rfl]
    have HS := Lib.hid hs
    rw [hs] at HI
    clear hs
    unfold SetRes
    go_enter Try.func20, Try.ntmps20
    go_wp2_with fail
    refine (HI.out _ (((Ext.refl w).alloc _).alloc _)).mono ?_
    rintro e w1 ⟨rfl, hx⟩
    have X1 := Lib.hid ((((Ext.refl w).alloc _).alloc _).trans hx)
    have hR := (((Blk.new w _ _).ext ((Ext.refl _).alloc (Obj.cells #[.int .i64 0, .slice none 0 0] 29))).ext hx : Blk w1 w.heap.size 29 #[.int .i64 c0, .slice A n c])
    have hQ : Blk w1 (w.heap.size + 1) 29 #[.int .i64 0, .slice none 0 0] := by have := (Blk.new (w.alloc (Obj.cells #[.int .i64 c0, .slice A n c] 29)) 29 #[.int .i64 0, .slice none 0 0]).ext hx; simpa using this
    have b0 := hR.rd 0 rfl
    have b1 := hR.rd 1 rfl
    have HQ := Lib.hid hQ
    clear hx hR hQ
    go_wp2_with fail
    refine (HC.out HS.out _ X1.out).mono ?_
    rintro e w2 ⟨A', cap, rfl, hb, htw⟩
    have HB := Lib.hid hb
    have HW := Lib.hid htw
    have hQ2 := HQ.out.below hb HQ.out.lt
    have r0 := hQ2.rd 0 rfl
    have r1 := hQ2.rd 1 rfl
    have z0 := hQ2.frozen 0
    have z1 := hQ2.frozen 1
    have hz1 := hQ2.lt
    clear hb htw hQ2 b0 b1
    go_wp2_with fail
    refine bodyPost_ret (v := .tuple #[.agg #[.int .i64 c0, .slice A' (sortT (ts.map flippedT)).length cap], .int .i64 0]) (by simp [results, Try.results20, go_sem, r0, r1, z0, z1]) rfl ⟨A', cap, rfl, ?_, ?_⟩
    · have h0 : Below w.heap.size w w2 := (X1.out.below (Nat.le_refl _)).trans (HB.out.mono (X1.out.below (Nat.le_refl _)).size)
      exact (h0.setCell (by simp) _).setCell (by simp) _
    · have h1 := HQ.out.lt
      exact ((HW.out.far (by simpa using h1) _).far (by simpa using h1) _).low (X1.out.below (Nat.le_refl _)).size
  | false =>
    rw [if_neg (by simp)]
    rw [hs] at HI
    clear hs HC
    unfold SetRes
    go_enter Try.func20, Try.ntmps20
    go_wp2_with fail
    refine (HI.out _ (((Ext.refl w).alloc _).alloc _)).mono ?_
    rintro e w1 ⟨rfl, hx⟩
    have X1 := Lib.hid ((((Ext.refl w).alloc _).alloc _).trans hx)
    have hQ : Blk w1 (w.heap.size + 1) 29 #[.int .i64 0, .slice none 0 0] := by have := (Blk.new (w.alloc (Obj.cells #[.int .i64 c0, .slice A n c] 29)) 29 #[.int .i64 0, .slice none 0 0]).ext hx; simpa using this
    have r0 := hQ.rd 0 rfl
    have r1 := hQ.rd 1 rfl
    have z0 := hQ.frozen 0
    have z1 := hQ.frozen 1
    clear hx hQ
    go_wp2_with fail
    refine bodyPost_ret (v := .tuple #[.agg #[.int .i64 0, .slice none 0 0], .int .i64 1]) (by simp [results, Try.results20, go_sem, r0, r1, z0, z1]) rfl ⟨none, 0, rfl, ?_, fun h => absurd h (Nat.lt_irrefl _)⟩
    exact ((X1.out.below (Nat.le_refl _)).setCell (by simp) _).setCell (by simp) _

set_option maxHeartbeats 400000 in
theorem l01Mirrored_any (c0 : Int) (A : Option Addr) (n c : Nat) (ts : List Tl) (w : World) (hn : n ≤ 65536) (hl : ts.length = n) (hA : TR w w.heap.size A ts) :
    Calls Try.prog 63 #[.agg #[.int .i64 c0, .slice A n c]] w fun e w' => ∃ A' cap, e = .returned (.agg #[.int .i64 c0, .slice A' (sortT (ts.map mirroredT)).length cap]) ∧ Below w.heap.size w w' ∧ TW w' w.heap.size A' (sortT (ts.map mirroredT)) := by
  have hcon : ∀ W, Ext w W → Calls Try.prog 103 #[.agg #[.int .i64 c0, .slice A n c], .int .i64 2, .int .i64 1, .int .i64 0, .int .i64 3] W _ := fun W hW => l01Changed_mirrored c0 A n c ts W hn hl ((hA.ext hW (Nat.le_refl _)).more (hW.below (Nat.le_refl _)).size)
  have HC := Lib.hid hcon
  clear hcon hA
  go_enter Try.func63, Try.ntmps63
  go_wp2_with fail
  refine (HC.out _ (((Ext.refl w).alloc _).alloc _)).mono ?_
  rintro e w1 ⟨A', cap, rfl, hb, htw⟩
  have HB := Lib.hid hb
  have HW := Lib.hid htw
  clear htw
  obtain ⟨hc, hf⟩ := bcell hb
  have hz : w.heap.size + 1 < w1.heap.size := by have := hb.size; simp at this; omega
  clear hb
  go_wp2_with fail
  refine bodyPost_ret (v := .agg #[.int .i64 c0, .slice A' (sortT (ts.map mirroredT)).length cap]) (by simp [results, Try.results63, go_sem, hc, hz]) rfl ⟨A', cap, rfl, ?_, ?_⟩
  · have h0 : Below w.heap.size w w1 := (((Below.refl w.heap.size w).alloc (Nat.le_refl _) _).alloc (by simp) _).trans (HB.out.mono (by simp; omega))
    exact (h0.setCell (by simp) _).setCell (by simp) _
  · have h0 : TW w1 (w.heap.size + 1 + 1) A' (sortT (ts.map mirroredT)) := by simpa using HW.out
    exact ((h0.far (by simp) _).far (by simp) _).low (by omega)

set_option maxHeartbeats 400000 in
theorem specMirrored_any (c0 : Int) (A : Option Addr) (n c : Nat) (ts : List Tl) (w : World) (hn : n ≤ 1048576) (hl : ts.length = n) (hA : TR w w.heap.size A ts) :
    Calls Try.prog 24 #[.agg #[.int .i64 c0, .slice A n c]] w (if isSet c0 ts = true then SetRes w c0 (sortT (ts.map mirroredT)) 0 else SetRes w 0 [] 1) := by
  have his : ∀ W, Ext w W → Calls Try.prog 52 #[.agg #[.int .i64 c0, .slice A n c]] W _ := fun W hW => l01Is_any c0 A n c ts W (by omega) hl ((hA.ext hW (Nat.le_refl _)).more (hW.below (Nat.le_refl _)).size)
  have hcon : isSet c0 ts = true → ∀ W, Ext w W → Calls Try.prog 63 #[.agg #[.int .i64 c0, .slice A n c]] W _ := fun hi W hW => l01Mirrored_any c0 A n c ts W (by have := isSet_len hi; omega) hl ((hA.ext hW (Nat.le_refl _)).more (hW.below (Nat.le_refl _)).size)
  have HC := Lib.hid hcon
  have HI := Lib.hid his
  clear hcon his hA
  cases hs : isSet c0 ts with
  | true =>
    rw [if_pos rfl]
    have HS := Lib.hid hs
    rw [hs] at HI
    clear hs
    unfold SetRes
    go_enter Try.func24, Try.ntmps24
    go_wp2_with fail
    refine (HI.out _ (((Ext.refl w).alloc _).alloc _)).mono ?_
    rintro e w1 ⟨rfl, hx⟩
    have X1 := Lib.hid ((((Ext.refl w).alloc _).alloc _).trans hx)
    have hR := (((Blk.new w _ _).ext ((Ext.refl _).alloc (Obj.cells #[.int .i64 0, .slice none 0 0] 29))).ext hx : Blk w1 w.heap.size 29 #[.int .i64 c0, .slice A n c])
    have hQ : Blk w1 (w.heap.size + 1) 29 #[.int .i64 0, .slice none 0 0] := by have := (Blk.new (w.alloc (Obj.cells #[.int .i64 c0, .slice A n c] 29)) 29 #[.int .i64 0, .slice none 0 0]).ext hx; simpa using this
    have b0 := hR.rd 0 rfl
    have b1 := hR.rd 1 rfl
    have HQ := Lib.hid hQ
    clear hx hR hQ
    go_wp2_with fail
    refine (HC.out HS.out _ X1.out).mono ?_
    rintro e w2 ⟨A', cap, rfl, hb, htw⟩
    have HB := Lib.hid hb
    have HW := Lib.hid htw
    have hQ2 := HQ.out.below hb HQ.out.lt
    have r0 := hQ2.rd 0 rfl
    have r1 := hQ2.rd 1 rfl
    have z0 := hQ2.frozen 0
    have z1 := hQ2.frozen 1
    have hz1 := hQ2.lt
    clear hb htw hQ2 b0 b1
    go_wp2_with fail
    refine bodyPost_ret (v := .tuple #[.agg #[.int .i64 c0, .slice A' (sortT (ts.map mirroredT)).length cap], .int .i64 0]) (by simp [results, Try.results24, go_sem, r0, r1, z0, z1]) rfl ⟨A', cap, rfl, ?_, ?_⟩
    · have h0 : Below w.heap.size w w2 := (X1.out.below (Nat.le_refl _)).trans (HB.out.mono (X1.out.below (Nat.le_refl _)).size)
      exact (h0.setCell (by simp) _).setCell (by simp) _
    · have h1 := HQ.out.lt
      exact ((HW.out.far (by simpa using h1) _).far (by simpa using h1) _).low (X1.out.below (Nat.le_refl _)).size
  | false =>
    rw [if_neg (by simp)]
    rw [hs] at HI
    clear hs HC
    unfold SetRes
    go_enter Try.func24, Try.ntmps24
    go_wp2_with fail
    refine (HI.out _ (((Ext.refl w).alloc _).alloc _)).mono ?_
    rintro e w1 ⟨rfl, hx⟩
    have X1 := Lib.hid ((((Ext.refl w).alloc _).alloc _).trans hx)
    have hQ : Blk w1 (w.heap.size + 1) 29 #[.int .i64 0, .slice none 0 0] := by have := (Blk.new (w.alloc (Obj.cells #[.int .i64 c0, .slice A n c] 29)) 29 #[.int .i64 0, .slice none 0 0]).ext hx; simpa using this
    have r0 := hQ.rd 0 rfl
    have r1 := hQ.rd 1 rfl
    have z0 := hQ.frozen 0
    have z1 := hQ.frozen 1
    clear hx hQ
    go_wp2_with fail
    refine bodyPost_ret (v := .tuple #[.agg #[.int .i64 0, .slice none 0 0], .int .i64 1]) (by simp [results, Try.results24, go_sem, r0, r1, z0, z1]) rfl ⟨none, 0, rfl, ?_, fun h => absurd h (Nat.lt_irrefl _)⟩
    exact ((X1.out.below (Nat.le_refl _)).setCell (by simp) _).setCell (by simp) _

set_option maxHeartbeats 400000 in
theorem l01Turned_any (c0 : Int) (A : Option Addr) (n c : Nat) (ts : List Tl) (w : World) (hn : n ≤ 65536) (hl : ts.length = n) (hA : TR w w.heap.size A ts) :
    Calls Try.prog 65 #[.agg #[.int .i64 c0, .slice A n c]] w fun e w' => ∃ A' cap, e = .returned (.agg #[.int .i64 c0, .slice A' (sortT (ts.map turnedT)).length cap]) ∧ Below w.heap.size w w' ∧ TW w' w.heap.size A' (sortT (ts.map turnedT)) := by
  have hcon : ∀ W, Ext w W → Calls Try.prog 103 #[.agg #[.int .i64 c0, .slice A n c], .int .i64 3, .int .i64 0, .int .i64 1, .int .i64 2] W _ := fun W hW => l01Changed_turned c0 A n c ts W hn hl ((hA.ext hW (Nat.le_refl _)).more (hW.below (Nat.le_refl _)).size)
  have HC := Lib.hid hcon
  clear hcon hA
  go_enter Try.func65, Try.ntmps65
  go_wp2_with fail
  refine (HC.out _ (((Ext.refl w).alloc _).alloc _)).mono ?_
  rintro e w1 ⟨A', cap, rfl, hb, htw⟩
  have HB := Lib.hid hb
  have HW := Lib.hid htw
  clear htw
  obtain ⟨hc, hf⟩ := bcell hb
  have hz : w.heap.size + 1 < w1.heap.size := by have := hb.size; simp at this; omega
  clear hb
  go_wp2_with fail
  refine bodyPost_ret (v := .agg #[.int .i64 c0, .slice A' (sortT (ts.map turnedT)).length cap]) (by simp [results, Try.results65, go_sem, hc, hz]) rfl ⟨A', cap, rfl, ?_, ?_⟩
  · have h0 : Below w.heap.size w w1 := (((Below.refl w.heap.size w).alloc (Nat.le_refl _) _).alloc (by simp) _).trans (HB.out.mono (by simp; omega))
    exact (h0.setCell (by simp) _).setCell (by simp) _
  · have h0 : TW w1 (w.heap.size + 1 + 1) A' (sortT (ts.map turnedT)) := by simpa using HW.out
    exact ((h0.far (by simp) _).far (by simp) _).low (by omega)

set_option maxHeartbeats 400000 in
theorem specTurned_any (c0 : Int) (A : Option Addr) (n c : Nat) (ts : List Tl) (w : World) (hn : n ≤ 1048576) (hl : ts.length = n) (hA : TR w w.heap.size A ts) :
    Calls Try.prog 26 #[.agg #[.int .i64 c0, .slice A n c]] w (if isSet c0 ts = true then SetRes w c0 (sortT (ts.map turnedT)) 0 else SetRes w 0 [] 1) := by
  have his : ∀ W, Ext w W → Calls Try.prog 52 #[.agg #[.int .i64 c0, .slice A n c]] W _ := fun W hW => l01Is_any c0 A n c ts W (by omega) hl ((hA.ext hW (Nat.le_refl _)).more (hW.below (Nat.le_refl _)).size)
  have hcon : isSet c0 ts = true → ∀ W, Ext w W → Calls Try.prog 65 #[.agg #[.int .i64 c0, .slice A n c]] W _ := fun hi W hW => l01Turned_any c0 A n c ts W (by have := isSet_len hi; omega) hl ((hA.ext hW (Nat.le_refl _)).more (hW.below (Nat.le_refl _)).size)
  have HC := Lib.hid hcon
  have HI := Lib.hid his
  clear hcon his hA
  cases hs : isSet c0 ts with
  | true =>
    rw [if_pos rfl]
    have HS := Lib.hid hs
    rw [hs] at HI
    clear hs
    unfold SetRes
    go_enter Try.func26, Try.ntmps26
    go_wp2_with fail
    refine (HI.out _ (((Ext.refl w).alloc _).alloc _)).mono ?_
    rintro e w1 ⟨rfl, hx⟩
    have X1 := Lib.hid ((((Ext.refl w).alloc _).alloc _).trans hx)
    have hR := (((Blk.new w _ _).ext ((Ext.refl _).alloc (Obj.cells #[.int .i64 0, .slice none 0 0] 29))).ext hx : Blk w1 w.heap.size 29 #[.int .i64 c0, .slice A n c])
    have hQ : Blk w1 (w.heap.size + 1) 29 #[.int .i64 0, .slice none 0 0] := by have := (Blk.new (w.alloc (Obj.cells #[.int .i64 c0, .slice A n c] 29)) 29 #[.int .i64 0, .slice none 0 0]).ext hx; simpa using this
    have b0 := hR.rd 0 rfl
    have b1 := hR.rd 1 rfl
    have HQ := Lib.hid hQ
    clear hx hR hQ
    go_wp2_with fail
    refine (HC.out HS.out _ X1.out).mono ?_
    rintro e w2 ⟨A', cap, rfl, hb, htw⟩
    have HB := Lib.hid hb
    have HW := Lib.hid htw
    have hQ2 := HQ.out.below hb HQ.out.lt
    have r0 := hQ2.rd 0 rfl
    have r1 := hQ2.rd 1 rfl
    have z0 := hQ2.frozen 0
    have z1 := hQ2.frozen 1
    have hz1 := hQ2.lt
    clear hb htw hQ2 b0 b1
    go_wp2_with fail
    refine bodyPost_ret (v := .tuple #[.agg #[.int .i64 c0, .slice A' (sortT (ts.map turnedT)).length cap], .int .i64 0]) (by simp [results, Try.results26, go_sem, r0, r1, z0, z1]) rfl ⟨A', cap, rfl, ?_, ?_⟩
    · have h0 : Below w.heap.size w w2 := (X1.out.below (Nat.le_refl _)).trans (HB.out.mono (X1.out.below (Nat.le_refl _)).size)
      exact (h0.setCell (by simp) _).setCell (by simp) _
    · have h1 := HQ.out.lt
      exact ((HW.out.far (by simpa using h1) _).far (by simpa using h1) _).low (X1.out.below (Nat.le_refl _)).size
  | false =>
    rw [if_neg (by simp)]
    rw [hs] at HI
    clear hs HC
    unfold SetRes
    go_enter Try.func26, Try.ntmps26
    go_wp2_with fail
    refine (HI.out _ (((Ext.refl w).alloc _).alloc _)).mono ?_
    rintro e w1 ⟨rfl, hx⟩
    have X1 := Lib.hid ((((Ext.refl w).alloc _).alloc _).trans hx)
    have hQ : Blk w1 (w.heap.size + 1) 29 #[.int .i64 0, .slice none 0 0] := by have := (Blk.new (w.alloc (Obj.cells #[.int .i64 c0, .slice A n c] 29)) 29 #[.int .i64 0, .slice none 0 0]).ext hx; simpa using this
    have r0 := hQ.rd 0 rfl
    have r1 := hQ.rd 1 rfl
    have z0 := hQ.frozen 0
    have z1 := hQ.frozen 1
    clear hx hQ
    go_wp2_with fail
    refine bodyPost_ret (v := .tuple #[.agg #[.int .i64 0, .slice none 0 0], .int .i64 1]) (by simp [results, Try.results26, go_sem, r0, r1, z0, z1]) rfl ⟨none, 0, rfl, ?_, fun h => absurd h (Nat.lt_irrefl _)⟩
    exact ((X1.out.below (Nat.le_refl _)).setCell (by simp) _).setCell (by simp) _

set_option maxHeartbeats 400000 in
theorem l01Transposed_any (c0 : Int) (A : Option Addr) (n c : Nat) (ts : List Tl) (w : World) (hn : n ≤ 65536) (hl : ts.length = n) (hA : TR w w.heap.size A ts) :
    Calls Try.prog 67 #[.agg #[.int .i64 c0, .slice A n c]] w fun e w' => ∃ A' cap, e = .returned (.agg #[.int .i64 c0, .slice A' (sortT (ts.map transposedT)).length cap]) ∧ Below w.heap.size w w' ∧ TW w' w.heap.size A' (sortT (ts.map transposedT)) := by
  have hcon : ∀ W, Ext w W → Calls Try.prog 103 #[.agg #[.int .i64 c0, .slice A n c], .int .i64 1, .int .i64 0, .int .i64 3, .int .i64 2] W _ := fun W hW => l01Changed_transposed c0 A n c ts W hn hl ((hA.ext hW (Nat.le_refl _)).more (hW.below (Nat.le_refl _)).size)
  have HC := Lib.hid hcon
  clear hcon hA
  go_enter Try.func67, Try.ntmps67
  go_wp2_with fail
  refine (HC.out _ (((Ext.refl w).alloc _).alloc _)).mono ?_
  rintro e w1 ⟨A', cap, rfl, hb, htw⟩
  have HB := Lib.hid hb
  have HW := Lib.hid htw
  clear htw
  obtain ⟨hc, hf⟩ := bcell hb
  have hz : w.heap.size + 1 < w1.heap.size := by have := hb.size; simp at this; omega
  clear hb
  go_wp2_with fail
  refine bodyPost_ret (v := .agg #[.int .i64 c0, .slice A' (sortT (ts.map transposedT)).length cap]) (by simp [results, Try.results67, go_sem, hc, hz]) rfl ⟨A', cap, rfl, ?_, ?_⟩
  · have h0 : Below w.heap.size w w1 := (((Below.refl w.heap.size w).alloc (Nat.le_refl _) _).alloc (by simp) _).trans (HB.out.mono (by simp; omega))
    exact (h0.setCell (by simp) _).setCell (by simp) _
  · have h0 : TW w1 (w.heap.size + 1 + 1) A' (sortT (ts.map transposedT)) := by simpa using HW.out
    exact ((h0.far (by simp) _).far (by simp) _).low (by omega)

set_option maxHeartbeats 400000 in
theorem specTransposed_any (c0 : Int) (A : Option Addr) (n c : Nat) (ts : List Tl) (w : World) (hn : n ≤ 1048576) (hl : ts.length = n) (hA : TR w w.heap.size A ts) :
    Calls Try.prog 28 #[.agg #[.int .i64 c0, .slice A n c]] w (if isSet c0 ts = true then SetRes w c0 (sortT (ts.map transposedT)) 0 else SetRes w 0 [] 1) := by
  have his : ∀ W, Ext w W → Calls Try.prog 52 #[.agg #[.int .i64 c0, .slice A n c]] W _ := fun W hW => l01Is_any c0 A n c ts W (by omega) hl ((hA.ext hW (Nat.le_refl _)).more (hW.below (Nat.le_refl _)).size)
  have hcon : isSet c0 ts = true → ∀ W, Ext w W → Calls Try.prog 67 #[.agg #[.int .i64 c0, .slice A n c]] W _ := fun hi W hW => l01Transposed_any c0 A n c ts W (by have := isSet_len hi; omega) hl ((hA.ext hW (Nat.le_refl _)).more (hW.below (Nat.le_refl _)).size)
  have HC := Lib.hid hcon
  have HI := Lib.hid his
  clear hcon his hA
  cases hs : isSet c0 ts with
  | true =>
    rw [if_pos rfl]
    have HS := Lib.hid hs
    rw [hs] at HI
    clear hs
    unfold SetRes
    go_enter Try.func28, Try.ntmps28
    go_wp2_with fail
    refine (HI.out _ (((Ext.refl w).alloc _).alloc _)).mono ?_
    rintro e w1 ⟨rfl, hx⟩
    have X1 := Lib.hid ((((Ext.refl w).alloc _).alloc _).trans hx)
    have hR := (((Blk.new w _ _).ext ((Ext.refl _).alloc (Obj.cells #[.int .i64 0, .slice none 0 0] 29))).ext hx : Blk w1 w.heap.size 29 #[.int .i64 c0, .slice A n c])
    have hQ : Blk w1 (w.heap.size + 1) 29 #[.int .i64 0, .slice none 0 0] := by have := (Blk.new (w.alloc (Obj.cells #[.int .i64 c0, .slice A n c] 29)) 29 #[.int .i64 0, .slice none 0 0]).ext hx; simpa using this
    have b0 := hR.rd 0 rfl
    have b1 := hR.rd 1 rfl
    have HQ := Lib.hid hQ
    clear hx hR hQ
    go_wp2_with fail
    refine (HC.out HS.out _ X1.out).mono ?_
    rintro e w2 ⟨A', cap, rfl, hb, htw⟩
    have HB := Lib.hid hb
    have HW := Lib.hid htw
    have hQ2 := HQ.out.below hb HQ.out.lt
    have r0 := hQ2.rd 0 rfl
    have r1 := hQ2.rd 1 rfl
    have z0 := hQ2.frozen 0
    have z1 := hQ2.frozen 1
    have hz1 := hQ2.lt
    clear hb htw hQ2 b0 b1
    go_wp2_with fail
    refine bodyPost_ret (v := .tuple #[.agg #[.int .i64 c0, .slice A' (sortT (ts.map transposedT)).length cap], .int .i64 0]) (by simp [results, Try.results28, go_sem, r0, r1, z0, z1]) rfl ⟨A', cap, rfl, ?_, ?_⟩
    · have h0 : Below w.heap.size w w2 := (X1.out.below (Nat.le_refl _)).trans (HB.out.mono (X1.out.below (Nat.le_refl _)).size)
      exact (h0.setCell (by simp) _).setCell (by simp) _
    · have h1 := HQ.out.lt
      exact ((HW.out.far (by simpa using h1) _).far (by simpa using h1) _).low (X1.out.below (Nat.le_refl _)).size
  | false =>
    rw [if_neg (by simp)]
    rw [hs] at HI
    clear hs HC
    unfold SetRes
    go_enter Try.func28, Try.ntmps28
    go_wp2_with fail
    refine (HI.out _ (((Ext.refl w).alloc _).alloc _)).mono ?_
    rintro e w1 ⟨rfl, hx⟩
    have X1 := Lib.hid ((((Ext.refl w).alloc _).alloc _).trans hx)
    have hQ : Blk w1 (w.heap.size + 1) 29 #[.int .i64 0, .slice none 0 0] := by have := (Blk.new (w.alloc (Obj.cells #[.int .i64 c0, .slice A n c] 29)) 29 #[.int .i64 0, .slice none 0 0]).ext hx; simpa using this
    have r0 := hQ.rd 0 rfl
    have r1 := hQ.rd 1 rfl
    have z0 := hQ.frozen 0
    have z1 := hQ.frozen 1
    clear hx hQ
    go_wp2_with fail
    refine bodyPost_ret (v := .tuple #[.agg #[.int .i64 0, .slice none 0 0], .int .i64 1]) (by simp [results, Try.results28, go_sem, r0, r1, z0, z1]) rfl ⟨none, 0, rfl, ?_, fun h => absurd h (Nat.lt_irrefl _)⟩
    exact ((X1.out.below (Nat.le_refl _)).setCell (by simp) _).setCell (by simp) _

end Go.Proofs.Ytdkodmmbgflijaa
