/- The model's sets that are made of tiles, and of changed tiles. -/
import Derived.Test.YtdkodmmbgflijaaLSort
import Derived.Deep.RegionHeld3
namespace Go.Proofs.Ytdkodmmbgflijaa
set_option linter.unusedVariables false
set_option linter.unusedSimpArgs false
open Go.RowKit Go.Sort

theorem l01Made_any (c0 : Int) (A : Option Addr) (n c : Nat) (ts : List Tl) (w : World) (hn : n ≤ 65536) (hl : ts.length = n) (hA : TR w w.heap.size A ts) :
    Calls Try.prog 110 #[.int .i64 c0, .slice A n c] w fun e w' => ∃ A' cap, e = .returned (.agg #[.int .i64 c0, .slice A' (sortT ts).length cap]) ∧ Below w.heap.size w w' ∧ TW w' w.heap.size A' (sortT ts) := by
  have hcon : ∀ W, Ext w W → Calls Try.prog 113 #[.slice A n c] W _ := fun W hW => l01Sort_any A n c ts W hn hl ((hA.ext hW (Nat.le_refl _)).more (hW.below (Nat.le_refl _)).size)
  have HC := Lib.hid hcon
  clear hcon hA
  go_enter Try.func110, Try.ntmps110
  go_wp2_with fail
  refine (HC.out _ ((Ext.refl w).alloc _)).mono ?_
  rintro e w1 ⟨v, rfl, hown, hb⟩
  obtain ⟨A', cap, rfl, htw⟩ := own_tw hown rfl
  have HB := Lib.hid hb
  have HW := Lib.hid htw
  clear htw hown
  have hc : ∀ o, w1.cell? ⟨w.heap.size, o, none⟩ = (w.alloc (Obj.cells #[.int .i64 0, .slice none 0 0] 29)).cell? ⟨w.heap.size, o, none⟩ := fun o => hb.cell (p := ⟨w.heap.size, o, none⟩) (by simp)
  have hf : ∀ o, w1.frozen? ⟨w.heap.size, o, none⟩ = (w.alloc (Obj.cells #[.int .i64 0, .slice none 0 0] 29)).frozen? ⟨w.heap.size, o, none⟩ := fun o => hb.frozen (p := ⟨w.heap.size, o, none⟩) (by simp)
  have hz : w.heap.size < w1.heap.size := by have := hb.size; simp at this; omega
  clear hb
  go_wp2_with fail
  refine bodyPost_ret (v := .agg #[.int .i64 c0,   .slice A' (sortT ts).length cap]) (by simp [results, Try.results110, go_sem, hc, hz]) rfl ⟨A', cap, rfl, ?_, ?_⟩
  · have h0 : Below w.heap.size w w1 := ((Below.refl w.heap.size w).alloc (Nat.le_refl _) _).trans (HB.out.mono (by simp))
    exact (h0.setCell (by simp) _).setCell (by simp) _
  · have h0 : TW w1 (w.heap.size + 1) A' (sortT ts) := by simpa using HW.out
    exact ((h0.far (by simp) _).far (by simp) _).low (by omega)


def flippedT (t : Tl) : Tl := (t.1, t.2.2.2, t.2.2.1, t.2.1)
set_option maxRecDepth 100000 in
set_option maxHeartbeats 2000000 in
theorem l01Changed_flipped (c0 : Int) (A : Option Addr) (n c : Nat) (ts : List Tl) (w : World) (hn : n ≤ 65536) (hl : ts.length = n) (hA : TR w w.heap.size A ts) :
    Calls Try.prog 103 #[.agg #[.int .i64 c0, .slice A n c], .int .i64 0, .int .i64 3, .int .i64 2, .int .i64 1] w fun e w' => ∃ A' cap, e = .returned (.agg #[.int .i64 c0, .slice A' (sortT (ts.map flippedT)).length cap]) ∧ Below w.heap.size w w' ∧ TW w' w.heap.size A' (sortT (ts.map flippedT)) := by
  obtain ⟨i0, hi, hz0, hz1, hz2⟩ := info_parts info_tile
  have HI := Lib.hid (And.intro hi (And.intro hz0 (And.intro hz1 hz2)))
  clear hi hz0 hz1 hz2
  go_enter Try.func103, Try.ntmps103
  go_wp2_with fail
  obtain ⟨W0, hW0⟩ : ∃ W0, ((w.alloc (Obj.cells #[.int .i64 c0, .slice A n c] 29)).alloc (Obj.cells #[.int .i64 0, .slice none 0 0] 29)) = W0 := ⟨_, rfl⟩
  have hs0 : W0.heap.size = w.heap.size + 2 := by rw [← hW0]; simp
  have hE : Ext w W0 := by rw [← hW0]; exact ((Ext.refl w).alloc _).alloc _
  have hB0 : Blk W0 w.heap.size 29 #[.int .i64 c0, .slice A n c] := by rw [← hW0]; exact (Blk.new w _ _).ext ((Ext.refl _).alloc _)
  have hR0 : Blk W0 (w.heap.size + 1) 29 #[.int .i64 0, .slice none 0 0] := by rw [← hW0]; have := Blk.new (w.alloc (Obj.cells #[.int .i64 c0, .slice A n c] 29)) 29 #[.int .i64 0, .slice none 0 0]; simpa using this
  have HH := Lib.hid (And.intro hs0 (And.intro hE (And.intro hB0 hR0)))
  rw [hW0]
  clear hW0 hE hB0 hR0
  rw [show w.heap.size + 1 + 1 = W0.heap.size by omega]
  clear hs0
  go_loopw [11, 12] (fun v i wr => ∃ k : Nat, k ≤ n ∧ i = .int .i64 k ∧ wr.ownsRow W0.heap.size 60 4 v k (flat ((ts.map flippedT).take k)) ∧ Below W0.heap.size W0 wr) (fun _ i _ => n - (intOf i).toNat)
  case atStart => exact ⟨0, Nat.zero_le _, rfl, World.ownsRow_made (base := W0.heap.size) (e := 60) (size := 4) W0 #[] 0 (Nat.le_refl _) (by unfold maxLen; omega) rfl, (Below.refl _ _).alloc (Nat.le_refl _) _⟩
  case round =>
    obtain ⟨k, hk, rfl, hown, hb⟩ := hrel
    have HO := Lib.hid hown
    have HB := Lib.hid hb
    have hB1 := HH.out.2.2.1.below hb HH.out.2.2.1.lt
    have b0 := hB1.rd 0 rfl
    have b1 := hB1.rd 1 rfl
    clear hB1
    by_cases hlt : k < n
    · obtain ⟨b, off, rfl, hbl, hc⟩ := ((hA.ext HH.out.2.1 (Nat.le_refl _)).below hb (by have := HH.out.1; omega)) (by omega)
      replace hc := hc k (by omega)
      clear hown hb hA
      have hX : flippedT (ts.getD k T0) = (ts.map flippedT).getD k T0 := (map_getD ts flippedT (by omega)).symm
      generalize ts.getD k T0 = x at hc hX
      obtain ⟨x0, x1, x2, x3⟩ := x
      obtain ⟨d0, d1, d2, d3⟩ := hc
      simp only at d0 d1 d2 d3
      simp only [flippedT] at hX
      have EX := Lib.hid hX
      clear hX
      go_wp2_with fail
      have O2 := Lib.hid (own_ext HO.out ((Ext.refl wr).alloc (Obj.cells #[.int .i64 x0, .int .i64 x1, .int .i64 x2, .int .i64 x3] 60)))
      have B2 := Lib.hid (HB.out.alloc HB.out.size (Obj.cells #[.int .i64 x0, .int .i64 x1, .int .i64 x2, .int .i64 x3] 60))
      have hT := Blk.new wr 60 #[.int .i64 x0, .int .i64 x1, .int .i64 x2, .int .i64 x3]
      have t0 := hT.rd 0 rfl
      have t1 := hT.rd 1 rfl
      have t2 := hT.rd 2 rfl
      have t3 := hT.rd 3 rfl
      have hzz : wr.heap.size < (wr.alloc (Obj.cells #[.int .i64 x0, .int .i64 x1, .int .i64 x2, .int .i64 x3] 60)).heap.size := by simp
      have hne2 := fun (e : some wr.heap.size = _) => Nat.lt_irrefl _ (HO.out.lt wr.heap.size e.symm).2
      clear hT HO HB d0 d1 d2 d3 b0 b1
      generalize wr.heap.size = gt at *
      generalize wr.alloc (Obj.cells #[.int .i64 x0, .int .i64 x1, .int .i64 x2, .int .i64 x3] 60) = w2 at *
      go_region_held3 (fun w' => w'.cell? ⟨gt, 0, none⟩ = some (.int .i64 x0) ∧ w'.cell? ⟨gt, 1, none⟩ = some (.int .i64 x1) ∧ w'.cell? ⟨gt, 2, none⟩ = some (.int .i64 x2) ∧ w'.cell? ⟨gt, 3, none⟩ = some (.int .i64 x3)) (first | go_keep | (exact ⟨hgrow6.cell (by go_simp) hne2, hgrow6.cell (by go_simp) hne2, hgrow6.cell (by go_simp) hne2, hgrow6.cell (by go_simp) hne2⟩))
        (first | (refine step_append_any _ (by rfl) _ _ _ (by rfl) W0.heap.size 60 i0 _ 4 32 Try.underlying27 HI.out.1 HI.out.2.1 HI.out.2.2.1 HI.out.2.2.2 rfl (by decide) _ k (flat ((ts.map flippedT).take k)) (by rfl) (O2.out.alloc _).drew _ _ _ _ (enc (x0, x3, x2, x1)) (by rfl) (Reads.of_own (World.ownsRow_lit (base := w2.heap.size) (e := 60) (size := 4) w2 #[.int .i64 x0, .int .i64 x3, .int .i64 x2, .int .i64 x1] 1 (Nat.le_refl _) (by unfold maxLen; omega) rfl)).drew (enc_one (x0, x3, x2, x1)) (by unfold maxLen; omega) (by omega) (by have := B2.out.size; simp; omega) ?_; intro v6 w6 hown6 hgrow6 hat6))
      have O3 := Lib.hid (own_step (us := ts.map flippedT) (k := k) (y := (x0, x3, x2, x1)) (by simp; omega) EX.out hown6)
      have B3 := Lib.hid (((B2.out.alloc B2.out.size _).drew).grown hgrow6 (by have := B2.out.size; simp; omega) (fun j hj => (O2.out.lt j hj).1))
      clear hown6 hgrow6 O2 B2 t0 t1 t2 t3
      go_wp2_with fail
      go_roundw
      case rel => exact ⟨k + 1, by omega, by go_num, O3.out, B3.out⟩
      case measure => simp [intOf]; omega
    · clear hown hb hA
      have hmk := HO.out
      obtain rfl : k = n := by omega
      rw [List.take_of_length_le (by simp; omega)] at hmk
      obtain ⟨A2, cap2, rfl, htw⟩ := own_tw hmk (by simp; omega)
      have HM := Lib.hid (l01Made_any c0 A2 k cap2 (ts.map flippedT) wr hn (by simp; omega) htw.tr)
      clear hmk htw
      go_wp2_with fail
      refine HM.out.mono ?_
      rintro e w2 ⟨A3, cap3, rfl, hb3, htw3⟩
      have L2 := Lib.hid (HB.out.trans (hb3.mono HB.out.size))
      have T2 := Lib.hid htw3
      have hR2 := (HH.out.2.2.2.below HB.out HH.out.2.2.2.lt).below hb3 (HH.out.2.2.2.below HB.out HH.out.2.2.2.lt).lt
      have r0 := hR2.rd 0 rfl
      have r1 := hR2.rd 1 rfl
      have z0 := hR2.frozen 0
      have z1 := hR2.frozen 1
      have HZ := Lib.hid hR2
      clear hR2 hb3 htw3 b0 b1
      go_wp2_with fail
      refine bodyPost_ret (v := .agg #[.int .i64 c0, .slice A3 (sortT (ts.map flippedT)).length cap3]) (by simp [results, Try.results103, go_sem, r0, r1, z0, z1]) rfl ⟨A3, cap3, rfl, ?_, ?_⟩
      · have h0 : Below w.heap.size w w2 := (HH.out.2.1.below (Nat.le_refl _)).trans (L2.out.mono (by have := HH.out.1; omega))
        exact (h0.setCell (by simp) _).setCell (by simp) _
      · have h1 := HB.out.size
        have h2 := HH.out.1
        exact ((T2.out.far (by show _ < _; simp; omega) _).far (by show _ < _; simp; omega) _).low (by omega)

def mirroredT (t : Tl) : Tl := (t.2.2.1, t.2.1, t.1, t.2.2.2)
set_option maxRecDepth 100000 in
set_option maxHeartbeats 2000000 in
theorem l01Changed_mirrored (c0 : Int) (A : Option Addr) (n c : Nat) (ts : List Tl) (w : World) (hn : n ≤ 65536) (hl : ts.length = n) (hA : TR w w.heap.size A ts) :
    Calls Try.prog 103 #[.agg #[.int .i64 c0, .slice A n c], .int .i64 2, .int .i64 1, .int .i64 0, .int .i64 3] w fun e w' => ∃ A' cap, e = .returned (.agg #[.int .i64 c0, .slice A' (sortT (ts.map mirroredT)).length cap]) ∧ Below w.heap.size w w' ∧ TW w' w.heap.size A' (sortT (ts.map mirroredT)) := by
  obtain ⟨i0, hi, hz0, hz1, hz2⟩ := info_parts info_tile
  have HI := Lib.hid (And.intro hi (And.intro hz0 (And.intro hz1 hz2)))
  clear hi hz0 hz1 hz2
  go_enter Try.func103, Try.ntmps103
  go_wp2_with fail
  obtain ⟨W0, hW0⟩ : ∃ W0, ((w.alloc (Obj.cells #[.int .i64 c0, .slice A n c] 29)).alloc (Obj.cells #[.int .i64 0, .slice none 0 0] 29)) = W0 := ⟨_, rfl⟩
  have hs0 : W0.heap.size = w.heap.size + 2 := by rw [← hW0]; simp
  have hE : Ext w W0 := by rw [← hW0]; exact ((Ext.refl w).alloc _).alloc _
  have hB0 : Blk W0 w.heap.size 29 #[.int .i64 c0, .slice A n c] := by rw [← hW0]; exact (Blk.new w _ _).ext ((Ext.refl _).alloc _)
  have hR0 : Blk W0 (w.heap.size + 1) 29 #[.int .i64 0, .slice none 0 0] := by rw [← hW0]; have := Blk.new (w.alloc (Obj.cells #[.int .i64 c0, .slice A n c] 29)) 29 #[.int .i64 0, .slice none 0 0]; simpa using this
  have HH := Lib.hid (And.intro hs0 (And.intro hE (And.intro hB0 hR0)))
  rw [hW0]
  clear hW0 hE hB0 hR0
  rw [show w.heap.size + 1 + 1 = W0.heap.size by omega]
  clear hs0
  go_loopw [11, 12] (fun v i wr => ∃ k : Nat, k ≤ n ∧ i = .int .i64 k ∧ wr.ownsRow W0.heap.size 60 4 v k (flat ((ts.map mirroredT).take k)) ∧ Below W0.heap.size W0 wr) (fun _ i _ => n - (intOf i).toNat)
  case atStart => exact ⟨0, Nat.zero_le _, rfl, World.ownsRow_made (base := W0.heap.size) (e := 60) (size := 4) W0 #[] 0 (Nat.le_refl _) (by unfold maxLen; omega) rfl, (Below.refl _ _).alloc (Nat.le_refl _) _⟩
  case round =>
    obtain ⟨k, hk, rfl, hown, hb⟩ := hrel
    have HO := Lib.hid hown
    have HB := Lib.hid hb
    have hB1 := HH.out.2.2.1.below hb HH.out.2.2.1.lt
    have b0 := hB1.rd 0 rfl
    have b1 := hB1.rd 1 rfl
    clear hB1
    by_cases hlt : k < n
    · obtain ⟨b, off, rfl, hbl, hc⟩ := ((hA.ext HH.out.2.1 (Nat.le_refl _)).below hb (by have := HH.out.1; omega)) (by omega)
      replace hc := hc k (by omega)
      clear hown hb hA
      have hX : mirroredT (ts.getD k T0) = (ts.map mirroredT).getD k T0 := (map_getD ts mirroredT (by omega)).symm
      generalize ts.getD k T0 = x at hc hX
      obtain ⟨x0, x1, x2, x3⟩ := x
      obtain ⟨d0, d1, d2, d3⟩ := hc
      simp only at d0 d1 d2 d3
      simp only [mirroredT] at hX
      have EX := Lib.hid hX
      clear hX
      go_wp2_with fail
      have O2 := Lib.hid (own_ext HO.out ((Ext.refl wr).alloc (Obj.cells #[.int .i64 x0, .int .i64 x1, .int .i64 x2, .int .i64 x3] 60)))
      have B2 := Lib.hid (HB.out.alloc HB.out.size (Obj.cells #[.int .i64 x0, .int .i64 x1, .int .i64 x2, .int .i64 x3] 60))
      have hT := Blk.new wr 60 #[.int .i64 x0, .int .i64 x1, .int .i64 x2, .int .i64 x3]
      have t0 := hT.rd 0 rfl
      have t1 := hT.rd 1 rfl
      have t2 := hT.rd 2 rfl
      have t3 := hT.rd 3 rfl
      have hzz : wr.heap.size < (wr.alloc (Obj.cells #[.int .i64 x0, .int .i64 x1, .int .i64 x2, .int .i64 x3] 60)).heap.size := by simp
      have hne2 := fun (e : some wr.heap.size = _) => Nat.lt_irrefl _ (HO.out.lt wr.heap.size e.symm).2
      clear hT HO HB d0 d1 d2 d3 b0 b1
      generalize wr.heap.size = gt at *
      generalize wr.alloc (Obj.cells #[.int .i64 x0, .int .i64 x1, .int .i64 x2, .int .i64 x3] 60) = w2 at *
      go_region_held3 (fun w' => w'.cell? ⟨gt, 0, none⟩ = some (.int .i64 x0) ∧ w'.cell? ⟨gt, 1, none⟩ = some (.int .i64 x1) ∧ w'.cell? ⟨gt, 2, none⟩ = some (.int .i64 x2) ∧ w'.cell? ⟨gt, 3, none⟩ = some (.int .i64 x3)) (first | go_keep | (exact ⟨hgrow6.cell (by go_simp) hne2, hgrow6.cell (by go_simp) hne2, hgrow6.cell (by go_simp) hne2, hgrow6.cell (by go_simp) hne2⟩))
        (first | (refine step_append_any _ (by rfl) _ _ _ (by rfl) W0.heap.size 60 i0 _ 4 32 Try.underlying27 HI.out.1 HI.out.2.1 HI.out.2.2.1 HI.out.2.2.2 rfl (by decide) _ k (flat ((ts.map mirroredT).take k)) (by rfl) (O2.out.alloc _).drew _ _ _ _ (enc (x2, x1, x0, x3)) (by rfl) (Reads.of_own (World.ownsRow_lit (base := w2.heap.size) (e := 60) (size := 4) w2 #[.int .i64 x2, .int .i64 x1, .int .i64 x0, .int .i64 x3] 1 (Nat.le_refl _) (by unfold maxLen; omega) rfl)).drew (enc_one (x2, x1, x0, x3)) (by unfold maxLen; omega) (by omega) (by have := B2.out.size; simp; omega) ?_; intro v6 w6 hown6 hgrow6 hat6))
      have O3 := Lib.hid (own_step (us := ts.map mirroredT) (k := k) (y := (x2, x1, x0, x3)) (by simp; omega) EX.out hown6)
      have B3 := Lib.hid (((B2.out.alloc B2.out.size _).drew).grown hgrow6 (by have := B2.out.size; simp; omega) (fun j hj => (O2.out.lt j hj).1))
      clear hown6 hgrow6 O2 B2 t0 t1 t2 t3
      go_wp2_with fail
      go_roundw
      case rel => exact ⟨k + 1, by omega, by go_num, O3.out, B3.out⟩
      case measure => simp [intOf]; omega
    · clear hown hb hA
      have hmk := HO.out
      obtain rfl : k = n := by omega
      rw [List.take_of_length_le (by simp; omega)] at hmk
      obtain ⟨A2, cap2, rfl, htw⟩ := own_tw hmk (by simp; omega)
      have HM := Lib.hid (l01Made_any c0 A2 k cap2 (ts.map mirroredT) wr hn (by simp; omega) htw.tr)
      clear hmk htw
      go_wp2_with fail
      refine HM.out.mono ?_
      rintro e w2 ⟨A3, cap3, rfl, hb3, htw3⟩
      have L2 := Lib.hid (HB.out.trans (hb3.mono HB.out.size))
      have T2 := Lib.hid htw3
      have hR2 := (HH.out.2.2.2.below HB.out HH.out.2.2.2.lt).below hb3 (HH.out.2.2.2.below HB.out HH.out.2.2.2.lt).lt
      have r0 := hR2.rd 0 rfl
      have r1 := hR2.rd 1 rfl
      have z0 := hR2.frozen 0
      have z1 := hR2.frozen 1
      have HZ := Lib.hid hR2
      clear hR2 hb3 htw3 b0 b1
      go_wp2_with fail
      refine bodyPost_ret (v := .agg #[.int .i64 c0, .slice A3 (sortT (ts.map mirroredT)).length cap3]) (by simp [results, Try.results103, go_sem, r0, r1, z0, z1]) rfl ⟨A3, cap3, rfl, ?_, ?_⟩
      · have h0 : Below w.heap.size w w2 := (HH.out.2.1.below (Nat.le_refl _)).trans (L2.out.mono (by have := HH.out.1; omega))
        exact (h0.setCell (by simp) _).setCell (by simp) _
      · have h1 := HB.out.size
        have h2 := HH.out.1
        exact ((T2.out.far (by show _ < _; simp; omega) _).far (by show _ < _; simp; omega) _).low (by omega)

def turnedT (t : Tl) : Tl := (t.2.2.2, t.1, t.2.1, t.2.2.1)
set_option maxRecDepth 100000 in
set_option maxHeartbeats 2000000 in
theorem l01Changed_turned (c0 : Int) (A : Option Addr) (n c : Nat) (ts : List Tl) (w : World) (hn : n ≤ 65536) (hl : ts.length = n) (hA : TR w w.heap.size A ts) :
    Calls Try.prog 103 #[.agg #[.int .i64 c0, .slice A n c], .int .i64 3, .int .i64 0, .int .i64 1, .int .i64 2] w fun e w' => ∃ A' cap, e = .returned (.agg #[.int .i64 c0, .slice A' (sortT (ts.map turnedT)).length cap]) ∧ Below w.heap.size w w' ∧ TW w' w.heap.size A' (sortT (ts.map turnedT)) := by
  obtain ⟨i0, hi, hz0, hz1, hz2⟩ := info_parts info_tile
  have HI := Lib.hid (And.intro hi (And.intro hz0 (And.intro hz1 hz2)))
  clear hi hz0 hz1 hz2
  go_enter Try.func103, Try.ntmps103
  go_wp2_with fail
  obtain ⟨W0, hW0⟩ : ∃ W0, ((w.alloc (Obj.cells #[.int .i64 c0, .slice A n c] 29)).alloc (Obj.cells #[.int .i64 0, .slice none 0 0] 29)) = W0 := ⟨_, rfl⟩
  have hs0 : W0.heap.size = w.heap.size + 2 := by rw [← hW0]; simp
  have hE : Ext w W0 := by rw [← hW0]; exact ((Ext.refl w).alloc _).alloc _
  have hB0 : Blk W0 w.heap.size 29 #[.int .i64 c0, .slice A n c] := by rw [← hW0]; exact (Blk.new w _ _).ext ((Ext.refl _).alloc _)
  have hR0 : Blk W0 (w.heap.size + 1) 29 #[.int .i64 0, .slice none 0 0] := by rw [← hW0]; have := Blk.new (w.alloc (Obj.cells #[.int .i64 c0, .slice A n c] 29)) 29 #[.int .i64 0, .slice none 0 0]; simpa using this
  have HH := Lib.hid (And.intro hs0 (And.intro hE (And.intro hB0 hR0)))
  rw [hW0]
  clear hW0 hE hB0 hR0
  rw [show w.heap.size + 1 + 1 = W0.heap.size by omega]
  clear hs0
  go_loopw [11, 12] (fun v i wr => ∃ k : Nat, k ≤ n ∧ i = .int .i64 k ∧ wr.ownsRow W0.heap.size 60 4 v k (flat ((ts.map turnedT).take k)) ∧ Below W0.heap.size W0 wr) (fun _ i _ => n - (intOf i).toNat)
  case atStart => exact ⟨0, Nat.zero_le _, rfl, World.ownsRow_made (base := W0.heap.size) (e := 60) (size := 4) W0 #[] 0 (Nat.le_refl _) (by unfold maxLen; omega) rfl, (Below.refl _ _).alloc (Nat.le_refl _) _⟩
  case round =>
    obtain ⟨k, hk, rfl, hown, hb⟩ := hrel
    have HO := Lib.hid hown
    have HB := Lib.hid hb
    have hB1 := HH.out.2.2.1.below hb HH.out.2.2.1.lt
    have b0 := hB1.rd 0 rfl
    have b1 := hB1.rd 1 rfl
    clear hB1
    by_cases hlt : k < n
    · obtain ⟨b, off, rfl, hbl, hc⟩ := ((hA.ext HH.out.2.1 (Nat.le_refl _)).below hb (by have := HH.out.1; omega)) (by omega)
      replace hc := hc k (by omega)
      clear hown hb hA
      have hX : turnedT (ts.getD k T0) = (ts.map turnedT).getD k T0 := (map_getD ts turnedT (by omega)).symm
      generalize ts.getD k T0 = x at hc hX
      obtain ⟨x0, x1, x2, x3⟩ := x
      obtain ⟨d0, d1, d2, d3⟩ := hc
      simp only at d0 d1 d2 d3
      simp only [turnedT] at hX
      have EX := Lib.hid hX
      clear hX
      go_wp2_with fail
      have O2 := Lib.hid (own_ext HO.out ((Ext.refl wr).alloc (Obj.cells #[.int .i64 x0, .int .i64 x1, .int .i64 x2, .int .i64 x3] 60)))
      have B2 := Lib.hid (HB.out.alloc HB.out.size (Obj.cells #[.int .i64 x0, .int .i64 x1, .int .i64 x2, .int .i64 x3] 60))
      have hT := Blk.new wr 60 #[.int .i64 x0, .int .i64 x1, .int .i64 x2, .int .i64 x3]
      have t0 := hT.rd 0 rfl
      have t1 := hT.rd 1 rfl
      have t2 := hT.rd 2 rfl
      have t3 := hT.rd 3 rfl
      have hzz : wr.heap.size < (wr.alloc (Obj.cells #[.int .i64 x0, .int .i64 x1, .int .i64 x2, .int .i64 x3] 60)).heap.size := by simp
      have hne2 := fun (e : some wr.heap.size = _) => Nat.lt_irrefl _ (HO.out.lt wr.heap.size e.symm).2
      clear hT HO HB d0 d1 d2 d3 b0 b1
      generalize wr.heap.size = gt at *
      generalize wr.alloc (Obj.cells #[.int .i64 x0, .int .i64 x1, .int .i64 x2, .int .i64 x3] 60) = w2 at *
      go_region_held3 (fun w' => w'.cell? ⟨gt, 0, none⟩ = some (.int .i64 x0) ∧ w'.cell? ⟨gt, 1, none⟩ = some (.int .i64 x1) ∧ w'.cell? ⟨gt, 2, none⟩ = some (.int .i64 x2) ∧ w'.cell? ⟨gt, 3, none⟩ = some (.int .i64 x3)) (first | go_keep | (exact ⟨hgrow6.cell (by go_simp) hne2, hgrow6.cell (by go_simp) hne2, hgrow6.cell (by go_simp) hne2, hgrow6.cell (by go_simp) hne2⟩))
        (first | (refine step_append_any _ (by rfl) _ _ _ (by rfl) W0.heap.size 60 i0 _ 4 32 Try.underlying27 HI.out.1 HI.out.2.1 HI.out.2.2.1 HI.out.2.2.2 rfl (by decide) _ k (flat ((ts.map turnedT).take k)) (by rfl) (O2.out.alloc _).drew _ _ _ _ (enc (x3, x0, x1, x2)) (by rfl) (Reads.of_own (World.ownsRow_lit (base := w2.heap.size) (e := 60) (size := 4) w2 #[.int .i64 x3, .int .i64 x0, .int .i64 x1, .int .i64 x2] 1 (Nat.le_refl _) (by unfold maxLen; omega) rfl)).drew (enc_one (x3, x0, x1, x2)) (by unfold maxLen; omega) (by omega) (by have := B2.out.size; simp; omega) ?_; intro v6 w6 hown6 hgrow6 hat6))
      have O3 := Lib.hid (own_step (us := ts.map turnedT) (k := k) (y := (x3, x0, x1, x2)) (by simp; omega) EX.out hown6)
      have B3 := Lib.hid (((B2.out.alloc B2.out.size _).drew).grown hgrow6 (by have := B2.out.size; simp; omega) (fun j hj => (O2.out.lt j hj).1))
      clear hown6 hgrow6 O2 B2 t0 t1 t2 t3
      go_wp2_with fail
      go_roundw
      case rel => exact ⟨k + 1, by omega, by go_num, O3.out, B3.out⟩
      case measure => simp [intOf]; omega
    · clear hown hb hA
      have hmk := HO.out
      obtain rfl : k = n := by omega
      rw [List.take_of_length_le (by simp; omega)] at hmk
      obtain ⟨A2, cap2, rfl, htw⟩ := own_tw hmk (by simp; omega)
      have HM := Lib.hid (l01Made_any c0 A2 k cap2 (ts.map turnedT) wr hn (by simp; omega) htw.tr)
      clear hmk htw
      go_wp2_with fail
      refine HM.out.mono ?_
      rintro e w2 ⟨A3, cap3, rfl, hb3, htw3⟩
      have L2 := Lib.hid (HB.out.trans (hb3.mono HB.out.size))
      have T2 := Lib.hid htw3
      have hR2 := (HH.out.2.2.2.below HB.out HH.out.2.2.2.lt).below hb3 (HH.out.2.2.2.below HB.out HH.out.2.2.2.lt).lt
      have r0 := hR2.rd 0 rfl
      have r1 := hR2.rd 1 rfl
      have z0 := hR2.frozen 0
      have z1 := hR2.frozen 1
      have HZ := Lib.hid hR2
      clear hR2 hb3 htw3 b0 b1
      go_wp2_with fail
      refine bodyPost_ret (v := .agg #[.int .i64 c0, .slice A3 (sortT (ts.map turnedT)).length cap3]) (by simp [results, Try.results103, go_sem, r0, r1, z0, z1]) rfl ⟨A3, cap3, rfl, ?_, ?_⟩
      · have h0 : Below w.heap.size w w2 := (HH.out.2.1.below (Nat.le_refl _)).trans (L2.out.mono (by have := HH.out.1; omega))
        exact (h0.setCell (by simp) _).setCell (by simp) _
      · have h1 := HB.out.size
        have h2 := HH.out.1
        exact ((T2.out.far (by show _ < _; simp; omega) _).far (by show _ < _; simp; omega) _).low (by omega)

def transposedT (t : Tl) : Tl := (t.2.1, t.1, t.2.2.2, t.2.2.1)
set_option maxRecDepth 100000 in
set_option maxHeartbeats 2000000 in
theorem l01Changed_transposed (c0 : Int) (A : Option Addr) (n c : Nat) (ts : List Tl) (w : World) (hn : n ≤ 65536) (hl : ts.length = n) (hA : TR w w.heap.size A ts) :
    Calls Try.prog 103 #[.agg #[.int .i64 c0, .slice A n c], .int .i64 1, .int .i64 0, .int .i64 3, .int .i64 2] w fun e w' => ∃ A' cap, e = .returned (.agg #[.int .i64 c0, .slice A' (sortT (ts.map transposedT)).length cap]) ∧ Below w.heap.size w w' ∧ TW w' w.heap.size A' (sortT (ts.map transposedT)) := by
  obtain ⟨i0, hi, hz0, hz1, hz2⟩ := info_parts info_tile
  have HI := Lib.hid (And.intro hi (And.intro hz0 (And.intro hz1 hz2)))
  clear hi hz0 hz1 hz2
  go_enter Try.func103, Try.ntmps103
  go_wp2_with fail
  obtain ⟨W0, hW0⟩ : ∃ W0, ((w.alloc (Obj.cells #[.int .i64 c0, .slice A n c] 29)).alloc (Obj.cells #[.int .i64 0, .slice none 0 0] 29)) = W0 := ⟨_, rfl⟩
  have hs0 : W0.heap.size = w.heap.size + 2 := by rw [← hW0]; simp
  have hE : Ext w W0 := by rw [← hW0]; exact ((Ext.refl w).alloc _).alloc _
  have hB0 : Blk W0 w.heap.size 29 #[.int .i64 c0, .slice A n c] := by rw [← hW0]; exact (Blk.new w _ _).ext ((Ext.refl _).alloc _)
  have hR0 : Blk W0 (w.heap.size + 1) 29 #[.int .i64 0, .slice none 0 0] := by rw [← hW0]; have := Blk.new (w.alloc (Obj.cells #[.int .i64 c0, .slice A n c] 29)) 29 #[.int .i64 0, .slice none 0 0]; simpa using this
  have HH := Lib.hid (And.intro hs0 (And.intro hE (And.intro hB0 hR0)))
  rw [hW0]
  clear hW0 hE hB0 hR0
  rw [show w.heap.size + 1 + 1 = W0.heap.size by omega]
  clear hs0
  go_loopw [11, 12] (fun v i wr => ∃ k : Nat, k ≤ n ∧ i = .int .i64 k ∧ wr.ownsRow W0.heap.size 60 4 v k (flat ((ts.map transposedT).take k)) ∧ Below W0.heap.size W0 wr) (fun _ i _ => n - (intOf i).toNat)
  case atStart => exact ⟨0, Nat.zero_le _, rfl, World.ownsRow_made (base := W0.heap.size) (e := 60) (size := 4) W0 #[] 0 (Nat.le_refl _) (by unfold maxLen; omega) rfl, (Below.refl _ _).alloc (Nat.le_refl _) _⟩
  case round =>
    obtain ⟨k, hk, rfl, hown, hb⟩ := hrel
    have HO := Lib.hid hown
    have HB := Lib.hid hb
    have hB1 := HH.out.2.2.1.below hb HH.out.2.2.1.lt
    have b0 := hB1.rd 0 rfl
    have b1 := hB1.rd 1 rfl
    clear hB1
    by_cases hlt : k < n
    · obtain ⟨b, off, rfl, hbl, hc⟩ := ((hA.ext HH.out.2.1 (Nat.le_refl _)).below hb (by have := HH.out.1; omega)) (by omega)
      replace hc := hc k (by omega)
      clear hown hb hA
      have hX : transposedT (ts.getD k T0) = (ts.map transposedT).getD k T0 := (map_getD ts transposedT (by omega)).symm
      generalize ts.getD k T0 = x at hc hX
      obtain ⟨x0, x1, x2, x3⟩ := x
      obtain ⟨d0, d1, d2, d3⟩ := hc
      simp only at d0 d1 d2 d3
      simp only [transposedT] at hX
      have EX := Lib.hid hX
      clear hX
      go_wp2_with fail
      have O2 := Lib.hid (own_ext HO.out ((Ext.refl wr).alloc (Obj.cells #[.int .i64 x0, .int .i64 x1, .int .i64 x2, .int .i64 x3] 60)))
      have B2 := Lib.hid (HB.out.alloc HB.out.size (Obj.cells #[.int .i64 x0, .int .i64 x1, .int .i64 x2, .int .i64 x3] 60))
      have hT := Blk.new wr 60 #[.int .i64 x0, .int .i64 x1, .int .i64 x2, .int .i64 x3]
      have t0 := hT.rd 0 rfl
      have t1 := hT.rd 1 rfl
      have t2 := hT.rd 2 rfl
      have t3 := hT.rd 3 rfl
      have hzz : wr.heap.size < (wr.alloc (Obj.cells #[.int .i64 x0, .int .i64 x1, .int .i64 x2, .int .i64 x3] 60)).heap.size := by simp
      have hne2 := fun (e : some wr.heap.size = _) => Nat.lt_irrefl _ (HO.out.lt wr.heap.size e.symm).2
      clear hT HO HB d0 d1 d2 d3 b0 b1
      generalize wr.heap.size = gt at *
      generalize wr.alloc (Obj.cells #[.int .i64 x0, .int .i64 x1, .int .i64 x2, .int .i64 x3] 60) = w2 at *
      go_region_held3 (fun w' => w'.cell? ⟨gt, 0, none⟩ = some (.int .i64 x0) ∧ w'.cell? ⟨gt, 1, none⟩ = some (.int .i64 x1) ∧ w'.cell? ⟨gt, 2, none⟩ = some (.int .i64 x2) ∧ w'.cell? ⟨gt, 3, none⟩ = some (.int .i64 x3)) (first | go_keep | (exact ⟨hgrow6.cell (by go_simp) hne2, hgrow6.cell (by go_simp) hne2, hgrow6.cell (by go_simp) hne2, hgrow6.cell (by go_simp) hne2⟩))
        (first | (refine step_append_any _ (by rfl) _ _ _ (by rfl) W0.heap.size 60 i0 _ 4 32 Try.underlying27 HI.out.1 HI.out.2.1 HI.out.2.2.1 HI.out.2.2.2 rfl (by decide) _ k (flat ((ts.map transposedT).take k)) (by rfl) (O2.out.alloc _).drew _ _ _ _ (enc (x1, x0, x3, x2)) (by rfl) (Reads.of_own (World.ownsRow_lit (base := w2.heap.size) (e := 60) (size := 4) w2 #[.int .i64 x1, .int .i64 x0, .int .i64 x3, .int .i64 x2] 1 (Nat.le_refl _) (by unfold maxLen; omega) rfl)).drew (enc_one (x1, x0, x3, x2)) (by unfold maxLen; omega) (by omega) (by have := B2.out.size; simp; omega) ?_; intro v6 w6 hown6 hgrow6 hat6))
      have O3 := Lib.hid (own_step (us := ts.map transposedT) (k := k) (y := (x1, x0, x3, x2)) (by simp; omega) EX.out hown6)
      have B3 := Lib.hid (((B2.out.alloc B2.out.size _).drew).grown hgrow6 (by have := B2.out.size; simp; omega) (fun j hj => (O2.out.lt j hj).1))
      clear hown6 hgrow6 O2 B2 t0 t1 t2 t3
      go_wp2_with fail
      go_roundw
      case rel => exact ⟨k + 1, by omega, by go_num, O3.out, B3.out⟩
      case measure => simp [intOf]; omega
    · clear hown hb hA
      have hmk := HO.out
      obtain rfl : k = n := by omega
      rw [List.take_of_length_le (by simp; omega)] at hmk
      obtain ⟨A2, cap2, rfl, htw⟩ := own_tw hmk (by simp; omega)
      have HM := Lib.hid (l01Made_any c0 A2 k cap2 (ts.map transposedT) wr hn (by simp; omega) htw.tr)
      clear hmk htw
      go_wp2_with fail
      refine HM.out.mono ?_
      rintro e w2 ⟨A3, cap3, rfl, hb3, htw3⟩
      have L2 := Lib.hid (HB.out.trans (hb3.mono HB.out.size))
      have T2 := Lib.hid htw3
      have hR2 := (HH.out.2.2.2.below HB.out HH.out.2.2.2.lt).below hb3 (HH.out.2.2.2.below HB.out HH.out.2.2.2.lt).lt
      have r0 := hR2.rd 0 rfl
      have r1 := hR2.rd 1 rfl
      have z0 := hR2.frozen 0
      have z1 := hR2.frozen 1
      have HZ := Lib.hid hR2
      clear hR2 hb3 htw3 b0 b1
      go_wp2_with fail
      refine bodyPost_ret (v := .agg #[.int .i64 c0, .slice A3 (sortT (ts.map transposedT)).length cap3]) (by simp [results, Try.results103, go_sem, r0, r1, z0, z1]) rfl ⟨A3, cap3, rfl, ?_, ?_⟩
      · have h0 : Below w.heap.size w w2 := (HH.out.2.1.below (Nat.le_refl _)).trans (L2.out.mono (by have := HH.out.1; omega))
        exact (h0.setCell (by simp) _).setCell (by simp) _
      · have h1 := HB.out.size
        have h2 := HH.out.1
        exact ((T2.out.far (by show _ < _; simp; omega) _).far (by show _ < _; simp; omega) _).low (by omega)

end Go.Proofs.Ytdkodmmbgflijaa
