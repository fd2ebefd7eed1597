/- The class of a tile: the program's and the model's; ClassOf on both sides. -/
import Derived.Test.YtfhdgilddnndcaaTn4
namespace Go.Proofs.Ytfhdgilddnndcaa
set_option linter.unusedVariables false
set_option linter.unusedSimpArgs false
open Go.RowKit Go.Sort

set_option maxRecDepth 100000 in
set_option maxHeartbeats 1000000 in
theorem classOf_any (a : Tl) (w : World) : Calls Try.prog 79 #[tv a] w fun e w' => e = .returned (tv (classT a)) ∧ Below w.heap.size w w' := by
  have h1 := fun W => turnsOf_any a W
  have h2 := fun A cap W (h : TR W (World.heap W).size A (turnsL a)) => minFunc_any A 4 cap (turnsL a) W (by omega) (by omega) rfl h
  have hm : minK (turnsL a) (4 - 1) = classT a := rfl
  rw [hm] at h2
  generalize turnsL a = L at h1 h2
  obtain ⟨⟨m0, m1, m2, m3⟩, hM⟩ : ∃ x, x = classT a := ⟨_, rfl⟩
  rw [← hM] at h2 ⊢
  obtain ⟨x0, x1, x2, x3⟩ := a
  simp only [tv] at h1 h2 ⊢
  have H1 := Lib.hid h1
  have H2 := Lib.hid h2
  clear h1 h2 hm hM
  go_enter Try.func79, Try.ntmps79
  go_wp2_with fail
  refine (H1.out _).mono ?_
  rintro e w1 ⟨A, cap, rfl, hb, hw⟩
  have HT := Lib.hid hw.tr
  have hx0 : Ext w ((w.alloc (Obj.cells #[.int .i64 x0, .int .i64 x1, .int .i64 x2, .int .i64 x3] 38)).alloc (Obj.cells #[.int .i64 0, .int .i64 0, .int .i64 0, .int .i64 0] 38)) := ((Ext.refl w).alloc _).alloc _
  have hbk : Blk w1 (w.heap.size + 1) 38 #[.int .i64 0, .int .i64 0, .int .i64 0, .int .i64 0] := by
    have h := (Blk.new (w.alloc (Obj.cells #[.int .i64 x0, .int .i64 x1, .int .i64 x2, .int .i64 x3] 38)) 38 #[.int .i64 0, .int .i64 0, .int .i64 0, .int .i64 0]).below hb (by simp)
    simpa using h
  have HB := Lib.hid ((hx0.below (Nat.le_refl _)).trans (hb.mono (by simp <;> omega)))
  have HBK := Lib.hid hbk
  clear hb hw hx0 hbk
  go_wp2_with fail
  refine (H2.out _ _ _ HT.out).mono ?_
  rintro e w2 ⟨rfl, hx⟩
  have hbk := HBK.out.ext hx
  have q0 := hbk.rd 0 (v := .int .i64 0) rfl
  have q1 := hbk.rd 1 (v := .int .i64 0) rfl
  have q2 := hbk.rd 2 (v := .int .i64 0) rfl
  have q3 := hbk.rd 3 (v := .int .i64 0) rfl
  have z0 := hbk.frozen 0
  have z1 := hbk.frozen 1
  have z2 := hbk.frozen 2
  have z3 := hbk.frozen 3
  have HB2 := Lib.hid (HB.out.trans (hx.below HB.out.size))
  clear hx hbk
  go_wp2_with fail
  refine bodyPost_ret (v := .agg #[.int .i64 m0, .int .i64 m1, .int .i64 m2, .int .i64 m3]) (by simp [results, Try.results79, go_sem, q0, q1, q2, q3, z0, z1, z2, z3]) rfl ⟨rfl, ?_⟩
  exact (((HB2.out.setCell (by simp) _).setCell (by simp) _).setCell (by simp) _).setCell (by simp) _

def clsK (a : Tl) : Nat → Tl
  | 0 => a
  | k + 1 => pickT (clsK a k) (rotN (k + 1) a)
theorem clsK_3 (a : Tl) : clsK a 3 = classT a := rfl
set_option maxRecDepth 100000 in
set_option maxHeartbeats 1000000 in
theorem l07Class_any (a : Tl) (w : World) : Calls Try.prog 78 #[tv a] w fun e w' => e = .returned (tv (classT a)) ∧ Ext w w' := by
  have h1 := fun (k : Nat) (hk : k < 3) W => l07Turn_any a ((k : Int) + 1) W (by omega) (by omega)
  rw [← clsK_3]
  obtain ⟨c, hc⟩ : ∃ c : Nat → Tl, c = clsK a := ⟨_, rfl⟩
  have HC0 := Lib.hid (show c 0 = a by rw [hc]; rfl)
  have HCS := Lib.hid (fun k => show c (k + 1) = pickT (c k) (rotN (k + 1) a) by rw [hc]; rfl)
  rw [← hc]
  clear hc
  have H1 := Lib.hid h1
  clear h1
  obtain ⟨x0, x1, x2, x3⟩ := a
  simp only [tv]
  go_enter Try.func78, Try.ntmps78
  go_wp2_with fail
  have hx0 : Ext w (((w.alloc (Obj.cells #[.int .i64 x0, .int .i64 x1, .int .i64 x2, .int .i64 x3] 38)).alloc (Obj.cells #[.int .i64 0, .int .i64 0, .int .i64 0, .int .i64 0] 38)).alloc (Obj.cells #[.int .i64 x0, .int .i64 x1, .int .i64 x2, .int .i64 x3] 38)) := (((Ext.refl w).alloc _).alloc _).alloc _
  have hb0 : Blk (((w.alloc (Obj.cells #[.int .i64 x0, .int .i64 x1, .int .i64 x2, .int .i64 x3] 38)).alloc (Obj.cells #[.int .i64 0, .int .i64 0, .int .i64 0, .int .i64 0] 38)).alloc (Obj.cells #[.int .i64 x0, .int .i64 x1, .int .i64 x2, .int .i64 x3] 38)) w.heap.size 38 #[.int .i64 x0, .int .i64 x1, .int .i64 x2, .int .i64 x3] := (Blk.new w _ _).ext (((Ext.refl _).alloc _).alloc _)
  have hb1 : Blk (((w.alloc (Obj.cells #[.int .i64 x0, .int .i64 x1, .int .i64 x2, .int .i64 x3] 38)).alloc (Obj.cells #[.int .i64 0, .int .i64 0, .int .i64 0, .int .i64 0] 38)).alloc (Obj.cells #[.int .i64 x0, .int .i64 x1, .int .i64 x2, .int .i64 x3] 38)) (w.heap.size + 1) 38 #[.int .i64 0, .int .i64 0, .int .i64 0, .int .i64 0] := by
    have := (Blk.new (w.alloc (Obj.cells #[.int .i64 x0, .int .i64 x1, .int .i64 x2, .int .i64 x3] 38)) 38 #[.int .i64 0, .int .i64 0, .int .i64 0, .int .i64 0]).ext ((Ext.refl _).alloc (Obj.cells #[.int .i64 x0, .int .i64 x1, .int .i64 x2, .int .i64 x3] 38))
    simpa using this
  have hb2 : Blk (((w.alloc (Obj.cells #[.int .i64 x0, .int .i64 x1, .int .i64 x2, .int .i64 x3] 38)).alloc (Obj.cells #[.int .i64 0, .int .i64 0, .int .i64 0, .int .i64 0] 38)).alloc (Obj.cells #[.int .i64 x0, .int .i64 x1, .int .i64 x2, .int .i64 x3] 38)) (w.heap.size + 1 + 1) 38 #[.int .i64 x0, .int .i64 x1, .int .i64 x2, .int .i64 x3] := by
    have := Blk.new ((w.alloc (Obj.cells #[.int .i64 x0, .int .i64 x1, .int .i64 x2, .int .i64 x3] 38)).alloc (Obj.cells #[.int .i64 0, .int .i64 0, .int .i64 0, .int .i64 0] 38)) 38 #[.int .i64 x0, .int .i64 x1, .int .i64 x2, .int .i64 x3]
    simpa using this
  generalize (((w.alloc (Obj.cells #[.int .i64 x0, .int .i64 x1, .int .i64 x2, .int .i64 x3] 38)).alloc (Obj.cells #[.int .i64 0, .int .i64 0, .int .i64 0, .int .i64 0] 38)).alloc (Obj.cells #[.int .i64 x0, .int .i64 x1, .int .i64 x2, .int .i64 x3] 38)) = W0 at *
  have hsz0 : w.heap.size + 3 ≤ W0.heap.size := hb2.lt
  have HX0 := Lib.hid hx0
  have HB0 := Lib.hid hb0
  have HB1 := Lib.hid hb1
  have HB2 := Lib.hid (show Blk W0 (w.heap.size + 1 + 1) 38 #[.int .i64 (c 0).1, .int .i64 (c 0).2.1, .int .i64 (c 0).2.2.1, .int .i64 (c 0).2.2.2] by rw [HC0.out]; exact hb2)
  clear hx0 hb0 hb1 hb2
  go_loopw [4] (fun i wr => ∃ k : Nat, k ≤ 3 ∧ i = .int .i64 ((k : Int) + 1) ∧ Blk wr (w.heap.size + 1 + 1) 38 #[.int .i64 (c k).1, .int .i64 (c k).2.1, .int .i64 (c k).2.2.1, .int .i64 (c k).2.2.2] ∧ Blk wr w.heap.size 38 #[.int .i64 x0, .int .i64 x1, .int .i64 x2, .int .i64 x3] ∧ Blk wr (w.heap.size + 1) 38 #[.int .i64 0, .int .i64 0, .int .i64 0, .int .i64 0] ∧ Ext w wr) (fun i _ => 4 - (intOf i).toNat)
  case atStart => exact ⟨0, by omega, rfl, HB2.out, HB0.out, HB1.out, HX0.out⟩
  case round =>
    obtain ⟨k, hk, rfl, hbm, hba, hbr, hx⟩ := hrel
    have HBM := Lib.hid hbm
    have HBR := Lib.hid hbr
    have HBA := Lib.hid hba
    have HX := Lib.hid hx
    obtain ⟨⟨m0, m1, m2, m3⟩, hM⟩ : ∃ x, x = c k := ⟨_, rfl⟩
    rw [← hM] at hbm
    simp only at hbm
    have HM := Lib.hid hM
    clear hM hbr hx
    by_cases hlt : k < 3
    · have a0 := hba.rd 0 rfl
      have a1 := hba.rd 1 rfl
      have a2 := hba.rd 2 rfl
      have a3 := hba.rd 3 rfl
      have hcon := fun W => H1.out k hlt W
      obtain ⟨⟨y0, y1, y2, y3⟩, hY⟩ : ∃ x, x = rotN ((k : Int) + 1).toNat (x0, x1, x2, x3) := ⟨_, rfl⟩
      rw [← hY] at hcon
      simp only [tv] at hcon
      have HY := Lib.hid (show (y0, y1, y2, y3) = rotN (k + 1) (x0, x1, x2, x3) by rw [hY]; congr 1)
      have HC := Lib.hid hcon
      have hcon2 := fun W => before_any (y0, y1, y2, y3) (m0, m1, m2, m3) W
      simp only [tv] at hcon2
      generalize hr : before (y0, y1, y2, y3) (m0, m1, m2, m3) = r at hcon2
      have HR := Lib.hid hr
      have HC2 := Lib.hid hcon2
      have b4 : (k : Int) + 1 < 4 := by omega
      clear hr hcon hcon2 hY hbm hba
      go_wp2_with fail
      refine (HC.out _).mono ?_
      rintro e w1 ⟨rfl, hx1⟩
      have HBM2 := Lib.hid (HBM.out.ext hx1)
      have hbm2 := HBM2.out.ext ((Ext.refl w1).alloc (Obj.cells #[.int .i64 y0, .int .i64 y1, .int .i64 y2, .int .i64 y3] 38))
      rw [← HM.out] at hbm2
      simp only at hbm2
      have m0' := hbm2.rd 0 (v := .int .i64 m0) rfl
      have m1' := hbm2.rd 1 (v := .int .i64 m1) rfl
      have m2' := hbm2.rd 2 (v := .int .i64 m2) rfl
      have m3' := hbm2.rd 3 (v := .int .i64 m3) rfl
      have HX1 := Lib.hid hx1
      have hs1 := (hx1.below (Nat.le_refl _)).size
      have hsl := HBM.out.lt
      clear hx1 hbm2 a0 a1 a2 a3
      go_wp2_with fail
      refine (HC2.out _).mono ?_
      rintro e w2 ⟨rfl, hx2⟩
      have hx12 := (((Ext.refl w1).alloc (Obj.cells #[.int .i64 y0, .int .i64 y1, .int .i64 y2, .int .i64 y3] 38)).trans hx2)
      have hown := (Blk.new w1 38 #[.int .i64 y0, .int .i64 y1, .int .i64 y2, .int .i64 y3]).ext hx2
      have o0 := hown.rd 0 (v := .int .i64 y0) rfl
      have o1 := hown.rd 1 (v := .int .i64 y1) rfl
      have o2 := hown.rd 2 (v := .int .i64 y2) rfl
      have o3 := hown.rd 3 (v := .int .i64 y3) rfl
      have hbm3 := HBM2.out.ext hx12
      have HBM3 := Lib.hid hbm3
      rw [← HM.out] at hbm3
      simp only at hbm3
      have v0 := hbm3.rd 0 (v := .int .i64 m0) rfl
      have v1 := hbm3.rd 1 (v := .int .i64 m1) rfl
      have v2 := hbm3.rd 2 (v := .int .i64 m2) rfl
      have v3 := hbm3.rd 3 (v := .int .i64 m3) rfl
      have z0 := hbm3.frozen 0
      have z1 := hbm3.frozen 1
      have z2 := hbm3.frozen 2
      have z3 := hbm3.frozen 3
      have HX2 := Lib.hid (HX1.out.trans hx12)
      clear hx2 hx12 hown hbm3 m0' m1' m2' m3'
      cases r with
      | true =>
        go_wp2_with fail
        go_roundw
        case rel =>
          have hstep : c (k + 1) = (y0, y1, y2, y3) := by
            rw [HCS.out k, ← HM.out, ← HY.out]
            unfold pickT
            rw [if_pos HR.out]
          refine ⟨k + 1, by omega, by go_num, ?_, ?_, ?_, ?_⟩
          · rw [hstep]
            exact blk_put (m := c k) (y := (y0, y1, y2, y3)) HBM3.out
          · exact ((((HBA.out.ext HX2.out).far (by dsimp only; omega) _).far (by dsimp only; omega) _).far (by dsimp only; omega) _).far (by dsimp only; omega) _
          · exact ((((HBR.out.ext HX2.out).far (by dsimp only; omega) _).far (by dsimp only; omega) _).far (by dsimp only; omega) _).far (by dsimp only; omega) _
          · exact Ext.setNew' (Ext.setNew' (Ext.setNew' (Ext.setNew' (HX.out.trans HX2.out) (by dsimp only; omega) _) (by dsimp only; omega) _) (by dsimp only; omega) _) (by dsimp only; omega) _
        case measure => simp [intOf]; omega
      | false =>
        go_wp2_with fail
        go_roundw
        case rel =>
          have hstep : c (k + 1) = c k := by
            rw [HCS.out k, ← HM.out, ← HY.out]
            unfold pickT
            rw [if_neg (by rw [HR.out]; exact Bool.false_ne_true)]
          exact ⟨k + 1, by omega, by go_num, by rw [hstep]; exact HBM3.out, HBA.out.ext HX2.out, HBR.out.ext HX2.out, HX.out.trans HX2.out⟩
        case measure => simp [intOf]; omega
    · obtain rfl : k = 3 := by omega
      have v0 := hbm.rd 0 (v := .int .i64 m0) rfl
      have v1 := hbm.rd 1 (v := .int .i64 m1) rfl
      have v2 := hbm.rd 2 (v := .int .i64 m2) rfl
      have v3 := hbm.rd 3 (v := .int .i64 m3) rfl
      have q0 := HBR.out.rd 0 (v := .int .i64 0) rfl
      have q1 := HBR.out.rd 1 (v := .int .i64 0) rfl
      have q2 := HBR.out.rd 2 (v := .int .i64 0) rfl
      have q3 := HBR.out.rd 3 (v := .int .i64 0) rfl
      have z0 := HBR.out.frozen 0
      have z1 := HBR.out.frozen 1
      have z2 := HBR.out.frozen 2
      have z3 := HBR.out.frozen 3
      clear hbm hba
      go_wp2_with fail
      refine bodyPost_ret (v := .agg #[.int .i64 m0, .int .i64 m1, .int .i64 m2, .int .i64 m3]) (by simp [results, Try.results78, go_sem, q0, q1, q2, q3, z0, z1, z2, z3]) rfl ⟨by rw [← HM.out], ?_⟩
      exact Ext.setNew' (Ext.setNew' (Ext.setNew' (Ext.setNew' HX.out (by dsimp only; omega) _) (by dsimp only; omega) _) (by dsimp only; omega) _) (by dsimp only; omega) _
end Go.Proofs.Ytfhdgilddnndcaa
