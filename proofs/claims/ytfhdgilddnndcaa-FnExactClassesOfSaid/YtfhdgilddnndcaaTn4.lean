/- The class of a tile: the library's least element, the program's class, the model's class. -/
import Derived.Test.YtfhdgilddnndcaaTn3
namespace Go.Proofs.Ytfhdgilddnndcaa
set_option linter.unusedVariables false
set_option linter.unusedSimpArgs false
open Go.RowKit Go.Sort

def minK (ts : List Tl) : Nat → Tl
  | 0 => ts.getD 0 T0
  | k + 1 => pickT (minK ts k) (ts.getD (k + 1) T0)
theorem pick_yes {m x : Tl} (h : cmpT x m < 0) : pickT m x = x := by unfold pickT; rw [if_pos ((cmpT_neg x m).1 h)]
theorem pick_no {m x : Tl} (h : ¬ cmpT x m < 0) : pickT m x = m := by unfold pickT; rw [if_neg fun h2 => h ((cmpT_neg x m).2 h2)]
theorem blk_put {w : World} {g : Nat} {m y : Tl} (h : Blk w g 38 #[.int .i64 m.1, .int .i64 m.2.1, .int .i64 m.2.2.1, .int .i64 m.2.2.2]) :
    Blk ((((w.setCell ⟨g, 0, none⟩ (.int .i64 y.1)).setCell ⟨g, 1, none⟩ (.int .i64 y.2.1)).setCell ⟨g, 2, none⟩ (.int .i64 y.2.2.1)).setCell ⟨g, 3, none⟩ (.int .i64 y.2.2.2)) g 38 #[.int .i64 y.1, .int .i64 y.2.1, .int .i64 y.2.2.1, .int .i64 y.2.2.2] :=
  (((h.set_ 0 _).set_ 1 _).set_ 2 _).set_ 3 _

set_option maxRecDepth 100000 in
set_option maxHeartbeats 2000000 in
theorem minFunc_any (A : Option Addr) (n cap : Nat) (ts : List Tl) (w : World) (hn1 : 1 ≤ n) (hn : n ≤ 1048576) (hl : ts.length = n) (hA : TR w w.heap.size A ts) :
    Calls Try.prog 112 #[.slice A n cap, .func (.func 103) #[] #[]] w fun e w' => e = .returned (tv (minK ts (n - 1))) ∧ Ext w w' := by
  have mixed : Try.prog.follows .mixedOrders = true := by kernel_rfl
  have eg : ∀ args w, (callFunc 103 args).run Try.prog w = .ok (.enter 103 args) w := enters_of Try.func103 (by kernel_rfl) rfl
  have HA := Lib.hid hA
  obtain ⟨b, off, rfl, hbb, hc0⟩ := hA (by omega)
  replace hc0 := hc0 0 (by omega)
  obtain ⟨⟨y0, y1, y2, y3⟩, hY⟩ : ∃ x, x = ts.getD 0 T0 := ⟨_, rfl⟩
  rw [← hY] at hc0
  have HY := Lib.hid hY
  obtain ⟨c0, c1, c2, c3⟩ := hc0
  simp only [Nat.zero_mul, Nat.add_zero] at c0 c1 c2 c3
  have hni : ¬ (n : Int) < 1 := by omega
  have hni0 : (0 : Int) < (n : Int) := by omega
  have hn0 : 0 < n := by omega
  clear hY
  go_enter Try.func112, Try.ntmps112
  go_wp2_with fail
  have hx0 : Ext w ((w.alloc (Obj.cells #[.int .i64 0, .int .i64 0, .int .i64 0, .int .i64 0] 38)).alloc (Obj.cells #[.int .i64 y0, .int .i64 y1, .int .i64 y2, .int .i64 y3] 38)) := ((Ext.refl w).alloc _).alloc _
  have hb0 : Blk ((w.alloc (Obj.cells #[.int .i64 0, .int .i64 0, .int .i64 0, .int .i64 0] 38)).alloc (Obj.cells #[.int .i64 y0, .int .i64 y1, .int .i64 y2, .int .i64 y3] 38)) w.heap.size 38 #[.int .i64 0, .int .i64 0, .int .i64 0, .int .i64 0] := (Blk.new w _ _).ext ((Ext.refl _).alloc _)
  have hb1 : Blk ((w.alloc (Obj.cells #[.int .i64 0, .int .i64 0, .int .i64 0, .int .i64 0] 38)).alloc (Obj.cells #[.int .i64 y0, .int .i64 y1, .int .i64 y2, .int .i64 y3] 38)) (w.heap.size + 1) 38 #[.int .i64 y0, .int .i64 y1, .int .i64 y2, .int .i64 y3] := by
    have := Blk.new (w.alloc (Obj.cells #[.int .i64 0, .int .i64 0, .int .i64 0, .int .i64 0] 38)) 38 #[.int .i64 y0, .int .i64 y1, .int .i64 y2, .int .i64 y3]
    simpa using this
  generalize ((w.alloc (Obj.cells #[.int .i64 0, .int .i64 0, .int .i64 0, .int .i64 0] 38)).alloc (Obj.cells #[.int .i64 y0, .int .i64 y1, .int .i64 y2, .int .i64 y3] 38)) = W0 at *
  have HX0 := Lib.hid hx0
  have HB0 := Lib.hid hb0
  have HB1 := Lib.hid (show Blk W0 (w.heap.size + 1) 38 #[.int .i64 (minK ts 0).1, .int .i64 (minK ts 0).2.1, .int .i64 (minK ts 0).2.2.1, .int .i64 (minK ts 0).2.2.2] by have h := HY.out; show Blk W0 (w.heap.size + 1) 38 #[.int .i64 (ts.getD 0 T0).1, .int .i64 (ts.getD 0 T0).2.1, .int .i64 (ts.getD 0 T0).2.2.1, .int .i64 (ts.getD 0 T0).2.2.2]; rw [← h]; exact hb1)
  clear hx0 hb0 hb1 c0 c1 c2 c3
  go_loopw [6] (fun i wr => ∃ k : Nat, k < n ∧ i = .int .i64 ((k + 1 : Nat) : Int) ∧ Blk wr (w.heap.size + 1) 38 #[.int .i64 (minK ts k).1, .int .i64 (minK ts k).2.1, .int .i64 (minK ts k).2.2.1, .int .i64 (minK ts k).2.2.2] ∧ Blk wr w.heap.size 38 #[.int .i64 0, .int .i64 0, .int .i64 0, .int .i64 0] ∧ Ext w wr) (fun i _ => n - (intOf i).toNat)
  case atStart => exact ⟨0, by omega, rfl, HB1.out, HB0.out, HX0.out⟩
  case round =>
    obtain ⟨k, hk, rfl, hbm, hbr, hx⟩ := hrel
    have HBM := Lib.hid hbm
    have HBR := Lib.hid hbr
    have HX := Lib.hid hx
    obtain ⟨⟨m0, m1, m2, m3⟩, hM⟩ : ∃ x, x = minK ts k := ⟨_, rfl⟩
    rw [← hM] at hbm
    simp only at hbm
    have HM := Lib.hid hM
    by_cases hlt : k + 1 < n
    · obtain ⟨b', off', e, hb', hcc⟩ := (HA.out.ext hx (Nat.le_refl _)).at_ (k := k + 1) (by omega) (by have := (hx.below (Nat.le_refl _)).size; omega)
      cases e
      obtain ⟨⟨x0, x1, x2, x3⟩, hX⟩ : ∃ x, x = ts.getD (k + 1) T0 := ⟨_, rfl⟩
      rw [← hX] at hcc
      have EX := Lib.hid hX
      have hraw := hcc 0 #[]
      simp only [Cell4, forall_and] at hcc
      obtain ⟨d0, d1, d2, d3⟩ := hcc
      have r0 := fun q os => hbm.grown q os 0 (v := .int .i64 m0) rfl
      have r1 := fun q os => hbm.grown q os 1 (v := .int .i64 m1) rfl
      have r2 := fun q os => hbm.grown q os 2 (v := .int .i64 m2) rfl
      have r3 := fun q os => hbm.grown q os 3 (v := .int .i64 m3) rfl
      have hcon : ∀ W, Calls Try.prog 103 _ W _ := fun W => compareTiles_any (x0, x1, x2, x3) (m0, m1, m2, m3) W
      unfold Ext tv at hcon
      generalize hr : cmpT (x0, x1, x2, x3) (m0, m1, m2, m3) = r at hcon
      have HR := Lib.hid hr
      have HC := Lib.hid hcon
      have HD := Lib.hid (And.intro d0 (And.intro d1 (And.intro d2 d3)))
      have hk1 : ((k : Int) + 1) < (n : Int) := by omega
      have hk0 : (0 : Int) ≤ (k : Int) + 1 := by omega
      have hkn : (((k + 1 : Nat)) : Int) = (k : Int) + 1 := by omega
      rw [hkn]
      have htn : ((k : Int) + 1).toNat = k + 1 := by omega
      clear hr hM hX hx hbm hbr hcon hkn hraw
      by_cases hneg : r < 0
      · go_wp2_with fail
        refine wp_region_quiet_grown mixed (by kernel_rfl) ?_
        repeat (go_big_quiet_step (((go_at_call 103; refine Calls.grown_of (HC.out _)))))
        refine wpQuiet_nil ?_
        intro _ hw'
        obtain ⟨⟨nq, osq⟩, hw''⟩ := hw'
        subst hw''
        have g0 := d0 nq osq
        have g1 := d1 nq osq
        have g2 := d2 nq osq
        have g3 := d3 nq osq
        have hxx : Ext wr (grow (wr.drewN nq) osq) := ⟨nq, osq, rfl⟩
        have HXX := Lib.hid hxx
        have HBM2 := Lib.hid (HBM.out.ext hxx)
        have hbm2 := HBM2.out
        rw [← HM.out] at hbm2
        simp only at hbm2
        have v0 := hbm2.rd 0 (v := .int .i64 m0) rfl
        have v1 := hbm2.rd 1 (v := .int .i64 m1) rfl
        have v2 := hbm2.rd 2 (v := .int .i64 m2) rfl
        have v3 := hbm2.rd 3 (v := .int .i64 m3) rfl
        have z0 := hbm2.frozen 0
        have z1 := hbm2.frozen 1
        have z2 := hbm2.frozen 2
        have z3 := hbm2.frozen 3
        clear d0 d1 d2 d3 r0 r1 r2 r3 hbm2 hxx
        generalize grow (wr.drewN nq) osq = W1 at *
        go_wp2_with fail
        go_roundw
        case rel =>
          have hstep : minK ts (k + 1) = (x0, x1, x2, x3) := by
            show pickT (minK ts k) (ts.getD (k + 1) T0) = _
            rw [← HM.out, ← EX.out]
            exact pick_yes (by rw [HR.out]; exact hneg)
          refine ⟨k + 1, hlt, by go_num, ?_, ?_, ?_⟩
          · rw [hstep]
            exact blk_put (m := minK ts k) (y := (x0, x1, x2, x3)) HBM2.out
          · exact ((((HBR.out.ext HXX.out).far (by simp) _).far (by simp) _).far (by simp) _).far (by simp) _
          · exact Ext.setNew' (Ext.setNew' (Ext.setNew' (Ext.setNew' (HX.out.trans HXX.out) (by simp) _) (by simp) _) (by simp) _) (by simp) _
        case measure => simp [intOf]; omega
      · go_wp2_with fail
        refine wp_region_quiet_grown mixed (by kernel_rfl) ?_
        repeat (go_big_quiet_step (((go_at_call 103; refine Calls.grown_of (HC.out _)))))
        refine wpQuiet_nil ?_
        intro _ hw'
        obtain ⟨⟨nq, osq⟩, hw''⟩ := hw'
        subst hw''
        have hxx : Ext wr (grow (wr.drewN nq) osq) := ⟨nq, osq, rfl⟩
        have HXX := Lib.hid hxx
        clear d0 d1 d2 d3 r0 r1 r2 r3 hxx
        generalize grow (wr.drewN nq) osq = W1 at *
        go_wp2_with fail
        go_roundw
        case rel =>
          have hstep : minK ts (k + 1) = minK ts k := by
            show pickT (minK ts k) (ts.getD (k + 1) T0) = _
            rw [← HM.out, ← EX.out]
            exact pick_no (by rw [HR.out]; omega)
          exact ⟨k + 1, hlt, by go_num, by rw [hstep]; exact HBM.out.ext HXX.out, HBR.out.ext HXX.out, HX.out.trans HXX.out⟩
        case measure => simp [intOf]; omega
    · obtain rfl : k = n - 1 := by omega
      have v0 := hbm.rd 0 (v := .int .i64 m0) rfl
      have v1 := hbm.rd 1 (v := .int .i64 m1) rfl
      have v2 := hbm.rd 2 (v := .int .i64 m2) rfl
      have v3 := hbm.rd 3 (v := .int .i64 m3) rfl
      have q0 := hbr.rd 0 (v := .int .i64 0) rfl
      have q1 := hbr.rd 1 (v := .int .i64 0) rfl
      have q2 := hbr.rd 2 (v := .int .i64 0) rfl
      have q3 := hbr.rd 3 (v := .int .i64 0) rfl
      have z0 := hbr.frozen 0
      have z1 := hbr.frozen 1
      have z2 := hbr.frozen 2
      have z3 := hbr.frozen 3
      have hkn : (((n - 1 + 1 : Nat)) : Int) = (n : Int) := by omega
      rw [hkn]
      have hlt2 : ¬ (n : Int) < (n : Int) := by omega
      clear hM hx hbm hbr hkn
      go_wp2_with fail
      refine bodyPost_ret (v := .agg #[.int .i64 m0, .int .i64 m1, .int .i64 m2, .int .i64 m3]) (by simp [results, Try.results112, go_sem, q0, q1, q2, q3, z0, z1, z2, z3]) rfl ⟨by rw [← HM.out]; rfl, ?_⟩
      exact Ext.setNew' (Ext.setNew' (Ext.setNew' (Ext.setNew' HX.out (by simp) _) (by simp) _) (by simp) _) (by simp) _
end Go.Proofs.Ytfhdgilddnndcaa
