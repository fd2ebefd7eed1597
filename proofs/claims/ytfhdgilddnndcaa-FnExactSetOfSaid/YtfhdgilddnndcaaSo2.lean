/- Sets of tiles in any order: the model's side. -/
import Derived.Test.YtfhdgilddnndcaaSo1
import Derived.Test.YtfhdgilddnndcaaTold
import Derived.Lib.Hide
namespace Go.Proofs.Ytfhdgilddnndcaa
set_option linter.unusedVariables false
set_option linter.unusedSimpArgs false
open Go.RowKit Go.Sort

set_option maxRecDepth 100000 in
set_option maxHeartbeats 4000000 in
theorem specSetOf_0 (c0 : Int) (A0 : Option Addr) (n0 q0 : Nat) (ts : List Tl) (w : World) (hn0 : n0 ≤ 100) (hl0 : ts.length = n0) (hA0 : TR w w.heap.size A0 ts) (hc1 : 1 ≤ c0) (hc6 : c0 ≤ 6) :
    Calls Try.prog 16 #[.int .i64 c0, .slice A0 n0 q0] w (SetOfRes c0 ts w) := by
  have HA := Lib.hid hA0
  clear hA0
  have hd : decide (1 ≤ c0 ∧ c0 ≤ 6) = true := decide_eq_true ⟨hc1, hc6⟩
  have h100 : ¬ (100 : Int) < (n0 : Int) := by omega
  go_enter Try.func16, Try.ntmps16
  go_wp2_with (go_at_call 64; refine (l01In_any _ _ _ _).mono ?_; rintro e w' ⟨rfl, rfl⟩)
  go_loopw [6] (fun i wr => ∃ k : Nat, k ≤ n0 ∧ i = .int .i64 k ∧ (∀ j, j < k → tileOk c0 (ts.getD j T0) = true) ∧ Ext (w.alloc (.cells #[.int .i64 0, .slice none 0 0] 26)) wr) (fun i _ => n0 - (intOf i).toNat)
  case atStart => exact ⟨0, Nat.zero_le _, rfl, fun j hj => absurd hj (Nat.not_lt_zero _), Ext.refl _⟩
  case round =>
    obtain ⟨k, hk, rfl, hall, hx⟩ := hrel
    have HALL := Lib.hid hall
    have HX := Lib.hid hx
    have hxw := ((Ext.refl w).alloc (Obj.cells #[.int .i64 0, .slice none 0 0] 26)).trans hx
    have HXW := Lib.hid hxw
    have hsz := (hx.below (Nat.le_refl _)).size
    rw [World.size_alloc] at hsz
    have HBZ := Lib.hid ((Blk.new w 26 #[.int .i64 0, .slice none 0 0]).ext hx)
    clear hall hx
    by_cases hlt : k < n0
    · obtain ⟨b0, o, rfl, hbb, ht⟩ := (HA.out.ext hxw (Nat.le_refl _)) (by omega)
      replace ht := ht k (by omega)
      have HTE := Lib.hid (fun (h : tileOk c0 (ts.getD k T0) = false) => allOk_not (by omega) h)
      obtain ⟨⟨y0, y1, y2, y3⟩, hY⟩ : ∃ x, x = ts.getD k T0 := ⟨_, rfl⟩
      rw [← hY] at ht
      obtain ⟨c0', c1', c2, c3⟩ := ht
      simp only at c0' c1' c2 c3
      have hcon : ∀ W, Calls Try.prog 65 _ W _ := fun W => l01Tile_any c0 (y0, y1, y2, y3) W hc1 hc6
      simp only [tv] at hcon
      generalize hr : tileOk c0 (y0, y1, y2, y3) = r at hcon
      have HR := Lib.hid hr
      have HY := Lib.hid hY
      have HC := Lib.hid hcon
      have b3 : (k : Int) < (n0 : Int) := by omega
      clear hr hY hxw hcon
      go_wp2_with fail
      refine (HC.out _).mono ?_
      rintro e w1 ⟨rfl, hx1⟩
      have HX2 := Lib.hid hx1
      have hbr := HBZ.out.ext hx1
      have q0 := hbr.rd 0 rfl
      have q1 := hbr.rd 1 rfl
      have z0 := hbr.frozen 0
      have z1 := hbr.frozen 1
      have hszw := (hx1.below (Nat.le_refl _)).size
      clear hx1 hbr c0' c1' c2 c3
      cases r with
      | true =>
        go_wp2_with fail
        go_roundw
        case rel =>
          refine ⟨k + 1, by omega, by go_num, fun j hj => ?_, HX.out.trans HX2.out⟩
          by_cases e : j < k
          · exact HALL.out j e
          · obtain rfl : j = k := by omega
            rw [← HY.out]; exact HR.out
        case measure => simp [intOf]; omega
      | false =>
        go_wp2_with fail
        refine bodyPost_ret (v := .tuple #[.agg #[.int .i64 0, .slice none 0 0], .int .i64 2]) (by simp [results, Try.results16, go_sem, q0, q1, z0, z1]) rfl ?_
        unfold SetOfRes
        rw [if_neg (HTE.out (by rw [← HY.out]; exact HR.out))]
        refine ⟨none, 0, rfl, ?_, fun h => absurd h (Nat.lt_irrefl _)⟩
        exact ((((HXW.out.trans HX2.out).below (Nat.le_refl _)).setCell (by simp) _).setCell (by simp) _)
    · obtain rfl : k = n0 := by omega
      have HOK := Lib.hid (allOk_at (c := c0) (ts := ts) (fun j hj => HALL.out j (by omega)))
      have HMD := Lib.hid (l01Made_any c0 A0 k q0 ts wr (by omega) hl0 ((HA.out.ext hxw (Nat.le_refl _)).more (hxw.below (Nat.le_refl _)).size))
      have hmle := sortT_len ts
      obtain ⟨us, hus⟩ : ∃ us, us = sortT ts := ⟨_, rfl⟩
      rw [← hus] at HMD hmle
      have HUS := Lib.hid hus
      clear hxw hus
      go_wp2_with fail
      refine HMD.out.mono ?_
      rintro e w3 ⟨A3, cap3, rfl, hb3, htw3⟩
      have HT := Lib.hid htw3
      have HTD := Lib.hid (fun W => l01Told_any c0 A3 us.length cap3 W (by omega))
      have HBR := Lib.hid (HBZ.out.below hb3 (by omega))
      have HBW := Lib.hid ((HXW.out.below (Nat.le_refl _)).trans (hb3.mono (by omega)))
      have hsz3 := hb3.size
      clear hb3 htw3
      go_wp2_with fail
      refine (HTD.out _).mono ?_
      rintro e w5 ⟨rfl, hx5⟩
      have HX5 := Lib.hid hx5
      have HBR5 := Lib.hid (HBR.out.ext hx5)
      clear hx5
      by_cases h16 : us.length ≤ 16
      · rw [if_pos ⟨hc6, h16⟩]
        have hbq := HBR5.out.ext ((Ext.refl _).alloc (Obj.cells #[.int .i64 c0, .slice A3 us.length cap3] 26))
        have q0 := hbq.rd 0 rfl
        have q1 := hbq.rd 1 rfl
        have z0 := hbq.frozen 0
        have z1 := hbq.frozen 1
        clear hbq
        have H16 := Lib.hid h16
        clear h16
        go_wp2_with fail
        refine bodyPost_ret (v := .tuple #[.agg #[.int .i64 c0, .slice A3 us.length cap3], .int .i64 0]) (by simp [results, Try.results16, go_sem, q0, q1, z0, z1]) rfl ?_
        unfold SetOfRes
        rw [if_pos HOK.out, ← HUS.out, if_pos H16.out]
        have hxx := HX5.out.alloc (Obj.cells #[.int .i64 c0, .slice A3 us.length cap3] 26)
        have hb9 := HBW.out.trans (hxx.below HBW.out.size)
        refine ⟨A3, cap3, rfl, ?_, ?_⟩
        · exact (hb9.setCell (by simp) _).setCell (by simp) _
        · exact (((HT.out.ext hxx).far (by show _ < _; simp; omega) _).far (by show _ < _; simp; omega) _).low (by omega)
      · rw [if_neg (fun h => h16 h.2)]
        have hbq := HBR5.out.ext ((Ext.refl _).alloc (Obj.cells #[.int .i64 0, .slice none 0 0] 26))
        have q0 := hbq.rd 0 rfl
        have q1 := hbq.rd 1 rfl
        have z0 := hbq.frozen 0
        have z1 := hbq.frozen 1
        clear hbq
        have H16 := Lib.hid h16
        clear h16
        go_wp2_with fail
        refine bodyPost_ret (v := .tuple #[.agg #[.int .i64 0, .slice none 0 0], .int .i64 3]) (by simp [results, Try.results16, go_sem, q0, q1, z0, z1]) rfl ?_
        unfold SetOfRes
        rw [if_pos HOK.out, ← HUS.out, if_neg H16.out]
        have hxx := HX5.out.alloc (Obj.cells #[.int .i64 0, .slice none 0 0] 26)
        have hb9 := HBW.out.trans (hxx.below HBW.out.size)
        refine ⟨none, 0, rfl, ?_, fun h => absurd h (Nat.lt_irrefl _)⟩
        exact (hb9.setCell (by simp) _).setCell (by simp) _
set_option maxHeartbeats 1000000 in
theorem specSetOf_2a (c0 : Int) (A0 : Option Addr) (n0 q0 : Nat) (w : World) (hn0 : n0 ≤ 1048576) (hc : ¬ (1 ≤ c0 ∧ c0 ≤ 6)) :
    Calls Try.prog 16 #[.int .i64 c0, .slice A0 n0 q0] w (SetRes w 0 [] 2) := by
  have hd : decide (1 ≤ c0 ∧ c0 ≤ 6) = false := decide_eq_false hc
  unfold SetRes
  go_enter Try.func16, Try.ntmps16
  go_wp2_with (go_at_call 64; refine (l01In_any _ _ _ _).mono ?_; rintro e w' ⟨rfl, rfl⟩)
  refine bodyPost_ret (v := .tuple #[.agg #[.int .i64 0, .slice none 0 0], .int .i64 2]) (by simp [results, Try.results16, go_sem]) rfl ⟨none, 0, rfl, ?_, fun h => absurd h (Nat.lt_irrefl _)⟩
  exact ((Ext.refl w).alloc _).below (Nat.le_refl _)
set_option maxHeartbeats 1000000 in
theorem specSetOf_2b (c0 : Int) (A0 : Option Addr) (n0 q0 : Nat) (w : World) (hn0 : n0 ≤ 1048576) (hc1 : 1 ≤ c0) (hc6 : c0 ≤ 6) (hn : 100 < n0) :
    Calls Try.prog 16 #[.int .i64 c0, .slice A0 n0 q0] w (SetRes w 0 [] 2) := by
  have hd : decide (1 ≤ c0 ∧ c0 ≤ 6) = true := decide_eq_true ⟨hc1, hc6⟩
  have h100 : (100 : Int) < (n0 : Int) := by omega
  unfold SetRes
  go_enter Try.func16, Try.ntmps16
  go_wp2_with (go_at_call 64; refine (l01In_any _ _ _ _).mono ?_; rintro e w' ⟨rfl, rfl⟩)
  refine bodyPost_ret (v := .tuple #[.agg #[.int .i64 0, .slice none 0 0], .int .i64 2]) (by simp [results, Try.results16, go_sem]) rfl ⟨none, 0, rfl, ?_, fun h => absurd h (Nat.lt_irrefl _)⟩
  exact ((Ext.refl w).alloc _).below (Nat.le_refl _)
end Go.Proofs.Ytfhdgilddnndcaa
