/- Whether all tiles of a list have colours of a set: both sides' loops. -/
import Derived.Test.YtfhdgilddnndcaaAppT
import Derived.Lib.Hide
namespace Go.Proofs.Ytfhdgilddnndcaa
set_option linter.unusedVariables false
set_option linter.unusedSimpArgs false
open Go.RowKit Go.Sort

def allOk (c : Int) (ts : List Tl) : Bool := ts.all (tileOk c)
theorem allOk_no {c : Int} {ts : List Tl} {k : Nat} (hk : k < ts.length) (h : tileOk c (ts.getD k T0) = false) : allOk c ts = false := by
  unfold allOk
  rw [List.all_eq_false]
  exact ⟨ts.getD k T0, by simp [List.getD, hk], by rw [h]; exact Bool.false_ne_true⟩
theorem allOk_not {c : Int} {ts : List Tl} {k : Nat} (hk : k < ts.length) (h : tileOk c (ts.getD k T0) = false) : ¬ allOk c ts = true := by
  rw [allOk_no hk h]
  exact Bool.false_ne_true
theorem allOk_at {c : Int} {ts : List Tl} (h : ∀ k, k < ts.length → tileOk c (ts.getD k T0) = true) : allOk c ts = true := by
  refine List.all_eq_true.2 fun x hx => ?_
  obtain ⟨k, hk, e⟩ := List.getElem_of_mem hx
  have := h k hk
  rwa [show ts.getD k T0 = x by simp [List.getD, hk, e]] at this
theorem allOk_get {c : Int} {ts : List Tl} (h : allOk c ts = true) {k : Nat} (hk : k < ts.length) : tileOk c (ts.getD k T0) = true :=
  List.all_eq_true.1 h _ (by simp [List.getD, hk])

set_option maxRecDepth 100000 in
set_option maxHeartbeats 1000000 in
theorem haveColours_any (A0 : Option Addr) (n0 q0 : Nat) (ts : List Tl) (c0 : Int) (w : World) (hn0 : n0 ≤ 1048576) (hl0 : ts.length = n0) (hA0 : TR w w.heap.size A0 ts) :
    Calls Try.prog 69 #[.slice A0 n0 q0, .int .i64 c0] w fun e w' => e = .returned (.bool (allOk c0 ts)) ∧ Ext w w' := by
  have HA := Lib.hid hA0
  clear hA0
  generalize hr : allOk c0 ts = rr
  have HRR := Lib.hid hr
  clear hr
  go_enter Try.func69, Try.ntmps69
  go_wp2_with fail
  go_loopw [9] (fun i wr => ∃ k : Nat, k ≤ n0 ∧ i = .int .i64 k ∧ (∀ j, j < k → tileOk c0 (ts.getD j T0) = true) ∧ Ext w wr) (fun i _ => n0 - (intOf i).toNat)
  case atStart => exact ⟨0, Nat.zero_le _, rfl, fun j hj => absurd hj (Nat.not_lt_zero _), Ext.refl _⟩
  case round =>
    obtain ⟨k, hk, rfl, hall, hx⟩ := hrel
    have HALL := Lib.hid hall
    have HX := Lib.hid hx
    clear hall
    by_cases hlt : k < n0
    · obtain ⟨b0, o, rfl, hbb, ht⟩ := (HA.out.ext hx (Nat.le_refl _)) (by omega)
      replace ht := ht k (by omega)
      obtain ⟨⟨y0, y1, y2, y3⟩, hY⟩ : ∃ x, x = ts.getD k T0 := ⟨_, rfl⟩
      rw [← hY] at ht
      obtain ⟨c0', c1', c2, c3⟩ := ht
      simp only at c0' c1' c2 c3
      have hcon : ∀ W, Calls Try.prog 76 _ W _ := fun W => hasColours_any c0 (y0, y1, y2, y3) W
      simp only [tv] at hcon
      generalize hr : tileOk c0 (y0, y1, y2, y3) = r at hcon
      have HR := Lib.hid hr
      have HY := Lib.hid hY
      have HC := Lib.hid hcon
      have b3 : (k : Int) < (n0 : Int) := by omega
      clear hr hY hx hcon
      go_wp2_with fail
      refine (HC.out _).mono ?_
      rintro e w1 ⟨rfl, hx1⟩
      have HX2 := Lib.hid (((Ext.refl wr).alloc (Obj.cells #[.int .i64 y0, .int .i64 y1, .int .i64 y2, .int .i64 y3] 38)).trans hx1)
      clear hx1 c0' c1' c2 c3
      cases r with
      | true =>
        go_wp2_with fail
        go_roundw
        case rel =>
          refine ⟨k + 1, by omega, by go_num, fun j hj => ?_, HX.out.trans HX2.out⟩
          by_cases e : j < k
          · exact HALL.out j e
          · obtain rfl : j = k := by omega
            rw [← HY.out]; exact HR.out
        case measure => simp [intOf]; omega
      | false =>
        go_wp2_with fail
        go_ret
        refine ⟨ret_b ?_, HX.out.trans HX2.out⟩
        rw [← HRR.out]
        exact (allOk_no (k := k) (by omega) (by rw [← HY.out]; exact HR.out)).symm
    · obtain rfl : k = n0 := by omega
      clear hx
      go_wp2_with fail
      go_ret
      refine ⟨ret_b ?_, HX.out⟩
      rw [← HRR.out]
      exact (allOk_at (fun j hj => HALL.out j (by omega))).symm

def tilesCode (ts : List Tl) : Int := if allOk 6 ts = true then 0 else 2
set_option maxRecDepth 100000 in
set_option maxHeartbeats 1000000 in
theorem l07Tiles_any (A0 : Option Addr) (n0 q0 : Nat) (ts : List Tl) (w : World) (hn0 : n0 ≤ 1048576) (hl0 : ts.length = n0) (hA0 : TR w w.heap.size A0 ts) :
    Calls Try.prog 74 #[.slice A0 n0 q0] w fun e w' => e = .returned (.int .i64 (tilesCode ts)) ∧ Ext w w' := by
  have HA := Lib.hid hA0
  clear hA0
  generalize hr : tilesCode ts = rr
  have HRR := Lib.hid hr
  clear hr
  go_enter Try.func74, Try.ntmps74
  go_wp2_with fail
  go_loopw [3] (fun i wr => ∃ k : Nat, k ≤ n0 ∧ i = .int .i64 k ∧ (∀ j, j < k → tileOk 6 (ts.getD j T0) = true) ∧ Ext w wr) (fun i _ => n0 - (intOf i).toNat)
  case atStart => exact ⟨0, Nat.zero_le _, rfl, fun j hj => absurd hj (Nat.not_lt_zero _), Ext.refl _⟩
  case round =>
    obtain ⟨k, hk, rfl, hall, hx⟩ := hrel
    have HALL := Lib.hid hall
    have HX := Lib.hid hx
    clear hall
    by_cases hlt : k < n0
    · obtain ⟨b0, o, rfl, hbb, ht⟩ := (HA.out.ext hx (Nat.le_refl _)) (by omega)
      replace ht := ht k (by omega)
      obtain ⟨⟨y0, y1, y2, y3⟩, hY⟩ : ∃ x, x = ts.getD k T0 := ⟨_, rfl⟩
      rw [← hY] at ht
      obtain ⟨c0', c1', c2, c3⟩ := ht
      simp only at c0' c1' c2 c3
      have hcon : ∀ W, Calls Try.prog 65 _ W _ := fun W => l01Tile_any 6 (y0, y1, y2, y3) W (by omega) (by omega)
      simp only [tv] at hcon
      generalize hr : tileOk 6 (y0, y1, y2, y3) = r at hcon
      have HR := Lib.hid hr
      have HY := Lib.hid hY
      have HC := Lib.hid hcon
      have b3 : (k : Int) < (n0 : Int) := by omega
      clear hr hY hx hcon
      go_wp2_with fail
      refine (HC.out _).mono ?_
      rintro e w1 ⟨rfl, hx1⟩
      have HX2 := Lib.hid hx1
      clear hx1 c0' c1' c2 c3
      cases r with
      | true =>
        go_wp2_with fail
        go_roundw
        case rel =>
          refine ⟨k + 1, by omega, by go_num, fun j hj => ?_, HX.out.trans HX2.out⟩
          by_cases e : j < k
          · exact HALL.out j e
          · obtain rfl : j = k := by omega
            rw [← HY.out]; exact HR.out
        case measure => simp [intOf]; omega
      | false =>
        go_wp2_with fail
        go_ret
        refine ⟨ret_i ?_, HX.out.trans HX2.out⟩
        rw [← HRR.out]
        unfold tilesCode
        rw [allOk_no (k := k) (by omega) (by rw [← HY.out]; exact HR.out)]
        rfl
    · obtain rfl : k = n0 := by omega
      clear hx
      go_wp2_with fail
      go_ret
      refine ⟨ret_i ?_, HX.out⟩
      rw [← HRR.out]
      unfold tilesCode
      rw [allOk_at (fun j hj => HALL.out j (by omega))]
      rfl
end Go.Proofs.Ytfhdgilddnndcaa
