/- Does a set have a tile? Both sides. -/
import Derived.Test.YtfacdmkcklimjaaSChanged
import Derived.Test.YtfacdmkcklimjaaEq
import Derived.Deep.RegionHeld3
namespace Go.Proofs.Ytfacdmkcklimjaa
set_option linter.unusedVariables false
set_option linter.unusedSimpArgs false
open Go.RowKit Go.Sort

theorem eqT_iff (a b : Tl) : eqT a b = true ↔ a = b := by
  obtain ⟨a0, a1, a2, a3⟩ := a
  obtain ⟨b0, b1, b2, b3⟩ := b
  simp [eqT]
theorem has_at {ts : List Tl} {y : Tl} {k : Nat} (hk : k < ts.length) (h : eqT (ts.getD k T0) y = true) : decide (y ∈ ts) = true := by
  rw [decide_eq_true_eq, ← (eqT_iff _ _).1 h]
  simp [List.getD, hk]
theorem has_not {ts : List Tl} {y : Tl} (h : ∀ j, j < ts.length → eqT (ts.getD j T0) y = false) : decide (y ∈ ts) = false := by
  rw [decide_eq_false_iff_not]
  intro hm
  obtain ⟨j, hj, e⟩ := List.getElem_of_mem hm
  have := h j hj
  rw [show ts.getD j T0 = y by simp [List.getD, hj, e], (eqT_iff y y).2 rfl] at this
  cases this

set_option maxRecDepth 100000 in
set_option maxHeartbeats 1000000 in
theorem l01Has_any (c0 : Int) (A : Option Addr) (n c : Nat) (ts : List Tl) (a : Tl) (w : World) (hn : n ≤ 1048576) (hl : ts.length = n) (hA : TR w w.heap.size A ts) :
    Calls Try.prog 15 #[.agg #[.int .i64 c0, .slice A n c], tv a] w fun e w' => e = .returned (.bool (decide (a ∈ ts))) ∧ Ext w w' := by
  obtain ⟨x0, x1, x2, x3⟩ := a
  unfold tv
  go_enter Try.func15, Try.ntmps15
  go_wp2_with fail
  go_loopw [5] (fun i wr => ∃ k : Nat, k ≤ n ∧ i = .int .i64 k ∧ (∀ j, j < k → eqT (ts.getD j T0) (x0, x1, x2, x3) = false) ∧ Ext ((w.alloc (.cells #[.int .i64 c0, .slice A n c] 29)).alloc (.cells #[.int .i64 x0, .int .i64 x1, .int .i64 x2, .int .i64 x3] 33)) wr) (fun i _ => n - (intOf i).toNat)
  case atStart => exact ⟨0, Nat.zero_le _, rfl, fun j hj => absurd hj (Nat.not_lt_zero _), Ext.refl _⟩
  case round =>
    obtain ⟨k, hk, rfl, heq0, hx⟩ := hrel
    have H := Lib.hid heq0
    have HX := Lib.hid hx
    clear heq0
    have hB : Blk wr w.heap.size 29 #[.int .i64 c0, .slice A n c] := ((Blk.new w _ _).ext ((Ext.refl _).alloc _)).ext hx
    have hT : Blk wr (w.heap.size + 1) 33 #[.int .i64 x0, .int .i64 x1, .int .i64 x2, .int .i64 x3] := by have := (Blk.new (w.alloc (Obj.cells #[.int .i64 c0, .slice A n c] 29)) 33 #[.int .i64 x0, .int .i64 x1, .int .i64 x2, .int .i64 x3]).ext hx; simpa using this
    by_cases hlt : k < n
    · obtain ⟨b, off, rfl, hc⟩ := hA.at2 ((((Ext.refl w).alloc _).alloc _).trans hx) (k := k) (by omega)
      have s0 := fun q os => hB.grown q os 0 (v := .int .i64 c0) rfl
      have s1 := fun q os => hB.grown q os 1 (v := .slice (some ⟨b, off, none⟩) n c) rfl
      have t0 := fun q os => hT.grown q os 0 (v := .int .i64 x0) rfl
      have t1 := fun q os => hT.grown q os 1 (v := .int .i64 x1) rfl
      have t2 := fun q os => hT.grown q os 2 (v := .int .i64 x2) rfl
      have t3 := fun q os => hT.grown q os 3 (v := .int .i64 x3) rfl
      have r1 : wr.cell? ⟨w.heap.size, 1, none⟩ = some (.slice (some ⟨b, off, none⟩) n c) := hB.cell 1
      obtain ⟨⟨y0, y1, y2, y3⟩, hY⟩ : ∃ x, x = ts.getD k T0 := ⟨_, rfl⟩
      have hk4 := hc k (by omega)
      rw [← hY] at hk4
      simp only [Cell4, forall_and] at hk4
      obtain ⟨d0, d1, d2, d3⟩ := hk4
      have heq : ∀ w, (binOp .eql 33 (.agg #[.int .i64 y0, .int .i64 y1, .int .i64 y2, .int .i64 y3]) (.agg #[.int .i64 x0, .int .i64 x1, .int .i64 x2, .int .i64 x3])).run Try.prog w = .ok (.bool (eqT (y0, y1, y2, y3) (x0, x1, x2, x3))) w := fun w => eql_tile (y0, y1, y2, y3) (x0, x1, x2, x3) w
      generalize hz : eqT (y0, y1, y2, y3) (x0, x1, x2, x3) = z at heq
      have HZ := Lib.hid hz
      have HY := Lib.hid hY
      clear hz hY hB hT hx hA hc
      cases z
      all_goals
        go_wp2_with fail
        refine wp_region_quiet_grown mixed (by kernel_rfl) ?_
        repeat (go_big_quiet_step ((fail)))
        refine wpQuiet_nil ?_
        intro _ hw'
        obtain ⟨⟨nq, osq⟩, hw''⟩ := hw'
        subst hw''
        clear s0 s1 r1 d0 d1 d2 d3 t0 t1 t2 t3
        go_wp2_with fail
      · refine ⟨⟨k + 1, by omega, by go_num, ?_, HX.out.trans ⟨nq, osq, rfl⟩⟩, by simp [intOf]; omega⟩
        intro j hj
        by_cases hjk : j = k
        · rw [hjk, ← HY.out]
          exact HZ.out
        · exact H.out j (by omega)
      · go_ret
        exact ⟨ret_b (has_at (k := k) (by omega) (by rw [← HY.out]; exact HZ.out)).symm, (((Ext.refl w).alloc _).alloc _).trans (HX.out.trans ⟨nq, osq, rfl⟩)⟩
    · have r1 : wr.cell? ⟨w.heap.size, 1, none⟩ = some (.slice A n c) := hB.cell 1
      clear hB hT hx hA
      obtain rfl : k = n := by omega
      go_wp2_with fail
      go_ret
      exact ⟨ret_b (has_not (fun j hj => H.out j (by omega))).symm, (((Ext.refl w).alloc _).alloc _).trans HX.out⟩

set_option maxRecDepth 100000 in
set_option maxHeartbeats 1000000 in
theorem hasTile_any (c0 : Int) (A : Option Addr) (n c : Nat) (ts : List Tl) (a : Tl) (w : World) (hn : n ≤ 1048576) (hl : ts.length = n) (hA : TR w w.heap.size A ts) :
    Calls Try.prog 21 #[.agg #[.int .i64 c0, .slice A n c], tv a] w fun e w' => e = .returned (.bool (decide (a ∈ ts))) ∧ Ext w w' := by
  obtain ⟨x0, x1, x2, x3⟩ := a
  unfold tv
  go_enter Try.func21, Try.ntmps21
  go_wp2_with fail
  go_loopw [10] (fun i wr => ∃ k : Nat, k ≤ n ∧ i = .int .i64 k ∧ (∀ j, j < k → eqT (ts.getD j T0) (x0, x1, x2, x3) = false) ∧ Ext ((w.alloc (.cells #[.int .i64 c0, .slice A n c] 29)).alloc (.cells #[.int .i64 x0, .int .i64 x1, .int .i64 x2, .int .i64 x3] 33)) wr) (fun i _ => n - (intOf i).toNat)
  case atStart => exact ⟨0, Nat.zero_le _, rfl, fun j hj => absurd hj (Nat.not_lt_zero _), Ext.refl _⟩
  case round =>
    obtain ⟨k, hk, rfl, heq0, hx⟩ := hrel
    have H := Lib.hid heq0
    have HX := Lib.hid hx
    clear heq0
    by_cases hlt : k < n
    · obtain ⟨⟨y0, y1, y2, y3⟩, hY⟩ : ∃ x, x = ts.getD k T0 := ⟨_, rfl⟩
      have hT : Blk (wr.alloc (.cells #[.int .i64 y0, .int .i64 y1, .int .i64 y2, .int .i64 y3] 33)) (w.heap.size + 1) 33 #[.int .i64 x0, .int .i64 x1, .int .i64 x2, .int .i64 x3] := by have := ((Blk.new (w.alloc (Obj.cells #[.int .i64 c0, .slice A n c] 29)) 33 #[.int .i64 x0, .int .i64 x1, .int .i64 x2, .int .i64 x3]).ext hx).ext ((Ext.refl _).alloc (.cells #[.int .i64 y0, .int .i64 y1, .int .i64 y2, .int .i64 y3] 33)); simpa using this
      have hT1 := Blk.new wr 33 #[.int .i64 y0, .int .i64 y1, .int .i64 y2, .int .i64 y3]
      obtain ⟨b, off, rfl, -, hk0⟩ := (hA.ext ((((Ext.refl w).alloc _).alloc _).trans hx) (Nat.le_refl _)) (by omega)
      have hk0 := hk0 k (by omega)
      rw [← hY] at hk0
      obtain ⟨q0, q1, q2, q3⟩ := hk0
      simp only at q0 q1 q2 q3
      have t0 := hT.rd 0 rfl
      have t1 := hT.rd 1 rfl
      have t2 := hT.rd 2 rfl
      have t3 := hT.rd 3 rfl
      have u0 := hT1.rd 0 rfl
      have u1 := hT1.rd 1 rfl
      have u2 := hT1.rd 2 rfl
      have u3 := hT1.rd 3 rfl
      have heq : ∀ w, (binOp .eql 33 (.agg #[.int .i64 y0, .int .i64 y1, .int .i64 y2, .int .i64 y3]) (.agg #[.int .i64 x0, .int .i64 x1, .int .i64 x2, .int .i64 x3])).run Try.prog w = .ok (.bool (eqT (y0, y1, y2, y3) (x0, x1, x2, x3))) w := fun w => eql_tile (y0, y1, y2, y3) (x0, x1, x2, x3) w
      generalize hz : eqT (y0, y1, y2, y3) (x0, x1, x2, x3) = z at heq
      have HZ := Lib.hid hz
      have HY := Lib.hid hY
      have hfin : Ext ((w.alloc (.cells #[.int .i64 c0, .slice (some ⟨b, off, none⟩) n c] 29)).alloc (.cells #[.int .i64 x0, .int .i64 x1, .int .i64 x2, .int .i64 x3] 33)) (wr.alloc (.cells #[.int .i64 y0, .int .i64 y1, .int .i64 y2, .int .i64 y3] 33)) := hx.alloc _
      have HF := Lib.hid hfin
      clear hz hY hT hT1 hx hA hfin
      cases z
      all_goals
        go_wp2_with fail
      · refine ⟨⟨k + 1, by omega, by go_num, ?_, HF.out⟩, by simp [intOf]; omega⟩
        intro j hj
        by_cases hjk : j = k
        · rw [hjk, ← HY.out]
          exact HZ.out
        · exact H.out j (by omega)
      · go_ret
        exact ⟨ret_b (has_at (k := k) (by omega) (by rw [← HY.out]; exact HZ.out)).symm, (((Ext.refl w).alloc _).alloc _).trans HF.out⟩
    · clear hA
      obtain rfl : k = n := by omega
      go_wp2_with fail
      go_ret
      exact ⟨ret_b (has_not (fun j hj => H.out j (by omega))).symm, (((Ext.refl w).alloc _).alloc _).trans HX.out⟩
end Go.Proofs.Ytfacdmkcklimjaa
