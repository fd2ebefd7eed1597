/- TurnNumber: both sides. -/
import Derived.Test.YtfhdgilddnndcaaTn6
import Derived.Test.YtfhdgilddnndcaaKyA
import Derived.Test.YtfhdgilddnndcaaSortF
namespace Go.Proofs.Ytfhdgilddnndcaa
set_option linter.unusedVariables false
set_option linter.unusedSimpArgs false
open Go.RowKit Go.Sort

theorem neq_tile (a b : Tl) (w : World) : (binOp .neq 38 (tv a) (tv b)).run Try.prog w = .ok (.bool (!(eqT a b))) w := by
  obtain ⟨a0, a1, a2, a3⟩ := a
  obtain ⟨b0, b1, b2, b3⟩ := b
  obtain ⟨i0, hi, _⟩ := info_parts info_intE
  have r4 : List.range 4 = [0, 1, 2, 3] := rfl
  have u := Try.underlying38
  have u2 := Try.underlying2
  have z2 := Try.sizeOf2
  have g2 := Try.isAgg2
  unfold tv
  rw [run_neq_struct, show (10000 : Nat) = 9999 + 1 from rfl, run_equalIn_array w 9999 _ _ u hi, r4, cells2']
  simp only [Op.eqItems]
  go_simp
  by_cases h0 : a0 = b0 <;> by_cases h1 : a1 = b1 <;> by_cases h2 : a2 = b2 <;> by_cases h3 : a3 = b3 <;> simp [h0, h1, h2, h3, eqT]

theorem turnNum_le (a : Tl) : turnNum a ≤ 4 := by unfold turnNum; split; omega; split <;> omega
theorem turnNum_pos (a : Tl) : 1 ≤ turnNum a := by unfold turnNum; split; omega; split <;> omega
theorem rot_turn (a : Tl) : rotN (turnNum a) a = a := by
  unfold turnNum
  split
  · assumption
  · split
    · assumption
    · rfl
theorem rot3_1 {a : Tl} (h : rotT (rotT (rotT a)) = a) : rotT a = a := by
  obtain ⟨x0, x1, x2, x3⟩ := a
  simp only [rotT, Prod.mk.injEq] at h ⊢
  omega
theorem rot_less {a : Tl} {j : Nat} (h1 : 1 ≤ j) (h2 : j < turnNum a) : rotN j a ≠ a := by
  unfold turnNum at h2
  split at h2
  · omega
  · rename_i h
    split at h2
    · obtain rfl : j = 1 := by omega
      exact h
    · rename_i h3
      obtain rfl | rfl | rfl : j = 1 ∨ j = 2 ∨ j = 3 := by omega
      · exact h
      · exact h3
      · exact fun h4 => h (rot3_1 h4)
theorem turns_len (a : Tl) : (sortT (turnsL a)).length = turnNum a := by
  have key : ∀ l : List Tl, l.Nodup → (∀ x, x ∈ l ↔ x ∈ turnsL a) → (sortT (turnsL a)).length = l.length := fun l hn hm => by
    rw [← asc_eq (sortT_asc l) (sortT_asc (turnsL a)) fun y => by rw [sortT_mem, sortT_mem, hm]]
    exact sortT_nodup_len hn
  unfold turnNum
  by_cases h1 : rotT a = a
  · rw [if_pos h1]
    exact key [a] (by simp) fun x => by simp [turnsL, h1]
  · rw [if_neg h1]
    by_cases h2 : rotT (rotT a) = a
    · rw [if_pos h2]
      exact key [a, rotT a] (by simpa using fun h => h1 h.symm) fun x => by
        simp only [turnsL, h2, List.mem_cons, List.not_mem_nil, or_false]
        constructor
        · rintro (h | h) <;> simp [h]
        · rintro (h | h | h | h) <;> simp [h]
    · rw [if_neg h2]
      have h3 : rotT (rotT (rotT a)) ≠ a := fun h => h1 (rot3_1 h)
      have h4 : rotT (rotT a) ≠ rotT a := fun h => h1 (by have := congrArg (fun x => rotT (rotT (rotT x))) h; exact this)
      have h5 : rotT (rotT (rotT a)) ≠ rotT a := fun h => h2 (by have := congrArg (fun x => rotT (rotT (rotT x))) h; exact this)
      have h6 : rotT (rotT (rotT a)) ≠ rotT (rotT a) := fun h => h1 (by have := congrArg (fun x => rotT (rotT x)) h; exact this)
      exact key (turnsL a) (by
        simp only [turnsL, List.nodup_cons, List.mem_cons, List.not_mem_nil, or_false, not_or, List.nodup_nil, and_true, not_false_eq_true]
        exact ⟨⟨fun h => h1 h.symm, fun h => h2 h.symm, fun h => h3 h.symm⟩, ⟨fun h => h4 h.symm, fun h => h5 h.symm⟩, fun h => h6 h.symm⟩) fun x => Iff.rfl

def NumRes (w : World) (r code : Int) (e : Ending) (w' : World) : Prop := e = .returned (.tuple #[.int .i64 r, .int .i64 code]) ∧ Below w.heap.size w w'
set_option maxRecDepth 100000 in
set_option maxHeartbeats 1000000 in
theorem implTurnNumber_2 (a : Tl) (w : World) (ha : tileOk 6 a = false) : Calls Try.prog 32 #[tv a] w (NumRes w 0 2) := by
  have h1 := fun W => hasColours_any 6 a W
  rw [ha] at h1
  obtain ⟨x0, x1, x2, x3⟩ := a
  unfold NumRes
  simp only [tv] at h1 ⊢
  have H1 := Lib.hid h1
  clear h1 ha
  go_enter Try.func32, Try.ntmps32
  go_wp2_with fail
  refine (H1.out _).mono ?_
  rintro e w1 ⟨rfl, hx⟩
  have HX := Lib.hid (((Ext.refl w).alloc _).trans hx)
  clear hx
  go_wp2_with fail
  go_ret2
  exact ⟨rfl, HX.out.below (Nat.le_refl _)⟩
set_option maxRecDepth 100000 in
set_option maxHeartbeats 1000000 in
theorem implTurnNumber_0 (a : Tl) (w : World) (ha : tileOk 6 a = true) : Calls Try.prog 32 #[tv a] w (NumRes w (turnNum a) 0) := by
  have h1 := fun W => hasColours_any 6 a W
  rw [ha] at h1
  have h2 := fun W => turnsOf_any a W
  have hok : ∀ k, k < 4 → smallT ((turnsL a).getD k T0) := fun k hk => by
    have e1 := tileOk_rot ha
    have e2 := tileOk_rot e1
    have e3 := tileOk_rot e2
    obtain rfl | rfl | rfl | rfl : k = 0 ∨ k = 1 ∨ k = 2 ∨ k = 3 := by omega
    · exact small_ok ha (by omega)
    · exact small_ok e1 (by omega)
    · exact small_ok e2 (by omega)
    · exact small_ok e3 (by omega)
  have hlen : (turnsL a).length = 4 := rfl
  have h3 := fun A cap W (h : TR W (World.heap W).size A (turnsL a)) => differentTiles_any A 4 cap (turnsL a) W (by omega) hlen h hok
  have hkey : ∀ t ∈ turnsL a, ∃ l, keyOf Try.prog 38 (tv t) = some l := fun t ht => by
    obtain ⟨j, hj, e⟩ := List.getElem_of_mem ht
    have := small_key (hok j (by omega))
    rwa [show (turnsL a).getD j T0 = t by simp [List.getD, hj, e]] at this
  have HKEY := Lib.hid hkey
  have HTL := Lib.hid (turns_len a)
  have HLEN := Lib.hid hlen
  have htle := turnNum_le a
  clear hok hkey ha hlen
  generalize turnsL a = L at h2 h3 HKEY HTL HLEN
  generalize turnNum a = tn at HTL htle ⊢
  obtain ⟨x0, x1, x2, x3⟩ := a
  unfold NumRes
  simp only [tv] at h1 h2 ⊢
  have H1 := Lib.hid h1
  have H2 := Lib.hid h2
  have H3 := Lib.hid h3
  clear h1 h2 h3
  go_enter Try.func32, Try.ntmps32
  go_wp2_with fail
  refine (H1.out _).mono ?_
  rintro e w1 ⟨rfl, hx⟩
  have HX := Lib.hid (((Ext.refl w).alloc (Obj.cells #[.int .i64 x0, .int .i64 x1, .int .i64 x2, .int .i64 x3] 38)).trans hx)
  have hba := (Blk.new w 38 #[.int .i64 x0, .int .i64 x1, .int .i64 x2, .int .i64 x3]).ext hx
  have a0 := hba.rd 0 rfl
  have a1 := hba.rd 1 rfl
  have a2 := hba.rd 2 rfl
  have a3 := hba.rd 3 rfl
  clear hx hba
  go_wp2_with fail
  refine (H2.out _).mono ?_
  rintro e w2 ⟨A, cap, rfl, hb, hw⟩
  have HB := Lib.hid ((HX.out.below (Nat.le_refl _)).trans (hb.mono (HX.out.below (Nat.le_refl _)).size))
  have HW := Lib.hid hw.tr
  clear hb hw a0 a1 a2 a3
  go_wp2_with fail
  refine (H3.out _ _ _ HW.out).mono ?_
  rintro e w3 ⟨b, rfl, hbge, hb1, D, ho, hhas, htrue, hkeys⟩
  have HO := Lib.hid ho
  obtain ⟨ks, hset, hks⟩ := setT_size ho
  have hsrt := hset.sorted HKEY.out (by rw [HLEN.out]; exact hhas)
  have hsz : Go.Maps.size D = tn := by rw [← hks, ← sortT_nodup_len hset.1, hsrt, HTL.out]
  have hlen := fun ty => HO.out.len Try.underlying89 ty
  rw [hsz] at hlen
  have HB3 := Lib.hid (HB.out.trans (hb1.mono HB.out.size))
  clear ho hhas htrue hkeys hset hks hsrt hb1 hsz
  go_wp2_with fail
  go_ret2
  exact ⟨rfl, HB3.out⟩

set_option maxRecDepth 100000 in
set_option maxHeartbeats 1000000 in
theorem specTurnNumber_2 (a : Tl) (w : World) (ha : tileOk 6 a = false) : Calls Try.prog 31 #[tv a] w (NumRes w 0 2) := by
  obtain ⟨x0, x1, x2, x3⟩ := a
  have h1 := tiles_callG x0 x1 x2 x3 (w.alloc (Obj.cells #[.int .i64 x0, .int .i64 x1, .int .i64 x2, .int .i64 x3] 38)) (w.heap.size + 1) (by simp)
  rw [code_no ha] at h1
  unfold NumRes
  simp only [tv]
  have H1 := Lib.hid h1
  clear h1 ha
  go_enter Try.func31, Try.ntmps31
  go_wp2_with fail
  refine H1.out.mono ?_
  rintro e w1 ⟨rfl, hx⟩
  have HX := Lib.hid ((((Ext.refl w).alloc _).alloc _).trans hx)
  clear hx
  go_wp2_with fail
  go_ret2
  exact ⟨rfl, HX.out.below (Nat.le_refl _)⟩
set_option maxRecDepth 100000 in
set_option maxHeartbeats 2000000 in
theorem specTurnNumber_0 (a : Tl) (w : World) (ha : tileOk 6 a = true) : Calls Try.prog 31 #[tv a] w (NumRes w (turnNum a) 0) := by
  have mixed : Try.prog.follows .mixedOrders = true := by kernel_rfl
  have ht := fun (k : Nat) (hk : k < 4) W => l07Turn_any a ((k : Int) + 1) W (by omega) (by omega)
  have HT := Lib.hid ht
  have HTR := Lib.hid (rot_turn a)
  have HLS := Lib.hid (fun j h1 h2 => rot_less (a := a) (j := j) h1 h2)
  have htn4 := turnNum_le a
  have htn1 := turnNum_pos a
  generalize turnNum a = tn at HTR HLS htn4 htn1 ⊢
  clear ht
  obtain ⟨x0, x1, x2, x3⟩ := a
  have h1 := tiles_callG x0 x1 x2 x3 (w.alloc (Obj.cells #[.int .i64 x0, .int .i64 x1, .int .i64 x2, .int .i64 x3] 38)) (w.heap.size + 1) (by simp)
  rw [code_yes ha] at h1
  unfold NumRes
  simp only [tv]
  have H1 := Lib.hid h1
  clear h1 ha
  go_enter Try.func31, Try.ntmps31
  go_wp2_with fail
  refine H1.out.mono ?_
  rintro e w1 ⟨rfl, hx⟩
  have HX := Lib.hid ((((Ext.refl w).alloc (Obj.cells #[.int .i64 x0, .int .i64 x1, .int .i64 x2, .int .i64 x3] 38)).alloc _).trans hx)
  have HBA := Lib.hid (((Blk.new w 38 #[.int .i64 x0, .int .i64 x1, .int .i64 x2, .int .i64 x3]).ext ((Ext.refl _).alloc _)).ext hx)
  clear hx
  go_wp2_with fail
  go_loopw [5] (fun i wr => ∃ k : Nat, k < tn ∧ i = .int .i64 ((k : Int) + 1) ∧ Ext w1 wr) (fun i _ => 5 - (intOf i).toNat)
  case atStart => exact ⟨0, by omega, rfl, Ext.refl _⟩
  case round =>
    obtain ⟨k, hk, rfl, hx⟩ := hrel
    have HXR := Lib.hid hx
    have hba := HBA.out.ext hx
    have a0 := fun q os => hba.grown q os 0 (v := .int .i64 x0) rfl
    have a1 := fun q os => hba.grown q os 1 (v := .int .i64 x1) rfl
    have a2 := fun q os => hba.grown q os 2 (v := .int .i64 x2) rfl
    have a3 := fun q os => hba.grown q os 3 (v := .int .i64 x3) rfl
    have hcon := fun W => HT.out k (by omega) W
    have hkn : ((k : Int) + 1).toNat = k + 1 := by omega
    rw [hkn] at hcon
    obtain ⟨⟨y0, y1, y2, y3⟩, hY⟩ : ∃ x, x = rotN (k + 1) (x0, x1, x2, x3) := ⟨_, rfl⟩
    rw [← hY] at hcon
    unfold Ext at hcon
    simp only [tv] at hcon
    have heq : ∀ w, (binOp .neq 38 (.agg #[.int .i64 y0, .int .i64 y1, .int .i64 y2, .int .i64 y3]) (.agg #[.int .i64 x0, .int .i64 x1, .int .i64 x2, .int .i64 x3])).run Try.prog w = .ok (.bool (!(eqT (y0, y1, y2, y3) (x0, x1, x2, x3)))) w := fun w => neq_tile (y0, y1, y2, y3) (x0, x1, x2, x3) w
    have HC := Lib.hid hcon
    have HY := Lib.hid hY
    clear hcon hY hx hba hkn
    by_cases hlast : k + 1 = tn
    · have hr : eqT (y0, y1, y2, y3) (x0, x1, x2, x3) = true := by
        have h := HTR.out
        rw [← hlast, ← HY.out] at h
        simp [eqT, h]
      rw [hr] at heq
      have HLT := Lib.hid hlast
      clear hr hlast
      simp only [Bool.not_true] at heq
      go_wp2_with fail
      refine wp_region_quiet_grown mixed (by kernel_rfl) ?_
      repeat (go_big_quiet_step (((go_at_call 75; refine Calls.grown_of (HC.out _)))))
      refine wpQuiet_nil ?_
      intro _ hw'
      obtain ⟨⟨nq, osq⟩, hw''⟩ := hw'
      subst hw''
      clear a0 a1 a2 a3 heq
      go_wp2_with fail
      go_ret2
      exact ⟨by rw [← HLT.out]; push_cast; rfl, ((HX.out.trans HXR.out).trans ⟨nq, osq, rfl⟩).below (Nat.le_refl _)⟩
    · have hr : eqT (y0, y1, y2, y3) (x0, x1, x2, x3) = false := by
        refine eqT_ne fun h => ?_
        rw [HY.out] at h
        exact HLS.out (k + 1) (by omega) (by omega) h
      rw [hr] at heq
      clear hr
      simp only [Bool.not_false] at heq
      go_wp2_with fail
      refine wp_region_quiet_grown mixed (by kernel_rfl) ?_
      repeat (go_big_quiet_step (((go_at_call 75; refine Calls.grown_of (HC.out _)))))
      refine wpQuiet_nil ?_
      intro _ hw'
      obtain ⟨⟨nq, osq⟩, hw''⟩ := hw'
      subst hw''
      clear a0 a1 a2 a3 heq
      go_wp2_with fail
      go_roundw
      case rel => exact ⟨k + 1, by omega, by go_num, HXR.out.trans ⟨nq, osq, rfl⟩⟩
      case measure => simp [intOf]; omega
end Go.Proofs.Ytfhdgilddnndcaa
