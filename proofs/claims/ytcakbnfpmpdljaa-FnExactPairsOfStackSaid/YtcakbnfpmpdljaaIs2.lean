/- Whether a set is one: the program's own function; and the model's door. -/
import Derived.Test.YtcakbnfpmpdljaaIs
namespace Go.Proofs.Ytcakbnfpmpdljaa
set_option linter.unusedVariables false
set_option linter.unusedSimpArgs false
open Go.RowKit Go.Sort

theorem cmpT_before {a b : Tl} : (decide (0 ≤ cmpT a b)) = !before a b := by
  unfold cmpT
  by_cases h : before a b = true
  · simp [h]
  · have h' : before a b = false := by simpa using h
    by_cases g : before b a = true <;> simp [h', g]

set_option maxRecDepth 100000 in
set_option maxHeartbeats 1000000 in
theorem isSet_any (c0 : Int) (A : Option Addr) (n c : Nat) (ts : List Tl) (w : World) (hn : n ≤ 1152921504606846976) (hl : ts.length = n) (hA : TR w w.heap.size A ts) :
   Calls Try.prog 53 #[.agg #[.int .i64 c0, .slice A n c]] w fun e w' => e = .returned (.bool (isSet c0 ts)) ∧ Ext w w' := by
  by_cases hc1 : 1 ≤ c0 ∧ c0 ≤ 6
  · by_cases hn16 : n ≤ 16
    · obtain ⟨hc1, hc6⟩ := hc1
      go_enter Try.func53, Try.ntmps53
      have hd : decide (1 ≤ c0 ∧ c0 ≤ 6) = true := decide_eq_true ⟨hc1, hc6⟩
      go_wp2_with (go_at_call 94; refine (isColour_any _ _).mono ?_; rintro e w' ⟨rfl, rfl⟩)
      go_loopw [18] (fun i wr => ∃ k : Nat, k ≤ n ∧ i = .int .i64 k ∧ (∀ j, j < k → good c0 ts j = true) ∧ Ext (w.alloc (.cells #[.int .i64 c0, .slice A n c] 29)) wr) (fun i _ => n - (intOf i).toNat)
      case atStart => exact ⟨0, Nat.zero_le _, rfl, fun j hj => absurd hj (Nat.not_lt_zero _), Ext.refl _⟩
      case round =>
        obtain ⟨k, hk, rfl, heq, hx⟩ := hrel
        have H := Lib.hid heq
        have HX := Lib.hid hx
        clear heq
        have hB : Blk wr w.heap.size 29 #[.int .i64 c0, .slice A n c] := (Blk.new w _ _).ext hx
        by_cases hlt : k < n
        · obtain ⟨⟨y0, y1, y2, y3⟩, hY⟩ : ∃ x, x = ts.getD k T0 := ⟨_, rfl⟩
          have hx1 : Ext (w.alloc (.cells #[.int .i64 c0, .slice A n c] 29)) (wr.alloc (.cells #[.int .i64 y0, .int .i64 y1, .int .i64 y2, .int .i64 y3] 33)) := hx.alloc _
          have hB1 := (Blk.new w _ _).ext hx1
          have hT1 := Blk.new wr 33 #[.int .i64 y0, .int .i64 y1, .int .i64 y2, .int .i64 y3]
          obtain ⟨b, off, rfl, hc⟩ := hA.at2 (((Ext.refl w).alloc _).trans hx1) (k := k) (by omega)
          have hk0 : Cell4 wr b (off + k * 4) (ts.getD k T0) := by
            obtain ⟨b', off', e', hc'⟩ := hA.at2 (((Ext.refl w).alloc _).trans hx) (k := k) (by omega)
            cases e'
            have := hc' k (by omega) 0 #[]
            simpa [World.drewN] using this
          rw [← hY] at hk0
          obtain ⟨q0, q1, q2, q3⟩ := hk0
          simp only at q0 q1 q2 q3
          have s0 := fun q os => hB1.grown q os 0 (v := .int .i64 c0) rfl
          have s1 := fun q os => hB1.grown q os 1 (v := .slice (some ⟨b, off, none⟩) n c) rfl
          have t0 := fun q os => hT1.grown q os 0 (v := .int .i64 y0) rfl
          have t1 := fun q os => hT1.grown q os 1 (v := .int .i64 y1) rfl
          have t2 := fun q os => hT1.grown q os 2 (v := .int .i64 y2) rfl
          have t3 := fun q os => hT1.grown q os 3 (v := .int .i64 y3) rfl
          have hcon : ∀ W, Calls Try.prog 54 _ W _ := fun W => hasColours_any c0 (y0, y1, y2, y3) W
          unfold Ext tv at hcon
          generalize hr : tileOk c0 (y0, y1, y2, y3) = r at hcon
          have HR := Lib.hid hr
          have HY := Lib.hid hY
          clear hr hY hB hx hA hx1 hB1 hT1
          have hfin : ∀ nq osq, Ext (w.alloc (.cells #[.int .i64 c0, .slice (some ⟨b, off, none⟩) n c] 29)) (grow ((wr.alloc (.cells #[.int .i64 y0, .int .i64 y1, .int .i64 y2, .int .i64 y3] 33)).drewN nq) osq) := fun nq osq => (HX.out.alloc _).trans ⟨nq, osq, rfl⟩
          have HF := Lib.hid hfin
          clear hfin
          rcases k with _ | k
          · clear hc
            simp only [Nat.zero_mul, Nat.add_zero] at q0 q1 q2 q3
            by_cases hr : r = true
            · subst hr
              go_wp2_with fail
              clear q0 q1 q2 q3
              refine wp_region_quiet_grown mixed (by kernel_rfl) ?_
              repeat (go_big_quiet_step ((go_at_call 54; refine Calls.grown_of (hcon _))))
              refine wpQuiet_nil ?_
              intro _ hw'
              obtain ⟨⟨nq, osq⟩, hw''⟩ := hw'
              subst hw''
              clear hcon s0 s1 t0 t1 t2 t3
              go_wp2_with fail
              refine ⟨⟨1, by omega, rfl, ?_, HF.out _ _⟩, by simp [intOf]; omega⟩
              intro j hj
              obtain rfl : j = 0 := by omega
              have := HR.out
              rw [HY.out] at this
              exact good_zero this
            · obtain rfl : r = false := by simpa using hr
              go_wp2_with fail
              clear q0 q1 q2 q3
              refine wp_region_quiet_grown mixed (by kernel_rfl) ?_
              repeat (go_big_quiet_step ((go_at_call 54; refine Calls.grown_of (hcon _))))
              refine wpQuiet_nil ?_
              intro _ hw'
              obtain ⟨⟨nq, osq⟩, hw''⟩ := hw'
              subst hw''
              clear hcon s0 s1 t0 t1 t2 t3
              go_wp2_with fail
              go_ret
              refine ⟨ret_b (isSet_at (k := 0) (by omega) ?_).symm, ((Ext.refl w).alloc _).trans (HF.out _ _)⟩
              have := HR.out
              rw [HY.out] at this
              exact good_bad this
          · have hp4 := hc k (by omega)
            clear hc
            obtain ⟨⟨x0, x1, x2, x3⟩, hX⟩ : ∃ x, x = ts.getD k T0 := ⟨_, rfl⟩
            rw [← hX] at hp4
            simp only [Cell4, forall_and] at hp4
            obtain ⟨e0, e1, e2, e3⟩ := hp4
            have HXe := Lib.hid hX
            clear hX
            have hcon2 : ∀ W, Calls Try.prog 95 _ W _ := fun W => compareTiles_any (x0, x1, x2, x3) (y0, y1, y2, y3) W
            unfold Ext tv at hcon2
            generalize hz : cmpT (x0, x1, x2, x3) (y0, y1, y2, y3) = z at hcon2
            have HZ := Lib.hid hz
            clear hz
            by_cases hr : r = true
            · subst hr
              go_wp2_with fail
              clear q0 q1 q2 q3
              refine wp_region_quiet_grown mixed (by kernel_rfl) ?_
              repeat (go_big_quiet_step ((first | (go_at_call 54; refine Calls.grown_of (hcon _)) | (go_at_call 95; refine Calls.grown_of (hcon2 _)))))
              refine wpQuiet_nil ?_
              intro _ hw'
              obtain ⟨⟨nq, osq⟩, hw''⟩ := hw'
              subst hw''
              clear hcon hcon2 s0 s1 t0 t1 t2 t3 e0 e1 e2 e3
              go_wp2_with fail
              · have hz : 0 ≤ z := by assumption
                go_ret
                refine ⟨ret_b (isSet_at (k := k + 1) (by omega) ?_).symm, ((Ext.refl w).alloc _).trans (HF.out _ _)⟩
                have h1 := HR.out
                rw [HY.out] at h1
                have h2 := HZ.out
                rw [HY.out, HXe.out] at h2
                refine good_suc h1 ?_
                have := cmpT_before (a := ts.getD k T0) (b := ts.getD (k + 1) T0)
                rw [h2, decide_eq_true hz] at this
                simpa using this.symm
              · have hz : z < 0 := by assumption
                refine ⟨⟨k + 1 + 1, by omega, by go_num, ?_, HF.out _ _⟩, by simp [intOf]; omega⟩
                intro j hj
                by_cases hjk : j = k + 1
                · subst hjk
                  have h1 := HR.out
                  rw [HY.out] at h1
                  have h2 := HZ.out
                  rw [HY.out, HXe.out] at h2
                  refine good_suc h1 ?_
                  have := cmpT_before (a := ts.getD k T0) (b := ts.getD (k + 1) T0)
                  rw [h2, decide_eq_false (by omega)] at this
                  simpa using this.symm
                · exact H.out j (by omega)
            · obtain rfl : r = false := by simpa using hr
              go_wp2_with fail
              clear q0 q1 q2 q3
              refine wp_region_quiet_grown mixed (by kernel_rfl) ?_
              repeat (go_big_quiet_step ((go_at_call 54; refine Calls.grown_of (hcon _))))
              refine wpQuiet_nil ?_
              intro _ hw'
              obtain ⟨⟨nq, osq⟩, hw''⟩ := hw'
              subst hw''
              clear hcon hcon2 s0 s1 t0 t1 t2 t3 e0 e1 e2 e3
              go_wp2_with fail
              go_ret
              refine ⟨ret_b (isSet_at (k := k + 1) (by omega) ?_).symm, ((Ext.refl w).alloc _).trans (HF.out _ _)⟩
              have := HR.out
              rw [HY.out] at this
              exact good_bad this
        · clear hx hA
          have r1 := hB.cell 1
          simp at r1
          go_wp2_with fail
          go_ret
          refine ⟨ret_b (isSet_all ⟨hc1, hc6⟩ (by omega) (fun j hj => H.out j (by omega))).symm, ((Ext.refl w).alloc _).trans HX.out⟩
    · go_enter Try.func53, Try.ntmps53
      have hd : decide (1 ≤ c0 ∧ c0 ≤ 6) = true := decide_eq_true hc1
      go_wp2_with (go_at_call 94; refine (isColour_any _ _).mono ?_; rintro e w' ⟨rfl, rfl⟩)
      go_ret
      exact ⟨ret_b (isSet_long (by omega)).symm, by repeat (first | exact Ext.refl _ | refine Ext.drewN ?_ _ | refine Ext.alloc ?_ _ | refine Ext.drew ?_ | refine Ext.grow ?_ _)⟩
  · go_enter Try.func53, Try.ntmps53
    have hd : decide (1 ≤ c0 ∧ c0 ≤ 6) = false := decide_eq_false hc1
    go_wp2_with (go_at_call 94; refine (isColour_any _ _).mono ?_; rintro e w' ⟨rfl, rfl⟩)
    all_goals go_ret
    all_goals exact ⟨ret_b (isSet_bad hc1).symm, by repeat (first | exact Ext.refl _ | refine Ext.drewN ?_ _ | refine Ext.alloc ?_ _ | refine Ext.drew ?_ | refine Ext.grow ?_ _)⟩
end Go.Proofs.Ytcakbnfpmpdljaa
