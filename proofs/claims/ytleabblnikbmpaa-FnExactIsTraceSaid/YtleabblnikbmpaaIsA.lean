/- Whether a set is one: the model's word and the program's word are the same plain test. -/
import Derived.Test.YtleabblnikbmpaaTA
namespace Go.Proofs.Ytleabblnikbmpaa
section
set_option linter.unusedVariables false
set_option linter.unusedSimpArgs false
open Go.RowKit Go.Sort

/-- What a round of the loop over the tiles asks of place k. -/
def good (c : Int) (ts : List Tl) (k : Nat) : Bool := tileOk c (ts.getD k T0) && (decide (k = 0) || before (ts.getD (k - 1) T0) (ts.getD k T0))
theorem good_zero {c : Int} {ts : List Tl} (h : tileOk c (ts.getD 0 T0) = true) : good c ts 0 = true := by unfold good; rw [h]; rfl
theorem good_bad {c : Int} {ts : List Tl} {k : Nat} (h : tileOk c (ts.getD k T0) = false) : good c ts k = false := by unfold good; rw [h]; rfl
theorem good_suc {c : Int} {ts : List Tl} {k : Nat} {r : Bool} (h : tileOk c (ts.getD (k + 1) T0) = true) (h2 : before (ts.getD k T0) (ts.getD (k + 1) T0) = r) : good c ts (k + 1) = r := by
  unfold good
  rw [h, Nat.add_sub_cancel, h2]
  simp
/-- Is it a set? -/
def isSet (c : Int) (ts : List Tl) : Bool := decide (1 ≤ c ∧ c ≤ 6) && decide (ts.length ≤ 16) && (List.range ts.length).all (good c ts)
theorem isSet_bad {c : Int} {ts : List Tl} (h : ¬ (1 ≤ c ∧ c ≤ 6)) : isSet c ts = false := by simp [isSet, h]
theorem isSet_long {c : Int} {ts : List Tl} (h : ¬ ts.length ≤ 16) : isSet c ts = false := by simp [isSet, h]
theorem isSet_at {c : Int} {ts : List Tl} {k : Nat} (hk : k < ts.length) (h : good c ts k = false) : isSet c ts = false := by
  have : (List.range ts.length).all (good c ts) = false := by
    rw [List.all_eq_false]
    exact ⟨k, List.mem_range.2 hk, by simp [h]⟩
  simp [isSet, this]
theorem isSet_all {c : Int} {ts : List Tl} (hc : 1 ≤ c ∧ c ≤ 6) (hl : ts.length ≤ 16) (h : ∀ j, j < ts.length → good c ts j = true) : isSet c ts = true := by
  have : (List.range ts.length).all (good c ts) = true := List.all_eq_true.2 fun k hk => h k (List.mem_range.1 hk)
  simp [isSet, hc, hl, this]

/-- A box's cells, in whatever world has grown. -/
theorem Blk.grown {w : World} {g : Nat} {t : TypeId} {cs : Array Value} (h : Blk w g t cs) (q : Nat) (os : Array Obj) (i : Nat) {v : Value} (hv : cs[i]? = some v) : (grow (w.drewN q) os).cell? ⟨g, i, none⟩ = some v :=
  ((h.ext (⟨q, os, rfl⟩ : Ext w (grow (w.drewN q) os))).cell i).trans hv
/-- The tile at a place, in whatever world has grown. -/
theorem TR.at2 {w wr : World} {A : Option Addr} {ts : List Tl} (h : TR w w.heap.size A ts) (hx : Ext w wr) {k : Nat} (hk : k < ts.length) : ∃ b off, A = some ⟨b, off, none⟩ ∧ (∀ j, j < ts.length → ∀ q os, Cell4 (grow (wr.drewN q) os) b (off + j * 4) (ts.getD j T0)) := by
  obtain ⟨b, off, e, hb, hc⟩ := (h.ext hx (Nat.le_refl _)) (by omega)
  exact ⟨b, off, e, fun j hj q os => (hc j hj).keep fun i => cell?_grow _ _ _ (by show b < (wr.drewN q).heap.size; exact Nat.lt_of_lt_of_le hb (hx.below (Nat.le_refl _)).size)⟩

set_option maxRecDepth 100000 in
set_option maxHeartbeats 1000000 in
theorem l01Is_any (c0 : Int) (A : Option Addr) (n c : Nat) (ts : List Tl) (w : World) (hn : n ≤ 1152921504606846976) (hl : ts.length = n) (hA : TR w w.heap.size A ts) :
   Calls Try.prog 94 #[.agg #[.int .i64 c0, .slice A n c]] w fun e w' => e = .returned (.bool (isSet c0 ts)) ∧ Ext w w' := by
  by_cases hc1 : 1 ≤ c0 ∧ c0 ≤ 6
  · by_cases hn16 : n ≤ 16
    · obtain ⟨hc1, hc6⟩ := hc1
      go_enter Try.func94, Try.ntmps94
      have hd : decide (1 ≤ c0 ∧ c0 ≤ 6) = true := decide_eq_true ⟨hc1, hc6⟩
      go_wp2_with (go_at_call 79; refine (l01In_any _ _ _ _).mono ?_; rintro e w' ⟨rfl, rfl⟩)
      go_loopw [3] (fun i wr => ∃ k : Nat, k ≤ n ∧ i = .int .i64 k ∧ (∀ j, j < k → good c0 ts j = true) ∧ Ext (w.alloc (.cells #[.int .i64 c0, .slice A n c] 30)) wr) (fun i _ => n - (intOf i).toNat)
      case atStart => exact ⟨0, Nat.zero_le _, rfl, fun j hj => absurd hj (Nat.not_lt_zero _), Ext.refl _⟩
      case round =>
        obtain ⟨k, hk, rfl, heq, hx⟩ := hrel
        have H := Lib.hid heq
        have HX := Lib.hid hx
        clear heq
        have hB : Blk wr w.heap.size 30 #[.int .i64 c0, .slice A n c] := (Blk.new w _ _).ext hx
        by_cases hlt : k < n
        · obtain ⟨b, off, rfl, hc⟩ := hA.at2 (((Ext.refl w).alloc _).trans hx) (k := k) (by omega)
          have s0 := fun q os => hB.grown q os 0 (v := .int .i64 c0) rfl
          have s1 := fun q os => hB.grown q os 1 (v := .slice (some ⟨b, off, none⟩) n c) rfl
          have r1 : wr.cell? ⟨w.heap.size, 1, none⟩ = some (.slice (some ⟨b, off, none⟩) n c) := hB.cell 1
          obtain ⟨⟨y0, y1, y2, y3⟩, hY⟩ : ∃ x, x = ts.getD k T0 := ⟨_, rfl⟩
          have hk4 := hc k (by omega)
          rw [← hY] at hk4
          simp only [Cell4, forall_and] at hk4
          obtain ⟨d0, d1, d2, d3⟩ := hk4
          have hcon : ∀ W, Calls Try.prog 137 _ W _ := fun W => l01Tile_any c0 (y0, y1, y2, y3) W hc1 hc6
          unfold Ext tv at hcon
          generalize hr : tileOk c0 (y0, y1, y2, y3) = r at hcon
          have HR := Lib.hid hr
          have HY := Lib.hid hY
          clear hr hY hB hx hA
          rcases k with _ | k
          · clear hc
            simp only [Nat.zero_mul, Nat.add_zero] at d0 d1 d2 d3
            by_cases hr : r = true
            · subst hr
              go_wp2_with fail
              refine wp_region_quiet_grown mixed (by kernel_rfl) ?_
              repeat (go_big_quiet_step ((go_at_call 137; refine Calls.grown_of (hcon _))))
              refine wpQuiet_nil ?_
              intro _ hw'
              obtain ⟨⟨nq, osq⟩, hw''⟩ := hw'
              subst hw''
              clear hcon s0 s1 r1 d0 d1 d2 d3
              go_wp2_with fail
              refine ⟨⟨1, by omega, rfl, ?_, HX.out.trans ⟨nq, osq, rfl⟩⟩, by simp [intOf]; omega⟩
              intro j hj
              obtain rfl : j = 0 := by omega
              have := HR.out
              rw [HY.out] at this
              exact good_zero this
            · obtain rfl : r = false := by simpa using hr
              go_wp2_with fail
              refine wp_region_quiet_grown mixed (by kernel_rfl) ?_
              repeat (go_big_quiet_step ((go_at_call 137; refine Calls.grown_of (hcon _))))
              refine wpQuiet_nil ?_
              intro _ hw'
              obtain ⟨⟨nq, osq⟩, hw''⟩ := hw'
              subst hw''
              clear hcon s0 s1 r1 d0 d1 d2 d3
              go_wp2_with fail
              go_ret
              refine ⟨ret_b (isSet_at (k := 0) (by omega) ?_).symm, ((Ext.refl w).alloc _).trans (HX.out.trans ⟨nq, osq, rfl⟩)⟩
              have := HR.out
              rw [HY.out] at this
              exact good_bad this
          · have hp4 := hc k (by omega)
            clear hc
            obtain ⟨⟨x0, x1, x2, x3⟩, hX⟩ : ∃ x, x = ts.getD k T0 := ⟨_, rfl⟩
            rw [← hX] at hp4
            simp only [Cell4, forall_and] at hp4
            obtain ⟨e0, e1, e2, e3⟩ := hp4
            have HXe := Lib.hid hX
            clear hX
            have hcon2 : ∀ W, Calls Try.prog 138 _ W _ := fun W => before_any (x0, x1, x2, x3) (y0, y1, y2, y3) W
            unfold Ext tv at hcon2
            generalize hr2 : before (x0, x1, x2, x3) (y0, y1, y2, y3) = r2 at hcon2
            have HR2 := Lib.hid hr2
            clear hr2
            by_cases hr : r = true
            · subst hr
              go_wp2_with fail
              refine wp_region_quiet_grown mixed (by kernel_rfl) ?_
              repeat (go_big_quiet_step ((first | (go_at_call 137; refine Calls.grown_of (hcon _)) | (go_at_call 138; refine Calls.grown_of (hcon2 _)))))
              refine wpQuiet_nil ?_
              intro _ hw'
              obtain ⟨⟨nq, osq⟩, hw''⟩ := hw'
              subst hw''
              clear hcon hcon2 s0 s1 r1 d0 d1 d2 d3 e0 e1 e2 e3
              go_wp2_with fail
              · go_ret
                have hr2 : r2 = false := by simp_all
                refine ⟨ret_b (isSet_at (k := k + 1) (by omega) ?_).symm, ((Ext.refl w).alloc _).trans (HX.out.trans ⟨nq, osq, rfl⟩)⟩
                have h1 := HR.out
                rw [HY.out] at h1
                have h2 := HR2.out
                rw [HY.out, HXe.out, hr2] at h2
                exact good_suc h1 h2
              · have hr2 : r2 = true := by simp_all
                refine ⟨⟨k + 1 + 1, by omega, by go_num, ?_, HX.out.trans ⟨nq, osq, rfl⟩⟩, by simp [intOf]; omega⟩
                intro j hj
                by_cases hjk : j = k + 1
                · subst hjk
                  have h1 := HR.out
                  rw [HY.out] at h1
                  have h2 := HR2.out
                  rw [HY.out, HXe.out, hr2] at h2
                  exact good_suc h1 h2
                · exact H.out j (by omega)
            · obtain rfl : r = false := by simpa using hr
              go_wp2_with fail
              refine wp_region_quiet_grown mixed (by kernel_rfl) ?_
              repeat (go_big_quiet_step ((go_at_call 137; refine Calls.grown_of (hcon _))))
              refine wpQuiet_nil ?_
              intro _ hw'
              obtain ⟨⟨nq, osq⟩, hw''⟩ := hw'
              subst hw''
              clear hcon hcon2 s0 s1 r1 d0 d1 d2 d3 e0 e1 e2 e3
              go_wp2_with fail
              go_ret
              refine ⟨ret_b (isSet_at (k := k + 1) (by omega) ?_).symm, ((Ext.refl w).alloc _).trans (HX.out.trans ⟨nq, osq, rfl⟩)⟩
              have := HR.out
              rw [HY.out] at this
              exact good_bad this
        · clear hx hA
          have r1 := hB.cell 1
          simp at r1
          go_wp2_with fail
          go_ret
          refine ⟨ret_b (isSet_all ⟨hc1, hc6⟩ (by omega) (fun j hj => H.out j (by omega))).symm, ((Ext.refl w).alloc _).trans HX.out⟩
    · go_enter Try.func94, Try.ntmps94
      have hd : decide (1 ≤ c0 ∧ c0 ≤ 6) = true := decide_eq_true hc1
      go_wp2_with (go_at_call 79; refine (l01In_any _ _ _ _).mono ?_; rintro e w' ⟨rfl, rfl⟩)
      go_ret
      exact ⟨ret_b (isSet_long (by omega)).symm, by repeat (first | exact Ext.refl _ | refine Ext.drewN ?_ _ | refine Ext.alloc ?_ _ | refine Ext.drew ?_)⟩
  · go_enter Try.func94, Try.ntmps94
    have hd : decide (1 ≤ c0 ∧ c0 ≤ 6) = false := decide_eq_false hc1
    go_wp2_with (go_at_call 79; refine (l01In_any _ _ _ _).mono ?_; rintro e w' ⟨rfl, rfl⟩)
    all_goals go_ret
    all_goals exact ⟨ret_b (isSet_bad hc1).symm, by repeat (first | exact Ext.refl _ | refine Ext.drewN ?_ _ | refine Ext.alloc ?_ _ | refine Ext.drew ?_)⟩
end

section
set_option linter.unusedVariables false
set_option linter.unusedSimpArgs false
open Go.RowKit Go.Sort

theorem cmpT_before {a b : Tl} : (decide (0 ≤ cmpT a b)) = !before a b := by
  unfold cmpT
  by_cases h : before a b = true
  · simp [h]
  · have h' : before a b = false := by simpa using h
    by_cases g : before b a = true <;> simp [h', g]

set_option maxRecDepth 100000 in
set_option maxHeartbeats 1000000 in
theorem isSet_any (c0 : Int) (A : Option Addr) (n c : Nat) (ts : List Tl) (w : World) (hn : n ≤ 1152921504606846976) (hl : ts.length = n) (hA : TR w w.heap.size A ts) :
   Calls Try.prog 82 #[.agg #[.int .i64 c0, .slice A n c]] w fun e w' => e = .returned (.bool (isSet c0 ts)) ∧ Ext w w' := by
  by_cases hc1 : 1 ≤ c0 ∧ c0 ≤ 6
  · by_cases hn16 : n ≤ 16
    · obtain ⟨hc1, hc6⟩ := hc1
      go_enter Try.func82, Try.ntmps82
      have hd : decide (1 ≤ c0 ∧ c0 ≤ 6) = true := decide_eq_true ⟨hc1, hc6⟩
      go_wp2_with (go_at_call 123; refine (isColour_any _ _).mono ?_; rintro e w' ⟨rfl, rfl⟩)
      go_loopw [18] (fun i wr => ∃ k : Nat, k ≤ n ∧ i = .int .i64 k ∧ (∀ j, j < k → good c0 ts j = true) ∧ Ext (w.alloc (.cells #[.int .i64 c0, .slice A n c] 30)) wr) (fun i _ => n - (intOf i).toNat)
      case atStart => exact ⟨0, Nat.zero_le _, rfl, fun j hj => absurd hj (Nat.not_lt_zero _), Ext.refl _⟩
      case round =>
        obtain ⟨k, hk, rfl, heq, hx⟩ := hrel
        have H := Lib.hid heq
        have HX := Lib.hid hx
        clear heq
        have hB : Blk wr w.heap.size 30 #[.int .i64 c0, .slice A n c] := (Blk.new w _ _).ext hx
        by_cases hlt : k < n
        · obtain ⟨⟨y0, y1, y2, y3⟩, hY⟩ : ∃ x, x = ts.getD k T0 := ⟨_, rfl⟩
          have hx1 : Ext (w.alloc (.cells #[.int .i64 c0, .slice A n c] 30)) (wr.alloc (.cells #[.int .i64 y0, .int .i64 y1, .int .i64 y2, .int .i64 y3] 69)) := hx.alloc _
          have hB1 := (Blk.new w _ _).ext hx1
          have hT1 := Blk.new wr 69 #[.int .i64 y0, .int .i64 y1, .int .i64 y2, .int .i64 y3]
          obtain ⟨b, off, rfl, hc⟩ := hA.at2 (((Ext.refl w).alloc _).trans hx1) (k := k) (by omega)
          have hk0 : Cell4 wr b (off + k * 4) (ts.getD k T0) := by
            obtain ⟨b', off', e', hc'⟩ := hA.at2 (((Ext.refl w).alloc _).trans hx) (k := k) (by omega)
            cases e'
            have := hc' k (by omega) 0 #[]
            simpa [World.drewN] using this
          rw [← hY] at hk0
          obtain ⟨q0, q1, q2, q3⟩ := hk0
          simp only at q0 q1 q2 q3
          have s0 := fun q os => hB1.grown q os 0 (v := .int .i64 c0) rfl
          have s1 := fun q os => hB1.grown q os 1 (v := .slice (some ⟨b, off, none⟩) n c) rfl
          have t0 := fun q os => hT1.grown q os 0 (v := .int .i64 y0) rfl
          have t1 := fun q os => hT1.grown q os 1 (v := .int .i64 y1) rfl
          have t2 := fun q os => hT1.grown q os 2 (v := .int .i64 y2) rfl
          have t3 := fun q os => hT1.grown q os 3 (v := .int .i64 y3) rfl
          have hcon : ∀ W, Calls Try.prog 124 _ W _ := fun W => hasColours_any c0 (y0, y1, y2, y3) W
          unfold Ext tv at hcon
          generalize hr : tileOk c0 (y0, y1, y2, y3) = r at hcon
          have HR := Lib.hid hr
          have HY := Lib.hid hY
          clear hr hY hB hx hA hx1 hB1 hT1
          have hfin : ∀ nq osq, Ext (w.alloc (.cells #[.int .i64 c0, .slice (some ⟨b, off, none⟩) n c] 30)) (grow ((wr.alloc (.cells #[.int .i64 y0, .int .i64 y1, .int .i64 y2, .int .i64 y3] 69)).drewN nq) osq) := fun nq osq => (HX.out.alloc _).trans ⟨nq, osq, rfl⟩
          have HF := Lib.hid hfin
          clear hfin
          rcases k with _ | k
          · clear hc
            simp only [Nat.zero_mul, Nat.add_zero] at q0 q1 q2 q3
            by_cases hr : r = true
            · subst hr
              go_wp2_with fail
              clear q0 q1 q2 q3
              refine wp_region_quiet_grown mixed (by kernel_rfl) ?_
              repeat (go_big_quiet_step ((go_at_call 124; refine Calls.grown_of (hcon _))))
              refine wpQuiet_nil ?_
              intro _ hw'
              obtain ⟨⟨nq, osq⟩, hw''⟩ := hw'
              subst hw''
              clear hcon s0 s1 t0 t1 t2 t3
              go_wp2_with fail
              refine ⟨⟨1, by omega, rfl, ?_, HF.out _ _⟩, by simp [intOf]; omega⟩
              intro j hj
              obtain rfl : j = 0 := by omega
              have := HR.out
              rw [HY.out] at this
              exact good_zero this
            · obtain rfl : r = false := by simpa using hr
              go_wp2_with fail
              clear q0 q1 q2 q3
              refine wp_region_quiet_grown mixed (by kernel_rfl) ?_
              repeat (go_big_quiet_step ((go_at_call 124; refine Calls.grown_of (hcon _))))
              refine wpQuiet_nil ?_
              intro _ hw'
              obtain ⟨⟨nq, osq⟩, hw''⟩ := hw'
              subst hw''
              clear hcon s0 s1 t0 t1 t2 t3
              go_wp2_with fail
              go_ret
              refine ⟨ret_b (isSet_at (k := 0) (by omega) ?_).symm, ((Ext.refl w).alloc _).trans (HF.out _ _)⟩
              have := HR.out
              rw [HY.out] at this
              exact good_bad this
          · have hp4 := hc k (by omega)
            clear hc
            obtain ⟨⟨x0, x1, x2, x3⟩, hX⟩ : ∃ x, x = ts.getD k T0 := ⟨_, rfl⟩
            rw [← hX] at hp4
            simp only [Cell4, forall_and] at hp4
            obtain ⟨e0, e1, e2, e3⟩ := hp4
            have HXe := Lib.hid hX
            clear hX
            have hcon2 : ∀ W, Calls Try.prog 125 _ W _ := fun W => compareTiles_any (x0, x1, x2, x3) (y0, y1, y2, y3) W
            unfold Ext tv at hcon2
            generalize hz : cmpT (x0, x1, x2, x3) (y0, y1, y2, y3) = z at hcon2
            have HZ := Lib.hid hz
            clear hz
            by_cases hr : r = true
            · subst hr
              go_wp2_with fail
              clear q0 q1 q2 q3
              refine wp_region_quiet_grown mixed (by kernel_rfl) ?_
              repeat (go_big_quiet_step ((first | (go_at_call 124; refine Calls.grown_of (hcon _)) | (go_at_call 125; refine Calls.grown_of (hcon2 _)))))
              refine wpQuiet_nil ?_
              intro _ hw'
              obtain ⟨⟨nq, osq⟩, hw''⟩ := hw'
              subst hw''
              clear hcon hcon2 s0 s1 t0 t1 t2 t3 e0 e1 e2 e3
              go_wp2_with fail
              · have hz : 0 ≤ z := by assumption
                go_ret
                refine ⟨ret_b (isSet_at (k := k + 1) (by omega) ?_).symm, ((Ext.refl w).alloc _).trans (HF.out _ _)⟩
                have h1 := HR.out
                rw [HY.out] at h1
                have h2 := HZ.out
                rw [HY.out, HXe.out] at h2
                refine good_suc h1 ?_
                have := cmpT_before (a := ts.getD k T0) (b := ts.getD (k + 1) T0)
                rw [h2, decide_eq_true hz] at this
                simpa using this.symm
              · have hz : z < 0 := by assumption
                refine ⟨⟨k + 1 + 1, by omega, by go_num, ?_, HF.out _ _⟩, by simp [intOf]; omega⟩
                intro j hj
                by_cases hjk : j = k + 1
                · subst hjk
                  have h1 := HR.out
                  rw [HY.out] at h1
                  have h2 := HZ.out
                  rw [HY.out, HXe.out] at h2
                  refine good_suc h1 ?_
                  have := cmpT_before (a := ts.getD k T0) (b := ts.getD (k + 1) T0)
                  rw [h2, decide_eq_false (by omega)] at this
                  simpa using this.symm
                · exact H.out j (by omega)
            · obtain rfl : r = false := by simpa using hr
              go_wp2_with fail
              clear q0 q1 q2 q3
              refine wp_region_quiet_grown mixed (by kernel_rfl) ?_
              repeat (go_big_quiet_step ((go_at_call 124; refine Calls.grown_of (hcon _))))
              refine wpQuiet_nil ?_
              intro _ hw'
              obtain ⟨⟨nq, osq⟩, hw''⟩ := hw'
              subst hw''
              clear hcon hcon2 s0 s1 t0 t1 t2 t3 e0 e1 e2 e3
              go_wp2_with fail
              go_ret
              refine ⟨ret_b (isSet_at (k := k + 1) (by omega) ?_).symm, ((Ext.refl w).alloc _).trans (HF.out _ _)⟩
              have := HR.out
              rw [HY.out] at this
              exact good_bad this
        · clear hx hA
          have r1 := hB.cell 1
          simp at r1
          go_wp2_with fail
          go_ret
          refine ⟨ret_b (isSet_all ⟨hc1, hc6⟩ (by omega) (fun j hj => H.out j (by omega))).symm, ((Ext.refl w).alloc _).trans HX.out⟩
    · go_enter Try.func82, Try.ntmps82
      have hd : decide (1 ≤ c0 ∧ c0 ≤ 6) = true := decide_eq_true hc1
      go_wp2_with (go_at_call 123; refine (isColour_any _ _).mono ?_; rintro e w' ⟨rfl, rfl⟩)
      go_ret
      exact ⟨ret_b (isSet_long (by omega)).symm, by repeat (first | exact Ext.refl _ | refine Ext.drewN ?_ _ | refine Ext.alloc ?_ _ | refine Ext.drew ?_ | refine Ext.grow ?_ _)⟩
  · go_enter Try.func82, Try.ntmps82
    have hd : decide (1 ≤ c0 ∧ c0 ≤ 6) = false := decide_eq_false hc1
    go_wp2_with (go_at_call 123; refine (isColour_any _ _).mono ?_; rintro e w' ⟨rfl, rfl⟩)
    all_goals go_ret
    all_goals exact ⟨ret_b (isSet_bad hc1).symm, by repeat (first | exact Ext.refl _ | refine Ext.drewN ?_ _ | refine Ext.alloc ?_ _ | refine Ext.drew ?_ | refine Ext.grow ?_ _)⟩
end
end Go.Proofs.Ytleabblnikbmpaa
