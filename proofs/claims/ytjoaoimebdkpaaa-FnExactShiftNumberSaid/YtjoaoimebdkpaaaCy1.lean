/- Cylinders and tori: the program's side. -/
import Derived.Test.YtjoaoimebdkpaaaFil5
import Derived.Test.YtjoaoimebdkpaaaRow2
namespace Go.Proofs.Ytjoaoimebdkpaaa
set_option linter.unusedVariables false
set_option linter.unusedSimpArgs false
open Go.RowKit Go.Sort

/-- Row y goes around. -/
def rndY (ts : List Tl) (rs : List (List Int)) (y : Nat) : Bool := decide ((tat ts rs y ((rs.getD y []).length - 1)).2.2.1 = (tat ts rs y 0).1)
def rndB (ts : List Tl) (rs : List (List Int)) : Bool := (List.range rs.length).all (rndY ts rs)
/-- Column x goes around. -/
def colX (ts : List Tl) (rs : List (List Int)) (x : Nat) : Bool := decide ((tat ts rs (rs.length - 1) x).2.2.2 = (tat ts rs 0 x).2.1)
def colB (ts : List Tl) (rs : List (List Int)) : Bool := (List.range (rs.getD 0 []).length).all (colX ts rs)
theorem allB_no {n k : Nat} {f : Nat → Bool} (hk : k < n) (h : f k = false) : (List.range n).all f = false := by
  rw [List.all_eq_false]
  exact ⟨k, List.mem_range.2 hk, by rw [h]; decide⟩
theorem allB_yes {n : Nat} {f : Nat → Bool} (h : ∀ k, k < n → f k = true) : (List.range n).all f = true := List.all_eq_true.2 fun k hk => h k (List.mem_range.1 hk)
theorem natOf {v : Int} {n : Nat} (h : 0 ≤ v ∧ v < n) : ∃ i : Nat, v = (i : Int) ∧ i < n := ⟨v.toNat, by omega, by omega⟩
def cylAns (c0 : Int) (ts : List Tl) (rs : List (List Int)) : Bool := fillAns c0 ts rs && rndB ts rs
def torAns (c0 : Int) (ts : List Tl) (rs : List (List Int)) : Bool := cylAns c0 ts rs && colB ts rs
theorem rowsOk_of_fill {c0 : Int} {ts : List Tl} {rs : List (List Int)} (h : fillAns c0 ts rs = true) : rowsOk ts rs = true := by
  unfold fillAns at h
  simp only [Bool.and_eq_true] at h
  exact h.2.1

set_option maxRecDepth 100000 in
set_option maxHeartbeats 4000000 in
theorem goesAround_any (c0 : Int) (A : Option Addr) (n c : Nat) (ts : List Tl) (B : Option Addr) (m d : Nat) (xs : List Int) (w : World) (hn : n ≤ 1048576) (hl : ts.length = n) (hA : TR w w.heap.size A ts) (hm0 : 1 ≤ m) (hm : m ≤ 1048576) (hlx : xs.length = m) (hB : IR w w.heap.size B xs) (hin : ∀ k, k < m → 0 ≤ xs.getD k 0 ∧ xs.getD k 0 < (n : Int)) :
    Calls Try.prog 118 #[.agg #[.int .i64 c0, .slice A n c], .slice B m d] w fun e w' => e = .returned (.bool (decide ((ts.getD (xs.getD (m - 1) 0).toNat T0).2.2.1 = (ts.getD (xs.getD 0 0).toNat T0).1))) ∧ Ext w w' := by
  obtain ⟨b, o, rfl, hb, hc⟩ := hB (by omega)
  obtain ⟨m, rfl⟩ : ∃ k, m = k + 1 := ⟨m - 1, by omega⟩
  rw [Nat.add_sub_cancel]
  have p0 := hc 0 (by omega)
  have p1 := hc m (by omega)
  rw [Nat.add_zero] at p0
  obtain ⟨i, hi, hi2⟩ := natOf (hin m (by omega))
  obtain ⟨k, hk, hk2⟩ := natOf (hin 0 (by omega))
  rw [hi] at p1 ⊢
  rw [hk] at p0 ⊢
  rw [Int.toNat_natCast, Int.toNat_natCast]
  have hf : ∀ W, Ext w W → Calls Try.prog 115 #[.agg #[.int .i64 c0, .slice A n c], .int .i64 (i : Int), .int .i64 2, .int .i64 (k : Int)] W _ := fun W hW => fits_east c0 A n c ts i k W hn hl hi2 hk2 ((hA.ext hW (Nat.le_refl _)).more (hW.below (Nat.le_refl _)).size)
  generalize decide ((ts.getD i T0).2.2.1 = (ts.getD k T0).1) = r at hf ⊢
  have hE : Ext w (w.alloc (Obj.cells #[.int .i64 c0, .slice A n c] 32)) := (Ext.refl w).alloc _
  have hx := Blk.new w 32 #[.int .i64 c0, .slice A n c]
  have e0 := ((hE.below (Nat.le_refl _)).cell (p := ⟨b, o, none⟩) hb).trans p0
  have e1 := ((hE.below (Nat.le_refl _)).cell (p := ⟨b, o + m, none⟩) hb).trans p1
  have hwr : IntKind.i64.wrap (m : Int) = (m : Int) := IntWalk.i64_in _ (by omega)
  clear p0 p1 hc hA hin hlx hi hk
  go_enter Try.func118, Try.ntmps118
  go_wp2_with fail
  generalize w.alloc (Obj.cells #[.int .i64 c0, .slice A n c] 32) = W1 at *
  have HFE := Lib.hid (fun W (hW : Ext W1 W) => hf W (hE.trans hW))
  have HE := Lib.hid hE
  unfold Ext at HFE
  clear hf hE
  have s0 := fun q os => hx.grown q os 0 (v := .int .i64 c0) rfl
  have s1 := fun q os => hx.grown q os 1 (v := .slice A n c) rfl
  have g0 := fun dn os => (cell?_grow (W1.drewN dn) os ⟨b, o, none⟩ (by have := World.block_lt_of_cell? W1 _ e0; exact this)).trans e0
  have g1 := fun dn os => (cell?_grow (W1.drewN dn) os ⟨b, o + m, none⟩ (by have := World.block_lt_of_cell? W1 _ e1; exact this)).trans e1
  clear e0 e1
  refine wp_region_quiet_grown mixed (by kernel_rfl) ?_
  repeat (go_big_quiet_step ((((first | (go_at_call 115; with_reducible refine Calls.grown_of (HFE.out _ ⟨_, _, rfl⟩)))))))
  refine wpQuiet_nil ?_
  intro _ hw'
  obtain ⟨⟨nq, osq⟩, hw''⟩ := hw'
  subst hw''
  clear s0 s1 g0 g1 hwr
  go_wp2_with fail
  go_ret
  exact ⟨rfl, HE.out.trans ⟨nq, osq, rfl⟩⟩

set_option maxRecDepth 100000 in
set_option maxHeartbeats 4000000 in
theorem rowsGo_any (c0 : Int) (A : Option Addr) (n c : Nat) (ts : List Tl) (B : Option Addr) (m d : Nat) (rs : List (List Int)) (w : World) (hn : n ≤ 1048576) (hl : ts.length = n) (hA : TR w w.heap.size A ts) (hm : m ≤ 1048576) (hlr : rs.length = m) (hB : IRR w w.heap.size B rs) (hok : rowsOk ts rs = true) :
    Calls Try.prog 64 #[.agg #[.int .i64 c0, .slice A n c], .slice B m d] w fun e w' => e = .returned (.bool (rndB ts rs)) ∧ Ext w w' := by
  have hm1 : 1 ≤ m ∧ m ≤ 8 := by
    have h := hok
    simp only [rowsOk, Bool.and_eq_true, decide_eq_true_eq] at h
    omega
  obtain ⟨hm1, hm8⟩ := hm1
  obtain ⟨b, o, rfl, hb0, hcr⟩ := hB (by omega)
  generalize hR : rndB ts rs = R
  have HR := Lib.hid hR
  have HOK := Lib.hid hok
  clear hR hok
  go_enter Try.func64, Try.ntmps64
  go_wp2_with fail
  have hE1 : Ext w (w.alloc (Obj.cells #[.int .i64 c0, .slice A n c] 32)) := (Ext.refl w).alloc _
  have hB1 := Blk.new w 32 #[.int .i64 c0, .slice A n c]
  generalize w.alloc (Obj.cells #[.int .i64 c0, .slice A n c] 32) = w1 at *
  have HE1 := Lib.hid hE1
  have HB1 := Lib.hid hB1
  clear hE1 hB1
  go_loopw [9] (fun i wr => ∃ k : Nat, k ≤ m ∧ i = .int .i64 k ∧ (∀ y, y < k → rndY ts rs y = true) ∧ Ext w1 wr) (fun i _ => m - (intOf i).toNat)
  case atStart => exact ⟨0, Nat.zero_le _, rfl, fun j hj => absurd hj (Nat.not_lt_zero _), Ext.refl _⟩
  case round =>
    obtain ⟨k, hk, rfl, heq, hx⟩ := hrel
    have H := Lib.hid heq
    have HX := Lib.hid hx
    clear heq hx
    by_cases hlt : k < m
    · obtain ⟨Q, q, hcQ, hqq, hir⟩ := hcr k (by omega)
      have hE := HE1.out.trans HX.out
      have ek := ((hE.below (Nat.le_refl _)).cell (p := ⟨b, o + k, none⟩) hb0).trans hcQ
      have hsame := rowsOk_same HOK.out (y := k) (by omega)
      have hw8 : 1 ≤ (rs.getD k []).length ∧ (rs.getD k []).length ≤ 8 := by
        have h := HOK.out
        simp only [rowsOk, Bool.and_eq_true, decide_eq_true_eq] at h
        omega
      have hgo : ∀ W, Ext wr W → Calls Try.prog 118 #[.agg #[.int .i64 c0, .slice A n c], .slice Q (rs.getD k []).length q] W _ := fun W hW => goesAround_any c0 A n c ts Q (rs.getD k []).length q (rs.getD k []) W hn hl ((hA.ext (hE.trans hW) (Nat.le_refl _)).more ((hE.trans hW).below (Nat.le_refl _)).size) hw8.1 (by omega) rfl ((hir.ext (hE.trans hW) (Nat.le_refl _)).more ((hE.trans hW).below (Nat.le_refl _)).size) (fun j hj => by have := rowsOk_in HOK.out (y := k) (x := j) (by omega) hj; omega)
      have hrk : decide ((ts.getD ((rs.getD k []).getD ((rs.getD k []).length - 1) 0).toNat T0).2.2.1 = (ts.getD ((rs.getD k []).getD 0 0).toNat T0).1) = rndY ts rs k := rfl
      rw [hrk] at hgo
      have q0 := ((HB1.out.ext HX.out)).rd 0 rfl
      have q1 := ((HB1.out.ext HX.out)).rd 1 rfl
      generalize (rs.getD k []).length = mk at *
      have HG := Lib.hid hgo
      clear hgo hcQ hsame hw8 hrk hE hir
      cases hr : rndY ts rs k with
      | true =>
        rw [hr] at HG
        have HRK := Lib.hid hr
        clear hr
        go_wp2_with fail
        refine (HG.out _ (Ext.refl _)).mono ?_
        rintro e w2 ⟨rfl, hx2⟩
        have HX2 := Lib.hid (HX.out.trans hx2)
        clear hx2 q0 q1 ek HG
        go_wp2_with fail
        go_roundw
        case rel =>
          refine ⟨k + 1, by omega, by go_num, fun y hy => ?_, HX2.out⟩
          by_cases hyk : y = k
          · subst hyk; exact HRK.out
          · exact H.out y (by omega)
        case measure => simp [intOf]; omega
      | false =>
        rw [hr] at HG
        have HRK := Lib.hid hr
        clear hr
        go_wp2_with fail
        refine (HG.out _ (Ext.refl _)).mono ?_
        rintro e w2 ⟨rfl, hx2⟩
        have HX2 := Lib.hid (HX.out.trans hx2)
        clear hx2 q0 q1 ek HG
        go_wp2_with fail
        go_ret
        exact ⟨ret_b (by rw [← HR.out]; exact (allB_no (by omega) HRK.out).symm), HE1.out.trans HX2.out⟩
    · obtain rfl : k = m := by omega
      go_wp2_with fail
      go_ret
      exact ⟨ret_b (by rw [← HR.out]; exact (allB_yes (fun y hy => H.out y (by omega))).symm), HE1.out.trans HX.out⟩

set_option maxRecDepth 100000 in
set_option maxHeartbeats 4000000 in
theorem colsGo_any (c0 : Int) (A : Option Addr) (n c : Nat) (ts : List Tl) (B : Option Addr) (m d : Nat) (rs : List (List Int)) (w : World) (hn : n ≤ 1048576) (hl : ts.length = n) (hA : TR w w.heap.size A ts) (hm : m ≤ 1048576) (hlr : rs.length = m) (hB : IRR w w.heap.size B rs) (hok : rowsOk ts rs = true) :
    Calls Try.prog 59 #[.agg #[.int .i64 c0, .slice A n c], .slice B m d] w fun e w' => e = .returned (.bool (colB ts rs)) ∧ Ext w w' := by
  have hm1 : (1 ≤ m ∧ m ≤ 8) ∧ 1 ≤ (rs.getD 0 []).length ∧ (rs.getD 0 []).length ≤ 8 := by
    have h := hok
    simp only [rowsOk, Bool.and_eq_true, decide_eq_true_eq] at h
    omega
  obtain ⟨⟨hm1, hm8⟩, hw1, hw8⟩ := hm1
  obtain ⟨b, o, rfl, hb0, hcr⟩ := hB (by omega)
  obtain ⟨m, rfl⟩ : ∃ k, m = k + 1 := ⟨m - 1, by omega⟩
  generalize hR : colB ts rs = R
  have HR := Lib.hid hR
  have HOK := Lib.hid hok
  have hsm := rowsOk_same hok (y := m) (by omega)
  obtain ⟨Q, q, hcQ, -, hir⟩ := hcr m (by omega)
  obtain ⟨Q0, q0, hcQ0, -, hir0⟩ := hcr 0 (by omega)
  rw [hsm] at hcQ
  rw [Nat.add_zero] at hcQ0
  have hlr1 : rs.length - 1 = m := by omega
  generalize hM : (rs.getD 0 []).length = mk at *
  have HM := Lib.hid hM
  have HSM := Lib.hid hsm
  have HL1 := Lib.hid hlr1
  have hwr : IntKind.i64.wrap (m : Int) = (m : Int) := IntWalk.i64_in _ (by omega)
  clear hR hok hcr hM hsm hlr1
  go_enter Try.func59, Try.ntmps59
  have hE1 : Ext w (w.alloc (Obj.cells #[.int .i64 c0, .slice A n c] 32)) := (Ext.refl w).alloc _
  have hB1 := Blk.new w 32 #[.int .i64 c0, .slice A n c]
  have ek := ((hE1.below (Nat.le_refl _)).cell (p := ⟨b, o + m, none⟩) hb0).trans hcQ
  go_wp2_with fail
  clear ek
  generalize w.alloc (Obj.cells #[.int .i64 c0, .slice A n c] 32) = w1 at *
  have HE1 := Lib.hid hE1
  have HB1 := Lib.hid hB1
  clear hE1 hB1
  go_loopw [14] (fun i wr => ∃ k : Nat, k ≤ mk ∧ i = .int .i64 k ∧ (∀ y, y < k → colX ts rs y = true) ∧ Ext w1 wr) (fun i _ => mk - (intOf i).toNat)
  case atStart => exact ⟨0, Nat.zero_le _, rfl, fun j hj => absurd hj (Nat.not_lt_zero _), Ext.refl _⟩
  case round =>
    obtain ⟨k, hk, rfl, heq, hx⟩ := hrel
    have H := Lib.hid heq
    have HX := Lib.hid hx
    clear heq hx
    by_cases hlt : k < mk
    · obtain ⟨bx, ox, rfl, hbx, hcx⟩ := hir (by rw [HSM.out]; omega)
      obtain ⟨by', oy, rfl, hby, hcy⟩ := hir0 (by rw [HM.out]; omega)
      have hE := HE1.out.trans HX.out
      have hrk : colX ts rs k = decide ((ts.getD ((rs.getD m []).getD k 0).toNat T0).2.2.2 = (ts.getD ((rs.getD 0 []).getD k 0).toNat T0).2.1) := by unfold colX tat; rw [HL1.out]
      have p1 := hcx k (by rw [HSM.out]; omega)
      have p2 := hcy k (by rw [HM.out]; omega)
      obtain ⟨i, hi, hi2⟩ := natOf (v := (rs.getD m []).getD k 0) (n := n) (by have := rowsOk_in HOK.out (y := m) (x := k) (by omega) (by rw [HSM.out]; omega); omega)
      obtain ⟨j, hj, hj2⟩ := natOf (v := (rs.getD 0 []).getD k 0) (n := n) (by have := rowsOk_in HOK.out (y := 0) (x := k) (by omega) (by rw [HM.out]; omega); omega)
      rw [hi] at p1 hrk
      rw [hj] at p2 hrk
      rw [Int.toNat_natCast, Int.toNat_natCast] at hrk
      have e1 := ((hE.below (Nat.le_refl _)).cell (p := ⟨bx, ox + k, none⟩) hbx).trans p1
      have e2 := ((hE.below (Nat.le_refl _)).cell (p := ⟨by', oy + k, none⟩) hby).trans p2
      have e3 := ((hE.below (Nat.le_refl _)).cell (p := ⟨b, o, none⟩) hb0).trans hcQ0
      have hf : ∀ W, Ext wr W → Calls Try.prog 115 #[.agg #[.int .i64 c0, .slice A n c], .int .i64 (i : Int), .int .i64 3, .int .i64 (j : Int)] W _ := fun W hW => fits_south c0 A n c ts i j W hn hl hi2 hj2 ((hA.ext (hE.trans hW) (Nat.le_refl _)).more ((hE.trans hW).below (Nat.le_refl _)).size)
      rw [← hrk] at hf
      have hbx2 := HB1.out.ext HX.out
      have hmi : (0 : Int) < (m : Int) + 1 := by omega
      clear p1 p2 hrk hi hj hE
      cases hr : colX ts rs k with
      | true =>
        rw [hr] at hf
        have HFE := Lib.hid hf
        unfold Ext at HFE
        have HRK := Lib.hid hr
        clear hr hf
        go_wp2_with fail
        have s0 := fun q os => hbx2.grown q os 0 (v := .int .i64 c0) rfl
        have s1 := fun q os => hbx2.grown q os 1 (v := .slice A n c) rfl
        have g2 := fun dn os => (cell?_grow (wr.drewN dn) os ⟨by', oy + k, none⟩ (by have := World.block_lt_of_cell? wr _ e2; exact this)).trans e2
        have g3 := fun dn os => (cell?_grow (wr.drewN dn) os ⟨b, o, none⟩ (by have := World.block_lt_of_cell? wr _ e3; exact this)).trans e3
        clear e1 e2 e3
        refine wp_region_quiet_grown mixed (by kernel_rfl) ?_
        repeat (go_big_quiet_step ((((first | (go_at_call 115; with_reducible refine Calls.grown_of (HFE.out _ ⟨_, _, rfl⟩)))))))
        refine wpQuiet_nil ?_
        intro _ hw'
        obtain ⟨⟨nq, osq⟩, hw''⟩ := hw'
        subst hw''
        clear s0 s1 g2 g3
        have HX2 := Lib.hid (HX.out.trans ⟨nq, osq, rfl⟩)
        go_wp2_with fail
        go_roundw
        case rel =>
          refine ⟨k + 1, by omega, by go_num, fun y hy => ?_, HX2.out⟩
          by_cases hyk : y = k
          · subst hyk; exact HRK.out
          · exact H.out y (by omega)
        case measure => simp [intOf]; omega
      | false =>
        rw [hr] at hf
        have HFE := Lib.hid hf
        unfold Ext at HFE
        have HRK := Lib.hid hr
        clear hr hf
        go_wp2_with fail
        have s0 := fun q os => hbx2.grown q os 0 (v := .int .i64 c0) rfl
        have s1 := fun q os => hbx2.grown q os 1 (v := .slice A n c) rfl
        have g2 := fun dn os => (cell?_grow (wr.drewN dn) os ⟨by', oy + k, none⟩ (by have := World.block_lt_of_cell? wr _ e2; exact this)).trans e2
        have g3 := fun dn os => (cell?_grow (wr.drewN dn) os ⟨b, o, none⟩ (by have := World.block_lt_of_cell? wr _ e3; exact this)).trans e3
        clear e1 e2 e3
        refine wp_region_quiet_grown mixed (by kernel_rfl) ?_
        repeat (go_big_quiet_step ((((first | (go_at_call 115; with_reducible refine Calls.grown_of (HFE.out _ ⟨_, _, rfl⟩)))))))
        refine wpQuiet_nil ?_
        intro _ hw'
        obtain ⟨⟨nq, osq⟩, hw''⟩ := hw'
        subst hw''
        clear s0 s1 g2 g3
        have HX2 := Lib.hid (HX.out.trans ⟨nq, osq, rfl⟩)
        go_wp2_with fail
        go_ret
        exact ⟨ret_b (by rw [← HR.out]; exact (allB_no (by rw [HM.out]; omega) HRK.out).symm), HE1.out.trans HX2.out⟩
    · obtain rfl : k = mk := by omega
      go_wp2_with fail
      go_ret
      exact ⟨ret_b (by rw [← HR.out]; exact (allB_yes (fun y hy => H.out y (by rw [HM.out] at hy; omega))).symm), HE1.out.trans HX.out⟩

set_option maxRecDepth 100000 in
set_option maxHeartbeats 4000000 in
theorem implCylinder_any (c0 : Int) (A : Option Addr) (n c : Nat) (ts : List Tl) (B : Option Addr) (m d : Nat) (rs : List (List Int)) (w : World) (hn : n ≤ 1048576) (hl : ts.length = n) (hA : TR w w.heap.size A ts) (hm : m ≤ 1048576) (hlr : rs.length = m) (hB : IRR w w.heap.size B rs) (hrow : ∀ k, k < m → (rs.getD k []).length ≤ 1048576) :
    Calls Try.prog 24 #[.agg #[.int .i64 c0, .slice A n c], .slice B m d] w (BoolRes w (cylAns c0 ts rs) (fillCode c0 ts rs)) := by
  have hif : ∀ W, Below w.heap.size w W → Calls Try.prog 63 #[.agg #[.int .i64 c0, .slice A n c], .slice B m d] W _ := fun W hW => implFilling_any c0 A n c ts B m d rs W hn hl ((hA.below hW (Nat.le_refl _)).more hW.size) hm hlr ((hB.below hW (Nat.le_refl _)).more hW.size) hrow
  have hgo : rowsOk ts rs = true → ∀ W, Below w.heap.size w W → Calls Try.prog 64 #[.agg #[.int .i64 c0, .slice A n c], .slice B m d] W _ := fun hok W hW => rowsGo_any c0 A n c ts B m d rs W hn hl ((hA.below hW (Nat.le_refl _)).more hW.size) hm hlr ((hB.below hW (Nat.le_refl _)).more hW.size) hok
  unfold cylAns
  cases hf : fillAns c0 ts rs with
  | false =>
    rw [hf] at hif
    rw [Bool.false_and]
    generalize fillCode c0 ts rs = code at hif ⊢
    have HI := Lib.hid hif
    clear hif hgo hf hA hB hrow
    go_enter Try.func24, Try.ntmps24
    go_wp2_with fail
    refine (HI.out _ (((Ext.refl w).alloc _).below (Nat.le_refl _))).mono ?_
    rintro e w1 ⟨rfl, hb⟩
    have HB := Lib.hid ((((Ext.refl w).alloc (Obj.cells #[.int .i64 c0, .slice A n c] 32)).below (Nat.le_refl w.heap.size)).trans (hb.mono (by simp)))
    clear hb
    go_wp2_with fail
    go_ret2
    exact BoolRes.mk rfl HB.out
  | true =>
    have hok : rowsOk ts rs = true := rowsOk_of_fill hf
    have hg := hgo hok
    rw [hf] at hif
    rw [Bool.true_and]
    generalize rndB ts rs = r at hg ⊢
    generalize fillCode c0 ts rs = code at hif ⊢
    have HI := Lib.hid hif
    have HG := Lib.hid hg
    clear hif hgo hg hf hA hB hrow hok
    go_enter Try.func24, Try.ntmps24
    go_wp2_with fail
    have hbk := Blk.new w 32 #[.int .i64 c0, .slice A n c]
    have hb0 := ((Ext.refl w).alloc (Obj.cells #[.int .i64 c0, .slice A n c] 32)).below (Nat.le_refl w.heap.size)
    generalize w.alloc (Obj.cells #[.int .i64 c0, .slice A n c] 32) = w0 at *
    have HB0 := Lib.hid hb0
    have HK0 := Lib.hid hbk
    clear hb0 hbk
    refine (HI.out _ HB0.out).mono ?_
    rintro e w1 ⟨rfl, hb⟩
    have HB := Lib.hid (HB0.out.trans (hb.mono HB0.out.size))
    have hk1 := HK0.out.below hb HK0.out.lt
    have q0 := hk1.rd 0 rfl
    have q1 := hk1.rd 1 rfl
    clear hb hk1
    go_wp2_with fail
    refine (HG.out _ HB.out).mono ?_
    rintro e w2 ⟨rfl, hx⟩
    have HB2 := Lib.hid (HB.out.trans (hx.below HB.out.size))
    clear hx q0 q1
    go_wp2_with fail
    go_ret2
    exact BoolRes.mk (by cases r <;> rfl) HB2.out

set_option maxRecDepth 100000 in
set_option maxHeartbeats 4000000 in
theorem implTorus_any (c0 : Int) (A : Option Addr) (n c : Nat) (ts : List Tl) (B : Option Addr) (m d : Nat) (rs : List (List Int)) (w : World) (hn : n ≤ 1048576) (hl : ts.length = n) (hA : TR w w.heap.size A ts) (hm : m ≤ 1048576) (hlr : rs.length = m) (hB : IRR w w.heap.size B rs) (hrow : ∀ k, k < m → (rs.getD k []).length ≤ 1048576) :
    Calls Try.prog 20 #[.agg #[.int .i64 c0, .slice A n c], .slice B m d] w (BoolRes w (torAns c0 ts rs) (fillCode c0 ts rs)) := by
  have hif : ∀ W, Below w.heap.size w W → Calls Try.prog 24 #[.agg #[.int .i64 c0, .slice A n c], .slice B m d] W _ := fun W hW => implCylinder_any c0 A n c ts B m d rs W hn hl ((hA.below hW (Nat.le_refl _)).more hW.size) hm hlr ((hB.below hW (Nat.le_refl _)).more hW.size) hrow
  have hgo : rowsOk ts rs = true → ∀ W, Below w.heap.size w W → Calls Try.prog 59 #[.agg #[.int .i64 c0, .slice A n c], .slice B m d] W _ := fun hok W hW => colsGo_any c0 A n c ts B m d rs W hn hl ((hA.below hW (Nat.le_refl _)).more hW.size) hm hlr ((hB.below hW (Nat.le_refl _)).more hW.size) hok
  unfold torAns
  cases hf : cylAns c0 ts rs with
  | false =>
    rw [hf] at hif
    rw [Bool.false_and]
    generalize fillCode c0 ts rs = code at hif ⊢
    have HI := Lib.hid hif
    clear hif hgo hf hA hB hrow
    go_enter Try.func20, Try.ntmps20
    go_wp2_with fail
    refine (HI.out _ (((Ext.refl w).alloc _).below (Nat.le_refl _))).mono ?_
    rintro e w1 ⟨rfl, hb⟩
    have HB := Lib.hid ((((Ext.refl w).alloc (Obj.cells #[.int .i64 c0, .slice A n c] 32)).below (Nat.le_refl w.heap.size)).trans (hb.mono (by simp)))
    clear hb
    go_wp2_with fail
    go_ret2
    exact BoolRes.mk rfl HB.out
  | true =>
    have hok : rowsOk ts rs = true := rowsOk_of_fill (by unfold cylAns at hf; simp only [Bool.and_eq_true] at hf; exact hf.1)
    have hg := hgo hok
    rw [hf] at hif
    rw [Bool.true_and]
    generalize colB ts rs = r at hg ⊢
    generalize fillCode c0 ts rs = code at hif ⊢
    have HI := Lib.hid hif
    have HG := Lib.hid hg
    clear hif hgo hg hf hA hB hrow hok
    go_enter Try.func20, Try.ntmps20
    go_wp2_with fail
    have hbk := Blk.new w 32 #[.int .i64 c0, .slice A n c]
    have hb0 := ((Ext.refl w).alloc (Obj.cells #[.int .i64 c0, .slice A n c] 32)).below (Nat.le_refl w.heap.size)
    generalize w.alloc (Obj.cells #[.int .i64 c0, .slice A n c] 32) = w0 at *
    have HB0 := Lib.hid hb0
    have HK0 := Lib.hid hbk
    clear hb0 hbk
    refine (HI.out _ HB0.out).mono ?_
    rintro e w1 ⟨rfl, hb⟩
    have HB := Lib.hid (HB0.out.trans (hb.mono HB0.out.size))
    have hk1 := HK0.out.below hb HK0.out.lt
    have q0 := hk1.rd 0 rfl
    have q1 := hk1.rd 1 rfl
    clear hb hk1
    go_wp2_with fail
    refine (HG.out _ HB.out).mono ?_
    rintro e w2 ⟨rfl, hx⟩
    have HB2 := Lib.hid (HB.out.trans (hx.below HB.out.size))
    clear hx q0 q1
    go_wp2_with fail
    go_ret2
    exact BoolRes.mk (by cases r <;> rfl) HB2.out
end Go.Proofs.Ytjoaoimebdkpaaa
