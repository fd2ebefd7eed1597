/- Cylinders and tori: the model's side. -/
import Derived.Test.YtjoaoimebdkpaaaCy1
namespace Go.Proofs.Ytjoaoimebdkpaaa
set_option linter.unusedVariables false
set_option linter.unusedSimpArgs false
open Go.RowKit Go.Sort

theorem fillAns_code {c0 : Int} {ts : List Tl} {rs : List (List Int)} (h : fillCode c0 ts rs ≠ 0) : fillAns c0 ts rs = false := by
  unfold fillCode at h
  unfold fillAns
  cases hs : isSet c0 ts with
  | false => rfl
  | true =>
    cases ho : rowsOk ts rs with
    | false => rfl
    | true => rw [hs, ho] at h; exact absurd rfl h
theorem fillCode_ok {c0 : Int} {ts : List Tl} {rs : List (List Int)} (h : fillCode c0 ts rs = 0) : isSet c0 ts = true ∧ rowsOk ts rs = true := by
  unfold fillCode at h
  split at h
  · split at h
    · exact ⟨by assumption, by assumption⟩
    · omega
  · omega
/-- The code of a set and a torus. -/
def torCode (c0 : Int) (ts : List Tl) (rs : List (List Int)) : Int := if fillCode c0 ts rs = 0 then (if torAns c0 ts rs = true then 0 else 5) else fillCode c0 ts rs

set_option maxRecDepth 100000 in
set_option maxHeartbeats 4000000 in
theorem l05Cylinder_any (c0 : Int) (A : Option Addr) (n c : Nat) (ts : List Tl) (B : Option Addr) (m d : Nat) (rs : List (List Int)) (w : World) (hn : n ≤ 1048576) (hl : ts.length = n) (hA : TR w w.heap.size A ts) (hm : m ≤ 1048576) (hlr : rs.length = m) (hB : IRR w w.heap.size B rs) (hok : rowsOk ts rs = true) :
    Calls Try.prog 62 #[.agg #[.int .i64 c0, .slice A n c], .slice B m d] w fun e w' => e = .returned (.bool (rndB ts rs)) ∧ Ext w w' := by
  have hm1 : 1 ≤ m ∧ m ≤ 8 := by
    have h := hok
    simp only [rowsOk, Bool.and_eq_true, decide_eq_true_eq] at h
    omega
  obtain ⟨hm1, hm8⟩ := hm1
  obtain ⟨b, o, rfl, hb0, hcr⟩ := hB (by omega)
  generalize hR : rndB ts rs = R
  have HR := Lib.hid hR
  have HOK := Lib.hid hok
  clear hR hok
  go_enter Try.func62, Try.ntmps62
  go_wp2_with fail
  have hE1 : Ext w (w.alloc (Obj.cells #[.int .i64 c0, .slice A n c] 32)) := (Ext.refl w).alloc _
  have hB1 := Blk.new w 32 #[.int .i64 c0, .slice A n c]
  generalize w.alloc (Obj.cells #[.int .i64 c0, .slice A n c] 32) = w1 at *
  have HE1 := Lib.hid hE1
  have HB1 := Lib.hid hB1
  clear hE1 hB1
  go_loopw [5] (fun i wr => ∃ k : Nat, k ≤ m ∧ i = .int .i64 k ∧ (∀ y, y < k → rndY ts rs y = true) ∧ Ext w1 wr) (fun i _ => m - (intOf i).toNat)
  case atStart => exact ⟨0, Nat.zero_le _, rfl, fun j hj => absurd hj (Nat.not_lt_zero _), Ext.refl _⟩
  case round =>
    obtain ⟨k, hk, rfl, heq, hx⟩ := hrel
    have H := Lib.hid heq
    have HX := Lib.hid hx
    clear heq hx
    by_cases hlt : k < m
    · obtain ⟨Q, q, hcQ, hqq, hir⟩ := hcr k (by omega)
      have hE := HE1.out.trans HX.out
      have hsame := rowsOk_same HOK.out (y := k) (by omega)
      have hw8 : 1 ≤ (rs.getD k []).length ∧ (rs.getD k []).length ≤ 8 := by
        have h := HOK.out
        simp only [rowsOk, Bool.and_eq_true, decide_eq_true_eq] at h
        omega
      obtain ⟨mk, hmk⟩ : ∃ z, (rs.getD k []).length = z + 1 := ⟨(rs.getD k []).length - 1, by omega⟩
      obtain ⟨bx, ox, rfl, hbx, hcx⟩ := hir (by omega)
      have p1 := hcx mk (by omega)
      have p2 := hcx 0 (by omega)
      rw [Nat.add_zero] at p2
      have hrk : rndY ts rs k = decide ((ts.getD ((rs.getD k []).getD mk 0).toNat T0).2.2.1 = (ts.getD ((rs.getD k []).getD 0 0).toNat T0).1) := by unfold rndY tat; rw [hmk]; rfl
      obtain ⟨i, hi, hi2⟩ := natOf (v := (rs.getD k []).getD mk 0) (n := n) (by have := rowsOk_in HOK.out (y := k) (x := mk) (by omega) (by omega); omega)
      obtain ⟨j, hj, hj2⟩ := natOf (v := (rs.getD k []).getD 0 0) (n := n) (by have := rowsOk_in HOK.out (y := k) (x := 0) (by omega) (by omega); omega)
      rw [hi] at p1 hrk
      rw [hj] at p2 hrk
      rw [Int.toNat_natCast, Int.toNat_natCast] at hrk
      rw [hmk] at hcQ hw8
      obtain ⟨bt, ot, rfl, hbt, ht⟩ := hA (by omega)
      have t1 := ((hE.below (Nat.le_refl _)).cell (p := ⟨bt, ot + i * 4 + 2, none⟩) hbt).trans (ht i (by omega)).2.2.1
      have t2 := ((hE.below (Nat.le_refl _)).cell (p := ⟨bt, ot + j * 4, none⟩) hbt).trans (ht j (by omega)).1
      have e1 := ((hE.below (Nat.le_refl _)).cell (p := ⟨bx, ox + mk, none⟩) hbx).trans p1
      have e2 := ((hE.below (Nat.le_refl _)).cell (p := ⟨bx, ox, none⟩) hbx).trans p2
      have e3 := ((hE.below (Nat.le_refl _)).cell (p := ⟨b, o + k, none⟩) hb0).trans hcQ
      have hbx2 := HB1.out.ext HX.out
      have hi3 : (i : Int) < (n : Int) := by omega
      have hj3 : (j : Int) < (n : Int) := by omega
      have hwr : IntKind.i64.wrap (mk : Int) = (mk : Int) := IntWalk.i64_in _ (by omega)
      have hp : (0 : Int) < (mk : Int) + 1 := by omega
      generalize (ts.getD i T0).2.2.1 = x at t1 hrk
      generalize (ts.getD j T0).1 = y at t2 hrk
      clear p1 p2 hi hj hE hcx hir hcQ hsame hmk ht hw8
      by_cases hxy : x = y
      · subst hxy
        have HRK := Lib.hid (hrk.trans (decide_eq_true rfl))
        have hne : (x != x) = false := by simp
        clear hrk
        go_wp2_with fail
        have s0 := fun q os => hbx2.grown q os 0 (v := .int .i64 c0) rfl
        have s1 := fun q os => hbx2.grown q os 1 (v := .slice (some ⟨bt, ot, none⟩) n c) rfl
        have gt1 := fun dn os => (cell?_grow (wr.drewN dn) os ⟨bt, ot + i * 4 + 2, none⟩ (by have := World.block_lt_of_cell? wr _ t1; exact this)).trans t1
        have gt2 := fun dn os => (cell?_grow (wr.drewN dn) os ⟨bt, ot + j * 4, none⟩ (by have := World.block_lt_of_cell? wr _ t2; exact this)).trans t2
        have g1 := fun dn os => (cell?_grow (wr.drewN dn) os ⟨bx, ox + mk, none⟩ (by have := World.block_lt_of_cell? wr _ e1; exact this)).trans e1
        have g2 := fun dn os => (cell?_grow (wr.drewN dn) os ⟨bx, ox, none⟩ (by have := World.block_lt_of_cell? wr _ e2; exact this)).trans e2
        have g3 := fun dn os => (cell?_grow (wr.drewN dn) os ⟨b, o + k, none⟩ (by have := World.block_lt_of_cell? wr _ e3; exact this)).trans e3
        clear t1 t2 e1 e2 e3
        refine wp_region_quiet_grown mixed (by kernel_rfl) ?_
        repeat (go_big_quiet_step ((fail)))
        refine wpQuiet_nil ?_
        intro _ hw'
        obtain ⟨⟨nq, osq⟩, hw''⟩ := hw'
        subst hw''
        clear s0 s1 gt1 gt2 g1 g2 g3
        have HX2 := Lib.hid (HX.out.trans ⟨nq, osq, rfl⟩)
        go_wp2_with fail
        go_roundw
        case rel =>
          refine ⟨k + 1, by omega, by go_num, fun y hy => ?_, HX2.out⟩
          by_cases hyk : y = k
          · subst hyk; exact HRK.out
          · exact H.out y (by omega)
        case measure => simp [intOf]; omega
      · have HRK := Lib.hid (hrk.trans (decide_eq_false hxy))
        have hne : (x != y) = true := by simp [hxy]
        clear hrk
        go_wp2_with fail
        have s0 := fun q os => hbx2.grown q os 0 (v := .int .i64 c0) rfl
        have s1 := fun q os => hbx2.grown q os 1 (v := .slice (some ⟨bt, ot, none⟩) n c) rfl
        have gt1 := fun dn os => (cell?_grow (wr.drewN dn) os ⟨bt, ot + i * 4 + 2, none⟩ (by have := World.block_lt_of_cell? wr _ t1; exact this)).trans t1
        have gt2 := fun dn os => (cell?_grow (wr.drewN dn) os ⟨bt, ot + j * 4, none⟩ (by have := World.block_lt_of_cell? wr _ t2; exact this)).trans t2
        have g1 := fun dn os => (cell?_grow (wr.drewN dn) os ⟨bx, ox + mk, none⟩ (by have := World.block_lt_of_cell? wr _ e1; exact this)).trans e1
        have g2 := fun dn os => (cell?_grow (wr.drewN dn) os ⟨bx, ox, none⟩ (by have := World.block_lt_of_cell? wr _ e2; exact this)).trans e2
        have g3 := fun dn os => (cell?_grow (wr.drewN dn) os ⟨b, o + k, none⟩ (by have := World.block_lt_of_cell? wr _ e3; exact this)).trans e3
        clear t1 t2 e1 e2 e3
        refine wp_region_quiet_grown mixed (by kernel_rfl) ?_
        repeat (go_big_quiet_step ((fail)))
        refine wpQuiet_nil ?_
        intro _ hw'
        obtain ⟨⟨nq, osq⟩, hw''⟩ := hw'
        subst hw''
        clear s0 s1 gt1 gt2 g1 g2 g3
        have HX2 := Lib.hid (HX.out.trans ⟨nq, osq, rfl⟩)
        go_wp2_with fail
        go_ret
        exact ⟨ret_b (by rw [← HR.out]; exact (allB_no (by omega) HRK.out).symm), HE1.out.trans HX2.out⟩
    · obtain rfl : k = m := by omega
      go_wp2_with fail
      go_ret
      exact ⟨ret_b (by rw [← HR.out]; exact (allB_yes (fun y hy => H.out y (by omega))).symm), HE1.out.trans HX.out⟩

set_option maxRecDepth 100000 in
set_option maxHeartbeats 4000000 in
theorem l05Torus_any (c0 : Int) (A : Option Addr) (n c : Nat) (ts : List Tl) (B : Option Addr) (m d : Nat) (rs : List (List Int)) (w : World) (hn : n ≤ 1048576) (hl : ts.length = n) (hA : TR w w.heap.size A ts) (hm : m ≤ 1048576) (hlr : rs.length = m) (hB : IRR w w.heap.size B rs) (hok : rowsOk ts rs = true) :
    Calls Try.prog 57 #[.agg #[.int .i64 c0, .slice A n c], .slice B m d] w fun e w' => e = .returned (.bool ((goodB ts rs && rndB ts rs) && colB ts rs)) ∧ Ext w w' := by
  have hm1 : (1 ≤ m ∧ m ≤ 8) ∧ 1 ≤ (rs.getD 0 []).length ∧ (rs.getD 0 []).length ≤ 8 := by
    have h := hok
    simp only [rowsOk, Bool.and_eq_true, decide_eq_true_eq] at h
    omega
  obtain ⟨⟨hm1, hm8⟩, hw1, hw8⟩ := hm1
  have hgd : ∀ W, Ext w W → Calls Try.prog 61 #[.agg #[.int .i64 c0, .slice A n c], .slice B m d] W _ := fun W hW => l01Good_any c0 A n c ts B m d rs W hn hl ((hA.ext hW (Nat.le_refl _)).more (hW.below (Nat.le_refl _)).size) hm hlr ((hB.ext hW (Nat.le_refl _)).more (hW.below (Nat.le_refl _)).size) hok
  have hcy : ∀ W, Ext w W → Calls Try.prog 62 #[.agg #[.int .i64 c0, .slice A n c], .slice B m d] W _ := fun W hW => l05Cylinder_any c0 A n c ts B m d rs W hn hl ((hA.ext hW (Nat.le_refl _)).more (hW.below (Nat.le_refl _)).size) hm hlr ((hB.ext hW (Nat.le_refl _)).more (hW.below (Nat.le_refl _)).size) hok
  obtain ⟨b, o, rfl, hb0, hcr⟩ := hB (by omega)
  obtain ⟨m, rfl⟩ : ∃ k, m = k + 1 := ⟨m - 1, by omega⟩
  generalize hGG : goodB ts rs = gg at hgd ⊢
  generalize hRR : rndB ts rs = rr at hcy ⊢
  generalize hR : colB ts rs = R
  have HR := Lib.hid hR
  have HGD := Lib.hid hgd
  have HCY := Lib.hid hcy
  have HOK := Lib.hid hok
  have hsm := rowsOk_same hok (y := m) (by omega)
  obtain ⟨Q, q, hcQ, -, hir⟩ := hcr m (by omega)
  obtain ⟨Q0, q0, hcQ0, -, hir0⟩ := hcr 0 (by omega)
  rw [hsm] at hcQ
  rw [Nat.add_zero] at hcQ0
  have hlr1 : rs.length - 1 = m := by omega
  generalize hM : (rs.getD 0 []).length = mk at *
  have HM := Lib.hid hM
  have HSM := Lib.hid hsm
  have HL1 := Lib.hid hlr1
  have hwr : IntKind.i64.wrap (m : Int) = (m : Int) := IntWalk.i64_in _ (by omega)
  clear hR hok hcr hM hsm hlr1 hgd hcy hGG hRR
  go_enter Try.func57, Try.ntmps57
  go_wp2_with fail
  have hE1 : Ext w (w.alloc (Obj.cells #[.int .i64 c0, .slice A n c] 32)) := (Ext.refl w).alloc _
  have hB1 := Blk.new w 32 #[.int .i64 c0, .slice A n c]
  generalize w.alloc (Obj.cells #[.int .i64 c0, .slice A n c] 32) = w1 at *
  have HE1 := Lib.hid hE1
  have HB1 := Lib.hid hB1
  clear hE1 hB1
  go_loopw [5] (fun i wr => ∃ k : Nat, k ≤ mk ∧ i = .int .i64 k ∧ (∀ y, y < k → colX ts rs y = true) ∧ Ext w1 wr) (fun i _ => mk - (intOf i).toNat)
  case atStart => exact ⟨0, Nat.zero_le _, rfl, fun j hj => absurd hj (Nat.not_lt_zero _), Ext.refl _⟩
  case round =>
    obtain ⟨k, hk, rfl, heq, hx⟩ := hrel
    have H := Lib.hid heq
    have HX := Lib.hid hx
    clear heq hx
    have hE := HE1.out.trans HX.out
    have e3 := ((hE.below (Nat.le_refl _)).cell (p := ⟨b, o, none⟩) hb0).trans hcQ0
    by_cases hlt : k < mk
    · obtain ⟨bx, ox, rfl, hbx, hcx⟩ := hir (by rw [HSM.out]; omega)
      obtain ⟨by', oy, rfl, hby, hcy⟩ := hir0 (by rw [HM.out]; omega)
      have hrk : colX ts rs k = decide ((ts.getD ((rs.getD m []).getD k 0).toNat T0).2.2.2 = (ts.getD ((rs.getD 0 []).getD k 0).toNat T0).2.1) := by unfold colX tat; rw [HL1.out]
      have p1 := hcx k (by rw [HSM.out]; omega)
      have p2 := hcy k (by rw [HM.out]; omega)
      obtain ⟨i, hi, hi2⟩ := natOf (v := (rs.getD m []).getD k 0) (n := n) (by have := rowsOk_in HOK.out (y := m) (x := k) (by omega) (by rw [HSM.out]; omega); omega)
      obtain ⟨j, hj, hj2⟩ := natOf (v := (rs.getD 0 []).getD k 0) (n := n) (by have := rowsOk_in HOK.out (y := 0) (x := k) (by omega) (by rw [HM.out]; omega); omega)
      rw [hi] at p1 hrk
      rw [hj] at p2 hrk
      rw [Int.toNat_natCast, Int.toNat_natCast] at hrk
      obtain ⟨bt, ot, rfl, hbt, ht⟩ := hA (by omega)
      have t1 := ((hE.below (Nat.le_refl _)).cell (p := ⟨bt, ot + i * 4 + 3, none⟩) hbt).trans (ht i (by omega)).2.2.2
      have t2 := ((hE.below (Nat.le_refl _)).cell (p := ⟨bt, ot + j * 4 + 1, none⟩) hbt).trans (ht j (by omega)).2.1
      have e1 := ((hE.below (Nat.le_refl _)).cell (p := ⟨bx, ox + k, none⟩) hbx).trans p1
      have e2 := ((hE.below (Nat.le_refl _)).cell (p := ⟨by', oy + k, none⟩) hby).trans p2
      have e4 := ((hE.below (Nat.le_refl _)).cell (p := ⟨b, o + m, none⟩) hb0).trans hcQ
      have hbx2 := HB1.out.ext HX.out
      have hi3 : (i : Int) < (n : Int) := by omega
      have hj3 : (j : Int) < (n : Int) := by omega
      have hp : (0 : Int) < (m : Int) + 1 := by omega
      generalize (ts.getD i T0).2.2.2 = x at t1 hrk
      generalize (ts.getD j T0).2.1 = y at t2 hrk
      clear p1 p2 hi hj hE hcx hcy ht
      by_cases hxy : x = y
      · subst hxy
        have HRK := Lib.hid (hrk.trans (decide_eq_true rfl))
        have hne : (x != x) = false := by simp
        clear hrk
        go_wp2_with fail
        have s0 := fun q os => hbx2.grown q os 0 (v := .int .i64 c0) rfl
        have s1 := fun q os => hbx2.grown q os 1 (v := .slice (some ⟨bt, ot, none⟩) n c) rfl
        have gt1 := fun dn os => (cell?_grow (wr.drewN dn) os ⟨bt, ot + i * 4 + 3, none⟩ (by have := World.block_lt_of_cell? wr _ t1; exact this)).trans t1
        have gt2 := fun dn os => (cell?_grow (wr.drewN dn) os ⟨bt, ot + j * 4 + 1, none⟩ (by have := World.block_lt_of_cell? wr _ t2; exact this)).trans t2
        have g1 := fun dn os => (cell?_grow (wr.drewN dn) os ⟨bx, ox + k, none⟩ (by have := World.block_lt_of_cell? wr _ e1; exact this)).trans e1
        have g2 := fun dn os => (cell?_grow (wr.drewN dn) os ⟨by', oy + k, none⟩ (by have := World.block_lt_of_cell? wr _ e2; exact this)).trans e2
        have g3 := fun dn os => (cell?_grow (wr.drewN dn) os ⟨b, o, none⟩ (by have := World.block_lt_of_cell? wr _ e3; exact this)).trans e3
        have g4 := fun dn os => (cell?_grow (wr.drewN dn) os ⟨b, o + m, none⟩ (by have := World.block_lt_of_cell? wr _ e4; exact this)).trans e4
        clear t1 t2 e1 e2 e3 e4
        refine wp_region_quiet_grown mixed (by kernel_rfl) ?_
        repeat (go_big_quiet_step ((fail)))
        refine wpQuiet_nil ?_
        intro _ hw'
        obtain ⟨⟨nq, osq⟩, hw''⟩ := hw'
        subst hw''
        clear s0 s1 gt1 gt2 g1 g2 g3 g4
        have HX2 := Lib.hid (HX.out.trans ⟨nq, osq, rfl⟩)
        go_wp2_with fail
        go_roundw
        case rel =>
          refine ⟨k + 1, by omega, by go_num, fun y hy => ?_, HX2.out⟩
          by_cases hyk : y = k
          · subst hyk; exact HRK.out
          · exact H.out y (by omega)
        case measure => simp [intOf]; omega
      · have HRK := Lib.hid (hrk.trans (decide_eq_false hxy))
        have hne : (x != y) = true := by simp [hxy]
        clear hrk
        go_wp2_with fail
        have s0 := fun q os => hbx2.grown q os 0 (v := .int .i64 c0) rfl
        have s1 := fun q os => hbx2.grown q os 1 (v := .slice (some ⟨bt, ot, none⟩) n c) rfl
        have gt1 := fun dn os => (cell?_grow (wr.drewN dn) os ⟨bt, ot + i * 4 + 3, none⟩ (by have := World.block_lt_of_cell? wr _ t1; exact this)).trans t1
        have gt2 := fun dn os => (cell?_grow (wr.drewN dn) os ⟨bt, ot + j * 4 + 1, none⟩ (by have := World.block_lt_of_cell? wr _ t2; exact this)).trans t2
        have g1 := fun dn os => (cell?_grow (wr.drewN dn) os ⟨bx, ox + k, none⟩ (by have := World.block_lt_of_cell? wr _ e1; exact this)).trans e1
        have g2 := fun dn os => (cell?_grow (wr.drewN dn) os ⟨by', oy + k, none⟩ (by have := World.block_lt_of_cell? wr _ e2; exact this)).trans e2
        have g3 := fun dn os => (cell?_grow (wr.drewN dn) os ⟨b, o, none⟩ (by have := World.block_lt_of_cell? wr _ e3; exact this)).trans e3
        have g4 := fun dn os => (cell?_grow (wr.drewN dn) os ⟨b, o + m, none⟩ (by have := World.block_lt_of_cell? wr _ e4; exact this)).trans e4
        clear t1 t2 e1 e2 e3 e4
        refine wp_region_quiet_grown mixed (by kernel_rfl) ?_
        repeat (go_big_quiet_step ((fail)))
        refine wpQuiet_nil ?_
        intro _ hw'
        obtain ⟨⟨nq, osq⟩, hw''⟩ := hw'
        subst hw''
        clear s0 s1 gt1 gt2 g1 g2 g3 g4
        have HX2 := Lib.hid (HX.out.trans ⟨nq, osq, rfl⟩)
        go_wp2_with fail
        go_ret
        exact ⟨ret_b (by rw [show R = false from HR.out ▸ allB_no (by rw [HM.out]; omega) HRK.out, Bool.and_false]), HE1.out.trans HX2.out⟩
    · obtain rfl : k = mk := by omega
      have hRt : R = true := HR.out ▸ allB_yes (fun y hy => H.out y (by rw [HM.out] at hy; omega))
      subst hRt
      have hb1 := HB1.out.ext HX.out
      have r0 := hb1.rd 0 rfl
      have r1 := hb1.rd 1 rfl
      have HE2 := Lib.hid hE
      have HBX := Lib.hid hb1
      clear hE hb1
      cases gg with
      | true =>
        go_wp2_with fail
        clear e3
        refine (HGD.out _ HE2.out).mono ?_
        rintro e w2 ⟨rfl, hx⟩
        have HE3 := Lib.hid (HE2.out.trans hx)
        have hb2 := HBX.out.ext hx
        clear r0 r1
        have r0 := hb2.rd 0 rfl
        have r1 := hb2.rd 1 rfl
        clear hx hb2
        go_wp2_with fail
        refine (HCY.out _ HE3.out).mono ?_
        rintro e w3 ⟨rfl, hx⟩
        have HE4 := Lib.hid (HE3.out.trans hx)
        clear hx r0 r1
        go_wp2_with fail
        go_ret
        exact ⟨ret_b (by cases rr <;> rfl), HE4.out⟩
      | false =>
        go_wp2_with fail
        clear e3
        refine (HGD.out _ HE2.out).mono ?_
        rintro e w2 ⟨rfl, hx⟩
        have HE3 := Lib.hid (HE2.out.trans hx)
        have hb2 := HBX.out.ext hx
        clear r0 r1
        have r0 := hb2.rd 0 rfl
        have r1 := hb2.rd 1 rfl
        clear hx hb2
        go_wp2_with fail
        go_ret
        exact ⟨ret_b (by cases rr <;> rfl), HE3.out⟩

set_option maxRecDepth 100000 in
set_option maxHeartbeats 4000000 in
theorem specCylinder_any (c0 : Int) (A : Option Addr) (n c : Nat) (ts : List Tl) (B : Option Addr) (m d : Nat) (rs : List (List Int)) (w : World) (hn : n ≤ 1048576) (hl : ts.length = n) (hA : TR w w.heap.size A ts) (hm : m ≤ 1048576) (hlr : rs.length = m) (hB : IRR w w.heap.size B rs) (hrow : ∀ k, k < m → (rs.getD k []).length ≤ 1048576) :
    Calls Try.prog 23 #[.agg #[.int .i64 c0, .slice A n c], .slice B m d] w (BoolRes w (cylAns c0 ts rs) (fillCode c0 ts rs)) := by
  have har : ∀ W, Ext w W → Calls Try.prog 56 #[.agg #[.int .i64 c0, .slice A n c], .slice B m d] W _ := fun W hW => l01Rows_any c0 A n c ts B m d rs W hn hl ((hA.ext hW (Nat.le_refl _)).more (hW.below (Nat.le_refl _)).size) hm hlr ((hB.ext hW (Nat.le_refl _)).more (hW.below (Nat.le_refl _)).size) hrow
  have hgd : rowsOk ts rs = true → ∀ W, Ext w W → Calls Try.prog 61 #[.agg #[.int .i64 c0, .slice A n c], .slice B m d] W _ := fun hok W hW => l01Good_any c0 A n c ts B m d rs W hn hl ((hA.ext hW (Nat.le_refl _)).more (hW.below (Nat.le_refl _)).size) hm hlr ((hB.ext hW (Nat.le_refl _)).more (hW.below (Nat.le_refl _)).size) hok
  have hcy : rowsOk ts rs = true → ∀ W, Ext w W → Calls Try.prog 62 #[.agg #[.int .i64 c0, .slice A n c], .slice B m d] W _ := fun hok W hW => l05Cylinder_any c0 A n c ts B m d rs W hn hl ((hA.ext hW (Nat.le_refl _)).more (hW.below (Nat.le_refl _)).size) hm hlr ((hB.ext hW (Nat.le_refl _)).more (hW.below (Nat.le_refl _)).size) hok
  clear hA hB hrow
  by_cases hc : fillCode c0 ts rs = 0
  · obtain ⟨hs, hok⟩ := fillCode_ok hc
    have hg := hgd hok
    have hy := hcy hok
    have hans : cylAns c0 ts rs = (goodB ts rs && rndB ts rs) := by
      unfold cylAns
      rw [fa0 hs hok]
    rw [hans, hc]
    rw [hc] at har
    clear hgd hcy hans hc hs hok
    generalize goodB ts rs = gg at hg ⊢
    generalize rndB ts rs = rr at hy ⊢
    have HR := Lib.hid har
    have HG := Lib.hid hg
    have HY := Lib.hid hy
    clear har hg hy
    cases gg with
    | true =>
      go_enter Try.func23, Try.ntmps23
      go_wp2_with fail
      refine (HR.out _ ((Ext.refl w).alloc _)).mono ?_
      rintro e w1 ⟨rfl, hx⟩
      have hb := (Blk.new w 32 #[.int .i64 c0, .slice A n c]).ext hx
      have r0 := hb.rd 0 rfl
      have r1 := hb.rd 1 rfl
      have HX := Lib.hid (((Ext.refl w).alloc _).trans hx)
      have HBK := Lib.hid hb
      clear hx hb
      go_wp2_with fail
      refine (HG.out _ HX.out).mono ?_
      rintro e w2 ⟨rfl, hx⟩
      have HX2 := Lib.hid (HX.out.trans hx)
      have hb2 := HBK.out.ext hx
      clear r0 r1
      have r0 := hb2.rd 0 rfl
      have r1 := hb2.rd 1 rfl
      clear hx hb2
      go_wp2_with fail
      refine (HY.out _ HX2.out).mono ?_
      rintro e w3 ⟨rfl, hx⟩
      have HX3 := Lib.hid (HX2.out.trans hx)
      clear hx r0 r1
      go_wp2_with fail
      go_ret2
      exact BoolRes.mk (by cases rr <;> rfl) (HX3.out.below (Nat.le_refl _))
    | false =>
      go_enter Try.func23, Try.ntmps23
      go_wp2_with fail
      refine (HR.out _ ((Ext.refl w).alloc _)).mono ?_
      rintro e w1 ⟨rfl, hx⟩
      have hb := (Blk.new w 32 #[.int .i64 c0, .slice A n c]).ext hx
      have r0 := hb.rd 0 rfl
      have r1 := hb.rd 1 rfl
      have HX := Lib.hid (((Ext.refl w).alloc _).trans hx)
      have HBK := Lib.hid hb
      clear hx hb
      go_wp2_with fail
      refine (HG.out _ HX.out).mono ?_
      rintro e w2 ⟨rfl, hx⟩
      have HX2 := Lib.hid (HX.out.trans hx)
      have hb2 := HBK.out.ext hx
      clear r0 r1
      have r0 := hb2.rd 0 rfl
      have r1 := hb2.rd 1 rfl
      clear hx hb2
      go_wp2_with fail
      go_ret2
      exact BoolRes.mk (by cases rr <;> rfl) (HX2.out.below (Nat.le_refl _))
  · have hans : cylAns c0 ts rs = false := by simp [cylAns, torAns, fillAns_code hc]
    rw [hans]
    generalize fillCode c0 ts rs = code at har hc ⊢
    have hne : (code != 0) = true := by simp [hc]
    have HR := Lib.hid har
    clear hgd hcy hans har
    go_enter Try.func23, Try.ntmps23
    go_wp2_with fail
    refine (HR.out _ ((Ext.refl w).alloc _)).mono ?_
    rintro e w1 ⟨rfl, hx⟩
    have HX := Lib.hid (((Ext.refl w).alloc _).trans hx)
    clear hx
    go_wp2_with fail
    go_ret2
    exact BoolRes.mk rfl (HX.out.below (Nat.le_refl _))

set_option maxRecDepth 100000 in
set_option maxHeartbeats 4000000 in
theorem specTorus_any (c0 : Int) (A : Option Addr) (n c : Nat) (ts : List Tl) (B : Option Addr) (m d : Nat) (rs : List (List Int)) (w : World) (hn : n ≤ 1048576) (hl : ts.length = n) (hA : TR w w.heap.size A ts) (hm : m ≤ 1048576) (hlr : rs.length = m) (hB : IRR w w.heap.size B rs) (hrow : ∀ k, k < m → (rs.getD k []).length ≤ 1048576) :
    Calls Try.prog 17 #[.agg #[.int .i64 c0, .slice A n c], .slice B m d] w (BoolRes w (torAns c0 ts rs) (fillCode c0 ts rs)) := by
  have har : ∀ W, Ext w W → Calls Try.prog 56 #[.agg #[.int .i64 c0, .slice A n c], .slice B m d] W _ := fun W hW => l01Rows_any c0 A n c ts B m d rs W hn hl ((hA.ext hW (Nat.le_refl _)).more (hW.below (Nat.le_refl _)).size) hm hlr ((hB.ext hW (Nat.le_refl _)).more (hW.below (Nat.le_refl _)).size) hrow
  have hgd : rowsOk ts rs = true → ∀ W, Ext w W → Calls Try.prog 57 #[.agg #[.int .i64 c0, .slice A n c], .slice B m d] W _ := fun hok W hW => l05Torus_any c0 A n c ts B m d rs W hn hl ((hA.ext hW (Nat.le_refl _)).more (hW.below (Nat.le_refl _)).size) hm hlr ((hB.ext hW (Nat.le_refl _)).more (hW.below (Nat.le_refl _)).size) hok
  have hcy : rowsOk ts rs = true → ∀ W, Ext w W → Calls Try.prog 62 #[.agg #[.int .i64 c0, .slice A n c], .slice B m d] W _ := fun hok W hW => l05Cylinder_any c0 A n c ts B m d rs W hn hl ((hA.ext hW (Nat.le_refl _)).more (hW.below (Nat.le_refl _)).size) hm hlr ((hB.ext hW (Nat.le_refl _)).more (hW.below (Nat.le_refl _)).size) hok
  clear hA hB hrow
  by_cases hc : fillCode c0 ts rs = 0
  · obtain ⟨hs, hok⟩ := fillCode_ok hc
    have hg := hgd hok
    have hy := hcy hok
    have hans : torAns c0 ts rs = ((goodB ts rs && rndB ts rs) && colB ts rs) := by
      unfold torAns cylAns
      rw [fa0 hs hok]
    rw [hans, hc]
    rw [hc] at har
    clear hgd hcy hans hc hs hok
    generalize ((goodB ts rs && rndB ts rs) && colB ts rs) = gg at hg ⊢
    have HR := Lib.hid har
    have HG := Lib.hid hg
    have HY := Lib.hid hy
    clear har hg hy
    go_enter Try.func17, Try.ntmps17
    go_wp2_with fail
    refine (HR.out _ ((Ext.refl w).alloc _)).mono ?_
    rintro e w1 ⟨rfl, hx⟩
    have hb := (Blk.new w 32 #[.int .i64 c0, .slice A n c]).ext hx
    have r0 := hb.rd 0 rfl
    have r1 := hb.rd 1 rfl
    have HX := Lib.hid (((Ext.refl w).alloc _).trans hx)
    have HBK := Lib.hid hb
    clear hx hb
    go_wp2_with fail
    refine (HG.out _ HX.out).mono ?_
    rintro e w2 ⟨rfl, hx⟩
    have HX2 := Lib.hid (HX.out.trans hx)
    have hb2 := HBK.out.ext hx
    clear r0 r1
    have r0 := hb2.rd 0 rfl
    have r1 := hb2.rd 1 rfl
    clear hx hb2
    go_wp2_with fail
    go_ret2
    exact BoolRes.mk rfl (HX2.out.below (Nat.le_refl _))
  · have hans : torAns c0 ts rs = false := by simp [cylAns, torAns, fillAns_code hc]
    rw [hans]
    generalize fillCode c0 ts rs = code at har hc ⊢
    have hne : (code != 0) = true := by simp [hc]
    have HR := Lib.hid har
    clear hgd hcy hans har
    go_enter Try.func17, Try.ntmps17
    go_wp2_with fail
    refine (HR.out _ ((Ext.refl w).alloc _)).mono ?_
    rintro e w1 ⟨rfl, hx⟩
    have HX := Lib.hid (((Ext.refl w).alloc _).trans hx)
    clear hx
    go_wp2_with fail
    go_ret2
    exact BoolRes.mk rfl (HX.out.below (Nat.le_refl _))

set_option maxRecDepth 100000 in
set_option maxHeartbeats 4000000 in
theorem l05Given_any (c0 : Int) (A : Option Addr) (n c : Nat) (ts : List Tl) (B : Option Addr) (m d : Nat) (rs : List (List Int)) (w : World) (hn : n ≤ 1048576) (hl : ts.length = n) (hA : TR w w.heap.size A ts) (hm : m ≤ 1048576) (hlr : rs.length = m) (hB : IRR w w.heap.size B rs) (hrow : ∀ k, k < m → (rs.getD k []).length ≤ 1048576) :
    Calls Try.prog 66 #[.agg #[.int .i64 c0, .slice A n c], .slice B m d] w fun e w' => e = .returned (.int .i64 (torCode c0 ts rs)) ∧ Ext w w' := by
  have har : ∀ W, Ext w W → Calls Try.prog 56 #[.agg #[.int .i64 c0, .slice A n c], .slice B m d] W _ := fun W hW => l01Rows_any c0 A n c ts B m d rs W hn hl ((hA.ext hW (Nat.le_refl _)).more (hW.below (Nat.le_refl _)).size) hm hlr ((hB.ext hW (Nat.le_refl _)).more (hW.below (Nat.le_refl _)).size) hrow
  have hgd : rowsOk ts rs = true → ∀ W, Ext w W → Calls Try.prog 57 #[.agg #[.int .i64 c0, .slice A n c], .slice B m d] W _ := fun hok W hW => l05Torus_any c0 A n c ts B m d rs W hn hl ((hA.ext hW (Nat.le_refl _)).more (hW.below (Nat.le_refl _)).size) hm hlr ((hB.ext hW (Nat.le_refl _)).more (hW.below (Nat.le_refl _)).size) hok
  clear hA hB hrow
  unfold torCode
  by_cases hc : fillCode c0 ts rs = 0
  · obtain ⟨hs, hok⟩ := fillCode_ok hc
    have hg := hgd hok
    have hans : torAns c0 ts rs = ((goodB ts rs && rndB ts rs) && colB ts rs) := by
      unfold torAns cylAns
      rw [fa0 hs hok]
    rw [if_pos hc, hans]
    rw [hc] at har
    clear hgd hans hc hs hok
    generalize ((goodB ts rs && rndB ts rs) && colB ts rs) = gg at hg ⊢
    have HR := Lib.hid har
    have HG := Lib.hid hg
    clear har hg
    cases gg with
    | true =>
      go_enter Try.func66, Try.ntmps66
      go_wp2_with fail
      refine (HR.out _ ((Ext.refl w).alloc _)).mono ?_
      rintro e w1 ⟨rfl, hx⟩
      have hb := (Blk.new w 32 #[.int .i64 c0, .slice A n c]).ext hx
      have r0 := hb.rd 0 rfl
      have r1 := hb.rd 1 rfl
      have HX := Lib.hid (((Ext.refl w).alloc _).trans hx)
      clear hx hb
      go_wp2_with fail
      refine (HG.out _ HX.out).mono ?_
      rintro e w2 ⟨rfl, hx⟩
      have HX2 := Lib.hid (HX.out.trans hx)
      clear hx r0 r1
      go_wp2_with fail
      go_ret
      exact ⟨rfl, HX2.out⟩
    | false =>
      go_enter Try.func66, Try.ntmps66
      go_wp2_with fail
      refine (HR.out _ ((Ext.refl w).alloc _)).mono ?_
      rintro e w1 ⟨rfl, hx⟩
      have hb := (Blk.new w 32 #[.int .i64 c0, .slice A n c]).ext hx
      have r0 := hb.rd 0 rfl
      have r1 := hb.rd 1 rfl
      have HX := Lib.hid (((Ext.refl w).alloc _).trans hx)
      clear hx hb
      go_wp2_with fail
      refine (HG.out _ HX.out).mono ?_
      rintro e w2 ⟨rfl, hx⟩
      have HX2 := Lib.hid (HX.out.trans hx)
      clear hx r0 r1
      go_wp2_with fail
      go_ret
      exact ⟨rfl, HX2.out⟩
  · rw [if_neg hc]
    generalize fillCode c0 ts rs = code at har hc ⊢
    have hne : (code != 0) = true := by simp [hc]
    have HR := Lib.hid har
    clear hgd har
    go_enter Try.func66, Try.ntmps66
    go_wp2_with fail
    refine (HR.out _ ((Ext.refl w).alloc _)).mono ?_
    rintro e w1 ⟨rfl, hx⟩
    have HX := Lib.hid (((Ext.refl w).alloc _).trans hx)
    clear hx
    go_wp2_with fail
    go_ret
    exact ⟨rfl, HX.out⟩

set_option maxRecDepth 100000 in
set_option maxHeartbeats 4000000 in
theorem checkTorus_any (c0 : Int) (A : Option Addr) (n c : Nat) (ts : List Tl) (B : Option Addr) (m d : Nat) (rs : List (List Int)) (w : World) (hn : n ≤ 1048576) (hl : ts.length = n) (hA : TR w w.heap.size A ts) (hm : m ≤ 1048576) (hlr : rs.length = m) (hB : IRR w w.heap.size B rs) (hrow : ∀ k, k < m → (rs.getD k []).length ≤ 1048576) :
    Calls Try.prog 71 #[.agg #[.int .i64 c0, .slice A n c], .slice B m d] w fun e w' => e = .returned (.int .i64 (torCode c0 ts rs)) ∧ Below w.heap.size w w' := by
  have hit : ∀ W, Below w.heap.size w W → Calls Try.prog 20 #[.agg #[.int .i64 c0, .slice A n c], .slice B m d] W _ := fun W hW => implTorus_any c0 A n c ts B m d rs W hn hl ((hA.below hW (Nat.le_refl _)).more hW.size) hm hlr ((hB.below hW (Nat.le_refl _)).more hW.size) hrow
  clear hA hB hrow
  unfold torCode
  have hcases : (fillCode c0 ts rs = 0 ∧ torAns c0 ts rs = true) ∨ (fillCode c0 ts rs = 0 ∧ torAns c0 ts rs = false) ∨ (fillCode c0 ts rs ≠ 0 ∧ torAns c0 ts rs = false) := by
    by_cases hc : fillCode c0 ts rs = 0
    · cases torAns c0 ts rs
      · exact .inr (.inl ⟨hc, rfl⟩)
      · exact .inl ⟨hc, rfl⟩
    · exact .inr (.inr ⟨hc, by simp [cylAns, torAns, fillAns_code hc]⟩)
  generalize torAns c0 ts rs = r at *
  generalize fillCode c0 ts rs = code at *
  rcases hcases with ⟨rfl, rfl⟩ | ⟨rfl, rfl⟩ | ⟨hne, rfl⟩
  · have HI := Lib.hid hit
    clear hit
    go_enter Try.func71, Try.ntmps71
    go_wp2_with fail
    refine (HI.out _ (((Ext.refl w).alloc _).below (Nat.le_refl _))).mono ?_
    rintro e w1 ⟨rfl, hb⟩
    have HB := Lib.hid ((((Ext.refl w).alloc (Obj.cells #[.int .i64 c0, .slice A n c] 32)).below (Nat.le_refl w.heap.size)).trans (hb.mono (by simp)))
    clear hb
    go_wp2_with fail
    go_ret
    exact ⟨rfl, HB.out⟩
  · have HI := Lib.hid hit
    clear hit
    go_enter Try.func71, Try.ntmps71
    go_wp2_with fail
    refine (HI.out _ (((Ext.refl w).alloc _).below (Nat.le_refl _))).mono ?_
    rintro e w1 ⟨rfl, hb⟩
    have HB := Lib.hid ((((Ext.refl w).alloc (Obj.cells #[.int .i64 c0, .slice A n c] 32)).below (Nat.le_refl w.heap.size)).trans (hb.mono (by simp)))
    clear hb
    go_wp2_with fail
    go_ret
    exact ⟨rfl, HB.out⟩
  · have hnb : (code == 0) = false := by simp [hne]
    have hnd : decide (code = 0) = false := by simp [hne]
    rw [if_neg hne]
    have HI := Lib.hid hit
    clear hit
    go_enter Try.func71, Try.ntmps71
    go_wp2_with fail
    refine (HI.out _ (((Ext.refl w).alloc _).below (Nat.le_refl _))).mono ?_
    rintro e w1 ⟨rfl, hb⟩
    have HB := Lib.hid ((((Ext.refl w).alloc (Obj.cells #[.int .i64 c0, .slice A n c] 32)).below (Nat.le_refl w.heap.size)).trans (hb.mono (by simp)))
    clear hb
    go_wp2_with fail
    go_ret
    exact ⟨rfl, HB.out⟩
end Go.Proofs.Ytjoaoimebdkpaaa
