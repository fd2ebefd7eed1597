/- Whether rows are a filling: the model's side. -/
import Derived.Test.YtjoaoimebdkpaaaFil2
import Derived.BigRegion
namespace Go.Proofs.Ytjoaoimebdkpaaa
set_option linter.unusedVariables false
set_option linter.unusedSimpArgs false
open Go.RowKit Go.Sort

def cellGood (ts : List Tl) (rs : List (List Int)) (y x : Nat) : Bool := (decide (x = 0) || decide ((tat ts rs y (x - 1)).2.2.1 = (tat ts rs y x).1)) && (decide (y = 0) || decide ((tat ts rs (y - 1) x).2.2.2 = (tat ts rs y x).2.1))
/-- The rows are a filling. -/
def goodB (ts : List Tl) (rs : List (List Int)) : Bool := (List.range rs.length).all fun y => (List.range (rs.getD y []).length).all (cellGood ts rs y)
theorem goodB_at {ts : List Tl} {rs : List (List Int)} {y x : Nat} (hy : y < rs.length) (hx : x < (rs.getD y []).length) (h : cellGood ts rs y x = false) : goodB ts rs = false := by
  unfold goodB
  rw [List.all_eq_false]
  refine ⟨y, List.mem_range.2 hy, ?_⟩
  have : ((List.range (rs.getD y []).length).all (cellGood ts rs y)) = false := by
    rw [List.all_eq_false]
    exact ⟨x, List.mem_range.2 hx, by rw [h]; decide⟩
  rw [this]
  decide
theorem goodB_all {ts : List Tl} {rs : List (List Int)} (h : ∀ y x, y < rs.length → x < (rs.getD y []).length → cellGood ts rs y x = true) : goodB ts rs = true :=
  List.all_eq_true.2 fun y hy => List.all_eq_true.2 fun x hx => h y x (List.mem_range.1 hy) (List.mem_range.1 hx)
theorem rowsOk_in {ts : List Tl} {rs : List (List Int)} (h : rowsOk ts rs = true) {y x : Nat} (hy : y < rs.length) (hx : x < (rs.getD y []).length) : 0 ≤ (rs.getD y []).getD x 0 ∧ (rs.getD y []).getD x 0 < ts.length := by
  simp only [rowsOk, Bool.and_eq_true, List.all_eq_true, List.mem_range, rowFit] at h
  have := allT_in (h.2.2 y hy).2 hx
  simpa only [inT, decide_eq_true_eq] using this
theorem rowsOk_same {ts : List Tl} {rs : List (List Int)} (h : rowsOk ts rs = true) {y : Nat} (hy : y < rs.length) : (rs.getD y []).length = (rs.getD 0 []).length := by
  simp only [rowsOk, Bool.and_eq_true, List.all_eq_true, List.mem_range, rowFit, decide_eq_true_eq] at h
  exact (h.2.2 y hy).1

set_option maxRecDepth 100000 in
set_option maxHeartbeats 4000000 in
theorem l01Good_any (c0 : Int) (A : Option Addr) (n c : Nat) (ts : List Tl) (B : Option Addr) (m d : Nat) (rs : List (List Int)) (w : World) (hn : n ≤ 1048576) (hl : ts.length = n) (hA : TR w w.heap.size A ts) (hm : m ≤ 1048576) (hlr : rs.length = m) (hB : IRR w w.heap.size B rs) (hok : rowsOk ts rs = true) :
    Calls Try.prog 61 #[.agg #[.int .i64 c0, .slice A n c], .slice B m d] w fun e w' => e = .returned (.bool (goodB ts rs)) ∧ Ext w w' := by
  have hm1 : 1 ≤ m := by
    simp only [rowsOk, Bool.and_eq_true, decide_eq_true_eq] at hok
    omega
  obtain ⟨b, o, rfl, hb0, hcr⟩ := hB (by omega)
  go_enter Try.func61, Try.ntmps61
  go_wp2_with fail
  go_loopw [5] (fun i wr => ∃ k : Nat, k ≤ m ∧ i = .int .i64 k ∧ (∀ y x, y < k → x < (rs.getD y []).length → cellGood ts rs y x = true) ∧ Ext (w.alloc (.cells #[.int .i64 c0, .slice A n c] 32)) wr) (fun i _ => m - (intOf i).toNat)
  case atStart => exact ⟨0, Nat.zero_le _, rfl, fun _ _ hj => absurd hj (Nat.not_lt_zero _), Ext.refl _⟩
  case round =>
    obtain ⟨k, hk, rfl, heq, hx⟩ := hrel
    have H := Lib.hid heq
    have HX2 := Lib.hid hx
    clear heq hx
    by_cases hlt : k < m
    · obtain ⟨Q, q, hcQ, hqq, hir⟩ := hcr k (by omega)
      generalize hMk : (rs.getD k []).length = mk at hcQ
      have HMK := Lib.hid hMk
      clear hMk
      obtain ⟨wo, rfl⟩ : ∃ wo : World, wo = wr := ⟨_, rfl⟩
      go_wp2_with fail
      go_loopw [6] (fun i wr => ∃ x : Nat, x ≤ mk ∧ i = .int .i64 x ∧ (∀ j, j < x → cellGood ts rs k j = true) ∧ Ext wo wr) (fun i _ => mk - (intOf i).toNat)
      case atStart => exact ⟨0, Nat.zero_le _, rfl, fun j hj => absurd hj (Nat.not_lt_zero _), Ext.refl _⟩
      case round =>
        obtain ⟨x, hxk, rfl, heqx, hx⟩ := hrel
        have HXX := Lib.hid heqx
        have HX3 := Lib.hid (HX2.out.trans hx)
        have hE := ((Ext.refl w).alloc (.cells #[.int .i64 c0, .slice A n c] 32)).trans (HX2.out.trans hx)
        have HX4 := Lib.hid hx
        have ek : wr.cell? ⟨b, o + k, none⟩ = some (.slice Q mk q) := ((hE.below (Nat.le_refl _)).cell (p := ⟨b, o + k, none⟩) hb0).trans hcQ
        have r1 := ((Blk.new w 32 #[.int .i64 c0, .slice A n c]).ext HX3.out).rd 1 rfl
        clear heqx hx
        by_cases hlx : x < mk
        · obtain ⟨bx, ox, hQe, hbx, hcx⟩ := hir (by rw [HMK.out]; omega)
          subst hQe
          have q1 := ((hE.below (Nat.le_refl _)).cell (p := ⟨bx, ox + x, none⟩) hbx).trans (hcx x (by rw [HMK.out]; omega))
          have hin := rowsOk_in hok (y := k) (x := x) (by omega) (by rw [HMK.out]; omega)
          have eT : tat ts rs k x = ts.getD ((rs.getD k []).getD x 0).toNat T0 := rfl
          generalize (rs.getD k []).getD x 0 = v at q1 hin eT
          rw [hl] at hin
          obtain ⟨i, rfl⟩ : ∃ i : Nat, v = (i : Int) := ⟨v.toNat, by omega⟩
          rw [Int.toNat_natCast] at eT
          have hi : i < n := by omega
          have hi3 : (i : Int) < (n : Int) := by omega
          obtain ⟨bt, ot, rfl, hbt, ht⟩ := hA (by omega)
          have ht4 := (ht i (by omega)).keep (fun u => (hE.below (Nat.le_refl _)).cell (p := ⟨bt, u, none⟩) hbt)
          generalize ts.getD i T0 = tl at ht4 eT
          obtain ⟨x0, x1, x2, x3⟩ := tl
          obtain ⟨c0', c1, c2, c3⟩ := ht4
          simp only at c0' c1 c2 c3
          have hsz : w.heap.size + 1 ≤ wr.heap.size := by have := (HX3.out.below (Nat.le_refl _)).size; simpa using this
          have l1 : bx < wr.heap.size := by omega
          have l2 : bt < wr.heap.size := by omega
          have l3 : b < wr.heap.size := by omega
          have l4 : w.heap.size < wr.heap.size := by omega
          have hmk8 : mk ≤ 8 := by have h := rowsOk_same hok (y := k) (by omega); simp only [rowsOk, Bool.and_eq_true, decide_eq_true_eq] at hok; have := HMK.out; omega
          have hm8 : m ≤ 8 := by simp only [rowsOk, Bool.and_eq_true, decide_eq_true_eq] at hok; omega
          rcases k with _ | k
          · rcases x with _ | x
            · skip
              simp only [Nat.add_zero] at ek
              have hk9 : (0 : Int) < (m : Int) := by omega
              simp only [Nat.add_zero] at q1
              have hx9 : (0 : Int) < (mk : Int) := by omega
              have hcg : cellGood ts rs 0 0 = (true) := by
                unfold cellGood
                simp
              have HG : Hid (cellGood ts rs 0 0 = true) := Lib.hid (by rw [hcg])
              clear hcg
              clear hcx hE hir hcr hA hB hok hcQ ht eT
              as_aux_lemma =>
                go_wp2_with fail
                go_region
                have hw3 : Ext wr (World.drew (wr.alloc (Obj.cells #[.int .i64 x0, .int .i64 x1, .int .i64 x2, .int .i64 x3] 48))) := ((Ext.refl _).alloc _).drew
                have f0 := ((Blk.new wr 48 #[.int .i64 x0, .int .i64 x1, .int .i64 x2, .int .i64 x3]).ext ((Ext.refl _).drew)).rd 0 rfl
                have f1 := ((Blk.new wr 48 #[.int .i64 x0, .int .i64 x1, .int .i64 x2, .int .i64 x3]).ext ((Ext.refl _).drew)).rd 1 rfl
                have hbw := hw3.below (Nat.le_refl _)
                have g1 := (hbw.cell (p := ⟨w.heap.size, 1, none⟩) l4).trans r1
                have HW3 := Lib.hid (HX4.out.trans hw3)
                have HX5 := Lib.hid (HX3.out.trans hw3)
                clear hw3 hbw q1 r1 ek c0' c1 c2 c3
                generalize (World.drew (wr.alloc (Obj.cells #[.int .i64 x0, .int .i64 x1, .int .i64 x2, .int .i64 x3] 48))) = w3 at *
                go_wp2_with fail
                go_quiet (fail)
                clear f0 f1 g1
                go_wp2_with fail
                refine ⟨⟨0 + 1, by omega, by go_num, ?_, HW3.out.trans ((Ext.refl _).drewN _)⟩, by simp [intOf]; omega⟩
                intro j hj
                by_cases hjx : j = 0
                · subst hjx
                  exact HG.out
                · exact HXX.out j (by omega)
            · skip
              simp only [Nat.add_zero] at ek
              have hk9 : (0 : Int) < (m : Int) := by omega
              have hx9 : (x : Int) + 1 < (mk : Int) := by omega
              have hx8 : (x : Int) < (mk : Int) := by omega
              have hx7 : (0 : Int) ≤ (x : Int) + 1 := by omega
              have pe := ((hE.below (Nat.le_refl _)).cell (p := ⟨bx, ox + x, none⟩) hbx).trans (hcx x (by rw [HMK.out]; omega))
              have hin1 := rowsOk_in hok (y := 0) (x := x) (by omega) (by rw [HMK.out]; omega)
              have eT1 : tat ts rs 0 x = ts.getD ((rs.getD 0 []).getD x 0).toNat T0 := rfl
              generalize (rs.getD 0 []).getD x 0 = v1 at pe hin1 eT1
              rw [hl] at hin1
              obtain ⟨j1, rfl⟩ : ∃ j1 : Nat, v1 = (j1 : Int) := ⟨v1.toNat, by omega⟩
              rw [Int.toNat_natCast] at eT1
              have hj1 : (j1 : Int) < (n : Int) := by omega
              have pt := ((hE.below (Nat.le_refl _)).cell (p := ⟨bt, ot + j1 * 4 + 2, none⟩) hbt).trans (ht j1 (by omega)).2.2.1
              rw [← eT1] at pt
              have hcg : cellGood ts rs 0 (x + 1) = (decide ((tat ts rs 0 x).2.2.1 = x0)) := by
                unfold cellGood
                rw [eT]
                simp
              generalize (tat ts rs 0 x).2.2.1 = ew at pt hcg
              by_cases he1 : ew = x0
              · have he1' : (ew != x0) = false := by simp [he1]
                have HG : Hid (cellGood ts rs 0 (x + 1) = true) := Lib.hid (by rw [hcg]; simp [he1])
                clear hcg
                clear hcx hE hir hcr hA hB hok hcQ ht eT1 eT
                as_aux_lemma =>
                  go_wp2_with fail
                  go_region
                  have hw3 : Ext wr (World.drew (wr.alloc (Obj.cells #[.int .i64 x0, .int .i64 x1, .int .i64 x2, .int .i64 x3] 48))) := ((Ext.refl _).alloc _).drew
                  have f0 := ((Blk.new wr 48 #[.int .i64 x0, .int .i64 x1, .int .i64 x2, .int .i64 x3]).ext ((Ext.refl _).drew)).rd 0 rfl
                  have f1 := ((Blk.new wr 48 #[.int .i64 x0, .int .i64 x1, .int .i64 x2, .int .i64 x3]).ext ((Ext.refl _).drew)).rd 1 rfl
                  have hbw := hw3.below (Nat.le_refl _)
                  have g1 := (hbw.cell (p := ⟨w.heap.size, 1, none⟩) l4).trans r1
                  have gk := (hbw.cell (p := ⟨b, o, none⟩) l3).trans ek
                  have ga := (hbw.cell (p := ⟨bx, ox + x, none⟩) l1).trans pe
                  have gb := (hbw.cell (p := ⟨bt, ot + j1 * 4 + 2, none⟩) l2).trans pt
                  have HW3 := Lib.hid (HX4.out.trans hw3)
                  have HX5 := Lib.hid (HX3.out.trans hw3)
                  clear hw3 hbw q1 r1 ek c0' c1 c2 c3 pe pt
                  generalize (World.drew (wr.alloc (Obj.cells #[.int .i64 x0, .int .i64 x1, .int .i64 x2, .int .i64 x3] 48))) = w3 at *
                  have hwx : IntKind.i64.wrap (x : Int) = (x : Int) := IntWalk.i64_in _ (by omega)
                  go_wp2_with fail
                  go_quiet (fail)
                  clear f0 f1 g1 hwx gk ga gb
                  go_wp2_with fail
                  refine ⟨⟨x + 1 + 1, by omega, by go_num, ?_, HW3.out.trans ((Ext.refl _).drewN _)⟩, by simp [intOf]; omega⟩
                  intro j hj
                  by_cases hjx : j = x + 1
                  · subst hjx
                    exact HG.out
                  · exact HXX.out j (by omega)
              · have he1' : (ew != x0) = true := by simp [he1]
                have HG : Hid (cellGood ts rs 0 (x + 1) = false) := Lib.hid (by rw [hcg]; simp [he1])
                clear hcg
                clear hcx hE hir hcr hA hB hok hcQ ht eT1 eT
                as_aux_lemma =>
                  go_wp2_with fail
                  go_region
                  have hw3 : Ext wr (World.drew (wr.alloc (Obj.cells #[.int .i64 x0, .int .i64 x1, .int .i64 x2, .int .i64 x3] 48))) := ((Ext.refl _).alloc _).drew
                  have f0 := ((Blk.new wr 48 #[.int .i64 x0, .int .i64 x1, .int .i64 x2, .int .i64 x3]).ext ((Ext.refl _).drew)).rd 0 rfl
                  have f1 := ((Blk.new wr 48 #[.int .i64 x0, .int .i64 x1, .int .i64 x2, .int .i64 x3]).ext ((Ext.refl _).drew)).rd 1 rfl
                  have hbw := hw3.below (Nat.le_refl _)
                  have g1 := (hbw.cell (p := ⟨w.heap.size, 1, none⟩) l4).trans r1
                  have gk := (hbw.cell (p := ⟨b, o, none⟩) l3).trans ek
                  have ga := (hbw.cell (p := ⟨bx, ox + x, none⟩) l1).trans pe
                  have gb := (hbw.cell (p := ⟨bt, ot + j1 * 4 + 2, none⟩) l2).trans pt
                  have HW3 := Lib.hid (HX4.out.trans hw3)
                  have HX5 := Lib.hid (HX3.out.trans hw3)
                  clear hw3 hbw q1 r1 ek c0' c1 c2 c3 pe pt
                  generalize (World.drew (wr.alloc (Obj.cells #[.int .i64 x0, .int .i64 x1, .int .i64 x2, .int .i64 x3] 48))) = w3 at *
                  have hwx : IntKind.i64.wrap (x : Int) = (x : Int) := IntWalk.i64_in _ (by omega)
                  go_wp2_with fail
                  go_quiet (fail)
                  clear f0 f1 g1 hwx gk ga gb
                  go_wp2_with fail
                  go_ret
                  exact ⟨ret_b (goodB_at (y := 0) (x := x + 1) (by omega) (by rw [HMK.out]; omega) HG.out).symm, (((Ext.refl w).alloc _).trans HX5.out).trans ((Ext.refl _).drewN _)⟩
          · rcases x with _ | x
            · skip
              have hk9 : (k : Int) + 1 < (m : Int) := by omega
              have hk8 : (k : Int) < (m : Int) := by omega
              have hk7 : (0 : Int) ≤ (k : Int) + 1 := by omega
              simp only [Nat.add_zero] at q1
              have hx9 : (0 : Int) < (mk : Int) := by omega
              obtain ⟨Q1, q1', hc1, hq1, hir1⟩ := hcr k (by omega)
              have hsame1 := rowsOk_same hok (y := k) (by omega)
              have hsame2 := rowsOk_same hok (y := k + 1) (by omega)
              rw [HMK.out] at hsame2
              have hlen1 : (rs.getD k []).length = mk := by rw [hsame1, ← hsame2]
              rw [hlen1] at hc1 hq1
              obtain ⟨by1, oy1, hQ1, hby1, hcy⟩ := hir1 (by rw [hlen1]; omega)
              subst hQ1
              have ph := ((hE.below (Nat.le_refl _)).cell (p := ⟨b, o + k, none⟩) hb0).trans hc1
              have pc := ((hE.below (Nat.le_refl _)).cell (p := ⟨by1, oy1 + 0, none⟩) hby1).trans (hcy 0 (by rw [hlen1]; omega))
              have hin2 := rowsOk_in hok (y := k) (x := 0) (by omega) (by rw [hlen1]; omega)
              have eT2 : tat ts rs k 0 = ts.getD ((rs.getD k []).getD 0 0).toNat T0 := rfl
              generalize (rs.getD k []).getD 0 0 = v2 at pc hin2 eT2
              rw [hl] at hin2
              obtain ⟨j2, rfl⟩ : ∃ j2 : Nat, v2 = (j2 : Int) := ⟨v2.toNat, by omega⟩
              rw [Int.toNat_natCast] at eT2
              have hj2 : (j2 : Int) < (n : Int) := by omega
              have pd := ((hE.below (Nat.le_refl _)).cell (p := ⟨bt, ot + j2 * 4 + 3, none⟩) hbt).trans (ht j2 (by omega)).2.2.2
              rw [← eT2] at pd
              simp only [Nat.add_zero] at pc
              have l5 : by1 < wr.heap.size := by omega
              have hcg : cellGood ts rs (k + 1) 0 = (decide ((tat ts rs k 0).2.2.2 = x1)) := by
                unfold cellGood
                rw [eT]
                simp
              generalize (tat ts rs k 0).2.2.2 = ss at pd hcg
              by_cases he2 : ss = x1
              · have he2' : (ss != x1) = false := by simp [he2]
                have HG : Hid (cellGood ts rs (k + 1) 0 = true) := Lib.hid (by rw [hcg]; simp [he2])
                clear hcg
                clear hcx hE hir hcr hA hB hok hcQ ht hc1 hir1 hcy hsame1 hsame2 hlen1 eT2 eT
                as_aux_lemma =>
                  go_wp2_with fail
                  go_region
                  have hw3 : Ext wr (World.drew (wr.alloc (Obj.cells #[.int .i64 x0, .int .i64 x1, .int .i64 x2, .int .i64 x3] 48))) := ((Ext.refl _).alloc _).drew
                  have f0 := ((Blk.new wr 48 #[.int .i64 x0, .int .i64 x1, .int .i64 x2, .int .i64 x3]).ext ((Ext.refl _).drew)).rd 0 rfl
                  have f1 := ((Blk.new wr 48 #[.int .i64 x0, .int .i64 x1, .int .i64 x2, .int .i64 x3]).ext ((Ext.refl _).drew)).rd 1 rfl
                  have hbw := hw3.below (Nat.le_refl _)
                  have g1 := (hbw.cell (p := ⟨w.heap.size, 1, none⟩) l4).trans r1
                  have gh := (hbw.cell (p := ⟨b, o + k, none⟩) l3).trans ph
                  have gc := (hbw.cell (p := ⟨by1, oy1, none⟩) l5).trans pc
                  have gd := (hbw.cell (p := ⟨bt, ot + j2 * 4 + 3, none⟩) l2).trans pd
                  have HW3 := Lib.hid (HX4.out.trans hw3)
                  have HX5 := Lib.hid (HX3.out.trans hw3)
                  clear hw3 hbw q1 r1 ek c0' c1 c2 c3 ph pc pd
                  generalize (World.drew (wr.alloc (Obj.cells #[.int .i64 x0, .int .i64 x1, .int .i64 x2, .int .i64 x3] 48))) = w3 at *
                  have hwk : IntKind.i64.wrap (k : Int) = (k : Int) := IntWalk.i64_in _ (by omega)
                  go_wp2_with fail
                  go_quiet (fail)
                  clear f0 f1 g1 hwk gh gc gd
                  go_wp2_with fail
                  refine ⟨⟨0 + 1, by omega, by go_num, ?_, HW3.out.trans ((Ext.refl _).drewN _)⟩, by simp [intOf]; omega⟩
                  intro j hj
                  by_cases hjx : j = 0
                  · subst hjx
                    exact HG.out
                  · exact HXX.out j (by omega)
              · have he2' : (ss != x1) = true := by simp [he2]
                have HG : Hid (cellGood ts rs (k + 1) 0 = false) := Lib.hid (by rw [hcg]; simp [he2])
                clear hcg
                clear hcx hE hir hcr hA hB hok hcQ ht hc1 hir1 hcy hsame1 hsame2 hlen1 eT2 eT
                as_aux_lemma =>
                  go_wp2_with fail
                  go_region
                  have hw3 : Ext wr (World.drew (wr.alloc (Obj.cells #[.int .i64 x0, .int .i64 x1, .int .i64 x2, .int .i64 x3] 48))) := ((Ext.refl _).alloc _).drew
                  have f0 := ((Blk.new wr 48 #[.int .i64 x0, .int .i64 x1, .int .i64 x2, .int .i64 x3]).ext ((Ext.refl _).drew)).rd 0 rfl
                  have f1 := ((Blk.new wr 48 #[.int .i64 x0, .int .i64 x1, .int .i64 x2, .int .i64 x3]).ext ((Ext.refl _).drew)).rd 1 rfl
                  have hbw := hw3.below (Nat.le_refl _)
                  have g1 := (hbw.cell (p := ⟨w.heap.size, 1, none⟩) l4).trans r1
                  have gh := (hbw.cell (p := ⟨b, o + k, none⟩) l3).trans ph
                  have gc := (hbw.cell (p := ⟨by1, oy1, none⟩) l5).trans pc
                  have gd := (hbw.cell (p := ⟨bt, ot + j2 * 4 + 3, none⟩) l2).trans pd
                  have HW3 := Lib.hid (HX4.out.trans hw3)
                  have HX5 := Lib.hid (HX3.out.trans hw3)
                  clear hw3 hbw q1 r1 ek c0' c1 c2 c3 ph pc pd
                  generalize (World.drew (wr.alloc (Obj.cells #[.int .i64 x0, .int .i64 x1, .int .i64 x2, .int .i64 x3] 48))) = w3 at *
                  have hwk : IntKind.i64.wrap (k : Int) = (k : Int) := IntWalk.i64_in _ (by omega)
                  go_wp2_with fail
                  go_quiet (fail)
                  clear f0 f1 g1 hwk gh gc gd
                  go_wp2_with fail
                  go_ret
                  exact ⟨ret_b (goodB_at (y := k + 1) (x := 0) (by omega) (by rw [HMK.out]; omega) HG.out).symm, (((Ext.refl w).alloc _).trans HX5.out).trans ((Ext.refl _).drewN _)⟩
            · skip
              have hk9 : (k : Int) + 1 < (m : Int) := by omega
              have hk8 : (k : Int) < (m : Int) := by omega
              have hk7 : (0 : Int) ≤ (k : Int) + 1 := by omega
              have hx9 : (x : Int) + 1 < (mk : Int) := by omega
              have hx8 : (x : Int) < (mk : Int) := by omega
              have hx7 : (0 : Int) ≤ (x : Int) + 1 := by omega
              have pe := ((hE.below (Nat.le_refl _)).cell (p := ⟨bx, ox + x, none⟩) hbx).trans (hcx x (by rw [HMK.out]; omega))
              have hin1 := rowsOk_in hok (y := (k + 1)) (x := x) (by omega) (by rw [HMK.out]; omega)
              have eT1 : tat ts rs (k + 1) x = ts.getD ((rs.getD (k + 1) []).getD x 0).toNat T0 := rfl
              generalize (rs.getD (k + 1) []).getD x 0 = v1 at pe hin1 eT1
              rw [hl] at hin1
              obtain ⟨j1, rfl⟩ : ∃ j1 : Nat, v1 = (j1 : Int) := ⟨v1.toNat, by omega⟩
              rw [Int.toNat_natCast] at eT1
              have hj1 : (j1 : Int) < (n : Int) := by omega
              have pt := ((hE.below (Nat.le_refl _)).cell (p := ⟨bt, ot + j1 * 4 + 2, none⟩) hbt).trans (ht j1 (by omega)).2.2.1
              rw [← eT1] at pt
              obtain ⟨Q1, q1', hc1, hq1, hir1⟩ := hcr k (by omega)
              have hsame1 := rowsOk_same hok (y := k) (by omega)
              have hsame2 := rowsOk_same hok (y := k + 1) (by omega)
              rw [HMK.out] at hsame2
              have hlen1 : (rs.getD k []).length = mk := by rw [hsame1, ← hsame2]
              rw [hlen1] at hc1 hq1
              obtain ⟨by1, oy1, hQ1, hby1, hcy⟩ := hir1 (by rw [hlen1]; omega)
              subst hQ1
              have ph := ((hE.below (Nat.le_refl _)).cell (p := ⟨b, o + k, none⟩) hb0).trans hc1
              have pc := ((hE.below (Nat.le_refl _)).cell (p := ⟨by1, oy1 + (x + 1), none⟩) hby1).trans (hcy (x + 1) (by rw [hlen1]; omega))
              have hin2 := rowsOk_in hok (y := k) (x := (x + 1)) (by omega) (by rw [hlen1]; omega)
              have eT2 : tat ts rs k (x + 1) = ts.getD ((rs.getD k []).getD (x + 1) 0).toNat T0 := rfl
              generalize (rs.getD k []).getD (x + 1) 0 = v2 at pc hin2 eT2
              rw [hl] at hin2
              obtain ⟨j2, rfl⟩ : ∃ j2 : Nat, v2 = (j2 : Int) := ⟨v2.toNat, by omega⟩
              rw [Int.toNat_natCast] at eT2
              have hj2 : (j2 : Int) < (n : Int) := by omega
              have pd := ((hE.below (Nat.le_refl _)).cell (p := ⟨bt, ot + j2 * 4 + 3, none⟩) hbt).trans (ht j2 (by omega)).2.2.2
              rw [← eT2] at pd
              have l5 : by1 < wr.heap.size := by omega
              have hcg : cellGood ts rs (k + 1) (x + 1) = (decide ((tat ts rs (k + 1) x).2.2.1 = x0) && decide ((tat ts rs k (x + 1)).2.2.2 = x1)) := by
                unfold cellGood
                rw [eT]
                simp
              generalize (tat ts rs (k + 1) x).2.2.1 = ew at pt hcg
              generalize (tat ts rs k (x + 1)).2.2.2 = ss at pd hcg
              by_cases he1 : ew = x0
              · have he1' : (ew != x0) = false := by simp [he1]
                by_cases he2 : ss = x1
                · have he2' : (ss != x1) = false := by simp [he2]
                  have HG : Hid (cellGood ts rs (k + 1) (x + 1) = true) := Lib.hid (by rw [hcg]; simp [he1, he2])
                  clear hcg
                  clear hcx hE hir hcr hA hB hok hcQ ht eT1 hc1 hir1 hcy hsame1 hsame2 hlen1 eT2 eT
                  as_aux_lemma =>
                    go_wp2_with fail
                    go_region
                    have hw3 : Ext wr (World.drew (wr.alloc (Obj.cells #[.int .i64 x0, .int .i64 x1, .int .i64 x2, .int .i64 x3] 48))) := ((Ext.refl _).alloc _).drew
                    have f0 := ((Blk.new wr 48 #[.int .i64 x0, .int .i64 x1, .int .i64 x2, .int .i64 x3]).ext ((Ext.refl _).drew)).rd 0 rfl
                    have f1 := ((Blk.new wr 48 #[.int .i64 x0, .int .i64 x1, .int .i64 x2, .int .i64 x3]).ext ((Ext.refl _).drew)).rd 1 rfl
                    have hbw := hw3.below (Nat.le_refl _)
                    have g1 := (hbw.cell (p := ⟨w.heap.size, 1, none⟩) l4).trans r1
                    have gk := (hbw.cell (p := ⟨b, o + (k + 1), none⟩) l3).trans ek
                    have ga := (hbw.cell (p := ⟨bx, ox + x, none⟩) l1).trans pe
                    have gb := (hbw.cell (p := ⟨bt, ot + j1 * 4 + 2, none⟩) l2).trans pt
                    have gh := (hbw.cell (p := ⟨b, o + k, none⟩) l3).trans ph
                    have gc := (hbw.cell (p := ⟨by1, oy1 + (x + 1), none⟩) l5).trans pc
                    have gd := (hbw.cell (p := ⟨bt, ot + j2 * 4 + 3, none⟩) l2).trans pd
                    have HW3 := Lib.hid (HX4.out.trans hw3)
                    have HX5 := Lib.hid (HX3.out.trans hw3)
                    clear hw3 hbw q1 r1 ek c0' c1 c2 c3 pe pt ph pc pd
                    generalize (World.drew (wr.alloc (Obj.cells #[.int .i64 x0, .int .i64 x1, .int .i64 x2, .int .i64 x3] 48))) = w3 at *
                    have hwx : IntKind.i64.wrap (x : Int) = (x : Int) := IntWalk.i64_in _ (by omega)
                    have hwk : IntKind.i64.wrap (k : Int) = (k : Int) := IntWalk.i64_in _ (by omega)
                    go_wp2_with fail
                    go_quiet (fail)
                    clear f0 f1 g1 hwx hwk gk ga gb gh gc gd
                    go_wp2_with fail
                    refine ⟨⟨x + 1 + 1, by omega, by go_num, ?_, HW3.out.trans ((Ext.refl _).drewN _)⟩, by simp [intOf]; omega⟩
                    intro j hj
                    by_cases hjx : j = x + 1
                    · subst hjx
                      exact HG.out
                    · exact HXX.out j (by omega)
                · have he2' : (ss != x1) = true := by simp [he2]
                  have HG : Hid (cellGood ts rs (k + 1) (x + 1) = false) := Lib.hid (by rw [hcg]; simp [he1, he2])
                  clear hcg
                  clear hcx hE hir hcr hA hB hok hcQ ht eT1 hc1 hir1 hcy hsame1 hsame2 hlen1 eT2 eT
                  as_aux_lemma =>
                    go_wp2_with fail
                    go_region
                    have hw3 : Ext wr (World.drew (wr.alloc (Obj.cells #[.int .i64 x0, .int .i64 x1, .int .i64 x2, .int .i64 x3] 48))) := ((Ext.refl _).alloc _).drew
                    have f0 := ((Blk.new wr 48 #[.int .i64 x0, .int .i64 x1, .int .i64 x2, .int .i64 x3]).ext ((Ext.refl _).drew)).rd 0 rfl
                    have f1 := ((Blk.new wr 48 #[.int .i64 x0, .int .i64 x1, .int .i64 x2, .int .i64 x3]).ext ((Ext.refl _).drew)).rd 1 rfl
                    have hbw := hw3.below (Nat.le_refl _)
                    have g1 := (hbw.cell (p := ⟨w.heap.size, 1, none⟩) l4).trans r1
                    have gk := (hbw.cell (p := ⟨b, o + (k + 1), none⟩) l3).trans ek
                    have ga := (hbw.cell (p := ⟨bx, ox + x, none⟩) l1).trans pe
                    have gb := (hbw.cell (p := ⟨bt, ot + j1 * 4 + 2, none⟩) l2).trans pt
                    have gh := (hbw.cell (p := ⟨b, o + k, none⟩) l3).trans ph
                    have gc := (hbw.cell (p := ⟨by1, oy1 + (x + 1), none⟩) l5).trans pc
                    have gd := (hbw.cell (p := ⟨bt, ot + j2 * 4 + 3, none⟩) l2).trans pd
                    have HW3 := Lib.hid (HX4.out.trans hw3)
                    have HX5 := Lib.hid (HX3.out.trans hw3)
                    clear hw3 hbw q1 r1 ek c0' c1 c2 c3 pe pt ph pc pd
                    generalize (World.drew (wr.alloc (Obj.cells #[.int .i64 x0, .int .i64 x1, .int .i64 x2, .int .i64 x3] 48))) = w3 at *
                    have hwx : IntKind.i64.wrap (x : Int) = (x : Int) := IntWalk.i64_in _ (by omega)
                    have hwk : IntKind.i64.wrap (k : Int) = (k : Int) := IntWalk.i64_in _ (by omega)
                    go_wp2_with fail
                    go_quiet (fail)
                    clear f0 f1 g1 hwx hwk gk ga gb gh gc gd
                    go_wp2_with fail
                    go_ret
                    exact ⟨ret_b (goodB_at (y := k + 1) (x := x + 1) (by omega) (by rw [HMK.out]; omega) HG.out).symm, (((Ext.refl w).alloc _).trans HX5.out).trans ((Ext.refl _).drewN _)⟩
              · have he1' : (ew != x0) = true := by simp [he1]
                have HG : Hid (cellGood ts rs (k + 1) (x + 1) = false) := Lib.hid (by rw [hcg]; simp [he1])
                clear hcg
                clear hcx hE hir hcr hA hB hok hcQ ht eT1 hc1 hir1 hcy hsame1 hsame2 hlen1 eT2 eT
                as_aux_lemma =>
                  go_wp2_with fail
                  go_region
                  have hw3 : Ext wr (World.drew (wr.alloc (Obj.cells #[.int .i64 x0, .int .i64 x1, .int .i64 x2, .int .i64 x3] 48))) := ((Ext.refl _).alloc _).drew
                  have f0 := ((Blk.new wr 48 #[.int .i64 x0, .int .i64 x1, .int .i64 x2, .int .i64 x3]).ext ((Ext.refl _).drew)).rd 0 rfl
                  have f1 := ((Blk.new wr 48 #[.int .i64 x0, .int .i64 x1, .int .i64 x2, .int .i64 x3]).ext ((Ext.refl _).drew)).rd 1 rfl
                  have hbw := hw3.below (Nat.le_refl _)
                  have g1 := (hbw.cell (p := ⟨w.heap.size, 1, none⟩) l4).trans r1
                  have gk := (hbw.cell (p := ⟨b, o + (k + 1), none⟩) l3).trans ek
                  have ga := (hbw.cell (p := ⟨bx, ox + x, none⟩) l1).trans pe
                  have gb := (hbw.cell (p := ⟨bt, ot + j1 * 4 + 2, none⟩) l2).trans pt
                  have gh := (hbw.cell (p := ⟨b, o + k, none⟩) l3).trans ph
                  have gc := (hbw.cell (p := ⟨by1, oy1 + (x + 1), none⟩) l5).trans pc
                  have gd := (hbw.cell (p := ⟨bt, ot + j2 * 4 + 3, none⟩) l2).trans pd
                  have HW3 := Lib.hid (HX4.out.trans hw3)
                  have HX5 := Lib.hid (HX3.out.trans hw3)
                  clear hw3 hbw q1 r1 ek c0' c1 c2 c3 pe pt ph pc pd
                  generalize (World.drew (wr.alloc (Obj.cells #[.int .i64 x0, .int .i64 x1, .int .i64 x2, .int .i64 x3] 48))) = w3 at *
                  have hwx : IntKind.i64.wrap (x : Int) = (x : Int) := IntWalk.i64_in _ (by omega)
                  have hwk : IntKind.i64.wrap (k : Int) = (k : Int) := IntWalk.i64_in _ (by omega)
                  go_wp2_with fail
                  go_quiet (fail)
                  clear f0 f1 g1 hwx hwk gk ga gb gh gc gd
                  go_wp2_with fail
                  go_ret
                  exact ⟨ret_b (goodB_at (y := k + 1) (x := x + 1) (by omega) (by rw [HMK.out]; omega) HG.out).symm, (((Ext.refl w).alloc _).trans HX5.out).trans ((Ext.refl _).drewN _)⟩
        · clear r1
          go_wp2_with fail
          go_roundw
          case rel =>
            refine ⟨k + 1, by omega, by go_num, ?_, HX3.out⟩
            intro y x hy hx
            by_cases hyk : y = k
            · subst hyk
              exact HXX.out x (by rw [HMK.out] at hx; omega)
            · exact H.out y x (by omega) hx
          case measure => simp [intOf]; omega
    · go_wp2_with fail
      go_ret
      exact ⟨ret_b (goodB_all (fun y x hy hx => H.out y x (by omega) hx)).symm, ((Ext.refl w).alloc _).trans HX2.out⟩
end Go.Proofs.Ytjoaoimebdkpaaa
