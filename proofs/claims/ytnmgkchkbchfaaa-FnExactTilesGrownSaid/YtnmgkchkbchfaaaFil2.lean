/- Rows of numbers of tiles, the program's side. -/
import Derived.Test.YtnmgkchkbchfaaaFil1
namespace Go.Proofs.Ytnmgkchkbchfaaa
set_option linter.unusedVariables false
set_option linter.unusedSimpArgs false
open Go.RowKit Go.Sort

theorem isSideLength_any (n : Int) (w : World) : Calls Try.prog 125 #[.int .i64 n] w fun e w' => e = .returned (.bool (decide (1 ≤ n ∧ n ≤ 8))) ∧ w' = w := by
  go_enter Try.func125, Try.ntmps125
  by_cases h1 : 1 ≤ n <;> by_cases h2 : n ≤ 8 <;> go_wp2 <;> go_ret <;> exact ⟨by simp [h1, h2], rfl⟩

set_option maxRecDepth 100000 in
set_option maxHeartbeats 4000000 in
theorem areRows_any (c0 : Int) (A : Option Addr) (n c : Nat) (ts : List Tl) (B : Option Addr) (m d : Nat) (rs : List (List Int)) (w : World) (hn : n ≤ 1048576) (hl : ts.length = n) (hm : m ≤ 1048576) (hlr : rs.length = m) (hB : IRR w w.heap.size B rs) (hrow : ∀ k, k < m → (rs.getD k []).length ≤ 1048576) :
    Calls Try.prog 98 #[.agg #[.int .i64 c0, .slice A n c], .slice B m d] w fun e w' => e = .returned (.bool (rowsOk ts rs)) ∧ Ext w w' := by
  have hsl := fun W => isSideLength_any (m : Int) W
  by_cases h12 : 1 ≤ m ∧ m ≤ 8
  · rw [decide_eq_true (show 1 ≤ (m : Int) ∧ (m : Int) ≤ 8 by omega)] at hsl
    obtain ⟨b, o, rfl, hb0, hcr⟩ := hB (by omega)
    obtain ⟨Q0, q0, hc0, hq0, -⟩ := hcr 0 (by omega)
    rw [Nat.add_zero] at hc0
    generalize hM0 : (rs.getD 0 []).length = m0 at hc0
    have HM0 := Lib.hid hM0
    have hsw := fun W => isSideLength_any (m0 : Int) W
    have hm1 : (1 : Int) ≤ (m : Int) := by omega
    have H12 := Lib.hid h12
    have hc01 : (w.alloc (.cells #[.int .i64 c0, .slice A n c] 32)).cell? ⟨b, o, none⟩ = some (.slice Q0 m0 q0) := (World.cell?_alloc_lt w _ _ hb0).trans hc0
    by_cases hw : 1 ≤ m0 ∧ m0 ≤ 8
    · rw [decide_eq_true (show 1 ≤ (m0 : Int) ∧ (m0 : Int) ≤ 8 by omega)] at hsw
      have HW := Lib.hid hw
      have HC0 := Lib.hid hc0
      have HCR := Lib.hid hcr
      clear hM0 hB hw h12 hcr hc0
      go_enter Try.func98, Try.ntmps98
      go_wp2_with fail
      refine (hsl _).mono ?_
      rintro e w1 ⟨rfl, rfl⟩
      go_wp2_with fail
      refine (hsw _).mono ?_
      rintro e w1 ⟨rfl, rfl⟩
      clear hsl hsw
      go_wp2_with fail
      clear hc01
      go_loopw [21] (fun i wr => ∃ k : Nat, k ≤ m ∧ i = .int .i64 k ∧ (∀ y, y < k → rowFit ts rs y = true) ∧ Ext (w.alloc (.cells #[.int .i64 c0, .slice A n c] 32)) wr) (fun i _ => m - (intOf i).toNat)
      case atStart => exact ⟨0, Nat.zero_le _, rfl, fun j hj => absurd hj (Nat.not_lt_zero _), Ext.refl _⟩
      case round =>
        obtain ⟨k, hk, rfl, heq, hx⟩ := hrel
        have H := Lib.hid heq
        have HX2 := Lib.hid hx
        have hb1 := (Blk.new w 32 #[.int .i64 c0, .slice A n c]).ext hx
        clear heq
        have hE := ((Ext.refl w).alloc (.cells #[.int .i64 c0, .slice A n c] 32)).trans hx
        by_cases hlt : k < m
        · obtain ⟨Q, q, hcQ, hqq, hir⟩ := HCR.out k (by omega)
          have e0 : wr.cell? ⟨b, o, none⟩ = some (.slice Q0 m0 q0) := ((hE.below (Nat.le_refl _)).cell (p := ⟨b, o, none⟩) hb0).trans HC0.out
          have ek : wr.cell? ⟨b, o + k, none⟩ = some (.slice Q (rs.getD k []).length q) := ((hE.below (Nat.le_refl _)).cell (p := ⟨b, o + k, none⟩) hb0).trans hcQ
          have hrk := hrow k hlt
          have hcon : ∀ W, Ext w W → Calls Try.prog 91 #[.agg #[.int .i64 c0, .slice A n c], .slice Q (rs.getD k []).length q] W _ := fun W hW => areTileNumbers_any c0 A n c ts Q (rs.getD k []).length q (rs.getD k []) W hn hl (by omega) rfl ((hir.ext hW (Nat.le_refl _)).more (hW.below (Nat.le_refl _)).size)
          have hfit := rowFit_yes (ts := ts) (rs := rs) (y := k)
          rw [HM0.out] at hfit
          have hfno := rowFit_no (ts := ts) (rs := rs) (y := k)
          rw [HM0.out] at hfno
          generalize (rs.getD k []).length = mk at ek hrk hcon hfit hfno
          have HF := Lib.hid hfit
          have HFN := Lib.hid hfno
          have HCON := Lib.hid hcon
          have HE := Lib.hid hE
          have r0 := hb1.rd 0 rfl
          have r1 := hb1.rd 1 rfl
          clear hcQ hir hx hrow hE hb1 hcon hfit hfno
          by_cases hmm : mk = m0
          · have hne : ((mk : Int) != (m0 : Int)) = false := by simp [hmm]
            have HMM := Lib.hid hmm
            clear hmm
            have HF' := HF.out HMM.out
            rw [← HF'] at HCON
            clear HF
            have HF := Lib.hid HF'
            clear HF'
            cases hfk : rowFit ts rs k with
            | true =>
              rw [hfk] at HCON
              have HK := Lib.hid hfk
              clear hfk
              go_wp2_with fail
              refine (HCON.out _ HE.out).mono ?_
              rintro e w2 ⟨rfl, hx⟩
              have HX3 := Lib.hid (HX2.out.trans hx)
              clear hx e0 ek r0 r1 hne
              go_wp2_with fail
              go_roundw
              case rel =>
                refine ⟨k + 1, by omega, by go_num, ?_, HX3.out⟩
                intro y hy
                by_cases hyk : y = k
                · subst hyk
                  exact HK.out
                · exact H.out y (by omega)
              case measure => simp [intOf]; omega
            | false =>
              rw [hfk] at HCON
              have HK := Lib.hid hfk
              clear hfk
              go_wp2_with fail
              refine (HCON.out _ HE.out).mono ?_
              rintro e w2 ⟨rfl, hx⟩
              have HX3 := Lib.hid (HE.out.trans hx)
              clear hx e0 ek r0 r1 hne
              go_wp2_with fail
              go_ret
              exact ⟨ret_b (rowsOk_at (y := k) (by omega) HK.out).symm, HX3.out⟩
          · have hne : ((mk : Int) != (m0 : Int)) = true := by simp; omega
            have HMM := Lib.hid hmm
            clear hmm
            go_wp2_with fail
            all_goals go_ret
            all_goals exact ⟨ret_b (rowsOk_at (y := k) (by omega) (HFN.out HMM.out)).symm, HE.out⟩
        · have HE := Lib.hid hE
          clear hE hx hb1 hrow
          go_wp2_with fail
          go_ret
          exact ⟨ret_b (rowsOk_all (by have := H12.out; omega) (by rw [HM0.out]; exact HW.out) (fun y hy => H.out y (by omega))).symm, HE.out⟩
    · have HBAD := Lib.hid (show rowsOk ts rs = false from rowsOk_wid (by rw [hM0]; exact hw))
      rw [decide_eq_false (show ¬ (1 ≤ (m0 : Int) ∧ (m0 : Int) ≤ 8) by omega)] at hsw
      clear hM0 hB hw h12 hcr hc0
      go_enter Try.func98, Try.ntmps98
      go_wp2_with fail
      refine (hsl _).mono ?_
      rintro e w1 ⟨rfl, rfl⟩
      go_wp2_with fail
      refine (hsw _).mono ?_
      rintro e w1 ⟨rfl, rfl⟩
      clear hsl hsw hc01
      go_wp2_with fail
      go_ret
      exact ⟨ret_b HBAD.out.symm, (Ext.refl w).alloc _⟩
  · rw [decide_eq_false (show ¬ (1 ≤ (m : Int) ∧ (m : Int) ≤ 8) by omega)] at hsl
    have HBAD := Lib.hid (show rowsOk ts rs = false from rowsOk_len (by rw [hlr]; exact h12))
    clear hB h12
    go_enter Try.func98, Try.ntmps98
    go_wp2_with fail
    refine (hsl _).mono ?_
    rintro e w1 ⟨rfl, rfl⟩
    clear hsl
    go_wp2_with fail
    go_ret
    exact ⟨ret_b HBAD.out.symm, (Ext.refl w).alloc _⟩
end Go.Proofs.Ytnmgkchkbchfaaa
