/- Rows of numbers of tiles: whether they are ones, on both sides. -/
import Derived.Test.YtnmgkchkbchfaaaRow
import Derived.Test.YtnmgkchkbchfaaaRs
namespace Go.Proofs.Ytnmgkchkbchfaaa
set_option linter.unusedVariables false
set_option linter.unusedSimpArgs false
open Go.RowKit Go.Sort

def tat (ts : List Tl) (rs : List (List Int)) (y x : Nat) : Tl := ts.getD ((rs.getD y []).getD x 0).toNat T0
def rowFit (ts : List Tl) (rs : List (List Int)) (y : Nat) : Bool := decide ((rs.getD y []).length = (rs.getD 0 []).length) && allT ts (rs.getD y [])
/-- These are rows of numbers of tiles, all of one length, within the limits. -/
def rowsOk (ts : List Tl) (rs : List (List Int)) : Bool := decide (1 ≤ rs.length ∧ rs.length ≤ 8) && (decide (1 ≤ (rs.getD 0 []).length ∧ (rs.getD 0 []).length ≤ 8) && (List.range rs.length).all (rowFit ts rs))
theorem rowsOk_len {ts : List Tl} {rs : List (List Int)} (h : ¬ (1 ≤ rs.length ∧ rs.length ≤ 8)) : rowsOk ts rs = false := by simp [rowsOk, h]
theorem rowsOk_wid {ts : List Tl} {rs : List (List Int)} (h : ¬ (1 ≤ (rs.getD 0 []).length ∧ (rs.getD 0 []).length ≤ 8)) : rowsOk ts rs = false := by unfold rowsOk; rw [decide_eq_false h]; simp
theorem rowsOk_at {ts : List Tl} {rs : List (List Int)} {y : Nat} (hy : y < rs.length) (h : rowFit ts rs y = false) : rowsOk ts rs = false := by
  have : (List.range rs.length).all (rowFit ts rs) = false := by
    rw [List.all_eq_false]
    exact ⟨y, List.mem_range.2 hy, by rw [h]; decide⟩
  simp [rowsOk, this]
theorem rowsOk_all {ts : List Tl} {rs : List (List Int)} (h1 : 1 ≤ rs.length ∧ rs.length ≤ 8) (h2 : 1 ≤ (rs.getD 0 []).length ∧ (rs.getD 0 []).length ≤ 8) (h : ∀ y, y < rs.length → rowFit ts rs y = true) : rowsOk ts rs = true := by
  have : (List.range rs.length).all (rowFit ts rs) = true := List.all_eq_true.2 fun k hk => h k (List.mem_range.1 hk)
  unfold rowsOk
  rw [decide_eq_true h1, decide_eq_true h2, this]
  rfl
theorem rowFit_no {ts : List Tl} {rs : List (List Int)} {y : Nat} (h : (rs.getD y []).length ≠ (rs.getD 0 []).length) : rowFit ts rs y = false := by unfold rowFit; rw [decide_eq_false h]; rfl
theorem rowFit_yes {ts : List Tl} {rs : List (List Int)} {y : Nat} (h : (rs.getD y []).length = (rs.getD 0 []).length) : rowFit ts rs y = allT ts (rs.getD y []) := by unfold rowFit; rw [decide_eq_true h]; rfl
def fillCode (c0 : Int) (ts : List Tl) (rs : List (List Int)) : Int := if isSet c0 ts = true then (if rowsOk ts rs = true then 0 else 2) else 1
theorem fc1 {c0 : Int} {ts : List Tl} {rs : List (List Int)} (hs : isSet c0 ts = false) : fillCode c0 ts rs = 1 := by simp [fillCode, hs]
theorem fc2 {c0 : Int} {ts : List Tl} {rs : List (List Int)} (hs : isSet c0 ts = true) (h : rowsOk ts rs = false) : fillCode c0 ts rs = 2 := by simp [fillCode, hs, h]
theorem fc0 {c0 : Int} {ts : List Tl} {rs : List (List Int)} (hs : isSet c0 ts = true) (h : rowsOk ts rs = true) : fillCode c0 ts rs = 0 := by simp [fillCode, hs, h]

set_option maxRecDepth 100000 in
set_option maxHeartbeats 4000000 in
theorem l01Rows_any (c0 : Int) (A : Option Addr) (n c : Nat) (ts : List Tl) (B : Option Addr) (m d : Nat) (rs : List (List Int)) (w : World) (hn : n ≤ 1048576) (hl : ts.length = n) (hA : TR w w.heap.size A ts) (hm : m ≤ 1048576) (hlr : rs.length = m) (hB : IRR w w.heap.size B rs) (hrow : ∀ k, k < m → (rs.getD k []).length ≤ 1048576) :
    Calls Try.prog 97 #[.agg #[.int .i64 c0, .slice A n c], .slice B m d] w fun e w' => e = .returned (.int .i64 (fillCode c0 ts rs)) ∧ Ext w w' := by
  have his : ∀ W, Ext w W → Calls Try.prog 85 #[.agg #[.int .i64 c0, .slice A n c]] W _ := fun W hW => l01Is_any c0 A n c ts W (by omega) hl ((hA.ext hW (Nat.le_refl _)).more (hW.below (Nat.le_refl _)).size)
  have HI := Lib.hid his
  clear his hA
  generalize hz : fillCode c0 ts rs = z
  have HZ := Lib.hid hz
  clear hz
  cases hs : isSet c0 ts with
  | false =>
    rw [hs] at HI
    have HS := Lib.hid hs
    clear hs
    go_enter Try.func97, Try.ntmps97
    go_wp2_with fail
    refine (HI.out _ ((Ext.refl w).alloc _)).mono ?_
    rintro e w1 ⟨rfl, hx⟩
    have HX := Lib.hid (((Ext.refl w).alloc _).trans hx)
    clear hx
    go_wp2_with fail
    go_ret
    exact ⟨ret_i (by rw [← HZ.out, fc1 HS.out]), HX.out⟩
  | true =>
    rw [hs] at HI
    have HS := Lib.hid hs
    clear hs
    by_cases h1 : 1 ≤ m
    · by_cases h2 : m ≤ 8
      · obtain ⟨b, o, rfl, hb0, hcr⟩ := hB (by omega)
        obtain ⟨Q0, q0, hc0, hq0, -⟩ := hcr 0 (by omega)
        rw [Nat.add_zero] at hc0
        generalize hM0 : (rs.getD 0 []).length = m0 at hc0
        have HM0 := Lib.hid hM0
        by_cases hw : 1 ≤ m0 ∧ m0 ≤ 8
        · have hwr : IntKind.i64.wrap ((n : Int) - 1) = (n : Int) - 1 := IntWalk.i64_in _ (by omega)
          have HWR := Lib.hid hwr
          obtain ⟨hw1, hw2⟩ := hw
          have hm1 : (1 : Int) ≤ (m : Int) := by omega
          clear hM0 hwr hB
          go_enter Try.func97, Try.ntmps97
          go_wp2_with fail
          refine (HI.out _ ((Ext.refl w).alloc _)).mono ?_
          rintro e w1 ⟨rfl, hx⟩
          have HB1 := Lib.hid ((Blk.new w 32 #[.int .i64 c0, .slice A n c]).ext hx)
          have HX := Lib.hid (((Ext.refl w).alloc _).trans hx)
          have hc01 : w1.cell? ⟨b, o, none⟩ = some (.slice Q0 m0 q0) := ((((Ext.refl w).alloc (.cells #[.int .i64 c0, .slice A n c] 32)).trans hx).below (Nat.le_refl _)).cell (p := ⟨b, o, none⟩) hb0 |>.trans hc0
          clear hx
          go_wp2_with fail
          clear hc01
          go_loopw [5] (fun i wr => ∃ k : Nat, k ≤ m ∧ i = .int .i64 k ∧ (∀ y, y < k → rowFit ts rs y = true) ∧ Ext w1 wr) (fun i _ => m - (intOf i).toNat)
          case atStart => exact ⟨0, Nat.zero_le _, rfl, fun j hj => absurd hj (Nat.not_lt_zero _), Ext.refl _⟩
          case round =>
            obtain ⟨k, hk, rfl, heq, hx⟩ := hrel
            have H := Lib.hid heq
            have HX2 := Lib.hid hx
            clear heq
            have hE := HX.out.trans hx
            by_cases hlt : k < m
            · obtain ⟨Q, q, hcQ, hqq, hir⟩ := hcr k (by omega)
              have e0 : wr.cell? ⟨b, o, none⟩ = some (.slice Q0 m0 q0) := ((hE.below (Nat.le_refl _)).cell (p := ⟨b, o, none⟩) hb0).trans hc0
              have ek : wr.cell? ⟨b, o + k, none⟩ = some (.slice Q (rs.getD k []).length q) := ((hE.below (Nat.le_refl _)).cell (p := ⟨b, o + k, none⟩) hb0).trans hcQ
              have hrk := hrow k hlt
              generalize hMk : (rs.getD k []).length = mk at ek hrk
              have HMK := Lib.hid hMk
              have HIR := Lib.hid hir
              have HCQ := Lib.hid (show w.cell? ⟨b, o + k, none⟩ = some (.slice Q mk q) by rw [← hMk]; exact hcQ)
              have HC0 := Lib.hid hc0
              have HCR := Lib.hid hcr
              clear hcQ hir hMk hx hcr hc0
              obtain ⟨wo, rfl⟩ : ∃ wo : World, wo = wr := ⟨_, rfl⟩
              by_cases hmm : mk = m0
              · have hne : ((mk : Int) != (m0 : Int)) = false := by simp [hmm]
                have HE := Lib.hid hE
                have HMM := Lib.hid hmm
                clear hE hmm
                go_wp2_with fail
                go_quiet (fail)
                clear e0 ek hne
                go_wp2_with fail
                go_loopw [6] (fun i wr => ∃ x : Nat, x ≤ mk ∧ i = .int .i64 x ∧ (∀ j, j < x → inT ts ((rs.getD k []).getD j 0) = true) ∧ Ext wo wr) (fun i _ => mk - (intOf i).toNat)
                case atStart => exact ⟨0, Nat.zero_le _, rfl, fun j hj => absurd hj (Nat.not_lt_zero _), (Ext.refl _).drewN _⟩
                case round =>
                  obtain ⟨x, hxk, rfl, heqx, hx⟩ := hrel
                  have HXX := Lib.hid heqx
                  have HX3 := Lib.hid hx
                  clear heqx
                  have hE := HE.out.trans hx
                  have ek : wr.cell? ⟨b, o + k, none⟩ = some (.slice Q mk q) := ((hE.below (Nat.le_refl _)).cell (p := ⟨b, o + k, none⟩) hb0).trans HCQ.out
                  have r1 := (HB1.out.ext (HX2.out.trans hx)).rd 1 rfl
                  by_cases hlx : x < mk
                  · obtain ⟨bx, ox, hQe, hbx, hcx⟩ := HIR.out (by rw [HMK.out]; omega)
                    subst hQe
                    have q1 := ((hE.below (Nat.le_refl _)).cell (p := ⟨bx, ox + x, none⟩) hbx).trans (hcx x (by rw [HMK.out]; omega))
                    generalize hV : (rs.getD k []).getD x 0 = v at q1
                    have EV := Lib.hid hV
                    have hwr := HWR.out
                    clear hcx hV hx hE
                    by_cases hin : 0 ≤ v ∧ v < (n : Int)
                    · have hcon := fun W => l01In_any v 0 ((n : Int) - 1) W
                      rw [decide_eq_true (show 0 ≤ v ∧ v ≤ (n : Int) - 1 by omega)] at hcon
                      have HIN := Lib.hid hin
                      clear hin
                      go_wp2_with fail
                      go_quiet ((go_at_call 86; exact Calls.quiet_of_same (hcon _)))
                      clear hwr hcon q1 r1 ek
                      go_wp2_with fail
                      go_roundw
                      case rel =>
                        refine ⟨x + 1, by omega, by go_num, ?_, HX3.out.trans ((Ext.refl _).drewN _)⟩
                        intro j hj
                        by_cases hjx : j = x
                        · subst hjx
                          rw [EV.out]
                          unfold inT
                          rw [hl]
                          exact decide_eq_true HIN.out
                        · exact HXX.out j (by omega)
                      case measure => simp [intOf]; omega
                    · have hcon := fun W => l01In_any v 0 ((n : Int) - 1) W
                      rw [decide_eq_false (show ¬ (0 ≤ v ∧ v ≤ (n : Int) - 1) by omega)] at hcon
                      have HIN := Lib.hid hin
                      clear hin
                      go_wp2_with fail
                      go_quiet ((go_at_call 86; exact Calls.quiet_of_same (hcon _)))
                      clear hwr hcon q1 r1 ek
                      go_wp2_with fail
                      go_ret
                      have hbad : rowFit ts rs k = false := by
                        rw [rowFit_yes (by rw [HMK.out, HM0.out]; exact HMM.out)]
                        refine allT_at (k := x) (by rw [HMK.out]; omega) ?_
                        rw [EV.out]
                        unfold inT
                        rw [hl]
                        exact decide_eq_false HIN.out
                      exact ⟨ret_i (by rw [← HZ.out, fc2 HS.out (rowsOk_at (y := k) (by omega) hbad)]), (HE.out.trans HX3.out).trans ((Ext.refl _).drewN _)⟩
                  · clear hx hE r1
                    go_wp2_with fail
                    clear ek
                    go_roundw
                    case rel =>
                      refine ⟨k + 1, by omega, by go_num, ?_, HX2.out.trans HX3.out⟩
                      intro y hy
                      by_cases hyk : y = k
                      · subst hyk
                        rw [rowFit_yes (by rw [HMK.out, HM0.out]; exact HMM.out)]
                        exact allT_all (fun j hj => HXX.out j (by rw [HMK.out] at hj; omega))
                      · exact H.out y (by omega)
                    case measure => simp [intOf]; omega
              · have hne : ((mk : Int) != (m0 : Int)) = true := by simp; omega
                have HE := Lib.hid hE
                have HMM := Lib.hid hmm
                clear hE hmm
                go_wp2_with fail
                go_quiet (fail)
                clear e0 ek
                go_wp2_with fail
                go_ret
                exact ⟨ret_i (by rw [← HZ.out, fc2 HS.out (rowsOk_at (y := k) (by omega) (rowFit_no (by rw [HMK.out, HM0.out]; exact HMM.out)))]), HE.out.trans ((Ext.refl _).drewN _)⟩
            · have HE := Lib.hid hE
              clear hE hx hcr hc0
              go_wp2_with fail
              go_ret
              exact ⟨ret_i (by rw [← HZ.out, fc0 HS.out (rowsOk_all (by omega) (by rw [HM0.out]; omega) (fun y hy => H.out y (by omega)))]), HE.out⟩
        · have hbad : rowsOk ts rs = false := rowsOk_wid (by rw [hM0]; exact hw)
          have HBAD := Lib.hid hbad
          by_cases hw1 : 1 ≤ m0
          · have hw2 : ¬ m0 ≤ 8 := by omega
            clear hM0 hB hbad hw
            go_enter Try.func97, Try.ntmps97
            have hm1 : (1 : Int) ≤ (m : Int) := by omega
            go_wp2_with fail
            refine (HI.out _ ((Ext.refl w).alloc _)).mono ?_
            rintro e w1 ⟨rfl, hx⟩
            have HX := Lib.hid (((Ext.refl w).alloc _).trans hx)
            have hc01 : w1.cell? ⟨b, o, none⟩ = some (.slice Q0 m0 q0) := ((((Ext.refl w).alloc (.cells #[.int .i64 c0, .slice A n c] 32)).trans hx).below (Nat.le_refl _)).cell (p := ⟨b, o, none⟩) hb0 |>.trans hc0
            clear hx hcr hc0
            go_wp2_with fail
            go_ret
            exact ⟨ret_i (by rw [← HZ.out, fc2 HS.out HBAD.out]), HX.out⟩
          · obtain rfl : m0 = 0 := by omega
            clear hM0 hB hbad hw hw1
            go_enter Try.func97, Try.ntmps97
            have hm1 : (1 : Int) ≤ (m : Int) := by omega
            go_wp2_with fail
            refine (HI.out _ ((Ext.refl w).alloc _)).mono ?_
            rintro e w1 ⟨rfl, hx⟩
            have HX := Lib.hid (((Ext.refl w).alloc _).trans hx)
            have hc01 : w1.cell? ⟨b, o, none⟩ = some (.slice Q0 0 q0) := ((((Ext.refl w).alloc (.cells #[.int .i64 c0, .slice A n c] 32)).trans hx).below (Nat.le_refl _)).cell (p := ⟨b, o, none⟩) hb0 |>.trans hc0
            clear hx hcr hc0
            go_wp2_with fail
            all_goals go_ret
            all_goals exact ⟨ret_i (by rw [← HZ.out, fc2 HS.out HBAD.out]), HX.out⟩
      · have HBAD := Lib.hid (show rowsOk ts rs = false from rowsOk_len (by omega))
        clear hB
        go_enter Try.func97, Try.ntmps97
        go_wp2_with fail
        refine (HI.out _ ((Ext.refl w).alloc _)).mono ?_
        rintro e w1 ⟨rfl, hx⟩
        have HX := Lib.hid (((Ext.refl w).alloc _).trans hx)
        clear hx
        go_wp2_with fail
        all_goals go_ret
        all_goals exact ⟨ret_i (by rw [← HZ.out, fc2 HS.out HBAD.out]), HX.out⟩
    · have HBAD := Lib.hid (show rowsOk ts rs = false from rowsOk_len (by omega))
      obtain rfl : m = 0 := by omega
      clear hB
      go_enter Try.func97, Try.ntmps97
      go_wp2_with fail
      refine (HI.out _ ((Ext.refl w).alloc _)).mono ?_
      rintro e w1 ⟨rfl, hx⟩
      have HX := Lib.hid (((Ext.refl w).alloc _).trans hx)
      clear hx
      go_wp2_with fail
      all_goals go_ret
      all_goals exact ⟨ret_i (by rw [← HZ.out, fc2 HS.out HBAD.out]), HX.out⟩
end Go.Proofs.Ytnmgkchkbchfaaa
