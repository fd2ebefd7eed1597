/- Lists of blocks: the model's code. -/
import Derived.Test.YtnmgkchkbchfaaaBk0
namespace Go.Proofs.Ytnmgkchkbchfaaa
set_option linter.unusedVariables false
set_option linter.unusedSimpArgs false
open Go.RowKit Go.Sort

set_option maxRecDepth 100000 in
set_option maxHeartbeats 4000000 in
theorem l09Code_any (c0 : Int) (A : Option Addr) (n c : Nat) (ts : List Tl) (B : Option Addr) (m d : Nat) (bs : List (List Int)) (w : World) (hn : n ≤ 1048576) (hl : ts.length = n) (hA : TR w w.heap.size A ts) (hm : m ≤ 1048576) (hlr : bs.length = m) (hB : IRR w w.heap.size B bs) (hrow : ∀ k, k < m → (bs.getD k []).length ≤ 1048576) :
    Calls Try.prog 50 #[.agg #[.int .i64 c0, .slice A n c], .slice B m d] w fun e w' => e = .returned (.int .i64 (bCode c0 ts bs)) ∧ Ext w w' := by
  have his : ∀ W, Ext w W → Calls Try.prog 85 #[.agg #[.int .i64 c0, .slice A n c]] W _ := fun W hW => l01Is_any c0 A n c ts W (by omega) hl ((hA.ext hW (Nat.le_refl _)).more (hW.below (Nat.le_refl _)).size)
  have HI := Lib.hid his
  clear his hA
  generalize hz : bCode c0 ts bs = z
  have HZ := Lib.hid hz
  clear hz
  cases hs : isSet c0 ts with
  | false =>
    rw [hs] at HI
    have HS := Lib.hid hs
    clear hs
    go_enter Try.func50, Try.ntmps50
    go_wp2_with fail
    refine (HI.out _ ((Ext.refl w).alloc _)).mono ?_
    rintro e w1 ⟨rfl, hx⟩
    have HX := Lib.hid (((Ext.refl w).alloc _).trans hx)
    clear hx
    go_wp2_with fail
    go_ret
    exact ⟨ret_i (by rw [← HZ.out, bc1 HS.out]), HX.out⟩
  | true =>
    rw [hs] at HI
    have HS := Lib.hid hs
    clear hs
    have hwr : IntKind.i64.wrap ((n : Int) - 1) = (n : Int) - 1 := IntWalk.i64_in _ (by omega)
    have HWR := Lib.hid hwr
    clear hwr
    by_cases hmn : m = n
    · have hne : ((m : Int) != (n : Int)) = false := by simp [hmn]
      have HMN := Lib.hid hmn
      clear hmn
      go_enter Try.func50, Try.ntmps50
      go_wp2_with fail
      refine (HI.out _ ((Ext.refl w).alloc _)).mono ?_
      rintro e w1 ⟨rfl, hx⟩
      have HB1 := Lib.hid ((Blk.new w 32 #[.int .i64 c0, .slice A n c]).ext hx)
      have HX := Lib.hid (((Ext.refl w).alloc _).trans hx)
      have r1 := HB1.out.rd 1 rfl
      clear hx
      go_wp2_with fail
      clear r1 hne
      go_loopw [5] (fun i wr => ∃ k : Nat, k ≤ m ∧ i = .int .i64 k ∧ (∀ y, y < k → bRow ts bs y = true) ∧ Ext w1 wr) (fun i _ => m - (intOf i).toNat)
      case atStart => exact ⟨0, Nat.zero_le _, rfl, fun j hj => absurd hj (Nat.not_lt_zero _), Ext.refl _⟩
      case round =>
        obtain ⟨k, hk, rfl, heq, hx⟩ := hrel
        have H := Lib.hid heq
        have HX2 := Lib.hid hx
        clear heq
        have hE := HX.out.trans hx
        by_cases hlt : k < m
        · obtain ⟨b, o, rfl, hb0, hcr⟩ := hB (by omega)
          obtain ⟨Q, q, hcQ, hqq, hir⟩ := hcr k (by omega)
          have ek : wr.cell? ⟨b, o + k, none⟩ = some (.slice Q (bs.getD k []).length q) := ((hE.below (Nat.le_refl _)).cell (p := ⟨b, o + k, none⟩) hb0).trans hcQ
          have hrk := hrow k hlt
          generalize hMk : (bs.getD k []).length = mk at ek hrk
          have HMK := Lib.hid hMk
          have HIR := Lib.hid hir
          have HCQ := Lib.hid (show w.cell? ⟨b, o + k, none⟩ = some (.slice Q mk q) by rw [← hMk]; exact hcQ)
          clear hcQ hir hMk hx hcr
          obtain ⟨wo, rfl⟩ : ∃ wo : World, wo = wr := ⟨_, rfl⟩
          by_cases hmm : mk = 4
          · subst hmm
            have HE := Lib.hid hE
            clear hE
            go_wp2_with fail
            clear ek
            go_loopw [6] (fun i wr => ∃ x : Nat, x ≤ 4 ∧ i = .int .i64 x ∧ (∀ j, j < x → inT ts ((bs.getD k []).getD j 0) = true) ∧ Ext wo wr) (fun i _ => 4 - (intOf i).toNat)
            case atStart => exact ⟨0, Nat.zero_le _, rfl, fun j hj => absurd hj (Nat.not_lt_zero _), Ext.refl _⟩
            case round =>
              obtain ⟨x, hxk, rfl, heqx, hx⟩ := hrel
              have HXX := Lib.hid heqx
              have HX3 := Lib.hid hx
              clear heqx
              have hE := HE.out.trans hx
              have ek : wr.cell? ⟨b, o + k, none⟩ = some (.slice Q 4 q) := ((hE.below (Nat.le_refl _)).cell (p := ⟨b, o + k, none⟩) hb0).trans HCQ.out
              have r1 := (HB1.out.ext (HX2.out.trans hx)).rd 1 rfl
              by_cases hlx : x < 4
              · obtain ⟨bx, ox, hQe, hbx, hcx⟩ := HIR.out (by rw [HMK.out]; omega)
                subst hQe
                have q1 := ((hE.below (Nat.le_refl _)).cell (p := ⟨bx, ox + x, none⟩) hbx).trans (hcx x (by rw [HMK.out]; omega))
                generalize hV : (bs.getD k []).getD x 0 = v at q1
                have EV := Lib.hid hV
                have hwr := HWR.out
                clear hcx hV hx hE
                by_cases hin : 0 ≤ v ∧ v < (n : Int)
                · have hcon := fun W => l01In_any v 0 ((n : Int) - 1) W
                  rw [decide_eq_true (show 0 ≤ v ∧ v ≤ (n : Int) - 1 by omega)] at hcon
                  have HIN := Lib.hid hin
                  clear hin
                  go_wp2_with fail
                  go_quiet ((go_at_call 86; exact Calls.quiet_of_same (hcon _)))
                  clear hwr hcon q1 r1 ek
                  go_wp2_with fail
                  go_roundw
                  case rel =>
                    refine ⟨x + 1, by omega, by go_num, ?_, HX3.out.trans ((Ext.refl _).drewN _)⟩
                    intro j hj
                    by_cases hjx : j = x
                    · subst hjx
                      rw [EV.out]
                      unfold inT
                      rw [hl]
                      exact decide_eq_true HIN.out
                    · exact HXX.out j (by omega)
                  case measure => simp [intOf]; omega
                · have hcon := fun W => l01In_any v 0 ((n : Int) - 1) W
                  rw [decide_eq_false (show ¬ (0 ≤ v ∧ v ≤ (n : Int) - 1) by omega)] at hcon
                  have HIN := Lib.hid hin
                  clear hin
                  go_wp2_with fail
                  go_quiet ((go_at_call 86; exact Calls.quiet_of_same (hcon _)))
                  clear hwr hcon q1 r1 ek
                  go_wp2_with fail
                  go_ret
                  have hbad : bRow ts bs k = false := by
                    rw [bRow_yes HMK.out]
                    refine allT_at (k := x) (by rw [HMK.out]; omega) ?_
                    rw [EV.out]
                    unfold inT
                    rw [hl]
                    exact decide_eq_false HIN.out
                  exact ⟨ret_i (by rw [← HZ.out, bc2 HS.out (bOk_at (y := k) (by omega) hbad)]), (HE.out.trans HX3.out).trans ((Ext.refl _).drewN _)⟩
              · clear hx hE r1
                go_wp2_with fail
                clear ek
                go_roundw
                case rel =>
                  refine ⟨k + 1, by omega, by go_num, ?_, HX2.out.trans HX3.out⟩
                  intro y hy
                  by_cases hyk : y = k
                  · subst hyk
                    rw [bRow_yes HMK.out]
                    exact allT_all (fun j hj => HXX.out j (by rw [HMK.out] at hj; omega))
                  · exact H.out y (by omega)
                case measure => simp [intOf]; omega
          · have hne : ((mk : Int) != 4) = true := by simp; omega
            have HE := Lib.hid hE
            have HMM := Lib.hid hmm
            clear hE hmm
            go_wp2_with fail
            clear ek
            go_ret
            exact ⟨ret_i (by rw [← HZ.out, bc2 HS.out (bOk_at (y := k) (by omega) (bRow_no (by rw [HMK.out]; exact HMM.out)))]), HE.out⟩
        · have HE := Lib.hid hE
          clear hE hx hB
          go_wp2_with fail
          go_ret
          exact ⟨ret_i (by rw [← HZ.out, bc0 HS.out (bOk_all (by rw [hlr, hl]; exact HMN.out) (fun y hy => H.out y (by omega)))]), HE.out⟩
    · have hne : ((m : Int) != (n : Int)) = true := by simp; omega
      have HBAD := Lib.hid (show bOk ts bs = false from bOk_len (by omega))
      clear hB hmn
      go_enter Try.func50, Try.ntmps50
      go_wp2_with fail
      refine (HI.out _ ((Ext.refl w).alloc _)).mono ?_
      rintro e w1 ⟨rfl, hx⟩
      have HX := Lib.hid (((Ext.refl w).alloc _).trans hx)
      have r1 := ((Blk.new w 32 #[.int .i64 c0, .slice A n c]).ext hx).rd 1 rfl
      clear hx
      go_wp2_with fail
      go_ret
      exact ⟨ret_i (by rw [← HZ.out, bc2 HS.out HBAD.out]), HX.out⟩
end Go.Proofs.Ytnmgkchkbchfaaa
