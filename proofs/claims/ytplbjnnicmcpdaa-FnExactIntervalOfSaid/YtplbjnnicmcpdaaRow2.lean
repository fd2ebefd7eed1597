/- The program's IsRow. -/
import Derived.Test.YtplbjnnicmcpdaaRow
namespace Go.Proofs.Ytplbjnnicmcpdaa
set_option linter.unusedVariables false
set_option linter.unusedSimpArgs false
open Go.RowKit Go.Sort

set_option maxRecDepth 100000 in
set_option maxHeartbeats 1000000 in
theorem implIsRow_any (c0 : Int) (A : Option Addr) (n c : Nat) (ts : List Tl) (B : Option Addr) (m d : Nat) (xs : List Int) (w : World) (hn : n ≤ 1048576) (hl : ts.length = n) (hA : TR w w.heap.size A ts) (hm : m ≤ 1048576) (hmd : m ≤ d) (hlx : xs.length = m) (hB : IR w w.heap.size B xs) :
    Calls Try.prog 49 #[.agg #[.int .i64 c0, .slice A n c], .slice B m d] w (BoolRes w (isSet c0 ts && isRow ts xs) (if isSet c0 ts = true then 0 else 1)) := by
  have his : ∀ W, Ext w W → Calls Try.prog 52 #[.agg #[.int .i64 c0, .slice A n c]] W _ := fun W hW => isSet_any c0 A n c ts W (by omega) hl ((hA.ext hW (Nat.le_refl _)).more (hW.below (Nat.le_refl _)).size)
  have har : ∀ W, Ext w W → Calls Try.prog 70 #[.agg #[.int .i64 c0, .slice A n c], .slice B m d] W _ := fun W hW => areTileNumbers_any c0 A n c ts B m d xs W hn hl (by omega) hlx ((hB.ext hW (Nat.le_refl _)).more (hW.below (Nat.le_refl _)).size)
  have HI := Lib.hid his
  have HR := Lib.hid har
  clear his har
  unfold BoolRes
  rw [isRow_impl, hlx]
  generalize isSet c0 ts = s at HI ⊢
  cases s with
  | false =>
    go_enter Try.func49, Try.ntmps49
    go_wp2_with fail
    refine (HI.out _ ((Ext.refl w).alloc _)).mono ?_
    rintro e w1 ⟨rfl, hx⟩
    have HX := Lib.hid (((Ext.refl w).alloc _).trans hx)
    clear hx
    go_wp2_with fail
    go_ret2
    exact ⟨rfl, HX.out.below (Nat.le_refl _)⟩
  | true =>
    have hlen : decide (1 ≤ (m : Int) ∧ (m : Int) ≤ 20) = decide (1 ≤ m ∧ m ≤ 20) := by rw [decide_eq_decide]; omega
    have hlc := fun W => isRowLength_any (m : Int) W
    rw [hlen] at hlc
    clear hlen
    by_cases hok : 1 ≤ m ∧ m ≤ 20
    · rw [decide_eq_true hok] at hlc ⊢
      cases hal : allT ts xs with
      | false =>
        rw [hal] at HR
        clear hal
        go_enter Try.func49, Try.ntmps49
        go_wp2_with fail
        refine (HI.out _ ((Ext.refl w).alloc _)).mono ?_
        rintro e w1 ⟨rfl, hx⟩
        have hb := (Blk.new w 31 #[.int .i64 c0, .slice A n c]).ext hx
        have r0 := hb.rd 0 rfl
        have r1 := hb.rd 1 rfl
        have HX := Lib.hid (((Ext.refl w).alloc _).trans hx)
        clear hx hb
        go_wp2_with fail
        refine (hlc _).mono ?_
        rintro e w1' ⟨rfl, rfl⟩
        go_wp2_with fail
        refine (HR.out _ HX.out).mono ?_
        rintro e w2 ⟨rfl, hx⟩
        have HX2 := Lib.hid (HX.out.trans hx)
        clear hx r0 r1 hlc
        go_wp2_with fail
        go_ret2
        exact ⟨rfl, HX2.out.below (Nat.le_refl _)⟩
      | true =>
        rw [hal] at HR
        obtain ⟨bx, ox, rfl, -, -⟩ := hB (by omega)
        by_cases hd1 : d = 1
        · obtain rfl : m = 1 := by omega
          subst hd1
          clear hal
          go_enter Try.func49, Try.ntmps49
          go_wp2_with fail
          refine (HI.out _ ((Ext.refl w).alloc _)).mono ?_
          rintro e w1 ⟨rfl, hx⟩
          have hb := (Blk.new w 31 #[.int .i64 c0, .slice A n c]).ext hx
          have r0 := hb.rd 0 rfl
          have r1 := hb.rd 1 rfl
          have HX := Lib.hid (((Ext.refl w).alloc _).trans hx)
          clear hx hb
          go_wp2_with fail
          refine (hlc _).mono ?_
          rintro e w1' ⟨rfl, rfl⟩
          go_wp2_with fail
          refine (HR.out _ HX.out).mono ?_
          rintro e w2 ⟨rfl, hx⟩
          have HX2 := Lib.hid (HX.out.trans hx)
          clear hx r0 r1 hlc
          go_wp2_with fail
          refine wp_loop_rounds 1 ?_
          rw [rounds_succ]
          go_wp2_with fail
          go_ret2
          exact ⟨by simp, HX2.out.below (Nat.le_refl _)⟩
        · go_enter Try.func49, Try.ntmps49
          have hm1 : (1 : Int) ≤ (m : Int) := by omega
          have hmd' : (m : Int) ≤ (d : Int) := by omega
          have hd2 : (1 : Int) ≤ (d : Int) := by omega
          go_wp2_with fail
          refine (HI.out _ ((Ext.refl w).alloc _)).mono ?_
          rintro e w1 ⟨rfl, hx⟩
          have hb := (Blk.new w 31 #[.int .i64 c0, .slice A n c]).ext hx
          have r0 := hb.rd 0 rfl
          have r1 := hb.rd 1 rfl
          have HX := Lib.hid (((Ext.refl w).alloc _).trans hx)
          have HB := Lib.hid hb
          clear hx hb
          go_wp2_with fail
          refine (hlc _).mono ?_
          rintro e w1' ⟨rfl, rfl⟩
          go_wp2_with fail
          refine (HR.out _ HX.out).mono ?_
          rintro e w2 ⟨rfl, hx⟩
          have HX2 := Lib.hid (HX.out.trans hx)
          have HB2 := Lib.hid (HB.out.ext hx)
          clear hx r0 r1 hlc HB HX
          go_wp2_with fail
          obtain ⟨p, hp⟩ : ∃ p, p = m - 1 := ⟨_, rfl⟩
          rw [← hp]
          have HP := Lib.hid hp
          have hp2 : p + 1 ≤ m := by omega
          have hp3 : (p : Int) + 1 ≤ (m : Int) := by omega
          clear hp
          go_loopw [24] (fun i wr => ∃ k : Nat, k ≤ p ∧ i = .int .i64 k ∧ (∀ j, j < k → (tnum ts xs j).2.2.1 = (tnum ts xs (j + 1)).1) ∧ Ext w2 wr) (fun i _ => p - (intOf i).toNat)
          case atStart => exact ⟨0, Nat.zero_le _, rfl, fun j hj => absurd hj (Nat.not_lt_zero _), Ext.refl _⟩
          case round =>
            obtain ⟨k, hk, rfl, heq, hx⟩ := hrel
            have H := Lib.hid heq
            have HX3 := Lib.hid (HX2.out.trans hx)
            have HX4 := Lib.hid hx
            have HB3 := Lib.hid (HB2.out.ext hx)
            clear heq hx
            by_cases hlt : k < p
            · obtain ⟨bx', ox', e', -, hcx⟩ := (hB.ext HX3.out (Nat.le_refl _)) (by omega)
              cases e'
              have q1 := hcx (k + 1) (by omega)
              have q0 := hcx k (by omega)
              rw [show ox + (k + 1) = ox + 1 + k by omega] at q1
              have hy := allT_in hal (k := k) (by omega)
              have hx := allT_in hal (k := k + 1) (by omega)
              have eI : tnum ts xs k = ts.getD (xs.getD k 0).toNat T0 := rfl
              have eJ : tnum ts xs (k + 1) = ts.getD (xs.getD (k + 1) 0).toNat T0 := rfl
              generalize xs.getD k 0 = y at q0 hy eI
              generalize xs.getD (k + 1) 0 = x at q1 hx eJ
              simp only [inT, decide_eq_true_eq, hl] at hx hy
              obtain ⟨j, rfl⟩ : ∃ j : Nat, x = (j : Int) := ⟨x.toNat, by omega⟩
              obtain ⟨i, rfl⟩ : ∃ i : Nat, y = (i : Int) := ⟨y.toNat, by omega⟩
              simp only [Int.toNat_natCast] at eI eJ
              have hfit : ∀ W, Ext wr W → Calls Try.prog 71 _ W _ := fun W hW => fits_east c0 A n c ts i j W hn hl (by omega) (by omega) ((hA.ext (HX3.out.trans hW) (Nat.le_refl _)).more ((HX3.out.trans hW).below (Nat.le_refl _)).size)
              rw [← eI, ← eJ] at hfit
              unfold Ext at hfit
              generalize hr : decide ((tnum ts xs k).2.2.1 = (tnum ts xs (k + 1)).1) = r at hfit
              have HF := Lib.hid hfit
              have HRR := Lib.hid hr
              have s0 := fun q os => HB3.out.grown q os 0 (v := .int .i64 c0) rfl
              have s1 := fun q os => HB3.out.grown q os 1 (v := .slice A n c) rfl
              have g0 := fun q os => (cell?_grow (wr.drewN q) os ⟨bx, ox + k, none⟩ (by have := World.block_lt_of_cell? wr _ q0; exact this)).trans q0
              clear hfit hr hcx hy hx eI eJ q0
              go_wp2_with fail
              refine wp_region_quiet_grown mixed (by kernel_rfl) ?_
              repeat (go_big_quiet_step (((go_at_call 71; refine Calls.grown_of (HF.out _ ⟨_, _, rfl⟩)))))
              refine wpQuiet_nil ?_
              intro _ hw'
              obtain ⟨⟨nq, osq⟩, hw''⟩ := hw'
              subst hw''
              clear s0 s1 g0 q1
              cases r with
              | false =>
                go_wp2_with fail
                go_ret2
                refine ⟨by
                  have : ((List.range p).all fun k => decide ((tnum ts xs k).2.2.1 = (tnum ts xs (k + 1)).1)) = false := by
                    rw [List.all_eq_false]
                    exact ⟨k, List.mem_range.2 hlt, by rw [HRR.out]; decide⟩
                  rw [← HP.out, this]; simp, (HX3.out.trans ⟨nq, osq, rfl⟩).below (Nat.le_refl _)⟩
              | true =>
                go_wp2_with fail
                refine ⟨⟨k + 1, by omega, by go_num, ?_, HX4.out.trans ⟨nq, osq, rfl⟩⟩, by simp [intOf]; omega⟩
                intro i' hi'
                by_cases hik : i' = k
                · subst hik
                  exact of_decide_eq_true HRR.out
                · exact H.out i' (by omega)
            · go_wp2_with fail
              go_ret2
              refine ⟨by
                have : ((List.range p).all fun k => decide ((tnum ts xs k).2.2.1 = (tnum ts xs (k + 1)).1)) = true := by
                  rw [List.all_eq_true]
                  intro j hj
                  exact decide_eq_true (H.out j (by have := List.mem_range.1 hj; omega))
                rw [← HP.out, this]; simp, HX3.out.below (Nat.le_refl _)⟩
    · rw [decide_eq_false hok] at hlc ⊢
      go_enter Try.func49, Try.ntmps49
      go_wp2_with fail
      refine (HI.out _ ((Ext.refl w).alloc _)).mono ?_
      rintro e w1 ⟨rfl, hx⟩
      have HX := Lib.hid (((Ext.refl w).alloc _).trans hx)
      clear hx
      go_wp2_with fail
      refine (hlc _).mono ?_
      rintro e w1' ⟨rfl, rfl⟩
      clear hlc
      go_wp2_with fail
      go_ret2
      exact ⟨rfl, HX.out.below (Nat.le_refl _)⟩
end Go.Proofs.Ytplbjnnicmcpdaa
