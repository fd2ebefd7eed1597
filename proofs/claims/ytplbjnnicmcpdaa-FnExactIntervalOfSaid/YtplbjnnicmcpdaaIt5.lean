/- IntervalOf: the model's door. -/
import Derived.Test.YtplbjnnicmcpdaaIt4
namespace Go.Proofs.Ytplbjnnicmcpdaa
set_option linter.unusedVariables false
set_option linter.unusedSimpArgs false
open Go.RowKit Go.Sort

theorem iwr_up {w : World} {lo hi hi' : Nat} {A : Option Addr} {xs : List Int} (h : IWr w lo hi A xs) (hl : hi ≤ hi') : IWr w lo hi' A xs := fun h0 => by
  obtain ⟨b, off, t, cs, e, h1, h2, r⟩ := h h0
  exact ⟨b, off, t, cs, e, h1, by omega, r⟩
theorem lt_of_cell3 {w : World} {b o : Nat} {v : Value} (h : w.cell? ⟨b, o, none⟩ = some v) : b < w.heap.size := World.block_lt_of_cell? w ⟨b, o, none⟩ h
theorem lowT_0 (f : Fq) : (lowT f).getD 0 0 = ((f.1 / Nat.gcd f.1 f.2 : Nat) : Int) := rfl
theorem lowT_1 (f : Fq) : (lowT f).getD 1 0 = ((f.2 / Nat.gcd f.1 f.2 : Nat) : Int) := rfl
set_option maxRecDepth 100000 in
set_option maxHeartbeats 2000000 in
theorem specInterval_2 (A : Option Addr) (n c : Nat) (xs : List Int) (w : World) (hn : n ≤ 1048576) (hl : xs.length = n) (hA : IR w w.heap.size A xs) (h : itOk xs = false) :
    Calls Try.prog 8 #[.slice A n c] w (LLRead w [] [] 2) := by
  by_cases h1 : 1 ≤ n
  · by_cases h20 : n ≤ 20
    · have hb : withinB 0 5 xs = false := by simpa [itOk, hl, h1, h20] using h
      have HBD := Lib.hid hb
      have HL := Lib.hid hl
      have HIN := Lib.hid (fun x W => l01In_any x 0 5 W)
      have HA2 := Lib.hid (fun W (hW : Ext w W) => (hA.ext hW (Nat.le_refl _)))
      clear h hb hA hl
      go_enter Try.func8, Try.ntmps8
      go_wp2_with fail
      obtain ⟨W2, hW2⟩ : ∃ W2, (w.alloc (Obj.cells #[.int .i64 0, .int .i64 1] 2)).alloc (Obj.cells #[.int .i64 6, .int .i64 1] 2) = W2 := ⟨_, rfl⟩
      have HE := Lib.hid (show Ext w W2 by rw [← hW2]; exact ((Ext.refl w).alloc _).alloc _)
      try rw [hW2]
      clear hW2
      go_loopw [8] (fun i wr => ∃ k : Nat, k ≤ n ∧ i = .int .i64 (k : Int) ∧ (∀ j, j < k → 0 ≤ xs.getD j 0 ∧ xs.getD j 0 ≤ 5) ∧ wr = W2) (fun i _ => n - (intOf i).toNat)
      case atStart => exact ⟨0, Nat.zero_le _, rfl, fun j hj => absurd hj (Nat.not_lt_zero _), by first | rfl | trivial⟩
      case round =>
        obtain ⟨k, hk, rfl, heq, rfl⟩ := hrel
        have H := Lib.hid heq
        clear heq
        by_cases hlt : k < n
        · obtain ⟨bx, ox, rfl, -, hcx⟩ := (HA2.out _ HE.out) (by rw [HL.out]; omega)
          have q1 := hcx k (by rw [HL.out]; omega)
          have hkn : (k : Int) < (n : Int) := by omega
          obtain ⟨x, hX⟩ : ∃ x, x = xs.getD k 0 := ⟨_, rfl⟩
          rw [← hX] at q1
          have HX := Lib.hid hX
          have HC := Lib.hid (fun W => HIN.out x W)
          clear hcx hX
          by_cases hx : 0 ≤ x ∧ x ≤ 5
          · rw [decide_eq_true hx] at HC
            go_wp2_with fail
            refine (HC.out _).mono ?_
            rintro e w' ⟨rfl, rfl⟩
            clear q1
            go_wp2_with fail
            go_roundw
            case rel =>
              refine ⟨k + 1, by omega, by go_num, ?_, by first | rfl | trivial⟩
              intro j hj
              by_cases hjk : j = k
              · subst hjk; rw [← HX.out]; exact hx
              · exact H.out j (by omega)
            case measure => simp [intOf]; omega
          · rw [decide_eq_false hx] at HC
            go_wp2_with fail
            refine (HC.out _).mono ?_
            rintro e w' ⟨rfl, rfl⟩
            clear q1
            go_wp2_with fail
            go_ret3
            exact LLRead.mk none 0 none 0 rfl (HE.out.below (Nat.le_refl _)) iwr_none iwr_none
        · exfalso
          have hall := withinB_all (lo := 0) (hi := 5) (xs := xs) (fun j hj => H.out j (by rw [HL.out] at hj; omega))
          rw [HBD.out] at hall
          cases hall
    · go_enter Try.func8, Try.ntmps8
      have h3 : (20 : Int) < (n : Int) := by omega
      have h4 : ¬ (n : Int) < 1 := by omega
      go_wp2_with fail
      go_ret3
      exact LLRead.mk none 0 none 0 rfl (Below.refl _ _) iwr_none iwr_none
  · go_enter Try.func8, Try.ntmps8
    have h4 : (n : Int) < 1 := by omega
    go_wp2_with fail
    go_ret3
    exact LLRead.mk none 0 none 0 rfl (Below.refl _ _) iwr_none iwr_none

set_option maxRecDepth 100000 in
set_option maxHeartbeats 4000000 in
theorem specInterval_ok (A : Option Addr) (n c : Nat) (xs : List Int) (w : World) (hl : xs.length = n) (hA : IR w w.heap.size A xs) (h : itOk xs = true) (Q : Ending → World → Prop)
    (hQ0 : itHas xs = true → ∀ e w', LLRead w (lowT (lowE xs)) (lowT (highE xs)) 0 e w' → Q e w') (hQ4 : itHas xs = false → ∀ e w', LLRead w [] [] 4 e w' → Q e w') :
    Calls Try.prog 8 #[.slice A n c] w Q := by
  obtain ⟨hb1, h5⟩ := itOk_5 h
  rw [hl] at hb1
  obtain ⟨h1, h20⟩ := hb1
  have HQ0 := Lib.hid hQ0
  have HQ4 := Lib.hid hQ4
  have H5 := Lib.hid h5
  have HL := Lib.hid hl
  have HNS := Lib.hid (nS_le h5)
  have HLS := Lib.hid (lowP_small (by omega) h5)
  have HHS := Lib.hid (highP_small (by omega) h5)
  have HLE := Lib.hid (show lowE xs = lowP xs n by unfold lowE; rw [hl, lowP_eq xs n (n - 1) (by omega), Nat.sub_add_cancel h1])
  have HHE := Lib.hid (show highE xs = highP xs n by unfold highE; rw [hl, highP_eq n (by have := nS_le h5 1 (by omega); omega) (n - 1) (by omega), Nat.sub_add_cancel h1])
  have HIN := Lib.hid (fun x (hx : 0 ≤ x ∧ x ≤ 5) W => (show Calls Try.prog 30 #[.int .i64 x, .int .i64 0, .int .i64 5] W (fun e w' => e = .returned (.bool true) ∧ w' = W) from by have := l01In_any x 0 5 W; rw [decide_eq_true hx] at this; exact this))
  have HA2 := Lib.hid (fun W (hW : Below w.heap.size w W) => (hA.below hW (Nat.le_refl _)))
  clear h hA hl h5 hQ0 hQ4
  go_enter Try.func8, Try.ntmps8
  have hn3 : ¬ (20 : Int) < (n : Int) := by omega
  have hn4 : ¬ (n : Int) < 1 := by omega
  go_wp2_with fail
  obtain ⟨W2, hW2⟩ : ∃ W2, (w.alloc (Obj.cells #[.int .i64 0, .int .i64 1] 2)).alloc (Obj.cells #[.int .i64 6, .int .i64 1] 2) = W2 := ⟨_, rfl⟩
  have HE := Lib.hid (show Below w.heap.size w W2 by rw [← hW2]; exact (((Ext.refl w).alloc _).alloc _).below (Nat.le_refl _))
  have HIL := Lib.hid (show IWr W2 w.heap.size W2.heap.size (some ⟨w.heap.size, 0, none⟩) (lowT (lowP xs 0)) by
    rw [← hW2]
    have := iwr_up ((iwr_twoL w 0 1 w.heap.size (Nat.le_refl _)).ext ((Ext.refl _).alloc (Obj.cells #[.int .i64 6, .int .i64 1] 2))) (show _ ≤ ((w.alloc (Obj.cells #[.int .i64 0, .int .i64 1] 2)).alloc (Obj.cells #[.int .i64 6, .int .i64 1] 2)).heap.size by simp)
    simpa [lowT, lowP] using this)
  have HIH := Lib.hid (show IWr W2 w.heap.size W2.heap.size (some ⟨w.heap.size + 1, 0, none⟩) (lowT (highP xs 0)) by
    rw [← hW2]
    have := iwr_twoL (w.alloc (Obj.cells #[.int .i64 0, .int .i64 1] 2)) 6 1 w.heap.size (by simp)
    simpa [lowT, highP] using this)
  try rw [hW2]
  clear hW2
  go_loopw [8] (fun i wr => ∃ k : Nat, k ≤ n ∧ i = .int .i64 (k : Int) ∧ wr = W2) (fun i _ => n - (intOf i).toNat)
  case atStart => exact ⟨0, Nat.zero_le _, rfl, by first | rfl | trivial⟩
  case round =>
    obtain ⟨k, hk, rfl, rfl⟩ := hrel
    by_cases hlt : k < n
    · obtain ⟨bx, ox, rfl, -, hcx⟩ := (HA2.out _ HE.out) (by rw [HL.out]; omega)
      have q1 := hcx k (by rw [HL.out]; omega)
      have hkn : (k : Int) < (n : Int) := by omega
      have hx := H5.out k (by rw [HL.out]; omega)
      generalize xs.getD k 0 = x at q1 hx
      have HC := Lib.hid (fun W => HIN.out x hx W)
      clear hcx hx
      go_wp2_with fail
      refine (HC.out _).mono ?_
      rintro e w' ⟨rfl, rfl⟩
      clear q1
      go_wp2_with fail
      go_roundw
      case rel => exact ⟨k + 1, by omega, by go_num, by first | rfl | trivial⟩
      case measure => simp [intOf]; omega
    · obtain rfl : k = n := by omega
      obtain ⟨W3, hW3⟩ : ∃ W3, W3 = wr := ⟨_, rfl⟩
      subst hW3
      go_wp2_with fail
      go_loopw [5, 6, 7, 9] (fun lv hv s i wr => ∃ m S i1 : Nat, Hid (S = nS xs m) ∧ Hid (i1 = m + 1) ∧ m ≤ k ∧ i = .int .i64 (i1 : Int) ∧ s = .int .i64 (S : Int) ∧ (∃ AL, lv = .slice AL 2 2 ∧ IWr wr w.heap.size wr.heap.size AL (lowT (lowP xs m))) ∧ (∃ AH, hv = .slice AH 2 2 ∧ IWr wr w.heap.size wr.heap.size AH (lowT (highP xs m))) ∧ Below w.heap.size w wr) (fun _ _ _ i _ => k + 1 - (intOf i).toNat)
      case atStart => exact ⟨0, 0, 1, Lib.hid rfl, Lib.hid rfl, Nat.zero_le _, rfl, rfl, ⟨_, rfl, HIL.out⟩, ⟨_, rfl, HIH.out⟩, HE.out⟩
      case round =>
        obtain ⟨m, S, i1, HSM, HI1, hm, rfl, rfl, ⟨AL, rfl, hwl⟩, ⟨AH, rfl, hwh⟩, hb⟩ := hrel
        have HWL := Lib.hid hwl
        have HWH := Lib.hid hwh
        have HB := Lib.hid hb
        obtain ⟨hls, hlp⟩ := HLS.out m (by rw [HL.out]; omega)
        obtain ⟨hhs, hhp⟩ := HHS.out m (by rw [HL.out]; omega)
        obtain ⟨⟨a, b⟩, hP⟩ : ∃ f, f = lowP xs m := ⟨_, rfl⟩
        obtain ⟨⟨cc, d⟩, hH⟩ : ∃ f, f = highP xs m := ⟨_, rfl⟩
        rw [← hP] at hls hlp
        rw [← hH] at hhs hhp
        obtain ⟨hsa, hsb⟩ := hls
        obtain ⟨hsc, hsd⟩ := hhs
        simp only at hsa hsb hsc hsd hlp hhp
        have HP := Lib.hid hP
        have HH := Lib.hid hH
        obtain ⟨bl, ol, rfl, -, hcl⟩ := hwl.ir (by show 0 < 2; omega)
        obtain ⟨bh, oh, rfl, -, hch⟩ := hwh.ir (by show 0 < 2; omega)
        have l0 := hcl 0 (by show 0 < 2; omega)
        have l1 := hcl 1 (by show 1 < 2; omega)
        have g0 := hch 0 (by show 0 < 2; omega)
        have g1 := hch 1 (by show 1 < 2; omega)
        rw [lowT_0, ← hP] at l0
        rw [lowT_1, ← hP] at l1
        rw [lowT_0, ← hH] at g0
        rw [lowT_1, ← hH] at g1
        simp only [Nat.add_zero] at l0 g0
        have gp : 0 < Nat.gcd a b := Nat.gcd_pos_of_pos_right a hlp
        have gq : 0 < Nat.gcd cc d := Nat.gcd_pos_of_pos_right cc hhp
        have HT1 := Lib.hid (fun i s => lt_low (i := i) (s := s) gp (Nat.gcd_dvd_left a b) (Nat.gcd_dvd_right a b))
        have HT2 := Lib.hid (fun i s => lt_high (i := i) (s := s) gq (Nat.gcd_dvd_left cc d) (Nat.gcd_dvd_right cc d))
        have ea := Nat.div_le_self a (Nat.gcd a b)
        have eb := Nat.div_le_self b (Nat.gcd a b)
        have ec := Nat.div_le_self cc (Nat.gcd cc d)
        have ed := Nat.div_le_self d (Nat.gcd cc d)
        simp only at l0 l1 g0 g1
        generalize a / Nat.gcd a b = a1 at *
        generalize b / Nat.gcd a b = b1 at *
        generalize cc / Nat.gcd cc d = c1 at *
        generalize d / Nat.gcd cc d = d1 at *
        clear hcl hch hP hH hwl hwh hb gp gq
        by_cases hlt2 : m < k
        · obtain ⟨bx, ox, rfl, -, hcx⟩ := (HA2.out _ HB.out) (by rw [HL.out]; omega)
          have q1 := hcx m (by rw [HL.out]; omega)
          have hx := H5.out m (by rw [HL.out]; omega)
          have hSS : nS xs (m + 1) = S + (xs.getD m 0).toNat := by rw [HSM.out]; rfl
          have hSb := HNS.out (m + 1) (by rw [HL.out]; omega)
          generalize xs.getD m 0 = x at q1 hx hSS
          obtain ⟨y, rfl⟩ : ∃ y : Nat, x = (y : Int) := ⟨x.toNat, by omega⟩
          simp only [Int.toNat_natCast] at hSS
          obtain ⟨S1, hS1⟩ : ∃ S1, S + y = S1 := ⟨_, rfl⟩
          rw [hS1] at hSS
          obtain ⟨S2, hS2⟩ : ∃ S2, S1 + 1 = S2 := ⟨_, rfl⟩
          have hi1 := HI1.out
          have hik : (i1 : Int) ≤ (k : Int) := by omega
          have hmk : (m : Int) < (k : Int) := by omega
          have hwi : IntKind.i64.wrap ((i1 : Int) - 1) = (m : Int) := by rw [show (i1 : Int) - 1 = (m : Int) by omega]; exact IntWalk.i64_in _ (by omega)
          have hw1 : IntKind.i64.wrap ((S : Int) + (y : Int)) = (S1 : Int) := by rw [show (S : Int) + (y : Int) = (S1 : Int) by omega]; exact IntWalk.i64_in _ (by omega)
          have hw2 : IntKind.i64.wrap ((S1 : Int) + 1) = (S2 : Int) := by rw [show (S1 : Int) + 1 = (S2 : Int) by omega]; exact IntWalk.i64_in _ (by omega)
          have bb1 : a1 * i1 ≤ 300 * 21 := Nat.mul_le_mul (by omega) (by omega)
          have bb2 : S1 * b1 ≤ 100 * 300 := Nat.mul_le_mul (by omega) (by omega)
          have bb3 : c1 * i1 ≤ 300 * 21 := Nat.mul_le_mul (by omega) (by omega)
          have bb4 : S2 * d1 ≤ 101 * 300 := Nat.mul_le_mul (by omega) (by omega)
          have hlowY : a1 * i1 < S1 * b1 → lowP xs (m + 1) = (S1, i1) := fun hc => by
            rw [lowP_succ, hSS, ← HP.out, if_pos (by show a * (m + 1) < S1 * b; rw [← hi1]; exact (HT1.out i1 S1).1 hc), hi1]
          have hlowN : ¬ a1 * i1 < S1 * b1 → lowP xs (m + 1) = (a, b) := fun hc => by
            rw [lowP_succ, hSS, ← HP.out, if_neg (by show ¬ a * (m + 1) < S1 * b; rw [← hi1]; exact fun hh => hc ((HT1.out i1 S1).2 hh))]
          have hhighY : S2 * d1 < c1 * i1 → highP xs (m + 1) = (S2, i1) := fun hc => by
            rw [highP_succ, hSS, hS2, ← HH.out, if_pos (by show S2 * d < cc * (m + 1); rw [← hi1]; exact (HT2.out i1 S2).1 hc), hi1]
          have hhighN : ¬ S2 * d1 < c1 * i1 → highP xs (m + 1) = (cc, d) := fun hc => by
            rw [highP_succ, hSS, hS2, ← HH.out, if_neg (by show ¬ S2 * d < cc * (m + 1); rw [← hi1]; exact fun hh => hc ((HT2.out i1 S2).2 hh))]
          obtain ⟨m1, hm1⟩ : ∃ z, a1 * i1 = z := ⟨_, rfl⟩
          obtain ⟨m2, hm2⟩ : ∃ z, S1 * b1 = z := ⟨_, rfl⟩
          obtain ⟨m3, hm3⟩ : ∃ z, c1 * i1 = z := ⟨_, rfl⟩
          obtain ⟨m4, hm4⟩ : ∃ z, S2 * d1 = z := ⟨_, rfl⟩
          have w1 := mulM a1 i1 m1 hm1 (by omega)
          have w2 := mulM S1 b1 m2 hm2 (by omega)
          have w3 := mulM c1 i1 m3 hm3 (by omega)
          have w4 := mulM S2 d1 m4 hm4 (by omega)
          rw [hm1, hm2] at hlowY hlowN
          rw [hm3, hm4] at hhighY hhighN
          have HSN := Lib.hid hSS
          have HLY := Lib.hid hlowY
          have HLN := Lib.hid hlowN
          have HHY := Lib.hid hhighY
          have HHN := Lib.hid hhighN
          have HLW1 := Lib.hid (fun W => l08Lowest_any S1 i1 W (by omega) (by omega) (by omega))
          have HLW2 := Lib.hid (fun W => l08Lowest_any S2 i1 W (by omega) (by omega) (by omega))
          have hbl := lt_of_cell3 l0
          have hbh := lt_of_cell3 g0
          have hi21 : i1 ≤ 21 := by omega
          clear hi1 hcx hSS hSb hx hlowY hlowN hhighY hhighN bb1 bb2 bb3 bb4 hm1 hm2 hm3 hm4 hS1 hS2
          go_wp2_with fail
          go_quiet (fail)
          clear q1 l0 l1 hwi hw1
          have hxq : Ext wr (wr.drewN nq) := (Ext.refl _).drewN _
          have KB1 := Lib.hid (HB.out.trans (hxq.below HB.out.size))
          have KL1 := Lib.hid (HWL.out.ext hxq)
          have KH1 := Lib.hid (HWH.out.ext hxq)
          replace g0 := hxq.cell_ g0
          replace g1 := hxq.cell_ g1
          have hsz : (wr.drewN nq).heap.size = wr.heap.size := rfl
          rw [← hsz] at KL1 KH1
          generalize wr.drewN nq = wq at *
          clear hxq hsz
          by_cases hc1 : m1 < m2
          · have hc1i : (m1 : Int) < (m2 : Int) := by omega
            have HE1 := Lib.hid (HLY.out hc1)
            go_wp2_with fail
            refine (HLW1.out _).mono ?_
            rintro e wz ⟨R1, rfl, hb3, hw3⟩
            have KBz := Lib.hid (KB1.out.trans (hb3.mono KB1.out.size))
            have KLz := Lib.hid (show IWr wz w.heap.size wz.heap.size R1 (lowT (lowP xs (m + 1))) by rw [HE1.out]; exact hw3.low KB1.out.size)
            have KHz := Lib.hid (iwr_up (KH1.out.below hb3) hb3.size)
            replace g0 := (hb3.cell (p := ⟨bh, oh, none⟩) (lt_of_cell3 g0)).trans g0
            replace g1 := (hb3.cell (p := ⟨bh, oh + 1, none⟩) (lt_of_cell3 g1)).trans g1
            clear hb3 hw3
            go_wp2_with fail
            go_quiet (fail)
            clear g0 g1
            have hxr : Ext wz (wz.drewN nq) := (Ext.refl _).drewN _
            have KB5 := Lib.hid (KBz.out.trans (hxr.below KBz.out.size))
            have KL5 := Lib.hid (KLz.out.ext hxr)
            have KH5 := Lib.hid (KHz.out.ext hxr)
            have hszr : (wz.drewN nq).heap.size = wz.heap.size := rfl
            rw [← hszr] at KL5 KH5
            generalize wz.drewN nq = wt at *
            clear hxr hszr
            by_cases hc2 : m4 < m3
            · have hc2i : (m4 : Int) < (m3 : Int) := by omega
              have HE2 := Lib.hid (HHY.out hc2)
              go_wp2_with fail
              refine (HLW2.out _).mono ?_
              rintro e w6 ⟨R2, rfl, hb6, hw6⟩
              have KB6 := Lib.hid (KB5.out.trans (hb6.mono KB5.out.size))
              have KL6 := Lib.hid (iwr_up (KL5.out.below hb6) hb6.size)
              have KH6 := Lib.hid (hw6.low KB5.out.size)
              clear hb6 hw6
              go_wp2_with fail
              go_roundw
              case rel => exact ⟨m + 1, S1, i1 + 1, Lib.hid HSN.out.symm, Lib.hid (by have := HI1.out; omega), by omega, by go_num, rfl, ⟨_, rfl, KL6.out⟩, ⟨_, rfl, by rw [HE2.out]; exact KH6.out⟩, KB6.out⟩
              case measure => simp [intOf]; omega
            · have hc2i : ¬ (m4 : Int) < (m3 : Int) := by omega
              have HE2 := Lib.hid (show highP xs (m + 1) = highP xs m by rw [HHN.out hc2, HH.out])
              go_wp2_with fail
              go_roundw
              case rel => exact ⟨m + 1, S1, i1 + 1, Lib.hid HSN.out.symm, Lib.hid (by have := HI1.out; omega), by omega, by go_num, rfl, ⟨_, rfl, KL5.out⟩, ⟨_, rfl, by rw [HE2.out]; exact KH5.out⟩, KB5.out⟩
              case measure => simp [intOf]; omega
          · have hc1i : ¬ (m1 : Int) < (m2 : Int) := by omega
            have HE1 := Lib.hid (show lowP xs (m + 1) = lowP xs m by rw [HLN.out hc1, HP.out])
            obtain ⟨wz, hwz⟩ : ∃ wz, wz = wq := ⟨_, rfl⟩
            subst hwz
            have KBz := KB1
            have KLz := Lib.hid (show IWr wz w.heap.size wz.heap.size (some ⟨bl, ol, none⟩) (lowT (lowP xs (m + 1))) by rw [HE1.out]; exact KL1.out)
            have KHz := KH1
            go_wp2_with fail
            go_quiet (fail)
            clear g0 g1
            have hxr : Ext wz (wz.drewN nq) := (Ext.refl _).drewN _
            have KB5 := Lib.hid (KBz.out.trans (hxr.below KBz.out.size))
            have KL5 := Lib.hid (KLz.out.ext hxr)
            have KH5 := Lib.hid (KHz.out.ext hxr)
            have hszr : (wz.drewN nq).heap.size = wz.heap.size := rfl
            rw [← hszr] at KL5 KH5
            generalize wz.drewN nq = wt at *
            clear hxr hszr
            by_cases hc2 : m4 < m3
            · have hc2i : (m4 : Int) < (m3 : Int) := by omega
              have HE2 := Lib.hid (HHY.out hc2)
              go_wp2_with fail
              refine (HLW2.out _).mono ?_
              rintro e w6 ⟨R2, rfl, hb6, hw6⟩
              have KB6 := Lib.hid (KB5.out.trans (hb6.mono KB5.out.size))
              have KL6 := Lib.hid (iwr_up (KL5.out.below hb6) hb6.size)
              have KH6 := Lib.hid (hw6.low KB5.out.size)
              clear hb6 hw6
              go_wp2_with fail
              go_roundw
              case rel => exact ⟨m + 1, S1, i1 + 1, Lib.hid HSN.out.symm, Lib.hid (by have := HI1.out; omega), by omega, by go_num, rfl, ⟨_, rfl, KL6.out⟩, ⟨_, rfl, by rw [HE2.out]; exact KH6.out⟩, KB6.out⟩
              case measure => simp [intOf]; omega
            · have hc2i : ¬ (m4 : Int) < (m3 : Int) := by omega
              have HE2 := Lib.hid (show highP xs (m + 1) = highP xs m by rw [HHN.out hc2, HH.out])
              go_wp2_with fail
              go_roundw
              case rel => exact ⟨m + 1, S1, i1 + 1, Lib.hid HSN.out.symm, Lib.hid (by have := HI1.out; omega), by omega, by go_num, rfl, ⟨_, rfl, KL5.out⟩, ⟨_, rfl, by rw [HE2.out]; exact KH5.out⟩, KB5.out⟩
              case measure => simp [intOf]; omega
        · obtain rfl : m = k := by omega
          have hi1 := HI1.out
          have hik : ¬ (i1 : Int) ≤ (m : Int) := by omega
          have bb1 : a1 * d1 ≤ 300 * 300 := Nat.mul_le_mul (by omega) (by omega)
          have bb2 : c1 * b1 ≤ 300 * 300 := Nat.mul_le_mul (by omega) (by omega)
          have hfin : (a1 * d1 < c1 * b1) ↔ a * d < cc * b := by
            rw [show a1 * d1 < c1 * b1 ↔ a * d1 < c1 * b from HT1.out d1 c1]
            exact HT2.out b a
          obtain ⟨m1, hm1⟩ : ∃ z, a1 * d1 = z := ⟨_, rfl⟩
          obtain ⟨m2, hm2⟩ : ∃ z, c1 * b1 = z := ⟨_, rfl⟩
          have w1 := mulM a1 d1 m1 hm1 (by omega)
          have w2 := mulM c1 b1 m2 hm2 (by omega)
          rw [hm1, hm2] at hfin
          have hhas : itHas xs = decide (m1 < m2) := by
            unfold itHas
            rw [HLE.out, HHE.out, ← HP.out, ← HH.out]
            exact decide_eq_decide.2 hfin.symm
          have HHAS := Lib.hid hhas
          have HWLx := Lib.hid (show IWr wr w.heap.size wr.heap.size (some ⟨bl, ol, none⟩) (lowT (lowE xs)) by rw [HLE.out]; exact HWL.out)
          have HWHx := Lib.hid (show IWr wr w.heap.size wr.heap.size (some ⟨bh, oh, none⟩) (lowT (highE xs)) by rw [HHE.out]; exact HWH.out)
          clear hi1 hhas hfin hm1 hm2 bb1 bb2
          by_cases hc : m1 < m2
          · have hci : (m1 : Int) < (m2 : Int) := by omega
            have HQ := Lib.hid (HQ0.out (by rw [HHAS.out]; exact decide_eq_true hc))
            clear HQ0 HQ4
            go_wp2_with fail
            go_quiet (fail)
            clear l0 l1 g0 g1
            go_wp2_with fail
            refine HQ.out _ _ (LLRead.mk (some ⟨bl, ol, none⟩) 2 (some ⟨bh, oh, none⟩) 2 rfl ?_ ?_ ?_)
            · exact HB.out.trans (((Ext.refl _).drewN _).below HB.out.size)
            · exact HWLx.out.ext ((Ext.refl _).drewN _)
            · exact HWHx.out.ext ((Ext.refl _).drewN _)
          · have hci : ¬ (m1 : Int) < (m2 : Int) := by omega
            have HQ := Lib.hid (HQ4.out (by rw [HHAS.out]; exact decide_eq_false hc))
            clear HQ0 HQ4
            go_wp2_with fail
            go_quiet (fail)
            clear l0 l1 g0 g1
            go_wp2_with fail
            refine HQ.out _ _ (LLRead.mk none 0 none 0 rfl ?_ iwr_none iwr_none)
            exact HB.out.trans (((Ext.refl _).drewN _).below HB.out.size)
end Go.Proofs.Ytplbjnnicmcpdaa
