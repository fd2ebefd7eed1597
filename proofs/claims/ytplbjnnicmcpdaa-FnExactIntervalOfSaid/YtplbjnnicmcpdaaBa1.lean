/- Numbers within bounds; balances of rows: the program's side. -/
import Derived.Test.YtplbjnnicmcpdaaBa0
namespace Go.Proofs.Ytplbjnnicmcpdaa
set_option linter.unusedVariables false
set_option linter.unusedSimpArgs false
open Go.RowKit Go.Sort

set_option maxHeartbeats 400000 in
theorem areWithin_raw (lo hi : Int) (A : Option Addr) (m d : Nat) (xs : List Int) (w : World) (hm : m ≤ 9223372036854775807) (hl : xs.length = m)
    (hA : 0 < m → ∃ b off, A = some ⟨b, off, none⟩ ∧ ∀ k, k < m → w.cell? ⟨b, off + k, none⟩ = some (.int .i64 (xs.getD k 0))) :
    Calls Try.prog 33 #[.int .i64 lo, .int .i64 hi, .slice A m d] w fun e w' => e = .returned (.bool (withinB lo hi xs)) ∧ w' = w := by
  generalize hr : withinB lo hi xs = r
  have HR := Lib.hid hr
  clear hr
  go_enter Try.func33, Try.ntmps33
  go_wp2_with fail
  go_loop [11] (fun i => ∃ k : Nat, k ≤ m ∧ i = .int .i64 k ∧ (∀ j, j < k → (lo ≤ xs.getD j 0 ∧ xs.getD j 0 ≤ hi))) (fun i => m - (intOf i).toNat)
  case atStart => exact ⟨0, Nat.zero_le _, rfl, fun j hj => absurd hj (Nat.not_lt_zero _)⟩
  case round =>
    obtain ⟨k, hk, rfl, heq⟩ := hrel
    have H := Lib.hid heq
    clear heq
    by_cases hlt : k < m
    · obtain ⟨bx, ox, rfl, hcx⟩ := hA (by omega)
      have q1 := hcx k (by omega)
      generalize hX : xs.getD k 0 = x at q1
      have EX := Lib.hid hX
      clear hcx hA hX
      by_cases h1 : x < lo
      · go_wp2_with fail
        go_ret
        exact ⟨ret_b (by rw [← HR.out, withinB_at (k := k) (by omega) (by rw [EX.out]; omega)]), rfl⟩
      · by_cases h2 : hi < x
        · go_wp2_with fail
          go_ret
          exact ⟨ret_b (by rw [← HR.out, withinB_at (k := k) (by omega) (by rw [EX.out]; omega)]), rfl⟩
        · go_wp2_with fail
          go_round
          case rel =>
            refine ⟨k + 1, by omega, by go_num, ?_⟩
            intro i' hi'
            by_cases hik : i' = k
            · subst hik
              rw [EX.out]
              omega
            · exact H.out i' (by omega)
          case measure => simp [intOf]; omega
    · clear hA
      go_wp2_with fail
      go_ret
      exact ⟨ret_b (by rw [← HR.out, withinB_all (fun j hj => H.out j (by omega))]), rfl⟩
theorem areWithin2 (lo hi p q : Int) (w : World) : Calls Try.prog 33 #[.int .i64 lo, .int .i64 hi, .slice (some ⟨w.heap.size, 0, none⟩) 2 2] (w.alloc (.cells #[.int .i64 p, .int .i64 q] 2)) fun e w' => e = .returned (.bool (decide (lo ≤ p ∧ p ≤ hi ∧ lo ≤ q ∧ q ≤ hi))) ∧ w' = w.alloc (.cells #[.int .i64 p, .int .i64 q] 2) := by
  rw [← withinB_2]
  exact areWithin_raw lo hi _ 2 2 [p, q] _ (by omega) rfl (fun _ => ⟨_, _, rfl, fun k hk => by
    obtain rfl | rfl : k = 0 ∨ k = 1 := by omega
    all_goals simp [go_sem]⟩)
theorem areWithin1 (lo hi p : Int) (w : World) : Calls Try.prog 33 #[.int .i64 lo, .int .i64 hi, .slice (some ⟨w.heap.size, 0, none⟩) 1 1] (w.alloc (.cells #[.int .i64 p] 2)) fun e w' => e = .returned (.bool (decide (lo ≤ p ∧ p ≤ hi))) ∧ w' = w.alloc (.cells #[.int .i64 p] 2) := by
  rw [← withinB_1]
  exact areWithin_raw lo hi _ 1 1 [p] _ (by omega) rfl (fun _ => ⟨_, _, rfl, fun k hk => by
    obtain rfl : k = 0 := by omega
    all_goals simp [go_sem]⟩)

theorem Ext.cell_ {w w' : World} (h : Ext w w') {b o : Nat} {v : Value} (hc : w.cell? ⟨b, o, none⟩ = some v) : w'.cell? ⟨b, o, none⟩ = some v := by
  have hlt : b < w.heap.size := World.block_lt_of_cell? w ⟨b, o, none⟩ hc
  rw [(h.below (Nat.le_refl _)).cell (p := ⟨b, o, none⟩) hlt]
  exact hc
theorem wrap_in (x : Int) (h : -1000000 ≤ x ∧ x ≤ 1000000) : IntKind.i64.wrap x = x := IntWalk.i64_in _ (by omega)
set_option maxRecDepth 100000 in
set_option maxHeartbeats 2000000 in
theorem balance_any (p q c0 : Int) (A : Option Addr) (n c : Nat) (ts : List Tl) (B : Option Addr) (m d : Nat) (xs : List Int) (w : World) (hn : n ≤ 1048576) (hl : ts.length = n) (hA : TR w w.heap.size A ts) (hm1 : 1 ≤ m) (hm : m ≤ 20) (hlx : xs.length = m) (hB : IR w w.heap.size B xs) (hal : allT ts xs = true) (hs : small ts) (hp : 1 ≤ p ∧ p ≤ 5) (hq : 1 ≤ q ∧ q ≤ 5) :
    Calls Try.prog 50 #[.agg #[.int .i64 p, .int .i64 q], .agg #[.int .i64 c0, .slice A n c], .slice B m d] w fun e w' => e = .returned (.int .i64 (balR ts xs p q)) ∧ Ext w w' := by
  obtain ⟨l, rfl⟩ : ∃ l, m = l + 1 := ⟨m - 1, by omega⟩
  have HBB := Lib.hid (bsum_bound hal hs hp hq)
  have HSM := Lib.hid hs
  have HAL := Lib.hid hal
  have HIN := Lib.hid (fun k hk => tnum_in hal (k := k) hk)
  have hbase := hs _ (tnum_in hal (k := 0) (by omega))
  have hlast := hs _ (tnum_in hal (k := l) (by omega))
  clear hal hs
  go_enter Try.func50, Try.ntmps50
  go_wp2_with fail
  obtain ⟨W0, hW0⟩ : ∃ W0, (w.alloc (Obj.cells #[.int .i64 p, .int .i64 q] 66)).alloc (Obj.cells #[.int .i64 c0, .slice A n c] 31) = W0 := ⟨_, rfl⟩
  have hE : Ext w W0 := by rw [← hW0]; exact ((Ext.refl w).alloc _).alloc _
  have hP0 : Blk W0 w.heap.size 66 #[.int .i64 p, .int .i64 q] := by rw [← hW0]; exact (Blk.new w _ _).ext ((Ext.refl _).alloc _)
  have hS0 : Blk W0 (w.heap.size + 1) 31 #[.int .i64 c0, .slice A n c] := by rw [← hW0]; have := Blk.new (w.alloc (Obj.cells #[.int .i64 p, .int .i64 q] 66)) 31 #[.int .i64 c0, .slice A n c]; simpa using this
  rw [hW0]
  clear hW0
  have HE := Lib.hid hE
  have HP0 := Lib.hid hP0
  have HS0 := Lib.hid hS0
  obtain ⟨bx, ox, rfl, -, hcx⟩ := (hB.ext hE (Nat.le_refl _)) (by omega)
  obtain ⟨b, o, rfl, -, ht⟩ := (hA.ext hE (Nat.le_refl _)) (by have := HIN.out 0 (by omega); omega)
  have HCX := Lib.hid hcx
  have HTT := Lib.hid ht
  have q0 := hcx 0 (by omega)
  have ql := hcx l (by omega)
  have i0 := HIN.out 0 (by omega)
  have il := HIN.out l (by omega)
  have a0 := allT_in HAL.out (k := 0) (by omega)
  have al := allT_in HAL.out (k := l) (by omega)
  simp only [inT, decide_eq_true_eq] at a0 al
  have hT0 : tnum ts xs 0 = ts.getD (xs.getD 0 0).toNat T0 := rfl
  have hTl : tnum ts xs (xs.length - 1) = ts.getD (xs.getD l 0).toNat T0 := by rw [hlx]; rfl
  have hbal : balR ts xs p q = (tnum ts xs 0).1 - (tnum ts xs (xs.length - 1)).2.2.1 + bsum ts xs p q (l + 1) := by rw [← hlx]; rfl
  rw [hT0, hTl] at hbal
  simp only [Nat.add_zero] at q0
  generalize xs.getD 0 0 = x0 at q0 i0 a0 hT0 hbase hbal
  generalize xs.getD l 0 = xl at ql il al hTl hlast hbal
  obtain ⟨j0, rfl⟩ : ∃ j : Nat, x0 = (j : Int) := ⟨x0.toNat, by omega⟩
  obtain ⟨jl, rfl⟩ : ∃ j : Nat, xl = (j : Int) := ⟨xl.toNat, by omega⟩
  simp only [Int.toNat_natCast] at i0 il hT0 hTl hbase hlast hbal
  have t0 := (ht j0 (by omega)).1
  have tl := (ht jl (by omega)).2.2.1
  have hb1 := hbase.1
  have hb2 := hlast.2.2.1
  generalize (ts.getD j0 T0).1 = y0 at t0 hb1 hbal
  generalize (ts.getD jl T0).2.2.1 = yl at tl hb2 hbal
  have hj0 : (j0 : Int) < (n : Int) := by omega
  have hjl : (jl : Int) < (n : Int) := by omega
  have r1 := hS0.rd 1 rfl
  have wl : IntKind.i64.wrap (l : Int) = (l : Int) := wrap_in _ (by omega)
  obtain ⟨dd, hdd⟩ : ∃ dd, y0 - yl = dd := ⟨_, rfl⟩
  have hw : IntKind.i64.wrap (y0 - yl) = dd := by rw [← hdd]; exact wrap_in _ (by omega)
  rw [hdd] at hbal
  have HBAL := Lib.hid hbal
  have hddb : -5 ≤ dd ∧ dd ≤ 5 := by omega
  clear hcx ht hA hB hE hP0 hS0 hT0 hTl hbase hlast hbal hdd
  go_quiet (fail)
  clear q0 ql t0 tl r1 wl hw
  go_wp2_with fail
  go_loopw [7, 32] (fun v i wr => ∃ k : Nat, k ≤ l + 1 ∧ i = .int .i64 k ∧ v = .int .i64 (dd + bsum ts xs p q k) ∧ Ext W0 wr) (fun _ i _ => l + 1 - (intOf i).toNat)
  case atStart => exact ⟨0, Nat.zero_le _, rfl, by simp [bsum], by repeat (first | exact Ext.refl _ | refine Ext.drewN ?_ _)⟩
  case round =>
    obtain ⟨k, hk, rfl, rfl, hx⟩ := hrel
    have HX := Lib.hid hx
    have hbk := HBB.out k (by omega)
    by_cases hlt : k < l + 1
    · have qk := hx.cell_ (HCX.out k (by omega))
      have ik := HIN.out k (by omega)
      have ak := allT_in HAL.out (k := k) (by omega)
      have hsm := HSM.out _ ik
      have hstep : bsum ts xs p q (k + 1) = bsum ts xs p q k + (p * (tnum ts xs k).2.1 - q * (tnum ts xs k).2.2.2) := rfl
      simp only [inT, decide_eq_true_eq] at ak
      unfold tnum at hstep
      generalize xs.getD k 0 = xk at qk ik ak hsm hstep
      obtain ⟨j, rfl⟩ : ∃ j : Nat, xk = (j : Int) := ⟨xk.toNat, by omega⟩
      simp only [Int.toNat_natCast] at ik hsm hstep
      have tn := hx.cell_ (HTT.out j (by omega)).2.1
      have tS := hx.cell_ (HTT.out j (by omega)).2.2.2
      have m1 := mul5 hp hsm.2.1
      have m2 := mul5 hq hsm.2.2.2
      generalize (ts.getD j T0).2.1 = yn at tn m1 hstep
      generalize (ts.getD j T0).2.2.2 = ys at tS m2 hstep
      obtain ⟨u1, hu1⟩ : ∃ u, p * yn = u := ⟨_, rfl⟩
      obtain ⟨u2, hu2⟩ : ∃ u, q * ys = u := ⟨_, rfl⟩
      rw [hu1] at m1 hstep
      rw [hu2] at m2 hstep
      have hw1 : IntKind.i64.wrap (p * yn) = u1 := by rw [hu1]; exact wrap_in _ (by omega)
      have hw2 : IntKind.i64.wrap (q * ys) = u2 := by rw [hu2]; exact wrap_in _ (by omega)
      obtain ⟨u3, hu3⟩ : ∃ u, u1 - u2 = u := ⟨_, rfl⟩
      rw [hu3] at hstep
      have hw3 : IntKind.i64.wrap (u1 - u2) = u3 := by rw [hu3]; exact wrap_in _ (by omega)
      obtain ⟨sk, hsk⟩ : ∃ u, dd + bsum ts xs p q k = u := ⟨_, rfl⟩
      rw [hsk]
      obtain ⟨s2, hs2⟩ : ∃ u, sk + u3 = u := ⟨_, rfl⟩
      have hw4 : IntKind.i64.wrap (sk + u3) = s2 := by rw [hs2]; exact wrap_in _ (by omega)
      have HF := Lib.hid (show s2 = dd + bsum ts xs p q (k + 1) by omega)
      have hjn : (j : Int) < (n : Int) := by omega
      have p0 := (HP0.out.ext hx).rd 0 rfl
      have p1 := (HP0.out.ext hx).rd 1 rfl
      have r1 := (HS0.out.ext hx).rd 1 rfl
      clear hx hsm hstep hu1 hu2 hu3 hsk hs2 m1 m2 hbk
      go_wp2_with fail
      go_quiet (fail)
      clear qk tn tS p0 p1 r1 hw1 hw2 hw3 hw4
      go_wp2_with fail
      go_roundw
      case rel => exact ⟨k + 1, by omega, by go_num, congrArg (Value.int .i64) HF.out, HX.out.trans (by repeat (first | exact Ext.refl _ | refine Ext.drewN ?_ _))⟩
      case measure => simp [intOf]; omega
    · obtain rfl : k = l + 1 := by omega
      rw [← HBAL.out]
      clear hx hbk
      go_wp2_with fail
      go_ret
      exact ⟨rfl, HE.out.trans HX.out⟩
end Go.Proofs.Ytplbjnnicmcpdaa
