/- Balances of rows: the model's side. -/
import Derived.Test.YtplbjnnicmcpdaaBa1
import Derived.Test.YtplbjnnicmcpdaaWords3
namespace Go.Proofs.Ytplbjnnicmcpdaa
set_option linter.unusedVariables false
set_option linter.unusedSimpArgs false
open Go.RowKit Go.Sort

set_option maxHeartbeats 1000000 in
theorem l08Sum_any (A : Option Addr) (m d : Nat) (xs : List Int) (w : World) (hm : m ≤ 1000) (hl : xs.length = m) (hA : IR w w.heap.size A xs) (hx5 : ∀ k, k < xs.length → 0 ≤ xs.getD k 0 ∧ xs.getD k 0 ≤ 5) :
    Calls Try.prog 68 #[.slice A m d] w fun e w' => e = .returned (.int .i64 (psum xs m)) ∧ Ext w w' := by
  have HB := Lib.hid (psum_bound hx5)
  have H5 := Lib.hid hx5
  clear hx5
  go_enter Try.func68, Try.ntmps68
  go_wp2_with fail
  go_loop [3, 4] (fun v i => ∃ k : Nat, k ≤ m ∧ i = .int .i64 k ∧ v = .int .i64 (psum xs k)) (fun _ i => m - (intOf i).toNat)
  case atStart => exact ⟨0, Nat.zero_le _, rfl, rfl⟩
  case round =>
    obtain ⟨k, hk, rfl, rfl⟩ := hrel
    by_cases hlt : k < m
    · obtain ⟨bx, ox, rfl, -, hcx⟩ := hA (by omega)
      have q1 := hcx k (by omega)
      have hb := HB.out k (by omega)
      have h5 := H5.out k (by omega)
      have hs : psum xs (k + 1) = psum xs k + xs.getD k 0 := rfl
      generalize xs.getD k 0 = x at q1 h5 hs
      generalize psum xs k = s at hb hs
      have hw : IntKind.i64.wrap (s + x) = s + x := wrap_in _ (by omega)
      have HS := Lib.hid hs
      clear hcx hA hs
      go_wp2_with fail
      go_round
      case rel => exact ⟨k + 1, by omega, by go_num, congrArg (Value.int .i64) HS.out.symm⟩
      case measure => simp [intOf]; omega
    · obtain rfl : k = m := by omega
      clear hA
      go_wp2_with fail
      go_ret
      exact ⟨rfl, Ext.refl _⟩

theorem colN_small {ts : List Tl} {xs : List Int} (hal : allT ts xs = true) (hs : small ts) : ∀ k, k < (colN ts xs).length → 0 ≤ (colN ts xs).getD k 0 ∧ (colN ts xs).getD k 0 ≤ 5 := fun k hk => by
  rw [colN_len] at hk
  rw [colN_at ts hk]
  exact (hs _ (tnum_in hal hk)).2.1
theorem colS_small {ts : List Tl} {xs : List Int} (hal : allT ts xs = true) (hs : small ts) : ∀ k, k < (colS ts xs).length → 0 ≤ (colS ts xs).getD k 0 ∧ (colS ts xs).getD k 0 ≤ 5 := fun k hk => by
  rw [colS_len] at hk
  rw [colS_at ts hk]
  exact (hs _ (tnum_in hal hk)).2.2.2
theorem mul5k {p y : Int} {k : Nat} (hp : 1 ≤ p ∧ p ≤ 5) (hy : 0 ≤ y ∧ y ≤ 5 * (k : Int)) : 0 ≤ p * y ∧ p * y ≤ 25 * (k : Int) := by
  constructor
  · exact Int.mul_nonneg (by omega) hy.1
  · calc p * y ≤ 5 * (5 * (k : Int)) := Int.mul_le_mul hp.2 hy.2 hy.1 (by omega)
      _ = 25 * (k : Int) := by omega
set_option maxRecDepth 100000 in
set_option maxHeartbeats 2000000 in
theorem l08Balance_any (p q c0 : Int) (A : Option Addr) (n c : Nat) (ts : List Tl) (B : Option Addr) (m d : Nat) (xs : List Int) (w : World) (hn : n ≤ 1048576) (hl : ts.length = n) (hA : TR w w.heap.size A ts) (hm1 : 1 ≤ m) (hm : m ≤ 20) (hlx : xs.length = m) (hB : IR w w.heap.size B xs) (hal : allT ts xs = true) (hs : small ts) (hp : 1 ≤ p ∧ p ≤ 5) (hq : 1 ≤ q ∧ q ≤ 5) :
    Calls Try.prog 47 #[.agg #[.int .i64 c0, .slice A n c], .slice B m d, .int .i64 p, .int .i64 q] w fun e w' => e = .returned (.int .i64 (balR ts xs p q)) ∧ Below w.heap.size w w' := by
  obtain ⟨l, rfl⟩ : ∃ l, m = l + 1 := ⟨m - 1, by omega⟩
  have hwo := l02Words_any c0 A n c ts B (l + 1) d xs (w.alloc (Obj.cells #[.int .i64 c0, .slice A n c] 31)) hn hl ((hA.ext ((Ext.refl w).alloc _) (Nat.le_refl _)).more (by simp)) (by omega) hlx ((hB.ext ((Ext.refl w).alloc _) (Nat.le_refl _)).more (by simp)) hal
  have HW := Lib.hid hwo
  have HA := Lib.hid hA
  have HBX := Lib.hid hB
  have cN := colN_small hal hs
  have cS := colS_small hal hs
  have lN := colN_len ts xs
  have lS := colS_len ts xs
  rw [hlx] at lN lS
  have i0 := tnum_in hal (k := 0) (by omega)
  have il := tnum_in hal (k := l) (by omega)
  have a0 := allT_in hal (k := 0) (by omega)
  have al := allT_in hal (k := l) (by omega)
  simp only [inT, decide_eq_true_eq] at a0 al
  have hbase := hs _ i0
  have hlast := hs _ il
  have hbal := balR_eq ts xs p q
  rw [show tnum ts xs 0 = ts.getD (xs.getD 0 0).toNat T0 from rfl, show tnum ts xs (xs.length - 1) = ts.getD (xs.getD l 0).toNat T0 by rw [hlx]; rfl, hlx] at hbal
  have bN := mul5k hp (psum_bound cN (l + 1) (by omega))
  have bS := mul5k hq (psum_bound cS (l + 1) (by omega))
  have HSN := Lib.hid (fun R p0 W (h : IR W W.heap.size R (colN ts xs)) => l08Sum_any R (l + 1) p0 (colN ts xs) W (by omega) lN h cN)
  have HSS := Lib.hid (fun R p0 W (h : IR W W.heap.size R (colS ts xs)) => l08Sum_any R (l + 1) p0 (colS ts xs) W (by omega) lS h cS)
  rw [lN, lS] at HW
  generalize balR ts xs p q = bal at hbal ⊢
  generalize psum (colN ts xs) (l + 1) = sN at bN HSN hbal
  generalize psum (colS ts xs) (l + 1) = sS at bS HSS hbal
  clear hwo hA hB hal hs cN cS
  go_enter Try.func47, Try.ntmps47
  go_wp2_with fail
  refine HW.out.mono ?_
  rintro e w1 ⟨R0, p0, R1, p1, rfl, hb, h0, h1⟩
  have K1 := Lib.hid ((((Ext.refl w).alloc (Obj.cells #[.int .i64 c0, .slice A n c] 31)).below (Nat.le_refl _)).trans (hb.mono (by simp)))
  have S1 := Lib.hid ((Blk.new w 31 #[.int .i64 c0, .slice A n c]).below hb (by simp))
  have hsz := K1.out.size
  obtain ⟨bx, ox, rfl, -, hcx⟩ := (HBX.out.below K1.out (Nat.le_refl _)) (by omega)
  obtain ⟨b, o, rfl, -, ht⟩ := (HA.out.below K1.out (Nat.le_refl _)) (by omega)
  have q0 := hcx 0 (by omega)
  have ql := hcx l (by omega)
  simp only [Nat.add_zero] at q0
  generalize xs.getD 0 0 = x0 at q0 i0 a0 hbase hbal
  generalize xs.getD l 0 = xl at ql il al hlast hbal
  obtain ⟨j0, rfl⟩ : ∃ j : Nat, x0 = (j : Int) := ⟨x0.toNat, by omega⟩
  obtain ⟨jl, rfl⟩ : ∃ j : Nat, xl = (j : Int) := ⟨xl.toNat, by omega⟩
  simp only [Int.toNat_natCast] at i0 il hbase hlast hbal
  have t0 := (ht j0 (by omega)).1
  have tl := (ht jl (by omega)).2.2.1
  have hb1 := hbase.1
  have hb2 := hlast.2.2.1
  generalize (ts.getD j0 T0).1 = y0 at t0 hb1 hbal
  generalize (ts.getD jl T0).2.2.1 = yl at tl hb2 hbal
  have hj0 : (j0 : Int) < (n : Int) := by omega
  have hjl : (jl : Int) < (n : Int) := by omega
  have r1 := S1.out.rd 1 rfl
  have wl : IntKind.i64.wrap (l : Int) = (l : Int) := wrap_in _ (by omega)
  have cn : ∀ W, Ext w1 W → Calls Try.prog 68 #[.slice R0 (l + 1) p0] W _ := fun W hW => HSN.out R0 p0 W ((h0.ext hW).ir)
  have cs : ∀ W, Ext w1 W → Calls Try.prog 68 #[.slice R1 (l + 1) p1] W _ := fun W hW => HSS.out R1 p1 W ((h1.ext hW).ir)
  obtain ⟨u1, hu1⟩ : ∃ u, p * sN = u := ⟨_, rfl⟩
  obtain ⟨u2, hu2⟩ : ∃ u, q * sS = u := ⟨_, rfl⟩
  rw [hu1] at bN hbal
  rw [hu2] at bS hbal
  have hw1 : IntKind.i64.wrap (p * sN) = u1 := by rw [hu1]; exact wrap_in _ (by omega)
  have hw2 : IntKind.i64.wrap (q * sS) = u2 := by rw [hu2]; exact wrap_in _ (by omega)
  obtain ⟨u3, hu3⟩ : ∃ u, u1 + y0 = u := ⟨_, rfl⟩
  have hw3 : IntKind.i64.wrap (u1 + y0) = u3 := by rw [hu3]; exact wrap_in _ (by omega)
  obtain ⟨u4, hu4⟩ : ∃ u, u3 - u2 = u := ⟨_, rfl⟩
  have hw4 : IntKind.i64.wrap (u3 - u2) = u4 := by rw [hu4]; exact wrap_in _ (by omega)
  have hw5 : IntKind.i64.wrap (u4 - yl) = bal := by rw [← hbal, ← hu4, ← hu3]; exact wrap_in _ (by omega)
  have CN := Lib.hid cn
  have CS := Lib.hid cs
  clear hcx ht hbase hlast hbal hu1 hu2 hu3 hu4 bN bS hb1 hb2 cn cs h0 h1 hb i0 il a0 al lN lS
  go_wp2_with fail
  have HK := Lib.hid (fun q os => (⟨q, os, rfl⟩ : Ext w1 (grow (w1.drewN q) os)))
  replace q0 := fun q os => Ext.cell_ (HK.out q os) q0
  replace ql := fun q os => Ext.cell_ (HK.out q os) ql
  replace t0 := fun q os => Ext.cell_ (HK.out q os) t0
  replace tl := fun q os => Ext.cell_ (HK.out q os) tl
  replace r1 := fun q os => Ext.cell_ (HK.out q os) r1
  unfold Ext at CN CS
  refine wp_region_quiet_grown mixed (by kernel_rfl) ?_
  repeat (go_big_quiet_step (((first | (go_at_call 68; with_reducible refine Calls.grown_of (CN.out _ ⟨_, _, rfl⟩)) | (go_at_call 68; with_reducible refine Calls.grown_of (CS.out _ ⟨_, _, rfl⟩))))))
  refine wpQuiet_nil ?_
  intro _ hw'
  obtain ⟨⟨nq, osq⟩, hw''⟩ := hw'
  subst hw''
  clear q0 ql t0 tl r1 wl hw1 hw2 hw3 hw4 hw5
  go_wp2_with fail
  go_ret
  exact ⟨rfl, K1.out.trans (Ext.below (HK.out _ _) hsz)⟩
end Go.Proofs.Ytplbjnnicmcpdaa
