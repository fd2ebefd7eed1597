/- Carries of fractions: both sides, and the doors of CarriesOf. -/
import Derived.Test.YtplbjnnicmcpdaaDoorFr4
import Derived.Test.YtplbjnnicmcpdaaDoorFb1
namespace Go.Proofs.YtplbjnnicmcpdaaDoor
set_option linter.unusedVariables false
set_option linter.unusedSimpArgs false
open Go.RowKit Go.Sort

theorem mulN (x y z : Nat) (h : x * y = z) (hz : z ≤ 1000000) : IntKind.i64.wrap ((x : Int) * (y : Int)) = (z : Int) := by
  have e : ((x : Int) * (y : Int)) = (z : Int) := by rw [← h]; push_cast; rfl
  rw [e]; exact IntWalk.i64_in _ (by omega)
set_option maxHeartbeats 1000000 in
theorem times_any (p q a b pa qb : Nat) (w : World) (hpa : p * a = pa) (hqb : q * b = qb) (h1 : pa ≤ 1000) (h2 : qb ≤ 1000) :
    Calls Tryd.prog 29 #[.agg #[.int .i64 (p : Int), .int .i64 (q : Int)], .agg #[.int .i64 (a : Int), .int .i64 (b : Int)]] w fun e w' => e = .returned (.agg #[.int .i64 (pa : Int), .int .i64 (qb : Int)]) ∧ Ext w w' := by
  have hw1 := mulN p a pa hpa (by omega)
  have hw2 := mulN q b qb hqb (by omega)
  clear hpa hqb
  go_enter Tryd.func29, Tryd.ntmps29
  go_wp2_with fail
  refine bodyPost_ret (v := .agg #[.int .i64 (pa : Int), .int .i64 (qb : Int)]) (by simp [results, Tryd.results29, go_sem]) rfl ⟨rfl, ?_⟩
  exact (((Ext.refl w).alloc _).alloc _).alloc _
/-- The carry at the place i. -/
def carN (p q a b i : Nat) : Int := ((p * (i * a / b) : Nat) : Int) - ((q * (i * (p * a) / (q * b)) : Nat) : Int)
set_option maxRecDepth 100000 in
set_option maxHeartbeats 2000000 in
theorem carry_any (p q a b i : Nat) (w : World) (hp : 1 ≤ p ∧ p ≤ 3) (hq : 1 ≤ q ∧ q ≤ 3) (hb : 0 < b) (hb2 : b ≤ 20) (ha : a ≤ 100) (hi : i ≤ 1100) :
    Calls Tryd.prog 42 #[.agg #[.int .i64 (p : Int), .int .i64 (q : Int)], .agg #[.int .i64 (a : Int), .int .i64 (b : Int)], .int .i64 (i : Int)] w fun e w' => e = .returned (.int .i64 (carN p q a b i)) ∧ Ext w w' := by
  have hpa : p * a ≤ 3 * 100 := Nat.mul_le_mul hp.2 ha
  have hqb : q * b ≤ 3 * 20 := Nat.mul_le_mul hq.2 hb2
  have hqb0 : 0 < q * b := Nat.mul_pos (by omega) hb
  have hia : i * a ≤ 1100 * 100 := Nat.mul_le_mul hi ha
  have ht := fun W => times_any p q a b (p * a) (q * b) W rfl rfl (by omega) (by omega)
  have h1 := fun W => whole_any a b i W hb (by omega)
  obtain ⟨pa, hpa'⟩ : ∃ x, p * a = x := ⟨_, rfl⟩
  obtain ⟨qb, hqb'⟩ : ∃ x, q * b = x := ⟨_, rfl⟩
  rw [hpa'] at ht hpa
  rw [hqb'] at ht hqb hqb0
  have hipa : i * pa ≤ 1100 * 300 := Nat.mul_le_mul hi (by omega)
  have h2 := fun W => whole_any pa qb i W hqb0 (by omega)
  have d1 := Nat.div_le_self (i * a) b
  have d2 := Nat.div_le_self (i * pa) qb
  unfold carN
  rw [hpa', hqb']
  generalize i * a / b = x at *
  generalize i * pa / qb = y at *
  have hx : p * x ≤ 3 * 110000 := Nat.mul_le_mul hp.2 (by omega)
  have hy : q * y ≤ 3 * 330000 := Nat.mul_le_mul hq.2 (by omega)
  obtain ⟨u, hu⟩ : ∃ u, p * x = u := ⟨_, rfl⟩
  obtain ⟨v, hv⟩ : ∃ v, q * y = v := ⟨_, rfl⟩
  have hw1 := mulN p x u hu (by omega)
  have hw2 := mulN q y v hv (by omega)
  rw [hu] at hx ⊢
  rw [hv] at hy ⊢
  obtain ⟨d, hd⟩ : ∃ d, (u : Int) - (v : Int) = d := ⟨_, rfl⟩
  have hw3 : IntKind.i64.wrap ((u : Int) - (v : Int)) = d := by rw [hd]; exact wrap_in _ (by omega)
  rw [hd]
  unfold Ext at h1 h2 ht
  have H1 := Lib.hid h1
  have H2 := Lib.hid h2
  have HT := Lib.hid ht
  obtain ⟨W0, hW0⟩ : ∃ W0, (w.alloc (Obj.cells #[.int .i64 (p : Int), .int .i64 (q : Int)] 50)).alloc (Obj.cells #[.int .i64 (a : Int), .int .i64 (b : Int)] 40) = W0 := ⟨_, rfl⟩
  have hE : Ext w W0 := by rw [← hW0]; exact ((Ext.refl w).alloc _).alloc _
  have hP0 : Blk W0 w.heap.size 50 #[.int .i64 (p : Int), .int .i64 (q : Int)] := by rw [← hW0]; exact (Blk.new w _ _).ext ((Ext.refl _).alloc _)
  have hS0 : Blk W0 (w.heap.size + 1) 40 #[.int .i64 (a : Int), .int .i64 (b : Int)] := by rw [← hW0]; have := Blk.new (w.alloc (Obj.cells #[.int .i64 (p : Int), .int .i64 (q : Int)] 50)) 40 #[.int .i64 (a : Int), .int .i64 (b : Int)]; simpa using this
  have q0 := fun n os => hP0.grown n os 0 (v := .int .i64 (p : Int)) rfl
  have q1 := fun n os => hP0.grown n os 1 (v := .int .i64 (q : Int)) rfl
  have s0 := fun n os => hS0.grown n os 0 (v := .int .i64 (a : Int)) rfl
  have s1 := fun n os => hS0.grown n os 1 (v := .int .i64 (b : Int)) rfl
  have HX := Lib.hid (fun n os => hE.trans (⟨n, os, rfl⟩ : Ext W0 (grow (W0.drewN n) os)))
  clear h1 h2 ht hE hP0 hS0 hu hv hd hx hy hpa' hqb' hpa hqb hqb0 hipa hia d1 d2
  go_enter Tryd.func42, Tryd.ntmps42
  go_wp2_with fail
  clear hW0
  refine wp_region_quiet_grown mixed (by kernel_rfl) ?_
  repeat (go_big_quiet_step (((first | (go_at_call 50; with_reducible refine Calls.grown_of (H1.out _)) | (go_at_call 50; with_reducible refine Calls.grown_of (H2.out _)) | (go_at_call 29; with_reducible refine Calls.grown_of (HT.out _))))))
  refine wpQuiet_nil ?_
  intro _ hw'
  obtain ⟨⟨nq, osq⟩, hw''⟩ := hw'
  subst hw''
  clear q0 q1 s0 s1 hw1 hw2 hw3
  go_wp2_with fail
  go_ret
  exact ⟨rfl, HX.out _ _⟩

def carL (p q a b z : Nat) : Nat → List Int
  | 0 => []
  | k + 1 => carL p q a b z k ++ [carN p q a b (z + k)]
theorem carL_len (p q a b z : Nat) : ∀ k, (carL p q a b z k).length = k
  | 0 => rfl
  | k + 1 => by simp [carL, carL_len p q a b z k]
set_option maxRecDepth 100000 in
set_option maxHeartbeats 2000000 in
theorem carries_any (p q a b z pl n n1 : Nat) (w : World) (hp : 1 ≤ p ∧ p ≤ 3) (hq : 1 ≤ q ∧ q ≤ 3) (hb : 0 < b) (hb2 : b ≤ 20) (ha : a ≤ 100) (hpl : pl = z + 1) (hz : z ≤ 1000) (hn : n ≤ 20) (hn1 : n1 = n + 1) :
    Calls Tryd.prog 26 #[.agg #[.int .i64 (a : Int), .int .i64 (b : Int), .int .i64 (pl : Int), .int .i64 (n : Int)], .agg #[.int .i64 (p : Int), .int .i64 (q : Int)]] w fun e w' => ∃ A cap, e = .returned (.slice A n1 cap) ∧ Below w.heap.size w w' ∧ IWr w' w.heap.size w'.heap.size A (carL p q a b z n1) := by
  have HDG := Lib.hid (fun i W (hi : i ≤ 1100) => carry_any p q a b i W hp hq hb hb2 ha hi)
  have hwz : IntKind.i64.wrap ((pl : Int) - 1) = (z : Int) := by rw [show (pl : Int) - 1 = (z : Int) by omega]; exact IntWalk.i64_in _ (by omega)
  have hwn : IntKind.i64.wrap ((n : Int) + 1) = (n1 : Int) := by rw [show (n : Int) + 1 = (n1 : Int) by omega]; exact IntWalk.i64_in _ (by omega)
  have hn20 : n1 ≤ 21 := by omega
  clear hpl hn1
  obtain ⟨W0, hW0⟩ : ∃ W0, (w.alloc (Obj.cells #[.int .i64 (a : Int), .int .i64 (b : Int), .int .i64 (pl : Int), .int .i64 (n : Int)] 42)).alloc (Obj.cells #[.int .i64 (p : Int), .int .i64 (q : Int)] 50) = W0 := ⟨_, rfl⟩
  have hE : Ext w W0 := by rw [← hW0]; exact ((Ext.refl w).alloc _).alloc _
  have hS0 : Blk W0 w.heap.size 42 #[.int .i64 (a : Int), .int .i64 (b : Int), .int .i64 (pl : Int), .int .i64 (n : Int)] := by rw [← hW0]; exact (Blk.new w _ _).ext ((Ext.refl _).alloc _)
  have hM0 : Blk W0 (w.heap.size + 1) 50 #[.int .i64 (p : Int), .int .i64 (q : Int)] := by rw [← hW0]; have := Blk.new (w.alloc (Obj.cells #[.int .i64 (a : Int), .int .i64 (b : Int), .int .i64 (pl : Int), .int .i64 (n : Int)] 42)) 50 #[.int .i64 (p : Int), .int .i64 (q : Int)]; simpa using this
  have HE := Lib.hid (hE.below (Nat.le_refl _))
  have HP := Lib.hid hS0
  have HM := Lib.hid hM0
  clear hE
  have n0 := hS0.rd 3 rfl
  go_enter Tryd.func26, Tryd.ntmps26
  go_wp2_with fail
  clear hW0 hS0 hM0 n0
  go_loopw [5, 10] (fun v i wr => ∃ k : Nat, k ≤ n1 ∧ i = .int .i64 k ∧ wr.ownsRow W0.heap.size 2 1 v k (vis (carL p q a b z k)) ∧ Below W0.heap.size W0 wr) (fun _ i _ => n1 - (intOf i).toNat)
  case atStart => exact ⟨0, Nat.zero_le _, rfl, World.ownsRow_nil _ _ _ _, Below.refl _ _⟩
  case round =>
    obtain ⟨k, hk, rfl, hown, hb2⟩ := hrel
    have HO := Lib.hid hown
    have HB := Lib.hid hb2
    have hP := HP.out.below hb2 HP.out.lt
    have hM := HM.out.below hb2 HM.out.lt
    have p0 := hP.rd 0 rfl
    have p1 := hP.rd 1 rfl
    have p2 := hP.rd 2 rfl
    have p3 := hP.rd 3 rfl
    have m0 := hM.rd 0 rfl
    have m1 := hM.rd 1 rfl
    clear hown hb2 hP hM
    by_cases hlt : k < n1
    · obtain ⟨j, hj⟩ : ∃ j, z + k = j := ⟨_, rfl⟩
      have hw : IntKind.i64.wrap ((z : Int) + (k : Int)) = (j : Int) := by
        rw [show (z : Int) + (k : Int) = (j : Int) by omega]
        exact IntWalk.i64_in _ (by omega)
      have HD := Lib.hid (fun W => HDG.out j W (by omega))
      have HDD := Lib.hid (show carL p q a b z (k + 1) = carL p q a b z k ++ [carN p q a b j] by rw [← hj]; rfl)
      generalize carN p q a b j = d at HD HDD
      clear hj
      go_wp2_with fail
      refine (HD.out _).mono ?_
      rintro e w2 ⟨rfl, hx⟩
      have HB2 := Lib.hid (HB.out.trans (hx.below HB.out.size))
      have HO2 := Lib.hid (iown_ext HO.out hx)
      clear hx p0 p1 p2 p3 m0 m1 hw HO HB
      go_wp2_with (at_builtin; refine wpList_push rfl _ _ rfl W0.heap.size _ k _ rfl (HO2.out.alloc _) w2.heap.size d rfl (heap_alloc_new w2 _) ?c1 ?c2 ?c3 ?_)
      case c1 => unfold maxLen; omega
      case c2 => omega
      case c3 => have := HB2.out.size; simp; omega
      intro v' w3 hown' hgrow _
      have O3 := Lib.hid (show w3.ownsRow W0.heap.size 2 1 v' (k + 1) (vis (carL p q a b z (k + 1))) by rw [HDD.out, vis_snoc]; exact hown')
      have B3 := Lib.hid ((HB2.out.alloc HB2.out.size _).grown hgrow (by have := HB2.out.size; simp; omega) (fun j hj => (HO2.out.lt j hj).1))
      clear hown' hgrow HO2 HB2
      go_wp2_with fail
      go_roundw
      case rel => exact ⟨k + 1, by omega, by go_num, O3.out, B3.out⟩
      case measure => simp [intOf]; omega
    · obtain rfl : k = n1 := by omega
      obtain ⟨A2, cap2, rfl, hcap, htw⟩ := own_iwr HO.out (carL_len _ _ _ _ _ _)
      have HT := Lib.hid htw
      clear htw HO
      go_wp2_with fail
      go_ret
      first | exact ⟨A2, cap2, rfl, HE.out.trans (HB.out.mono HE.out.size), HT.out.low HE.out.size⟩ | exact ⟨A2, ⟨cap2, rfl⟩, HE.out.trans (HB.out.mono HE.out.size), HT.out.low HE.out.size⟩
end Go.Proofs.YtplbjnnicmcpdaaDoor
