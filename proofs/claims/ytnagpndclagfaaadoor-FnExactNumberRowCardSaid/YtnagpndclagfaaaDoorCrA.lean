/- Carries of fractions: both sides, and the doors of CarriesOf. -/
import Derived.Test.YtnagpndclagfaaaDoorFr4
import Derived.Test.YtnagpndclagfaaaDoorFb1
namespace Go.Proofs.YtnagpndclagfaaaDoor
section
set_option linter.unusedVariables false
set_option linter.unusedSimpArgs false
open Go.RowKit Go.Sort

theorem mulN (x y z : Nat) (h : x * y = z) (hz : z ≤ 1000000) : IntKind.i64.wrap ((x : Int) * (y : Int)) = (z : Int) := by
  have e : ((x : Int) * (y : Int)) = (z : Int) := by rw [← h]; push_cast; rfl
  rw [e]; exact IntWalk.i64_in _ (by omega)
set_option maxHeartbeats 1000000 in
theorem times_any (p q a b pa qb : Nat) (w : World) (hpa : p * a = pa) (hqb : q * b = qb) (h1 : pa ≤ 1000) (h2 : qb ≤ 1000) :
    Calls Tryd.prog 29 #[.agg #[.int .i64 (p : Int), .int .i64 (q : Int)], .agg #[.int .i64 (a : Int), .int .i64 (b : Int)]] w fun e w' => e = .returned (.agg #[.int .i64 (pa : Int), .int .i64 (qb : Int)]) ∧ Ext w w' := by
  have hw1 := mulN p a pa hpa (by omega)
  have hw2 := mulN q b qb hqb (by omega)
  clear hpa hqb
  go_enter Tryd.func29, Tryd.ntmps29
  go_wp2_with fail
  refine bodyPost_ret (v := .agg #[.int .i64 (pa : Int), .int .i64 (qb : Int)]) (by simp [results, Tryd.results29, go_sem]) rfl ⟨rfl, ?_⟩
  exact (((Ext.refl w).alloc _).alloc _).alloc _
/-- The carry at the place i. -/
def carN (p q a b i : Nat) : Int := ((p * (i * a / b) : Nat) : Int) - ((q * (i * (p * a) / (q * b)) : Nat) : Int)
set_option maxRecDepth 100000 in
set_option maxHeartbeats 2000000 in
theorem carry_any (p q a b i : Nat) (w : World) (hp : 1 ≤ p ∧ p ≤ 3) (hq : 1 ≤ q ∧ q ≤ 3) (hb : 0 < b) (hb2 : b ≤ 20) (ha : a ≤ 100) (hi : i ≤ 1100) :
    Calls Tryd.prog 42 #[.agg #[.int .i64 (p : Int), .int .i64 (q : Int)], .agg #[.int .i64 (a : Int), .int .i64 (b : Int)], .int .i64 (i : Int)] w fun e w' => e = .returned (.int .i64 (carN p q a b i)) ∧ Ext w w' := by
  have hpa : p * a ≤ 3 * 100 := Nat.mul_le_mul hp.2 ha
  have hqb : q * b ≤ 3 * 20 := Nat.mul_le_mul hq.2 hb2
  have hqb0 : 0 < q * b := Nat.mul_pos (by omega) hb
  have hia : i * a ≤ 1100 * 100 := Nat.mul_le_mul hi ha
  have ht := fun W => times_any p q a b (p * a) (q * b) W rfl rfl (by omega) (by omega)
  have h1 := fun W => whole_any a b i W hb (by omega)
  obtain ⟨pa, hpa'⟩ : ∃ x, p * a = x := ⟨_, rfl⟩
  obtain ⟨qb, hqb'⟩ : ∃ x, q * b = x := ⟨_, rfl⟩
  rw [hpa'] at ht hpa
  rw [hqb'] at ht hqb hqb0
  have hipa : i * pa ≤ 1100 * 300 := Nat.mul_le_mul hi (by omega)
  have h2 := fun W => whole_any pa qb i W hqb0 (by omega)
  have d1 := Nat.div_le_self (i * a) b
  have d2 := Nat.div_le_self (i * pa) qb
  unfold carN
  rw [hpa', hqb']
  generalize i * a / b = x at *
  generalize i * pa / qb = y at *
  have hx : p * x ≤ 3 * 110000 := Nat.mul_le_mul hp.2 (by omega)
  have hy : q * y ≤ 3 * 330000 := Nat.mul_le_mul hq.2 (by omega)
  obtain ⟨u, hu⟩ : ∃ u, p * x = u := ⟨_, rfl⟩
  obtain ⟨v, hv⟩ : ∃ v, q * y = v := ⟨_, rfl⟩
  have hw1 := mulN p x u hu (by omega)
  have hw2 := mulN q y v hv (by omega)
  rw [hu] at hx ⊢
  rw [hv] at hy ⊢
  obtain ⟨d, hd⟩ : ∃ d, (u : Int) - (v : Int) = d := ⟨_, rfl⟩
  have hw3 : IntKind.i64.wrap ((u : Int) - (v : Int)) = d := by rw [hd]; exact wrap_in _ (by omega)
  rw [hd]
  unfold Ext at h1 h2 ht
  have H1 := Lib.hid h1
  have H2 := Lib.hid h2
  have HT := Lib.hid ht
  obtain ⟨W0, hW0⟩ : ∃ W0, (w.alloc (Obj.cells #[.int .i64 (p : Int), .int .i64 (q : Int)] 50)).alloc (Obj.cells #[.int .i64 (a : Int), .int .i64 (b : Int)] 40) = W0 := ⟨_, rfl⟩
  have hE : Ext w W0 := by rw [← hW0]; exact ((Ext.refl w).alloc _).alloc _
  have hP0 : Blk W0 w.heap.size 50 #[.int .i64 (p : Int), .int .i64 (q : Int)] := by rw [← hW0]; exact (Blk.new w _ _).ext ((Ext.refl _).alloc _)
  have hS0 : Blk W0 (w.heap.size + 1) 40 #[.int .i64 (a : Int), .int .i64 (b : Int)] := by rw [← hW0]; have := Blk.new (w.alloc (Obj.cells #[.int .i64 (p : Int), .int .i64 (q : Int)] 50)) 40 #[.int .i64 (a : Int), .int .i64 (b : Int)]; simpa using this
  have q0 := fun n os => hP0.grown n os 0 (v := .int .i64 (p : Int)) rfl
  have q1 := fun n os => hP0.grown n os 1 (v := .int .i64 (q : Int)) rfl
  have s0 := fun n os => hS0.grown n os 0 (v := .int .i64 (a : Int)) rfl
  have s1 := fun n os => hS0.grown n os 1 (v := .int .i64 (b : Int)) rfl
  have HX := Lib.hid (fun n os => hE.trans (⟨n, os, rfl⟩ : Ext W0 (grow (W0.drewN n) os)))
  clear h1 h2 ht hE hP0 hS0 hu hv hd hx hy hpa' hqb' hpa hqb hqb0 hipa hia d1 d2
  go_enter Tryd.func42, Tryd.ntmps42
  go_wp2_with fail
  clear hW0
  refine wp_region_quiet_grown mixed (by kernel_rfl) ?_
  repeat (go_big_quiet_step (((first | (go_at_call 50; with_reducible refine Calls.grown_of (H1.out _)) | (go_at_call 50; with_reducible refine Calls.grown_of (H2.out _)) | (go_at_call 29; with_reducible refine Calls.grown_of (HT.out _))))))
  refine wpQuiet_nil ?_
  intro _ hw'
  obtain ⟨⟨nq, osq⟩, hw''⟩ := hw'
  subst hw''
  clear q0 q1 s0 s1 hw1 hw2 hw3
  go_wp2_with fail
  go_ret
  exact ⟨rfl, HX.out _ _⟩

def carL (p q a b z : Nat) : Nat → List Int
  | 0 => []
  | k + 1 => carL p q a b z k ++ [carN p q a b (z + k)]
theorem carL_len (p q a b z : Nat) : ∀ k, (carL p q a b z k).length = k
  | 0 => rfl
  | k + 1 => by simp [carL, carL_len p q a b z k]
set_option maxRecDepth 100000 in
set_option maxHeartbeats 2000000 in
theorem carries_any (p q a b z pl n n1 : Nat) (w : World) (hp : 1 ≤ p ∧ p ≤ 3) (hq : 1 ≤ q ∧ q ≤ 3) (hb : 0 < b) (hb2 : b ≤ 20) (ha : a ≤ 100) (hpl : pl = z + 1) (hz : z ≤ 1000) (hn : n ≤ 20) (hn1 : n1 = n + 1) :
    Calls Tryd.prog 26 #[.agg #[.int .i64 (a : Int), .int .i64 (b : Int), .int .i64 (pl : Int), .int .i64 (n : Int)], .agg #[.int .i64 (p : Int), .int .i64 (q : Int)]] w fun e w' => ∃ A cap, e = .returned (.slice A n1 cap) ∧ Below w.heap.size w w' ∧ IWr w' w.heap.size w'.heap.size A (carL p q a b z n1) := by
  have HDG := Lib.hid (fun i W (hi : i ≤ 1100) => carry_any p q a b i W hp hq hb hb2 ha hi)
  have hwz : IntKind.i64.wrap ((pl : Int) - 1) = (z : Int) := by rw [show (pl : Int) - 1 = (z : Int) by omega]; exact IntWalk.i64_in _ (by omega)
  have hwn : IntKind.i64.wrap ((n : Int) + 1) = (n1 : Int) := by rw [show (n : Int) + 1 = (n1 : Int) by omega]; exact IntWalk.i64_in _ (by omega)
  have hn20 : n1 ≤ 21 := by omega
  clear hpl hn1
  obtain ⟨W0, hW0⟩ : ∃ W0, (w.alloc (Obj.cells #[.int .i64 (a : Int), .int .i64 (b : Int), .int .i64 (pl : Int), .int .i64 (n : Int)] 42)).alloc (Obj.cells #[.int .i64 (p : Int), .int .i64 (q : Int)] 50) = W0 := ⟨_, rfl⟩
  have hE : Ext w W0 := by rw [← hW0]; exact ((Ext.refl w).alloc _).alloc _
  have hS0 : Blk W0 w.heap.size 42 #[.int .i64 (a : Int), .int .i64 (b : Int), .int .i64 (pl : Int), .int .i64 (n : Int)] := by rw [← hW0]; exact (Blk.new w _ _).ext ((Ext.refl _).alloc _)
  have hM0 : Blk W0 (w.heap.size + 1) 50 #[.int .i64 (p : Int), .int .i64 (q : Int)] := by rw [← hW0]; have := Blk.new (w.alloc (Obj.cells #[.int .i64 (a : Int), .int .i64 (b : Int), .int .i64 (pl : Int), .int .i64 (n : Int)] 42)) 50 #[.int .i64 (p : Int), .int .i64 (q : Int)]; simpa using this
  have HE := Lib.hid (hE.below (Nat.le_refl _))
  have HP := Lib.hid hS0
  have HM := Lib.hid hM0
  clear hE
  have n0 := hS0.rd 3 rfl
  go_enter Tryd.func26, Tryd.ntmps26
  go_wp2_with fail
  clear hW0 hS0 hM0 n0
  go_loopw [5, 10] (fun v i wr => ∃ k : Nat, k ≤ n1 ∧ i = .int .i64 k ∧ wr.ownsRow W0.heap.size 2 1 v k (vis (carL p q a b z k)) ∧ Below W0.heap.size W0 wr) (fun _ i _ => n1 - (intOf i).toNat)
  case atStart => exact ⟨0, Nat.zero_le _, rfl, World.ownsRow_nil _ _ _ _, Below.refl _ _⟩
  case round =>
    obtain ⟨k, hk, rfl, hown, hb2⟩ := hrel
    have HO := Lib.hid hown
    have HB := Lib.hid hb2
    have hP := HP.out.below hb2 HP.out.lt
    have hM := HM.out.below hb2 HM.out.lt
    have p0 := hP.rd 0 rfl
    have p1 := hP.rd 1 rfl
    have p2 := hP.rd 2 rfl
    have p3 := hP.rd 3 rfl
    have m0 := hM.rd 0 rfl
    have m1 := hM.rd 1 rfl
    clear hown hb2 hP hM
    by_cases hlt : k < n1
    · obtain ⟨j, hj⟩ : ∃ j, z + k = j := ⟨_, rfl⟩
      have hw : IntKind.i64.wrap ((z : Int) + (k : Int)) = (j : Int) := by
        rw [show (z : Int) + (k : Int) = (j : Int) by omega]
        exact IntWalk.i64_in _ (by omega)
      have HD := Lib.hid (fun W => HDG.out j W (by omega))
      have HDD := Lib.hid (show carL p q a b z (k + 1) = carL p q a b z k ++ [carN p q a b j] by rw [← hj]; rfl)
      generalize carN p q a b j = d at HD HDD
      clear hj
      go_wp2_with fail
      refine (HD.out _).mono ?_
      rintro e w2 ⟨rfl, hx⟩
      have HB2 := Lib.hid (HB.out.trans (hx.below HB.out.size))
      have HO2 := Lib.hid (iown_ext HO.out hx)
      clear hx p0 p1 p2 p3 m0 m1 hw HO HB
      go_wp2_with (at_builtin; refine wpList_push rfl _ _ rfl W0.heap.size _ k _ rfl (HO2.out.alloc _) w2.heap.size d rfl (heap_alloc_new w2 _) ?c1 ?c2 ?c3 ?_)
      case c1 => unfold maxLen; omega
      case c2 => omega
      case c3 => have := HB2.out.size; simp; omega
      intro v' w3 hown' hgrow _
      have O3 := Lib.hid (show w3.ownsRow W0.heap.size 2 1 v' (k + 1) (vis (carL p q a b z (k + 1))) by rw [HDD.out, vis_snoc]; exact hown')
      have B3 := Lib.hid ((HB2.out.alloc HB2.out.size _).grown hgrow (by have := HB2.out.size; simp; omega) (fun j hj => (HO2.out.lt j hj).1))
      clear hown' hgrow HO2 HB2
      go_wp2_with fail
      go_roundw
      case rel => exact ⟨k + 1, by omega, by go_num, O3.out, B3.out⟩
      case measure => simp [intOf]; omega
    · obtain rfl : k = n1 := by omega
      obtain ⟨A2, cap2, rfl, hcap, htw⟩ := own_iwr HO.out (carL_len _ _ _ _ _ _)
      have HT := Lib.hid htw
      clear htw HO
      go_wp2_with fail
      go_ret
      first | exact ⟨A2, cap2, rfl, HE.out.trans (HB.out.mono HE.out.size), HT.out.low HE.out.size⟩ | exact ⟨A2, ⟨cap2, rfl⟩, HE.out.trans (HB.out.mono HE.out.size), HT.out.low HE.out.size⟩
end

section
set_option linter.unusedVariables false
set_option linter.unusedSimpArgs false
open Go.RowKit Go.Sort

set_option maxRecDepth 100000 in
set_option maxHeartbeats 2000000 in
theorem l08Carries_any (p q a b z pl n n1 : Nat) (w : World) (hp : 1 ≤ p ∧ p ≤ 3) (hq : 1 ≤ q ∧ q ≤ 3) (hb : 0 < b) (hb2 : b ≤ 20) (ha : a ≤ 100) (hpl : pl = z + 1) (hz : z ≤ 1000) (hn : n ≤ 20) (hn1 : n1 = n + 1) :
    Calls Tryd.prog 24 #[.int .i64 (p : Int), .int .i64 (q : Int), .int .i64 (a : Int), .int .i64 (b : Int), .int .i64 (pl : Int), .int .i64 (n : Int)] w fun e w' => ∃ A cap, e = .returned (.slice A n1 cap) ∧ Below w.heap.size w w' ∧ IWr w' w.heap.size w'.heap.size A (carL p q a b z n1) := by
  obtain ⟨en, hen⟩ : ∃ en, z + n1 = en := ⟨_, rfl⟩
  have hwe : IntKind.i64.wrap ((pl : Int) + (n : Int)) = (en : Int) := by
    rw [show (pl : Int) + (n : Int) = (en : Int) by omega]; exact IntWalk.i64_in _ (by omega)
  have hwz : IntKind.i64.wrap ((pl : Int) - 1) = (z : Int) := by rw [show (pl : Int) - 1 = (z : Int) by omega]; exact IntWalk.i64_in _ (by omega)
  have HEN := Lib.hid hen
  have hn20 : n1 ≤ 21 := by omega
  have hqb : q * b ≤ 3 * 20 := Nat.mul_le_mul hq.2 hb2
  have hqb0 : 0 < q * b := Nat.mul_pos (by omega) hb
  obtain ⟨qb, hqb'⟩ : ∃ x, q * b = x := ⟨_, rfl⟩
  rw [hqb'] at hqb hqb0
  have hwq := mulN b q qb (by rw [Nat.mul_comm]; exact hqb') (by omega)
  have HQB := Lib.hid hqb'
  clear hpl hn1 hen hqb'
  go_enter Tryd.func24, Tryd.ntmps24
  go_wp2_with fail
  go_loopw [13, 14] (fun v i wr => ∃ k j : Nat, Hid (j = z + k) ∧ k ≤ n1 ∧ i = .int .i64 (j : Int) ∧ wr.ownsRow w.heap.size 2 1 v k (vis (carL p q a b z k)) ∧ Below w.heap.size w wr) (fun _ i _ => en - (intOf i).toNat)
  case atStart => exact ⟨0, z, Lib.hid rfl, Nat.zero_le _, rfl, World.ownsRow_made (base := w.heap.size) (e := 2) (size := 1) w #[] 0 (Nat.le_refl _) (by unfold maxLen; omega) rfl, (Below.refl _ _).alloc (Nat.le_refl _) _⟩
  case round =>
    obtain ⟨k, j, HJ, hk, rfl, hown, hbb⟩ := hrel
    have HO := Lib.hid hown
    have HB := Lib.hid hbb
    clear hown hbb
    by_cases hlt : k < n1
    · have hje : (j : Int) < (en : Int) := by have := HJ.out; have := HEN.out; omega
      have hjj := HJ.out
      have hjb : j ≤ 1100 := by omega
      have hja : j * a ≤ 1100 * 100 := Nat.mul_le_mul hjb ha
      have hjap : j * a * p ≤ 1100 * 100 * 3 := Nat.mul_le_mul hja hp.2
      have HDD := Lib.hid (show carL p q a b z (k + 1) = carL p q a b z k ++ [carN p q a b (z + k)] from rfl)
      rw [← hjj] at HDD
      have hcar : carN p q a b j = ((p * (j * a / b) : Nat) : Int) - ((q * (j * a * p / qb) : Nat) : Int) := by
        unfold carN
        rw [HQB.out, Nat.mul_assoc j a p, Nat.mul_comm a p]
      obtain ⟨x1, hx1⟩ : ∃ x, j * a = x := ⟨_, rfl⟩
      have hw1 := mulN j a x1 hx1 (by omega)
      rw [hx1] at hja hjap hcar
      obtain ⟨x2, hx2⟩ : ∃ x, x1 * p = x := ⟨_, rfl⟩
      have hw2 := mulN x1 p x2 hx2 (by omega)
      rw [hx2] at hjap hcar
      obtain ⟨g1, g1'⟩ := tdivN2 x1 b (by omega)
      obtain ⟨g2, g2'⟩ := tdivN2 x2 qb (by omega)
      have d1 := Nat.div_le_self x1 b
      have d2 := Nat.div_le_self x2 qb
      generalize x1 / b = y1 at *
      generalize x2 / qb = y2 at *
      have hu3 : p * y1 ≤ 3 * 110000 := Nat.mul_le_mul hp.2 (by omega)
      have hv3 : q * y2 ≤ 3 * 330000 := Nat.mul_le_mul hq.2 (by omega)
      obtain ⟨u, hu⟩ : ∃ x, p * y1 = x := ⟨_, rfl⟩
      obtain ⟨v, hv⟩ : ∃ x, q * y2 = x := ⟨_, rfl⟩
      have hw3 := mulN p y1 u hu (by omega)
      have hw4 := mulN q y2 v hv (by omega)
      rw [hu] at hu3 hcar
      rw [hv] at hv3 hcar
      obtain ⟨d, hd⟩ : ∃ d, (u : Int) - (v : Int) = d := ⟨_, rfl⟩
      have hw5 : IntKind.i64.wrap ((u : Int) - (v : Int)) = d := by rw [hd]; exact wrap_in _ (by omega)
      rw [hd] at hcar
      rw [hcar] at HDD
      have HSZ := Lib.hid HB.out.size
      obtain ⟨y1', z1'⟩ : ¬ (b : Int) = 0 ∧ ((b : Int) == 0) = false := ⟨by omega, by rw [beq_eq_false_iff_ne]; omega⟩
      obtain ⟨y2', z2'⟩ : ¬ (qb : Int) = 0 ∧ ((qb : Int) == 0) = false := ⟨by omega, by rw [beq_eq_false_iff_ne]; omega⟩
      clear hja hjap hcar hx1 hx2 hu hv hu3 hv3 hd d1 d2 hjj
      go_wp2_with fail
      have e1 : ¬ b = 0 := by omega
      have e2 : ¬ qb = 0 := by omega
      go_region_held3 (fun w' => wr.heap.size ≤ w'.heap.size)
        (first | go_keep | (simp; done) | (have := hgrow3.size; simp at this; omega))
        (first | (refine step_push (by rfl) _ _ (by rfl) w.heap.size _ k _ (by rfl) (HO.out.alloc _).drew wr.heap.size d (by rfl) (heap_alloc_new wr _) (by unfold maxLen; omega) (by omega) (by have := HSZ.out; simp; omega) ?_; intro v3 w3 hown3 hgrow3 hat3))
      have O3 := Lib.hid (show w3.ownsRow w.heap.size 2 1 v3 (k + 1) (vis (carL p q a b z (k + 1))) by rw [HDD.out, vis_snoc]; exact hown3)
      have B3 := Lib.hid (((HB.out.alloc HB.out.size _).drew).grown hgrow3 (by have := HSZ.out; simp; omega) (fun j hj => (HO.out.lt j hj).1))
      clear hown3 hgrow3 hat3 HO HB e1 e2 hw1 hw2 hw3 hw4 hw5 g1 g1' g2 g2' y1' z1' y2' z2'
      go_wp2_with fail
      go_roundw
      case rel => exact ⟨k + 1, j + 1, Lib.hid (by have := HJ.out; omega), by omega, by go_num, O3.out, B3.out⟩
      case measure => simp [intOf]; omega
    · obtain rfl : k = n1 := by omega
      have hje : ¬ (j : Int) < (en : Int) := by have := HJ.out; have := HEN.out; omega
      obtain ⟨A2, cap2, rfl, hcap, htw⟩ := own_iwr HO.out (carL_len _ _ _ _ _ _)
      have HT := Lib.hid htw
      clear htw HO
      go_wp2_with fail
      go_ret
      first | exact ⟨A2, cap2, rfl, HB.out, HT.out⟩ | exact ⟨A2, ⟨cap2, rfl⟩, HB.out, HT.out⟩

def carOk (p q a b pl n : Int) : Bool := digOk a b pl n && facB p q
def carV (p q a b pl n : Int) : List Int := carL p.toNat q.toNat a.toNat b.toNat (pl.toNat - 1) (n.toNat + 1)
set_option maxRecDepth 100000 in
set_option maxHeartbeats 1000000 in
theorem implCarries_0 (p q a b pl n : Int) (w : World) (h : carOk p q a b pl n = true) :
    Calls Tryd.prog 12 #[.int .i64 p, .int .i64 q, .int .i64 a, .int .i64 b, .int .i64 pl, .int .i64 n] w (LRes w (carV p q a b pl n) 0) := by
  simp only [carOk, Bool.and_eq_true] at h
  obtain ⟨h, hpq⟩ := h
  have hs := fun W => stretchOf_ok a b pl n W (by simp only [digOk, Bool.and_eq_true] at h; exact h.1) (by simp only [digOk, Bool.and_eq_true] at h; exact h.2)
  have hw2 := fun W => areWithin2 1 3 p q W
  rw [show decide (1 ≤ p ∧ p ≤ 3 ∧ 1 ≤ q ∧ q ≤ 3) = facB p q from rfl, hpq] at hw2
  simp only [facB, decide_eq_true_eq] at hpq
  obtain ⟨P, rfl⟩ : ∃ P : Nat, p = (P : Int) := ⟨p.toNat, by omega⟩
  obtain ⟨Q, rfl⟩ : ∃ Q : Nat, q = (Q : Int) := ⟨q.toNat, by omega⟩
  unfold carV LRes
  obtain ⟨x, y, z, m, rfl, rfl, rfl, rfl, hy, hy2, hx, hz, hm, hm1⟩ := digOk_nat h
  simp only [Int.toNat_natCast, Nat.add_sub_cancel]
  have HD := Lib.hid (fun W => carries_any P Q x y z (z + 1) m (m + 1) W (by omega) (by omega) hy hy2 hx rfl hz hm rfl)
  have HS := Lib.hid hs
  have HW := Lib.hid hw2
  rw [carL_len]
  obtain ⟨pl, hpl⟩ : ∃ pl, z + 1 = pl := ⟨_, rfl⟩
  obtain ⟨m1, hm1'⟩ : ∃ x, m + 1 = x := ⟨_, rfl⟩
  rw [hpl] at HD HS ⊢
  rw [hm1'] at HD ⊢
  clear hs h hpl hw2 hpq hm1'
  go_enter Tryd.func12, Tryd.ntmps12
  go_wp2_with fail
  refine (HS.out _).mono ?_
  rintro e w1 ⟨rfl, hb1⟩
  have hx := (Ext.refl w1).alloc (Obj.cells #[.int .i64 (x : Int), .int .i64 (y : Int), .int .i64 (pl : Int), .int .i64 (m : Int)] 42)
  have HB1 := Lib.hid (hb1.trans (hx.below hb1.size))
  have HS1 := Lib.hid (Blk.new w1 42 #[.int .i64 (x : Int), .int .i64 (y : Int), .int .i64 (pl : Int), .int .i64 (m : Int)])
  obtain ⟨W1, hW1⟩ : ∃ W1, w1.alloc (Obj.cells #[.int .i64 (x : Int), .int .i64 (y : Int), .int .i64 (pl : Int), .int .i64 (m : Int)] 42) = W1 := ⟨_, rfl⟩
  rw [hW1] at HB1 HS1
  have hsz : W1.heap.size = w1.heap.size + 1 := by rw [← hW1]; simp
  clear hb1 hx
  go_wp2_with fail
  have hw := HW.out W1
  rw [hsz] at hw
  refine hw.mono ?_
  rintro e w2 ⟨rfl, rfl⟩
  have HB2 := Lib.hid (HB1.out.alloc HB1.out.size (Obj.cells #[.int .i64 (P : Int), .int .i64 (Q : Int)] 2))
  have hS := HS1.out.ext ((Ext.refl W1).alloc (Obj.cells #[.int .i64 (P : Int), .int .i64 (Q : Int)] 2))
  clear hw hW1 hsz
  generalize W1.alloc (Obj.cells #[.int .i64 (P : Int), .int .i64 (Q : Int)] 2) = W2 at *
  have s0 := hS.rd 0 rfl
  have s1 := hS.rd 1 rfl
  have s2 := hS.rd 2 rfl
  have s3 := hS.rd 3 rfl
  clear hS HS1
  go_wp2_with fail
  refine (HD.out _).mono ?_
  rintro e w3 ⟨A, cap, rfl, hb3, hw3⟩
  have HB3 := Lib.hid (HB2.out.trans (hb3.mono HB2.out.size))
  have HW3 := Lib.hid (hw3.low HB2.out.size)
  clear hb3 hw3 s0 s1 s2 s3
  go_wp2_with fail
  go_ret2
  first | exact ⟨A, cap, rfl, HB3.out, HW3.out⟩ | exact ⟨A, ⟨cap, rfl⟩, HB3.out, HW3.out⟩
set_option maxRecDepth 100000 in
set_option maxHeartbeats 1000000 in
theorem implCarries_2 (p q a b pl n : Int) (pf pp : Addr) (w : World) (h : carOk p q a b pl n = false) (hgf : w.cell? ⟨1, 0, none⟩ = some (errV pf)) (hgp : w.cell? ⟨0, 0, none⟩ = some (errV pp)) :
    Calls Tryd.prog 12 #[.int .i64 p, .int .i64 q, .int .i64 a, .int .i64 b, .int .i64 pl, .int .i64 n] w (LRes w [] 2) := by
  unfold LRes
  cases hd : digOk a b pl n with
  | false =>
    have HS := Lib.hid (stretchOf_no a b pl n pf pp w hd hgf hgp)
    clear h hgf hgp hd
    go_enter Tryd.func12, Tryd.ntmps12
    go_wp2_with fail
    refine HS.out.mono ?_
    rintro e w1 ⟨rfl, hb1⟩
    have HB1 := Lib.hid hb1
    clear hb1
    go_wp2_with fail
    go_ret2
    first | exact ⟨none, 0, rfl, HB1.out.alloc HB1.out.size _, fun h => absurd h (Nat.lt_irrefl _)⟩ | exact ⟨none, ⟨0, rfl⟩, HB1.out.alloc HB1.out.size _, fun h => absurd h (Nat.lt_irrefl _)⟩
  | true =>
    have hpq : facB p q = false := by simpa [carOk, hd] using h
    have hs := fun W => stretchOf_ok a b pl n W (by simp only [digOk, Bool.and_eq_true] at hd; exact hd.1) (by simp only [digOk, Bool.and_eq_true] at hd; exact hd.2)
    have hw2 := fun W => areWithin2 1 3 p q W
    rw [show decide (1 ≤ p ∧ p ≤ 3 ∧ 1 ≤ q ∧ q ≤ 3) = facB p q from rfl, hpq] at hw2
    have HS := Lib.hid hs
    have HW := Lib.hid hw2
    clear h hgf hgp hd hs hw2 hpq
    go_enter Tryd.func12, Tryd.ntmps12
    go_wp2_with fail
    refine (HS.out _).mono ?_
    rintro e w1 ⟨rfl, hb1⟩
    have HB1 := Lib.hid (hb1.alloc hb1.size (Obj.cells #[.int .i64 a, .int .i64 b, .int .i64 pl, .int .i64 n] 42))
    obtain ⟨W1, hW1⟩ : ∃ W1, w1.alloc (Obj.cells #[.int .i64 a, .int .i64 b, .int .i64 pl, .int .i64 n] 42) = W1 := ⟨_, rfl⟩
    rw [hW1] at HB1
    have hsz : W1.heap.size = w1.heap.size + 1 := by rw [← hW1]; simp
    clear hb1
    go_wp2_with fail
    have hw := HW.out W1
    rw [hsz] at hw
    refine hw.mono ?_
    rintro e w2 ⟨rfl, rfl⟩
    have HB2 := Lib.hid (HB1.out.alloc HB1.out.size (Obj.cells #[.int .i64 p, .int .i64 q] 2))
    clear hw hW1
    go_wp2_with fail
    go_ret2
    first | exact ⟨none, 0, rfl, HB2.out, fun h => absurd h (Nat.lt_irrefl _)⟩ | exact ⟨none, ⟨0, rfl⟩, HB2.out, fun h => absurd h (Nat.lt_irrefl _)⟩
set_option maxRecDepth 100000 in
set_option maxHeartbeats 1000000 in
theorem specCarries_any (p q a b pl n : Int) (w : World) :
    Calls Tryd.prog 11 #[.int .i64 p, .int .i64 q, .int .i64 a, .int .i64 b, .int .i64 pl, .int .i64 n] w (fun e w' => (carOk p q a b pl n = true → LRes w (carV p q a b pl n) 0 e w') ∧ (carOk p q a b pl n = false → LRes w [] 2 e w')) := by
  have H0 := Lib.hid (fun W => l08Factor_any p q W)
  have H1 := Lib.hid (fun W => l08Fraction_any a b W)
  have H2 := Lib.hid (fun W => l08Places_any pl n W)
  cases hk : carOk p q a b pl n with
  | false =>
    simp only [Bool.false_eq_true, false_implies, true_and, forall_const]
    unfold LRes
    unfold carOk digOk at hk
    generalize facB p q = o0 at *
    generalize fracB a b = o1 at *
    generalize placeB pl n = o2 at *
    go_enter Tryd.func11, Tryd.ntmps11
    go_wp2_with fail
    refine (H0.out _).mono ?_
    rintro e w' ⟨rfl, rfl⟩
    cases o0 with
    | false =>
      go_wp2_with fail
      go_ret2
      first | exact ⟨none, 0, rfl, Below.refl _ _, fun h => absurd h (Nat.lt_irrefl _)⟩ | exact ⟨none, ⟨0, rfl⟩, Below.refl _ _, fun h => absurd h (Nat.lt_irrefl _)⟩
    | true =>
      go_wp2_with fail
      refine (H1.out _).mono ?_
      rintro e w' ⟨rfl, rfl⟩
      cases o1 with
      | false =>
        go_wp2_with fail
        go_ret2
        first | exact ⟨none, 0, rfl, Below.refl _ _, fun h => absurd h (Nat.lt_irrefl _)⟩ | exact ⟨none, ⟨0, rfl⟩, Below.refl _ _, fun h => absurd h (Nat.lt_irrefl _)⟩
      | true =>
        obtain rfl : o2 = false := by simpa using hk
        clear hk
        go_wp2_with fail
        refine (H2.out _).mono ?_
        rintro e w' ⟨rfl, rfl⟩
        go_wp2_with fail
        go_ret2
        first | exact ⟨none, 0, rfl, Below.refl _ _, fun h => absurd h (Nat.lt_irrefl _)⟩ | exact ⟨none, ⟨0, rfl⟩, Below.refl _ _, fun h => absurd h (Nat.lt_irrefl _)⟩
  | true =>
    simp only [reduceCtorEq, false_implies, and_true, forall_const, Bool.true_eq_false]
    unfold LRes carV
    simp only [carOk, Bool.and_eq_true] at hk
    obtain ⟨h, hpq⟩ := hk
    have hh := h
    simp only [digOk, Bool.and_eq_true] at hh
    rw [hpq] at H0
    rw [hh.1] at H1
    rw [hh.2] at H2
    simp only [facB, decide_eq_true_eq] at hpq
    obtain ⟨P, rfl⟩ : ∃ P : Nat, p = (P : Int) := ⟨p.toNat, by omega⟩
    obtain ⟨Q, rfl⟩ : ∃ Q : Nat, q = (Q : Int) := ⟨q.toNat, by omega⟩
    obtain ⟨x, y, z, m, rfl, rfl, rfl, rfl, hy, hy2, hx, hz, hm, hm1⟩ := digOk_nat h
    simp only [Int.toNat_natCast, Nat.add_sub_cancel]
    have HD := Lib.hid (fun W => l08Carries_any P Q x y z (z + 1) m (m + 1) W (by omega) (by omega) hy hy2 hx rfl hz hm rfl)
    rw [carL_len]
    obtain ⟨pl, hpl⟩ : ∃ pl, z + 1 = pl := ⟨_, rfl⟩
    obtain ⟨m1, hm1'⟩ : ∃ x, m + 1 = x := ⟨_, rfl⟩
    rw [hpl] at HD H2 ⊢
    rw [hm1'] at HD ⊢
    clear hh h hpl hpq hm1'
    go_enter Tryd.func11, Tryd.ntmps11
    go_wp2_with fail
    refine (H0.out _).mono ?_
    rintro e w' ⟨rfl, rfl⟩
    go_wp2_with fail
    refine (H1.out _).mono ?_
    rintro e w' ⟨rfl, rfl⟩
    go_wp2_with fail
    refine (H2.out _).mono ?_
    rintro e w' ⟨rfl, rfl⟩
    go_wp2_with fail
    refine (HD.out _).mono ?_
    rintro e w3 ⟨A, cap, rfl, hb3, hw3⟩
    have HB3 := Lib.hid hb3
    have HW3 := Lib.hid hw3
    clear hb3 hw3
    go_wp2_with fail
    go_ret2
    first | exact ⟨A, cap, rfl, HB3.out, HW3.out⟩ | exact ⟨A, ⟨cap, rfl⟩, HB3.out, HW3.out⟩
end
end Go.Proofs.YtnagpndclagfaaaDoor
