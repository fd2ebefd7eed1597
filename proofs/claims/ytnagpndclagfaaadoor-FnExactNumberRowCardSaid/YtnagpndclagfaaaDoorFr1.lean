/- Fractions at places in a row: the program's functions. -/
import Derived.Test.YtnagpndclagfaaaDoorBa1
import Derived.Test.YtnagpndclagfaaaDoorAppI
import Derived.Defers
import Derived.Recover
import Derived.Stop.Asserts
namespace Go.Proofs.YtnagpndclagfaaaDoor
set_option linter.unusedVariables false
set_option linter.unusedSimpArgs false
open Go.RowKit Go.Sort

theorem tdivN2 (k m : Nat) (hk : k ≤ 1000000) : Int.tdiv (k : Int) (m : Int) = ((k / m : Nat) : Int) ∧ IntKind.i64.wrap ((k / m : Nat) : Int) = ((k / m : Nat) : Int) := by
  have h := Nat.div_le_self k m
  refine ⟨by rw [Int.tdiv_eq_ediv_of_nonneg (by omega)]; push_cast; rfl, ?_⟩
  generalize k / m = q at h ⊢
  exact IntWalk.i64_in _ (by omega)
set_option maxHeartbeats 1000000 in
theorem whole_any (a b i : Nat) (w : World) (hb : 0 < b) (hk : i * a ≤ 1000000) :
    Calls Tryd.prog 50 #[.agg #[.int .i64 (a : Int), .int .i64 (b : Int)], .int .i64 (i : Int)] w fun e w' => e = .returned (.int .i64 ((i * a / b : Nat) : Int)) ∧ Ext w w' := by
  obtain ⟨k, hkk⟩ : ∃ k, i * a = k := ⟨_, rfl⟩
  have hm : IntKind.i64.wrap ((i : Int) * (a : Int)) = (k : Int) := by
    have e : ((i : Int) * (a : Int)) = (k : Int) := by rw [← hkk]; push_cast; rfl
    rw [e]; exact IntWalk.i64_in _ (by omega)
  rw [hkk] at hk ⊢
  obtain ⟨g1, g1'⟩ := tdivN2 k b hk
  obtain ⟨z1, z1'⟩ : ¬ (b : Int) = 0 ∧ ((b : Int) == 0) = false := ⟨by omega, by rw [beq_eq_false_iff_ne]; omega⟩
  generalize k / b = r at *
  clear hkk
  go_enter Tryd.func50, Tryd.ntmps50
  go_wp2_with fail
  go_ret
  exact ⟨by first | rfl | simp [g1, g1'], (Ext.refl w).alloc _⟩
/-- The digit at the place j, i the place before. -/
def digN (a b i : Nat) : Int := (((i + 1) * a / b : Nat) : Int) - ((i * a / b : Nat) : Int)
set_option maxRecDepth 100000 in
set_option maxHeartbeats 1000000 in
theorem digit_any (a b i j : Nat) (w : World) (hb : 0 < b) (hj : j = i + 1) (hk : j * a ≤ 1000000) (hj2 : j ≤ 100000) :
    Calls Tryd.prog 41 #[.agg #[.int .i64 (a : Int), .int .i64 (b : Int)], .int .i64 (j : Int)] w fun e w' => e = .returned (.int .i64 (digN a b i)) ∧ Ext w w' := by
  have hk2 : i * a ≤ 1000000 := Nat.le_trans (Nat.mul_le_mul_right a (by omega)) hk
  have h1 := fun W => whole_any a b j W hb hk
  have h2 := fun W => whole_any a b i W hb hk2
  have hd1 := Nat.div_le_self (j * a) b
  have hd2 := Nat.div_le_self (i * a) b
  unfold digN
  rw [← hj]
  generalize j * a / b = x at *
  generalize i * a / b = y at *
  obtain ⟨d, hd⟩ : ∃ d, (x : Int) - (y : Int) = d := ⟨_, rfl⟩
  have hw : IntKind.i64.wrap ((x : Int) - (y : Int)) = d := by rw [hd]; exact wrap_in _ (by omega)
  rw [hd]
  have hwi : IntKind.i64.wrap ((j : Int) - 1) = (i : Int) := by rw [show (j : Int) - 1 = (i : Int) by omega]; exact IntWalk.i64_in _ (by omega)
  unfold Ext at h1 h2
  have H1 := Lib.hid h1
  have H2 := Lib.hid h2
  have q0 := fun n os => (Blk.new w 40 #[.int .i64 (a : Int), .int .i64 (b : Int)]).grown n os 0 (v := .int .i64 (a : Int)) rfl
  have q1 := fun n os => (Blk.new w 40 #[.int .i64 (a : Int), .int .i64 (b : Int)]).grown n os 1 (v := .int .i64 (b : Int)) rfl
  have HX := Lib.hid (fun n os => ((Ext.refl w).alloc (Obj.cells #[.int .i64 (a : Int), .int .i64 (b : Int)] 40)).trans ⟨n, os, rfl⟩)
  clear h1 h2 hk hk2 hd1 hd2 hd hj
  go_enter Tryd.func41, Tryd.ntmps41
  go_wp2_with fail
  refine wp_region_quiet_grown mixed (by kernel_rfl) ?_
  repeat (go_big_quiet_step (((first | (go_at_call 50; with_reducible refine Calls.grown_of (H1.out _)) | (go_at_call 50; with_reducible refine Calls.grown_of (H2.out _))))))
  refine wpQuiet_nil ?_
  intro _ hw'
  obtain ⟨⟨nq, osq⟩, hw''⟩ := hw'
  subst hw''
  clear q0 q1 hw hwi
  go_wp2_with fail
  go_ret
  exact ⟨rfl, HX.out _ _⟩

def digsL (a b p : Nat) : Nat → List Int
  | 0 => []
  | k + 1 => digsL a b p k ++ [digN a b (p + k)]
theorem digsL_len (a b p : Nat) : ∀ k, (digsL a b p k).length = k
  | 0 => rfl
  | k + 1 => by simp [digsL, digsL_len a b p k]
set_option maxRecDepth 100000 in
set_option maxHeartbeats 2000000 in
theorem digits_any (a b p pl n : Nat) (w : World) (hb : 0 < b) (hpl : pl = p + 1) (hp : p ≤ 1000) (hn : n ≤ 20) (ha : a ≤ 300) :
    Calls Tryd.prog 22 #[.agg #[.int .i64 (a : Int), .int .i64 (b : Int), .int .i64 (pl : Int), .int .i64 (n : Int)]] w fun e w' => ∃ A cap, e = .returned (.slice A n cap) ∧ Below w.heap.size w w' ∧ IWr w' w.heap.size w'.heap.size A (digsL a b p n) := by
  have HDG := Lib.hid (fun k j W (hk : k < n) (hj : j = p + k + 1) => digit_any a b (p + k) j W hb hj (Nat.le_trans (Nat.mul_le_mul (show j ≤ 2000 by omega) ha) (by omega)) (by omega))
  have HPL := Lib.hid hpl
  clear hpl
  go_enter Tryd.func22, Tryd.ntmps22
  go_wp2_with fail
  obtain ⟨W0, hW0⟩ : ∃ W0, w.alloc (Obj.cells #[.int .i64 (a : Int), .int .i64 (b : Int), .int .i64 (pl : Int), .int .i64 (n : Int)] 42) = W0 := ⟨_, rfl⟩
  have hE : Below w.heap.size w W0 := by rw [← hW0]; exact ((Ext.refl w).alloc _).below (Nat.le_refl _)
  have hP0 : Blk W0 w.heap.size 42 #[.int .i64 (a : Int), .int .i64 (b : Int), .int .i64 (pl : Int), .int .i64 (n : Int)] := by rw [← hW0]; exact Blk.new w _ _
  rw [hW0]
  clear hW0
  have HE := Lib.hid hE
  have HP := Lib.hid hP0
  clear hE hP0
  go_loopw [3, 7] (fun v i wr => ∃ k : Nat, k ≤ n ∧ i = .int .i64 k ∧ wr.ownsRow W0.heap.size 2 1 v k (vis (digsL a b p k)) ∧ Below W0.heap.size W0 wr) (fun _ i _ => n - (intOf i).toNat)
  case atStart => exact ⟨0, Nat.zero_le _, rfl, World.ownsRow_nil _ _ _ _, Below.refl _ _⟩
  case round =>
    obtain ⟨k, hk, rfl, hown, hb2⟩ := hrel
    have HO := Lib.hid hown
    have HB := Lib.hid hb2
    have hP := HP.out.below hb2 HP.out.lt
    have p0 := hP.rd 0 rfl
    have p1 := hP.rd 1 rfl
    have p2 := hP.rd 2 rfl
    have p3 := hP.rd 3 rfl
    clear hown hb2 hP
    by_cases hlt : k < n
    · obtain ⟨j, hj⟩ : ∃ j, p + k + 1 = j := ⟨_, rfl⟩
      have hw : IntKind.i64.wrap ((pl : Int) + (k : Int)) = (j : Int) := by
        rw [show (pl : Int) + (k : Int) = (j : Int) by have := HPL.out; omega]
        exact IntWalk.i64_in _ (by omega)
      have HD := Lib.hid (fun W => HDG.out k j W hlt hj.symm)
      generalize hd : digN a b (p + k) = d at HD
      have HDD := Lib.hid (show digsL a b p (k + 1) = digsL a b p k ++ [d] by rw [← hd]; rfl)
      clear hj hd
      go_wp2_with fail
      refine (HD.out _).mono ?_
      rintro e w2 ⟨rfl, hx⟩
      have HB2 := Lib.hid (HB.out.trans (hx.below HB.out.size))
      have HO2 := Lib.hid (iown_ext HO.out hx)
      clear hx p0 p1 p2 p3 hw HO HB
      go_wp2_with (at_builtin; refine wpList_push rfl _ _ rfl W0.heap.size _ k _ rfl (HO2.out.alloc _) w2.heap.size d rfl (heap_alloc_new w2 _) ?c1 ?c2 ?c3 ?_)
      case c1 => unfold maxLen; omega
      case c2 => omega
      case c3 => have := HB2.out.size; simp; omega
      intro v' w3 hown' hgrow _
      have O3 := Lib.hid (show w3.ownsRow W0.heap.size 2 1 v' (k + 1) (vis (digsL a b p (k + 1))) by rw [HDD.out, vis_snoc]; exact hown')
      have B3 := Lib.hid ((HB2.out.alloc HB2.out.size _).grown hgrow (by have := HB2.out.size; simp; omega) (fun j hj => (HO2.out.lt j hj).1))
      clear hown' hgrow HO2 HB2
      go_wp2_with fail
      go_roundw
      case rel => exact ⟨k + 1, by omega, by go_num, O3.out, B3.out⟩
      case measure => simp [intOf]; omega
    · obtain rfl : k = n := by omega
      obtain ⟨A2, cap2, rfl, hcap, htw⟩ := own_iwr HO.out (digsL_len _ _ _ _)
      have HT := Lib.hid htw
      clear htw HO
      go_wp2_with fail
      go_ret
      exact ⟨A2, cap2, rfl, HE.out.trans (HB.out.mono HE.out.size), HT.out.low HE.out.size⟩
end Go.Proofs.YtnagpndclagfaaaDoor
