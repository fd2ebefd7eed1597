/- DigitsOf: the model's side, and both doors. -/
import Derived.Test.YtnagpndclagfaaaDoorFr3
import Derived.Deep.RegionHeld3
namespace Go.Proofs.YtnagpndclagfaaaDoor
set_option linter.unusedVariables false
set_option linter.unusedSimpArgs false
open Go.RowKit Go.Sort

set_option maxHeartbeats 1000000 in
theorem l08Fraction_any (a b : Int) (w : World) : Calls Tryd.prog 18 #[.int .i64 a, .int .i64 b] w fun e w' => e = .returned (.bool (fracB a b)) ∧ w' = w := by
  have H1 := Lib.hid (fun W => l01In_any b 1 20 W)
  have H2 := Lib.hid (fun W => l01In_any a 0 (5 * b) W)
  unfold fracB
  by_cases hb : 1 ≤ b ∧ b ≤ 20
  · rw [decide_eq_true hb] at H1 ⊢
    obtain ⟨m, hm⟩ : ∃ m, 5 * b = m := ⟨_, rfl⟩
    have hw : IntKind.i64.wrap (5 * b) = m := by rw [hm]; exact wrap_in _ (by omega)
    rw [hm] at H2 ⊢
    generalize decide (0 ≤ a ∧ a ≤ m) = o at *
    clear hm
    go_enter Tryd.func18, Tryd.ntmps18
    go_wp2_with fail
    refine (H1.out _).mono ?_
    rintro e w' ⟨rfl, rfl⟩
    go_wp2_with fail
    refine (H2.out _).mono ?_
    rintro e w' ⟨rfl, rfl⟩
    go_wp2_with fail
    go_ret
    exact ⟨by simp, rfl⟩
  · rw [decide_eq_false hb] at H1 ⊢
    clear H2
    go_enter Tryd.func18, Tryd.ntmps18
    go_wp2_with fail
    refine (H1.out _).mono ?_
    rintro e w' ⟨rfl, rfl⟩
    go_wp2_with fail
    go_ret
    exact ⟨by simp, rfl⟩
set_option maxHeartbeats 1000000 in
theorem l08Places_any (a b : Int) (w : World) : Calls Tryd.prog 19 #[.int .i64 a, .int .i64 b] w fun e w' => e = .returned (.bool (placeB a b)) ∧ w' = w := by
  have H1 := Lib.hid (fun W => l01In_any a 1 1000 W)
  have H2 := Lib.hid (fun W => l01In_any b 1 20 W)
  unfold placeB
  generalize decide (1 ≤ a ∧ a ≤ 1000) = o1 at *
  generalize decide (1 ≤ b ∧ b ≤ 20) = o2 at *
  cases o1 with
  | true =>
    go_enter Tryd.func19, Tryd.ntmps19
    go_wp2_with fail
    refine (H1.out _).mono ?_
    rintro e w' ⟨rfl, rfl⟩
    go_wp2_with fail
    refine (H2.out _).mono ?_
    rintro e w' ⟨rfl, rfl⟩
    go_wp2_with fail
    go_ret
    exact ⟨by simp, rfl⟩
  | false =>
    clear H2
    go_enter Tryd.func19, Tryd.ntmps19
    go_wp2_with fail
    refine (H1.out _).mono ?_
    rintro e w' ⟨rfl, rfl⟩
    go_wp2_with fail
    go_ret
    exact ⟨by simp, rfl⟩
set_option maxRecDepth 100000 in
set_option maxHeartbeats 2000000 in
theorem l08Digits_any (a b p pl n : Nat) (w : World) (hb : 0 < b) (hb2 : b ≤ 1000) (hpl : pl = p + 1) (hp : p ≤ 1000) (hn : n ≤ 20) (ha : a ≤ 300) :
    Calls Tryd.prog 20 #[.int .i64 (a : Int), .int .i64 (b : Int), .int .i64 (pl : Int), .int .i64 (n : Int)] w fun e w' => ∃ A cap, e = .returned (.slice A n cap) ∧ Below w.heap.size w w' ∧ IWr w' w.heap.size w'.heap.size A (digsL a b p n) := by
  have HPL := Lib.hid hpl
  obtain ⟨en, hen⟩ : ∃ en, pl + n = en := ⟨_, rfl⟩
  have hwe : IntKind.i64.wrap ((pl : Int) + (n : Int)) = (en : Int) := by
    rw [show (pl : Int) + (n : Int) = (en : Int) by omega]; exact IntWalk.i64_in _ (by omega)
  have HEN := Lib.hid hen
  obtain ⟨z1, z1'⟩ : ¬ (b : Int) = 0 ∧ ((b : Int) == 0) = false := ⟨by omega, by rw [beq_eq_false_iff_ne]; omega⟩
  clear hpl hen
  go_enter Tryd.func20, Tryd.ntmps20
  go_wp2_with fail
  go_loopw [9, 10] (fun v i wr => ∃ k j : Nat, Hid (j = p + k + 1) ∧ k ≤ n ∧ i = .int .i64 (j : Int) ∧ wr.ownsRow w.heap.size 2 1 v k (vis (digsL a b p k)) ∧ Below w.heap.size w wr) (fun _ i _ => en - (intOf i).toNat)
  case atStart => exact ⟨0, pl, HPL, Nat.zero_le _, rfl, World.ownsRow_made (base := w.heap.size) (e := 2) (size := 1) w #[] 0 (Nat.le_refl _) (by unfold maxLen; omega) rfl, (Below.refl _ _).alloc (Nat.le_refl _) _⟩
  case round =>
    obtain ⟨k, j, HJ, hk, rfl, hown, hbb⟩ := hrel
    have HO := Lib.hid hown
    have HB := Lib.hid hbb
    clear hown hbb
    by_cases hlt : k < n
    · have hje : (j : Int) < (en : Int) := by have := HJ.out; have := HEN.out; have := HPL.out; omega
      have hjj := HJ.out
      have hjb : j ≤ 2000 := by omega
      have hja : j * a ≤ 1000000 := Nat.le_trans (Nat.mul_le_mul (show j ≤ 2000 by omega) ha) (by omega)
      have hia : (p + k) * a ≤ 1000000 := Nat.le_trans (Nat.mul_le_mul (show p + k ≤ 2000 by omega) ha) (by omega)
      have hm1 : (j : Int) * (a : Int) = ((j * a : Nat) : Int) := by push_cast; rfl
      have hm0 : ((p + k : Nat) : Int) * (a : Int) = (((p + k) * a : Nat) : Int) := by push_cast; rfl
      have hsub : (j : Int) - 1 = ((p + k : Nat) : Int) := by omega
      have hdig : digN a b (p + k) = ((j * a / b : Nat) : Int) - (((p + k) * a / b : Nat) : Int) := by rw [hjj]; rfl
      have HDD := Lib.hid (show digsL a b p (k + 1) = digsL a b p k ++ [digN a b (p + k)] from rfl)
      obtain ⟨i0, hi0⟩ : ∃ i0, p + k = i0 := ⟨_, rfl⟩
      rw [hi0] at hia hm0 hsub hdig HDD
      obtain ⟨x1, hx1⟩ : ∃ x, j * a = x := ⟨_, rfl⟩
      obtain ⟨x0, hx0⟩ : ∃ x, i0 * a = x := ⟨_, rfl⟩
      rw [hx1] at hja hm1 hdig
      rw [hx0] at hia hm0 hdig
      obtain ⟨g1, g1'⟩ := tdivN2 x1 b hja
      obtain ⟨g0, g0'⟩ := tdivN2 x0 b hia
      have d1 := Nat.div_le_self x1 b
      have d0 := Nat.div_le_self x0 b
      generalize x1 / b = q1 at *
      generalize x0 / b = q0 at *
      have hw1 : IntKind.i64.wrap ((j : Int) * (a : Int)) = (x1 : Int) := by rw [hm1]; exact IntWalk.i64_in _ (by omega)
      have hw2 : IntKind.i64.wrap ((j : Int) - 1) = (i0 : Int) := by rw [hsub]; exact IntWalk.i64_in _ (by omega)
      have hw3 : IntKind.i64.wrap ((i0 : Int) * (a : Int)) = (x0 : Int) := by rw [hm0]; exact IntWalk.i64_in _ (by omega)
      obtain ⟨d, hd⟩ : ∃ d, (q1 : Int) - (q0 : Int) = d := ⟨_, rfl⟩
      have hw4 : IntKind.i64.wrap ((q1 : Int) - (q0 : Int)) = d := by rw [hd]; exact wrap_in _ (by omega)
      rw [hd] at hdig
      rw [hdig] at HDD
      have HSZ := Lib.hid HB.out.size
      obtain ⟨y1, y1'⟩ : ¬ (b : Int) = 0 ∧ ((b : Int) == 0) = false := ⟨by omega, by rw [beq_eq_false_iff_ne]; omega⟩
      clear hja hia hm1 hm0 hsub hdig hi0 hx1 hx0 hd d1 d0 hjj
      go_wp2_with fail
      have n1 : ¬ b = 0 := by omega
      go_region_held3 (fun w' => wr.heap.size ≤ w'.heap.size)
        (first | go_keep | (simp; done) | (have := hgrow3.size; simp at this; omega))
        (first | (refine step_push (by rfl) _ _ (by rfl) w.heap.size _ k _ (by rfl) (HO.out.alloc _).drew wr.heap.size d (by rfl) (heap_alloc_new wr _) (by unfold maxLen; omega) (by omega) (by have := HSZ.out; simp; omega) ?_; intro v3 w3 hown3 hgrow3 hat3))
      have HO0 := HO.out
      have O3 := Lib.hid (show w3.ownsRow w.heap.size 2 1 v3 (k + 1) (vis (digsL a b p (k + 1))) by rw [HDD.out, vis_snoc]; exact hown3)
      have B3 := Lib.hid (((HB.out.alloc HB.out.size _).drew).grown hgrow3 (by have := HSZ.out; simp; omega) (fun j hj => (HO.out.lt j hj).1))
      clear hown3 hgrow3 hat3 HO HB HO0 n1 hw1 hw2 hw3 hw4 g1 g1' g0 g0' y1 y1'
      go_wp2_with fail
      go_roundw
      case rel => exact ⟨k + 1, j + 1, Lib.hid (by have := HJ.out; omega), by omega, by go_num, O3.out, B3.out⟩
      case measure => simp [intOf]; omega
    · obtain rfl : k = n := by omega
      have hje : ¬ (j : Int) < (en : Int) := by have := HJ.out; have := HEN.out; have := HPL.out; omega
      obtain ⟨A2, cap2, rfl, hcap, htw⟩ := own_iwr HO.out (digsL_len _ _ _ _)
      have HT := Lib.hid htw
      clear htw HO
      go_wp2_with fail
      go_ret
      first | exact ⟨A2, cap2, rfl, HB.out, HT.out⟩ | exact ⟨A2, ⟨cap2, rfl⟩, HB.out, HT.out⟩

/-- A list of numbers and a code. -/
def LRes (w : World) (ys : List Int) (code : Int) (e : Ending) (w' : World) : Prop := ∃ R p, e = .returned (.tuple #[.slice R ys.length p, .int .i64 code]) ∧ Below w.heap.size w w' ∧ IWr w' w.heap.size w'.heap.size R ys
def digOk (a b pl n : Int) : Bool := fracB a b && placeB pl n
def digV (a b pl n : Int) : List Int := digsL a.toNat b.toNat (pl.toNat - 1) n.toNat
theorem digOk_nat {a b pl n : Int} (h : digOk a b pl n = true) : ∃ x y z m : Nat, a = (x : Int) ∧ b = (y : Int) ∧ pl = ((z + 1 : Nat) : Int) ∧ n = (m : Int) ∧ 0 < y ∧ y ≤ 20 ∧ x ≤ 100 ∧ z ≤ 1000 ∧ m ≤ 20 ∧ 1 ≤ m := by
  simp only [digOk, fracB, placeB, Bool.and_eq_true, decide_eq_true_eq] at h
  exact ⟨a.toNat, b.toNat, pl.toNat - 1, n.toNat, by omega, by omega, by omega, by omega, by omega, by omega, by omega, by omega, by omega, by omega⟩
set_option maxRecDepth 100000 in
set_option maxHeartbeats 1000000 in
theorem implDigits_0 (a b pl n : Int) (w : World) (h : digOk a b pl n = true) :
    Calls Tryd.prog 7 #[.int .i64 a, .int .i64 b, .int .i64 pl, .int .i64 n] w (LRes w (digV a b pl n) 0) := by
  have hs := fun W => stretchOf_ok a b pl n W (by simp only [digOk, Bool.and_eq_true] at h; exact h.1) (by simp only [digOk, Bool.and_eq_true] at h; exact h.2)
  unfold digV LRes
  obtain ⟨x, y, z, m, rfl, rfl, rfl, rfl, hy, hy2, hx, hz, hm, hm1⟩ := digOk_nat h
  simp only [Int.toNat_natCast, Nat.add_sub_cancel]
  have HD := Lib.hid (fun W => digits_any x y z (z + 1) m W hy rfl hz hm (by omega))
  have HS := Lib.hid hs
  have HL := Lib.hid (digsL_len x y z m)
  rw [digsL_len]
  obtain ⟨pl, hpl⟩ : ∃ pl, z + 1 = pl := ⟨_, rfl⟩
  rw [hpl] at HD HS ⊢
  clear hs h hpl
  go_enter Tryd.func7, Tryd.ntmps7
  go_wp2_with fail
  refine (HS.out _).mono ?_
  rintro e w1 ⟨rfl, hb1⟩
  have HB1 := Lib.hid hb1
  clear hb1
  go_wp2_with fail
  refine (HD.out _).mono ?_
  rintro e w2 ⟨A, cap, rfl, hb2, hw2⟩
  have HB2 := Lib.hid ((HB1.out.alloc HB1.out.size _).trans (hb2.mono (by have := HB1.out.size; simp; omega)))
  have HW2 := Lib.hid (hw2.low (show w.heap.size ≤ _ by have := HB1.out.size; simp; omega))
  clear hb2 hw2
  go_wp2_with fail
  go_ret2
  first | exact ⟨A, cap, rfl, HB2.out, HW2.out⟩ | exact ⟨A, ⟨cap, rfl⟩, HB2.out, HW2.out⟩
set_option maxRecDepth 100000 in
set_option maxHeartbeats 1000000 in
theorem implDigits_2 (a b pl n : Int) (pf pp : Addr) (w : World) (h : digOk a b pl n = false) (hgf : w.cell? ⟨1, 0, none⟩ = some (errV pf)) (hgp : w.cell? ⟨0, 0, none⟩ = some (errV pp)) :
    Calls Tryd.prog 7 #[.int .i64 a, .int .i64 b, .int .i64 pl, .int .i64 n] w (LRes w [] 2) := by
  have HS := Lib.hid (stretchOf_no a b pl n pf pp w h hgf hgp)
  unfold LRes
  clear h hgf hgp
  go_enter Tryd.func7, Tryd.ntmps7
  go_wp2_with fail
  refine HS.out.mono ?_
  rintro e w1 ⟨rfl, hb1⟩
  have HB1 := Lib.hid hb1
  clear hb1
  go_wp2_with fail
  go_ret2
  first | exact ⟨none, 0, rfl, HB1.out.alloc HB1.out.size _, fun h => absurd h (Nat.lt_irrefl _)⟩ | exact ⟨none, ⟨0, rfl⟩, HB1.out.alloc HB1.out.size _, fun h => absurd h (Nat.lt_irrefl _)⟩
set_option maxRecDepth 100000 in
set_option maxHeartbeats 1000000 in
theorem specDigits_0 (a b pl n : Int) (w : World) (h : digOk a b pl n = true) :
    Calls Tryd.prog 6 #[.int .i64 a, .int .i64 b, .int .i64 pl, .int .i64 n] w (LRes w (digV a b pl n) 0) := by
  have h1 := fun W => l08Fraction_any a b W
  have h2 := fun W => l08Places_any pl n W
  have hh := h
  simp only [digOk, Bool.and_eq_true] at hh
  rw [hh.1] at h1
  rw [hh.2] at h2
  have H1 := Lib.hid h1
  have H2 := Lib.hid h2
  unfold digV LRes
  obtain ⟨x, y, z, m, rfl, rfl, rfl, rfl, hy, hy2, hx, hz, hm, hm1⟩ := digOk_nat h
  simp only [Int.toNat_natCast, Nat.add_sub_cancel]
  have HD := Lib.hid (fun W => l08Digits_any x y z (z + 1) m W hy (by omega) rfl hz hm (by omega))
  rw [digsL_len]
  obtain ⟨pl, hpl⟩ : ∃ pl, z + 1 = pl := ⟨_, rfl⟩
  rw [hpl] at HD H2 ⊢
  clear h1 h2 hh h hpl
  go_enter Tryd.func6, Tryd.ntmps6
  go_wp2_with fail
  refine (H1.out _).mono ?_
  rintro e w' ⟨rfl, rfl⟩
  go_wp2_with fail
  refine (H2.out _).mono ?_
  rintro e w' ⟨rfl, rfl⟩
  go_wp2_with fail
  refine (HD.out _).mono ?_
  rintro e w2 ⟨A, cap, rfl, hb2, hw2⟩
  have HB2 := Lib.hid hb2
  have HW2 := Lib.hid hw2
  clear hb2 hw2
  go_wp2_with fail
  go_ret2
  first | exact ⟨A, cap, rfl, HB2.out, HW2.out⟩ | exact ⟨A, ⟨cap, rfl⟩, HB2.out, HW2.out⟩
set_option maxRecDepth 100000 in
set_option maxHeartbeats 1000000 in
theorem specDigits_2 (a b pl n : Int) (w : World) (h : digOk a b pl n = false) :
    Calls Tryd.prog 6 #[.int .i64 a, .int .i64 b, .int .i64 pl, .int .i64 n] w (LRes w [] 2) := by
  have H1 := Lib.hid (fun W => l08Fraction_any a b W)
  have H2 := Lib.hid (fun W => l08Places_any pl n W)
  unfold digOk at h
  unfold LRes
  cases hf : fracB a b with
  | false =>
    rw [hf] at H1
    clear H2 h hf
    go_enter Tryd.func6, Tryd.ntmps6
    go_wp2_with fail
    refine (H1.out _).mono ?_
    rintro e w' ⟨rfl, rfl⟩
    go_wp2_with fail
    go_ret2
    first | exact ⟨none, 0, rfl, Below.refl _ _, fun h => absurd h (Nat.lt_irrefl _)⟩ | exact ⟨none, ⟨0, rfl⟩, Below.refl _ _, fun h => absurd h (Nat.lt_irrefl _)⟩
  | true =>
    have hp : placeB pl n = false := by rw [hf] at h; simpa using h
    rw [hf] at H1
    rw [hp] at H2
    clear h hf hp
    go_enter Tryd.func6, Tryd.ntmps6
    go_wp2_with fail
    refine (H1.out _).mono ?_
    rintro e w' ⟨rfl, rfl⟩
    go_wp2_with fail
    refine (H2.out _).mono ?_
    rintro e w' ⟨rfl, rfl⟩
    go_wp2_with fail
    go_ret2
    first | exact ⟨none, 0, rfl, Below.refl _ _, fun h => absurd h (Nat.lt_irrefl _)⟩ | exact ⟨none, ⟨0, rfl⟩, Below.refl _ _, fun h => absurd h (Nat.lt_irrefl _)⟩
end Go.Proofs.YtnagpndclagfaaaDoor
