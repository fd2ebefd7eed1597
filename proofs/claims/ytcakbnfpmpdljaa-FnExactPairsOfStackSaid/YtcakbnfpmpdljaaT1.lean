/- Walks of the small functions on tiles: each answers as the plain function on four numbers says, and leaves all that was there. -/
import Derived.Test.YtcakbnfpmpdljaaBase
namespace Go.Proofs.Ytcakbnfpmpdljaa
set_option linter.unusedVariables false
set_option linter.unusedSimpArgs false
open Go.RowKit Go.Sort
theorem ret_b {a b : Bool} (h : a = b) : Ending.returned (.bool a) = .returned (.bool b) := by rw [h]
theorem ret_i {k : IntKind} {a b : Int} (h : a = b) : Ending.returned (.int k a) = .returned (.int k b) := by rw [h]
theorem eqT_ne {a b : Tl} (h : a ≠ b) : eqT a b = false := by simp [eqT, h]

theorem l01In_any (n lo hi : Int) (w : World) : Calls Try.prog 66 #[.int .i64 n, .int .i64 lo, .int .i64 hi] w fun e w' => e = .returned (.bool (decide (lo ≤ n ∧ n ≤ hi))) ∧ w' = w := by
  go_enter Try.func66, Try.ntmps66
  by_cases h1 : lo ≤ n <;> by_cases h2 : n ≤ hi <;> go_wp2 <;> go_ret <;> exact ⟨by simp [h1, h2], rfl⟩

theorem isColour_any (n : Int) (w : World) : Calls Try.prog 94 #[.int .i64 n] w fun e w' => e = .returned (.bool (decide (1 ≤ n ∧ n ≤ 6))) ∧ w' = w := by
  go_enter Try.func94, Try.ntmps94
  by_cases h1 : 1 ≤ n <;> by_cases h2 : n ≤ 6 <;> go_wp2 <;> go_ret <;> exact ⟨by simp [h1, h2], rfl⟩

set_option maxRecDepth 100000 in
set_option maxHeartbeats 400000 in
theorem eqTile_any (a b : Tl) (w : World) : Calls Try.prog 98 #[tv a, tv b] w fun e w' => e = .returned (.bool (eqT a b)) ∧ Ext w w' := by
  obtain ⟨a0, a1, a2, a3⟩ := a
  obtain ⟨b0, b1, b2, b3⟩ := b
  generalize hr : eqT (a0, a1, a2, a3) (b0, b1, b2, b3) = r
  have HR := Lib.hid hr
  clear hr
  unfold tv
  go_enter Try.func98, Try.ntmps98
  go_wp2_with fail
  refine wp_loop_rounds 5 ?_
  rw [rounds_succ]
  go_wp2
  go_quiet (fail)
  go_wp2
  · go_ret
    exact ⟨ret_b (by rw [← HR.out]; exact (eqT_ne (by simp_all)).symm), by repeat (first | exact Ext.refl _ | refine Ext.drewN ?_ _ | refine Ext.alloc ?_ _ | refine Ext.drew ?_)⟩
  rw [rounds_succ]
  go_wp2
  go_quiet (fail)
  go_wp2
  · go_ret
    exact ⟨ret_b (by rw [← HR.out]; exact (eqT_ne (by simp_all)).symm), by repeat (first | exact Ext.refl _ | refine Ext.drewN ?_ _ | refine Ext.alloc ?_ _ | refine Ext.drew ?_)⟩
  rw [rounds_succ]
  go_wp2
  go_quiet (fail)
  go_wp2
  · go_ret
    exact ⟨ret_b (by rw [← HR.out]; exact (eqT_ne (by simp_all)).symm), by repeat (first | exact Ext.refl _ | refine Ext.drewN ?_ _ | refine Ext.alloc ?_ _ | refine Ext.drew ?_)⟩
  rw [rounds_succ]
  go_wp2
  go_quiet (fail)
  go_wp2
  · go_ret
    exact ⟨ret_b (by rw [← HR.out]; exact (eqT_ne (by simp_all)).symm), by repeat (first | exact Ext.refl _ | refine Ext.drewN ?_ _ | refine Ext.alloc ?_ _ | refine Ext.drew ?_)⟩
  rw [rounds_succ]
  go_wp2
  go_ret
  exact ⟨ret_b (by rw [← HR.out]; simp_all [eqT]), by repeat (first | exact Ext.refl _ | refine Ext.drewN ?_ _ | refine Ext.alloc ?_ _ | refine Ext.drew ?_)⟩

set_option maxRecDepth 100000 in
set_option maxHeartbeats 400000 in
theorem before_any (a b : Tl) (w : World) : Calls Try.prog 92 #[tv a, tv b] w fun e w' => e = .returned (.bool (before a b)) ∧ Ext w w' := by
  obtain ⟨a0, a1, a2, a3⟩ := a
  obtain ⟨b0, b1, b2, b3⟩ := b
  generalize hr : before (a0, a1, a2, a3) (b0, b1, b2, b3) = r
  have HR := Lib.hid hr
  clear hr
  unfold tv
  go_enter Try.func92, Try.ntmps92
  go_wp2_with fail
  refine wp_loop_rounds 5 ?_
  rw [rounds_succ]
  go_wp2
  go_quiet (fail)
  go_wp2
  · go_quiet (fail)
    go_wp2
    go_ret
    exact ⟨ret_b (by rw [← HR.out]; simp_all [before]), by repeat (first | exact Ext.refl _ | refine Ext.drewN ?_ _ | refine Ext.alloc ?_ _ | refine Ext.drew ?_)⟩
  rw [rounds_succ]
  go_wp2
  go_quiet (fail)
  go_wp2
  · go_quiet (fail)
    go_wp2
    go_ret
    exact ⟨ret_b (by rw [← HR.out]; simp_all [before]), by repeat (first | exact Ext.refl _ | refine Ext.drewN ?_ _ | refine Ext.alloc ?_ _ | refine Ext.drew ?_)⟩
  rw [rounds_succ]
  go_wp2
  go_quiet (fail)
  go_wp2
  · go_quiet (fail)
    go_wp2
    go_ret
    exact ⟨ret_b (by rw [← HR.out]; simp_all [before]), by repeat (first | exact Ext.refl _ | refine Ext.drewN ?_ _ | refine Ext.alloc ?_ _ | refine Ext.drew ?_)⟩
  rw [rounds_succ]
  go_wp2
  go_quiet (fail)
  go_wp2
  · go_quiet (fail)
    go_wp2
    go_ret
    exact ⟨ret_b (by rw [← HR.out]; simp_all [before]), by repeat (first | exact Ext.refl _ | refine Ext.drewN ?_ _ | refine Ext.alloc ?_ _ | refine Ext.drew ?_)⟩
  rw [rounds_succ]
  go_wp2
  go_ret
  exact ⟨ret_b (by rw [← HR.out]; simp_all [before]), by repeat (first | exact Ext.refl _ | refine Ext.drewN ?_ _ | refine Ext.alloc ?_ _ | refine Ext.drew ?_)⟩

set_option maxRecDepth 100000 in
set_option maxHeartbeats 400000 in
theorem l01Tile_any (c : Int) (a : Tl) (w : World) (hc1 : 1 ≤ c) (hc2 : c ≤ 6) : Calls Try.prog 48 #[.int .i64 c, tv a] w fun e w' => e = .returned (.bool (tileOk c a)) ∧ Ext w w' := by
  obtain ⟨a0, a1, a2, a3⟩ := a
  generalize hr : tileOk c (a0, a1, a2, a3) = r
  have HR := Lib.hid hr
  clear hr
  unfold tv
  go_enter Try.func48, Try.ntmps48
  go_wp2_with fail
  refine wp_loop_rounds 5 ?_
  rw [rounds_succ]
  go_wp2_with (go_at_call 66; refine (l01In_any _ _ _ _).mono ?_; rintro e w' ⟨rfl, rfl⟩)
  · go_ret
    exact ⟨ret_b (by rw [← HR.out]; simp [tileOk] at *; omega), by repeat (first | exact Ext.refl _ | refine Ext.drewN ?_ _ | refine Ext.alloc ?_ _ | refine Ext.drew ?_)⟩
  rw [rounds_succ]
  go_wp2_with (go_at_call 66; refine (l01In_any _ _ _ _).mono ?_; rintro e w' ⟨rfl, rfl⟩)
  · go_ret
    exact ⟨ret_b (by rw [← HR.out]; simp [tileOk] at *; omega), by repeat (first | exact Ext.refl _ | refine Ext.drewN ?_ _ | refine Ext.alloc ?_ _ | refine Ext.drew ?_)⟩
  rw [rounds_succ]
  go_wp2_with (go_at_call 66; refine (l01In_any _ _ _ _).mono ?_; rintro e w' ⟨rfl, rfl⟩)
  · go_ret
    exact ⟨ret_b (by rw [← HR.out]; simp [tileOk] at *; omega), by repeat (first | exact Ext.refl _ | refine Ext.drewN ?_ _ | refine Ext.alloc ?_ _ | refine Ext.drew ?_)⟩
  rw [rounds_succ]
  go_wp2_with (go_at_call 66; refine (l01In_any _ _ _ _).mono ?_; rintro e w' ⟨rfl, rfl⟩)
  · go_ret
    exact ⟨ret_b (by rw [← HR.out]; simp [tileOk] at *; omega), by repeat (first | exact Ext.refl _ | refine Ext.drewN ?_ _ | refine Ext.alloc ?_ _ | refine Ext.drew ?_)⟩
  rw [rounds_succ]
  go_wp2
  go_ret
  exact ⟨ret_b (by rw [← HR.out]; simp [tileOk] at *; omega), by repeat (first | exact Ext.refl _ | refine Ext.drewN ?_ _ | refine Ext.alloc ?_ _ | refine Ext.drew ?_)⟩

/-- Are these colours of a set that has c of them? -/
def areB (c : Int) (xs : List Int) : Bool := xs.all fun x => decide (0 ≤ x ∧ x < c)
theorem areB_at {c : Int} {xs : List Int} {k : Nat} (hk : k < xs.length) (h : ¬ (0 ≤ xs.getD k 0 ∧ xs.getD k 0 < c)) : areB c xs = false := by
  unfold areB
  rw [List.all_eq_false]
  exact ⟨xs.getD k 0, by simp [List.getD, hk], by simpa using h⟩
theorem areB_all {c : Int} {xs : List Int} (h : ∀ j, j < xs.length → 0 ≤ xs.getD j 0 ∧ xs.getD j 0 < c) : areB c xs = true := by
  unfold areB
  rw [List.all_eq_true]
  intro x hx
  obtain ⟨i, hi, rfl⟩ := List.mem_iff_getElem.1 hx
  have := h i hi
  rw [decide_eq_true_eq]
  simpa [List.getD, hi] using this
theorem areB_tile (c a0 a1 a2 a3 : Int) : areB c [a0, a1, a2, a3] = tileOk c (a0, a1, a2, a3) := by
  simp only [areB, tileOk, List.all_cons, List.all_nil, Bool.and_true]
  rw [Bool.eq_iff_iff]
  simp only [Bool.and_eq_true, decide_eq_true_eq]
  omega
set_option maxHeartbeats 400000 in
theorem areColours_raw (A : Option Addr) (m d : Nat) (xs : List Int) (c : Int) (w : World) (hm : m ≤ 9223372036854775807) (hl : xs.length = m)
    (hA : 0 < m → ∃ b off, A = some ⟨b, off, none⟩ ∧ ∀ k, k < m → w.cell? ⟨b, off + k, none⟩ = some (.int .i64 (xs.getD k 0))) :
    Calls Try.prog 96 #[.slice A m d, .int .i64 c] w fun e w' => e = .returned (.bool (areB c xs)) ∧ w' = w := by
  generalize hr : areB c xs = r
  have HR := Lib.hid hr
  clear hr
  go_enter Try.func96, Try.ntmps96
  go_wp2_with fail
  go_loop [9] (fun i => ∃ k : Nat, k ≤ m ∧ i = .int .i64 k ∧ (∀ j, j < k → (0 ≤ xs.getD j 0 ∧ xs.getD j 0 < c))) (fun i => m - (intOf i).toNat)
  case atStart => exact ⟨0, Nat.zero_le _, rfl, fun j hj => absurd hj (Nat.not_lt_zero _)⟩
  case round =>
    obtain ⟨k, hk, rfl, heq⟩ := hrel
    have H := Lib.hid heq
    clear heq
    by_cases hlt : k < m
    · obtain ⟨bx, ox, rfl, hcx⟩ := hA (by omega)
      have q1 := hcx k (by omega)
      generalize hX : xs.getD k 0 = x at q1
      have EX := Lib.hid hX
      clear hcx hA hX
      by_cases h1 : x < 0
      · go_wp2_with fail
        go_ret
        exact ⟨ret_b (by rw [← HR.out, areB_at (k := k) (by omega) (by rw [EX.out]; omega)]), rfl⟩
      · by_cases h2 : c ≤ x
        · go_wp2_with fail
          go_ret
          exact ⟨ret_b (by rw [← HR.out, areB_at (k := k) (by omega) (by rw [EX.out]; omega)]), rfl⟩
        · go_wp2_with fail
          go_round
          case rel =>
            refine ⟨k + 1, by omega, by go_num, ?_⟩
            intro i' hi'
            by_cases hik : i' = k
            · subst hik
              rw [EX.out]
              omega
            · exact H.out i' (by omega)
          case measure => simp [intOf]; omega
    · clear hA
      go_wp2_with fail
      go_ret
      exact ⟨ret_b (by rw [← HR.out, areB_all (fun j hj => H.out j (by omega))]), rfl⟩
set_option maxRecDepth 100000 in
set_option maxHeartbeats 400000 in
theorem hasColours_any (c : Int) (a : Tl) (w : World) : Calls Try.prog 54 #[tv a, .int .i64 c] w fun e w' => e = .returned (.bool (tileOk c a)) ∧ Ext w w' := by
  obtain ⟨a0, a1, a2, a3⟩ := a
  unfold tv
  have hcon := areColours_raw (some ⟨w.heap.size, 0, none⟩) 4 4 [a0, a1, a2, a3] c (w.alloc (.cells #[.int .i64 a0, .int .i64 a1, .int .i64 a2, .int .i64 a3] 33)) (by omega) rfl
    (fun _ => ⟨_, _, rfl, fun k hk => by
      obtain rfl | rfl | rfl | rfl : k = 0 ∨ k = 1 ∨ k = 2 ∨ k = 3 := by omega
      all_goals simp [go_sem]⟩)
  rw [areB_tile] at hcon
  have HC := Lib.hid hcon
  clear hcon
  go_enter Try.func54, Try.ntmps54
  go_wp2_with fail
  refine HC.out.mono ?_
  rintro e w1 ⟨rfl, rfl⟩
  go_wp2_with fail
  go_ret
  exact ⟨rfl, (Ext.refl w).alloc _⟩

/-- What 'cmp.Compare' answers. -/
def cmpI (x y : Int) : Int := if x < y then -1 else if y < x then 1 else 0
theorem isNaN_any (x : Int) (w : World) : Calls Try.prog 144 #[.int .i64 x] w fun e w' => e = .returned (.bool false) ∧ w' = w := by
  go_enter Try.func144, Try.ntmps144
  go_wp2
  go_ret
  exact ⟨by simp, rfl⟩
theorem compare_any (x y : Int) (w : World) : Calls Try.prog 121 #[.int .i64 x, .int .i64 y] w fun e w' => e = .returned (.int .i64 (cmpI x y)) ∧ w' = w := by
  generalize hr : cmpI x y = r
  have HR := Lib.hid hr
  clear hr
  go_enter Try.func121, Try.ntmps121
  by_cases h1 : x < y
  · go_wp2_with (go_at_call 144; refine (isNaN_any _ _).mono ?_; rintro e w' ⟨rfl, rfl⟩)
    go_ret
    exact ⟨ret_i (by rw [← HR.out]; unfold cmpI; (repeat' split) <;> omega), rfl⟩
  · by_cases h2 : y < x
    · go_wp2_with (go_at_call 144; refine (isNaN_any _ _).mono ?_; rintro e w' ⟨rfl, rfl⟩)
      go_ret
      exact ⟨ret_i (by rw [← HR.out]; unfold cmpI; (repeat' split) <;> omega), rfl⟩
    · go_wp2_with (go_at_call 144; refine (isNaN_any _ _).mono ?_; rintro e w' ⟨rfl, rfl⟩)
      go_ret
      exact ⟨ret_i (by rw [← HR.out]; unfold cmpI; (repeat' split) <;> omega), rfl⟩
theorem cmpI_zero {x y : Int} (h : (cmpI x y != 0) = false) : x = y := by
  unfold cmpI at h
  by_cases h1 : x < y
  · simp [h1] at h
  · by_cases h2 : y < x
    · simp [h1, h2] at h
    · omega
theorem cmpI_nonzero {x y : Int} (h : (cmpI x y != 0) = true) : x ≠ y := by
  rintro rfl
  simp [cmpI] at h

set_option maxRecDepth 100000 in
set_option maxHeartbeats 400000 in
theorem compareS_any (g h : Nat) (a b : Tl) (w : World) (ha0 : w.cell? ⟨g, 0, none⟩ = some (.int .i64 a.1)) (ha1 : w.cell? ⟨g, 1, none⟩ = some (.int .i64 a.2.1)) (ha2 : w.cell? ⟨g, 2, none⟩ = some (.int .i64 a.2.2.1)) (ha3 : w.cell? ⟨g, 3, none⟩ = some (.int .i64 a.2.2.2)) (hb0 : w.cell? ⟨h, 0, none⟩ = some (.int .i64 b.1)) (hb1 : w.cell? ⟨h, 1, none⟩ = some (.int .i64 b.2.1)) (hb2 : w.cell? ⟨h, 2, none⟩ = some (.int .i64 b.2.2.1)) (hb3 : w.cell? ⟨h, 3, none⟩ = some (.int .i64 b.2.2.2)) : Calls Try.prog 83 #[.slice (some ⟨g, 0, none⟩) 4 4, .slice (some ⟨h, 0, none⟩) 4 4] w fun e w' => e = .returned (.int .i64 (cmpT a b)) ∧ w' = w := by
  obtain ⟨a0, a1, a2, a3⟩ := a
  obtain ⟨b0, b1, b2, b3⟩ := b
  generalize hr : cmpT (a0, a1, a2, a3) (b0, b1, b2, b3) = r
  have HR := Lib.hid hr
  clear hr
  simp only at ha0 ha1 ha2 ha3 hb0 hb1 hb2 hb3
  go_enter Try.func83, Try.ntmps83
  go_wp2_with fail
  refine wp_loop_rounds 5 ?_
  rw [rounds_succ]
  go_wp2_with (go_at_call 121; refine (compare_any _ _ _).mono ?_; rintro e w' ⟨rfl, rfl⟩)
  · go_ret
    refine ⟨ret_i ?_, rfl⟩
    · have q0 := cmpI_nonzero (x := a0) (y := b0) (by assumption)
      rw [← HR.out]
      simp only [cmpT, before, cmpI, decide_eq_true_eq]
      repeat' split
      all_goals omega
  rw [rounds_succ]
  go_wp2_with (go_at_call 121; refine (compare_any _ _ _).mono ?_; rintro e w' ⟨rfl, rfl⟩)
  · go_ret
    refine ⟨ret_i ?_, rfl⟩
    · have q1 := cmpI_nonzero (x := a1) (y := b1) (by assumption)
      have q0 := cmpI_zero (x := a0) (y := b0) (by assumption)
      rw [← HR.out]
      simp only [cmpT, before, cmpI, decide_eq_true_eq]
      repeat' split
      all_goals omega
  rw [rounds_succ]
  go_wp2_with (go_at_call 121; refine (compare_any _ _ _).mono ?_; rintro e w' ⟨rfl, rfl⟩)
  · go_ret
    refine ⟨ret_i ?_, rfl⟩
    · have q2 := cmpI_nonzero (x := a2) (y := b2) (by assumption)
      have q0 := cmpI_zero (x := a0) (y := b0) (by assumption)
      have q1 := cmpI_zero (x := a1) (y := b1) (by assumption)
      rw [← HR.out]
      simp only [cmpT, before, cmpI, decide_eq_true_eq]
      repeat' split
      all_goals omega
  rw [rounds_succ]
  go_wp2_with (go_at_call 121; refine (compare_any _ _ _).mono ?_; rintro e w' ⟨rfl, rfl⟩)
  · go_ret
    refine ⟨ret_i ?_, rfl⟩
    · have q3 := cmpI_nonzero (x := a3) (y := b3) (by assumption)
      have q0 := cmpI_zero (x := a0) (y := b0) (by assumption)
      have q1 := cmpI_zero (x := a1) (y := b1) (by assumption)
      have q2 := cmpI_zero (x := a2) (y := b2) (by assumption)
      rw [← HR.out]
      simp only [cmpT, before, cmpI, decide_eq_true_eq]
      repeat' split
      all_goals omega
  rw [rounds_succ]
  go_wp2
  go_ret
  refine ⟨ret_i ?_, rfl⟩
  · skip
    have q0 := cmpI_zero (x := a0) (y := b0) (by assumption)
    have q1 := cmpI_zero (x := a1) (y := b1) (by assumption)
    have q2 := cmpI_zero (x := a2) (y := b2) (by assumption)
    have q3 := cmpI_zero (x := a3) (y := b3) (by assumption)
    rw [← HR.out]
    simp only [cmpT, before, decide_eq_true_eq]
    repeat' split
    all_goals omega

set_option maxRecDepth 100000 in
set_option maxHeartbeats 400000 in
theorem compareTiles_any (a b : Tl) (w : World) : Calls Try.prog 95 #[tv a, tv b] w fun e w' => e = .returned (.int .i64 (cmpT a b)) ∧ Ext w w' := by
  unfold tv
  have hcon := fun (W : World) g h => compareS_any g h a b W
  generalize cmpT a b = r at hcon ⊢
  go_enter Try.func95, Try.ntmps95
  go_wp2_with fail
  go_quiet ((go_at_call 83; exact Calls.quiet_of_same (hcon _ _ _ (by go_simp) (by go_simp) (by go_simp) (by go_simp) (by go_simp) (by go_simp) (by go_simp) (by go_simp))))
  go_wp2
  go_ret
  exact ⟨rfl, by repeat (first | exact Ext.refl _ | refine Ext.drewN ?_ _ | refine Ext.alloc ?_ _ | refine Ext.drew ?_)⟩
end Go.Proofs.Ytcakbnfpmpdljaa
