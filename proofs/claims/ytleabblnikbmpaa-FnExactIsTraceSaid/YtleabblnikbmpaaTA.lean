/- Walks of the small functions on tiles: each answers as the plain function on four numbers says, and leaves all that was there. -/
import Derived.Test.YtleabblnikbmpaaBase
namespace Go.Proofs.Ytleabblnikbmpaa
section
set_option linter.unusedVariables false
set_option linter.unusedSimpArgs false
open Go.RowKit Go.Sort
theorem ret_b {a b : Bool} (h : a = b) : Ending.returned (.bool a) = .returned (.bool b) := by rw [h]
theorem ret_i {k : IntKind} {a b : Int} (h : a = b) : Ending.returned (.int k a) = .returned (.int k b) := by rw [h]
theorem eqT_ne {a b : Tl} (h : a ≠ b) : eqT a b = false := by simp [eqT, h]

theorem l01In_any (n lo hi : Int) (w : World) : Calls Try.prog 79 #[.int .i64 n, .int .i64 lo, .int .i64 hi] w fun e w' => e = .returned (.bool (decide (lo ≤ n ∧ n ≤ hi))) ∧ w' = w := by
  go_enter Try.func79, Try.ntmps79
  by_cases h1 : lo ≤ n <;> by_cases h2 : n ≤ hi <;> go_wp2 <;> go_ret <;> exact ⟨by simp [h1, h2], rfl⟩

theorem isColour_any (n : Int) (w : World) : Calls Try.prog 123 #[.int .i64 n] w fun e w' => e = .returned (.bool (decide (1 ≤ n ∧ n ≤ 6))) ∧ w' = w := by
  go_enter Try.func123, Try.ntmps123
  by_cases h1 : 1 ≤ n <;> by_cases h2 : n ≤ 6 <;> go_wp2 <;> go_ret <;> exact ⟨by simp [h1, h2], rfl⟩

set_option maxRecDepth 100000 in
set_option maxHeartbeats 400000 in
theorem eqTile_any (a b : Tl) (w : World) : Calls Try.prog 100 #[tv a, tv b] w fun e w' => e = .returned (.bool (eqT a b)) ∧ Ext w w' := by
  obtain ⟨a0, a1, a2, a3⟩ := a
  obtain ⟨b0, b1, b2, b3⟩ := b
  generalize hr : eqT (a0, a1, a2, a3) (b0, b1, b2, b3) = r
  have HR := Lib.hid hr
  clear hr
  unfold tv
  go_enter Try.func100, Try.ntmps100
  go_wp2_with fail
  refine wp_loop_rounds 5 ?_
  rw [rounds_succ]
  go_wp2
  go_quiet (fail)
  go_wp2
  · go_ret
    exact ⟨ret_b (by rw [← HR.out]; exact (eqT_ne (by simp_all)).symm), by repeat (first | exact Ext.refl _ | refine Ext.drewN ?_ _ | refine Ext.alloc ?_ _ | refine Ext.drew ?_)⟩
  rw [rounds_succ]
  go_wp2
  go_quiet (fail)
  go_wp2
  · go_ret
    exact ⟨ret_b (by rw [← HR.out]; exact (eqT_ne (by simp_all)).symm), by repeat (first | exact Ext.refl _ | refine Ext.drewN ?_ _ | refine Ext.alloc ?_ _ | refine Ext.drew ?_)⟩
  rw [rounds_succ]
  go_wp2
  go_quiet (fail)
  go_wp2
  · go_ret
    exact ⟨ret_b (by rw [← HR.out]; exact (eqT_ne (by simp_all)).symm), by repeat (first | exact Ext.refl _ | refine Ext.drewN ?_ _ | refine Ext.alloc ?_ _ | refine Ext.drew ?_)⟩
  rw [rounds_succ]
  go_wp2
  go_quiet (fail)
  go_wp2
  · go_ret
    exact ⟨ret_b (by rw [← HR.out]; exact (eqT_ne (by simp_all)).symm), by repeat (first | exact Ext.refl _ | refine Ext.drewN ?_ _ | refine Ext.alloc ?_ _ | refine Ext.drew ?_)⟩
  rw [rounds_succ]
  go_wp2
  go_ret
  exact ⟨ret_b (by rw [← HR.out]; simp_all [eqT]), by repeat (first | exact Ext.refl _ | refine Ext.drewN ?_ _ | refine Ext.alloc ?_ _ | refine Ext.drew ?_)⟩

set_option maxRecDepth 100000 in
set_option maxHeartbeats 400000 in
theorem before_any (a b : Tl) (w : World) : Calls Try.prog 138 #[tv a, tv b] w fun e w' => e = .returned (.bool (before a b)) ∧ Ext w w' := by
  obtain ⟨a0, a1, a2, a3⟩ := a
  obtain ⟨b0, b1, b2, b3⟩ := b
  generalize hr : before (a0, a1, a2, a3) (b0, b1, b2, b3) = r
  have HR := Lib.hid hr
  clear hr
  unfold tv
  go_enter Try.func138, Try.ntmps138
  go_wp2_with fail
  refine wp_loop_rounds 5 ?_
  rw [rounds_succ]
  go_wp2
  go_quiet (fail)
  go_wp2
  · go_quiet (fail)
    go_wp2
    go_ret
    exact ⟨ret_b (by rw [← HR.out]; simp_all [before]), by repeat (first | exact Ext.refl _ | refine Ext.drewN ?_ _ | refine Ext.alloc ?_ _ | refine Ext.drew ?_)⟩
  rw [rounds_succ]
  go_wp2
  go_quiet (fail)
  go_wp2
  · go_quiet (fail)
    go_wp2
    go_ret
    exact ⟨ret_b (by rw [← HR.out]; simp_all [before]), by repeat (first | exact Ext.refl _ | refine Ext.drewN ?_ _ | refine Ext.alloc ?_ _ | refine Ext.drew ?_)⟩
  rw [rounds_succ]
  go_wp2
  go_quiet (fail)
  go_wp2
  · go_quiet (fail)
    go_wp2
    go_ret
    exact ⟨ret_b (by rw [← HR.out]; simp_all [before]), by repeat (first | exact Ext.refl _ | refine Ext.drewN ?_ _ | refine Ext.alloc ?_ _ | refine Ext.drew ?_)⟩
  rw [rounds_succ]
  go_wp2
  go_quiet (fail)
  go_wp2
  · go_quiet (fail)
    go_wp2
    go_ret
    exact ⟨ret_b (by rw [← HR.out]; simp_all [before]), by repeat (first | exact Ext.refl _ | refine Ext.drewN ?_ _ | refine Ext.alloc ?_ _ | refine Ext.drew ?_)⟩
  rw [rounds_succ]
  go_wp2
  go_ret
  exact ⟨ret_b (by rw [← HR.out]; simp_all [before]), by repeat (first | exact Ext.refl _ | refine Ext.drewN ?_ _ | refine Ext.alloc ?_ _ | refine Ext.drew ?_)⟩

set_option maxRecDepth 100000 in
set_option maxHeartbeats 400000 in
theorem l01Tile_any (c : Int) (a : Tl) (w : World) (hc1 : 1 ≤ c) (hc2 : c ≤ 6) : Calls Try.prog 137 #[.int .i64 c, tv a] w fun e w' => e = .returned (.bool (tileOk c a)) ∧ Ext w w' := by
  obtain ⟨a0, a1, a2, a3⟩ := a
  generalize hr : tileOk c (a0, a1, a2, a3) = r
  have HR := Lib.hid hr
  clear hr
  unfold tv
  go_enter Try.func137, Try.ntmps137
  go_wp2_with fail
  refine wp_loop_rounds 5 ?_
  rw [rounds_succ]
  go_wp2_with (go_at_call 79; refine (l01In_any _ _ _ _).mono ?_; rintro e w' ⟨rfl, rfl⟩)
  · go_ret
    exact ⟨ret_b (by rw [← HR.out]; simp [tileOk] at *; omega), by repeat (first | exact Ext.refl _ | refine Ext.drewN ?_ _ | refine Ext.alloc ?_ _ | refine Ext.drew ?_)⟩
  rw [rounds_succ]
  go_wp2_with (go_at_call 79; refine (l01In_any _ _ _ _).mono ?_; rintro e w' ⟨rfl, rfl⟩)
  · go_ret
    exact ⟨ret_b (by rw [← HR.out]; simp [tileOk] at *; omega), by repeat (first | exact Ext.refl _ | refine Ext.drewN ?_ _ | refine Ext.alloc ?_ _ | refine Ext.drew ?_)⟩
  rw [rounds_succ]
  go_wp2_with (go_at_call 79; refine (l01In_any _ _ _ _).mono ?_; rintro e w' ⟨rfl, rfl⟩)
  · go_ret
    exact ⟨ret_b (by rw [← HR.out]; simp [tileOk] at *; omega), by repeat (first | exact Ext.refl _ | refine Ext.drewN ?_ _ | refine Ext.alloc ?_ _ | refine Ext.drew ?_)⟩
  rw [rounds_succ]
  go_wp2_with (go_at_call 79; refine (l01In_any _ _ _ _).mono ?_; rintro e w' ⟨rfl, rfl⟩)
  · go_ret
    exact ⟨ret_b (by rw [← HR.out]; simp [tileOk] at *; omega), by repeat (first | exact Ext.refl _ | refine Ext.drewN ?_ _ | refine Ext.alloc ?_ _ | refine Ext.drew ?_)⟩
  rw [rounds_succ]
  go_wp2
  go_ret
  exact ⟨ret_b (by rw [← HR.out]; simp [tileOk] at *; omega), by repeat (first | exact Ext.refl _ | refine Ext.drewN ?_ _ | refine Ext.alloc ?_ _ | refine Ext.drew ?_)⟩

/-- Are these colours of a set that has c of them? -/
def areB (c : Int) (xs : List Int) : Bool := xs.all fun x => decide (0 ≤ x ∧ x < c)
theorem areB_at {c : Int} {xs : List Int} {k : Nat} (hk : k < xs.length) (h : ¬ (0 ≤ xs.getD k 0 ∧ xs.getD k 0 < c)) : areB c xs = false := by
  unfold areB
  rw [List.all_eq_false]
  exact ⟨xs.getD k 0, by simp [List.getD, hk], by simpa using h⟩
theorem areB_all {c : Int} {xs : List Int} (h : ∀ j, j < xs.length → 0 ≤ xs.getD j 0 ∧ xs.getD j 0 < c) : areB c xs = true := by
  unfold areB
  rw [List.all_eq_true]
  intro x hx
  obtain ⟨i, hi, rfl⟩ := List.mem_iff_getElem.1 hx
  have := h i hi
  rw [decide_eq_true_eq]
  simpa [List.getD, hi] using this
theorem areB_tile (c a0 a1 a2 a3 : Int) : areB c [a0, a1, a2, a3] = tileOk c (a0, a1, a2, a3) := by
  simp only [areB, tileOk, List.all_cons, List.all_nil, Bool.and_true]
  rw [Bool.eq_iff_iff]
  simp only [Bool.and_eq_true, decide_eq_true_eq]
  omega
set_option maxHeartbeats 400000 in
theorem areColours_raw (A : Option Addr) (m d : Nat) (xs : List Int) (c : Int) (w : World) (hm : m ≤ 9223372036854775807) (hl : xs.length = m)
    (hA : 0 < m → ∃ b off, A = some ⟨b, off, none⟩ ∧ ∀ k, k < m → w.cell? ⟨b, off + k, none⟩ = some (.int .i64 (xs.getD k 0))) :
    Calls Try.prog 117 #[.slice A m d, .int .i64 c] w fun e w' => e = .returned (.bool (areB c xs)) ∧ w' = w := by
  generalize hr : areB c xs = r
  have HR := Lib.hid hr
  clear hr
  go_enter Try.func117, Try.ntmps117
  go_wp2_with fail
  go_loop [9] (fun i => ∃ k : Nat, k ≤ m ∧ i = .int .i64 k ∧ (∀ j, j < k → (0 ≤ xs.getD j 0 ∧ xs.getD j 0 < c))) (fun i => m - (intOf i).toNat)
  case atStart => exact ⟨0, Nat.zero_le _, rfl, fun j hj => absurd hj (Nat.not_lt_zero _)⟩
  case round =>
    obtain ⟨k, hk, rfl, heq⟩ := hrel
    have H := Lib.hid heq
    clear heq
    by_cases hlt : k < m
    · obtain ⟨bx, ox, rfl, hcx⟩ := hA (by omega)
      have q1 := hcx k (by omega)
      generalize hX : xs.getD k 0 = x at q1
      have EX := Lib.hid hX
      clear hcx hA hX
      by_cases h1 : x < 0
      · go_wp2_with fail
        go_ret
        exact ⟨ret_b (by rw [← HR.out, areB_at (k := k) (by omega) (by rw [EX.out]; omega)]), rfl⟩
      · by_cases h2 : c ≤ x
        · go_wp2_with fail
          go_ret
          exact ⟨ret_b (by rw [← HR.out, areB_at (k := k) (by omega) (by rw [EX.out]; omega)]), rfl⟩
        · go_wp2_with fail
          go_round
          case rel =>
            refine ⟨k + 1, by omega, by go_num, ?_⟩
            intro i' hi'
            by_cases hik : i' = k
            · subst hik
              rw [EX.out]
              omega
            · exact H.out i' (by omega)
          case measure => simp [intOf]; omega
    · clear hA
      go_wp2_with fail
      go_ret
      exact ⟨ret_b (by rw [← HR.out, areB_all (fun j hj => H.out j (by omega))]), rfl⟩
set_option maxRecDepth 100000 in
set_option maxHeartbeats 400000 in
theorem hasColours_any (c : Int) (a : Tl) (w : World) : Calls Try.prog 124 #[tv a, .int .i64 c] w fun e w' => e = .returned (.bool (tileOk c a)) ∧ Ext w w' := by
  obtain ⟨a0, a1, a2, a3⟩ := a
  unfold tv
  have hcon := areColours_raw (some ⟨w.heap.size, 0, none⟩) 4 4 [a0, a1, a2, a3] c (w.alloc (.cells #[.int .i64 a0, .int .i64 a1, .int .i64 a2, .int .i64 a3] 69)) (by omega) rfl
    (fun _ => ⟨_, _, rfl, fun k hk => by
      obtain rfl | rfl | rfl | rfl : k = 0 ∨ k = 1 ∨ k = 2 ∨ k = 3 := by omega
      all_goals simp [go_sem]⟩)
  rw [areB_tile] at hcon
  have HC := Lib.hid hcon
  clear hcon
  go_enter Try.func124, Try.ntmps124
  go_wp2_with fail
  refine HC.out.mono ?_
  rintro e w1 ⟨rfl, rfl⟩
  go_wp2_with fail
  go_ret
  exact ⟨rfl, (Ext.refl w).alloc _⟩

/-- What 'cmp.Compare' answers. -/
def cmpI (x y : Int) : Int := if x < y then -1 else if y < x then 1 else 0
theorem isNaN_any (x : Int) (w : World) : Calls Try.prog 146 #[.int .i64 x] w fun e w' => e = .returned (.bool false) ∧ w' = w := by
  go_enter Try.func146, Try.ntmps146
  go_wp2
  go_ret
  exact ⟨by simp, rfl⟩
theorem compare_any (x y : Int) (w : World) : Calls Try.prog 149 #[.int .i64 x, .int .i64 y] w fun e w' => e = .returned (.int .i64 (cmpI x y)) ∧ w' = w := by
  generalize hr : cmpI x y = r
  have HR := Lib.hid hr
  clear hr
  go_enter Try.func149, Try.ntmps149
  by_cases h1 : x < y
  · go_wp2_with (go_at_call 146; refine (isNaN_any _ _).mono ?_; rintro e w' ⟨rfl, rfl⟩)
    go_ret
    exact ⟨ret_i (by rw [← HR.out]; unfold cmpI; (repeat' split) <;> omega), rfl⟩
  · by_cases h2 : y < x
    · go_wp2_with (go_at_call 146; refine (isNaN_any _ _).mono ?_; rintro e w' ⟨rfl, rfl⟩)
      go_ret
      exact ⟨ret_i (by rw [← HR.out]; unfold cmpI; (repeat' split) <;> omega), rfl⟩
    · go_wp2_with (go_at_call 146; refine (isNaN_any _ _).mono ?_; rintro e w' ⟨rfl, rfl⟩)
      go_ret
      exact ⟨ret_i (by rw [← HR.out]; unfold cmpI; (repeat' split) <;> omega), rfl⟩
theorem cmpI_zero {x y : Int} (h : (cmpI x y != 0) = false) : x = y := by
  unfold cmpI at h
  by_cases h1 : x < y
  · simp [h1] at h
  · by_cases h2 : y < x
    · simp [h1, h2] at h
    · omega
theorem cmpI_nonzero {x y : Int} (h : (cmpI x y != 0) = true) : x ≠ y := by
  rintro rfl
  simp [cmpI] at h

set_option maxRecDepth 100000 in
set_option maxHeartbeats 400000 in
theorem compareS_any (g h : Nat) (a b : Tl) (w : World) (ha0 : w.cell? ⟨g, 0, none⟩ = some (.int .i64 a.1)) (ha1 : w.cell? ⟨g, 1, none⟩ = some (.int .i64 a.2.1)) (ha2 : w.cell? ⟨g, 2, none⟩ = some (.int .i64 a.2.2.1)) (ha3 : w.cell? ⟨g, 3, none⟩ = some (.int .i64 a.2.2.2)) (hb0 : w.cell? ⟨h, 0, none⟩ = some (.int .i64 b.1)) (hb1 : w.cell? ⟨h, 1, none⟩ = some (.int .i64 b.2.1)) (hb2 : w.cell? ⟨h, 2, none⟩ = some (.int .i64 b.2.2.1)) (hb3 : w.cell? ⟨h, 3, none⟩ = some (.int .i64 b.2.2.2)) : Calls Try.prog 127 #[.slice (some ⟨g, 0, none⟩) 4 4, .slice (some ⟨h, 0, none⟩) 4 4] w fun e w' => e = .returned (.int .i64 (cmpT a b)) ∧ w' = w := by
  obtain ⟨a0, a1, a2, a3⟩ := a
  obtain ⟨b0, b1, b2, b3⟩ := b
  generalize hr : cmpT (a0, a1, a2, a3) (b0, b1, b2, b3) = r
  have HR := Lib.hid hr
  clear hr
  simp only at ha0 ha1 ha2 ha3 hb0 hb1 hb2 hb3
  go_enter Try.func127, Try.ntmps127
  go_wp2_with fail
  refine wp_loop_rounds 5 ?_
  rw [rounds_succ]
  go_wp2_with (go_at_call 149; refine (compare_any _ _ _).mono ?_; rintro e w' ⟨rfl, rfl⟩)
  · go_ret
    refine ⟨ret_i ?_, rfl⟩
    · have q0 := cmpI_nonzero (x := a0) (y := b0) (by assumption)
      rw [← HR.out]
      simp only [cmpT, before, cmpI, decide_eq_true_eq]
      repeat' split
      all_goals omega
  rw [rounds_succ]
  go_wp2_with (go_at_call 149; refine (compare_any _ _ _).mono ?_; rintro e w' ⟨rfl, rfl⟩)
  · go_ret
    refine ⟨ret_i ?_, rfl⟩
    · have q1 := cmpI_nonzero (x := a1) (y := b1) (by assumption)
      have q0 := cmpI_zero (x := a0) (y := b0) (by assumption)
      rw [← HR.out]
      simp only [cmpT, before, cmpI, decide_eq_true_eq]
      repeat' split
      all_goals omega
  rw [rounds_succ]
  go_wp2_with (go_at_call 149; refine (compare_any _ _ _).mono ?_; rintro e w' ⟨rfl, rfl⟩)
  · go_ret
    refine ⟨ret_i ?_, rfl⟩
    · have q2 := cmpI_nonzero (x := a2) (y := b2) (by assumption)
      have q0 := cmpI_zero (x := a0) (y := b0) (by assumption)
      have q1 := cmpI_zero (x := a1) (y := b1) (by assumption)
      rw [← HR.out]
      simp only [cmpT, before, cmpI, decide_eq_true_eq]
      repeat' split
      all_goals omega
  rw [rounds_succ]
  go_wp2_with (go_at_call 149; refine (compare_any _ _ _).mono ?_; rintro e w' ⟨rfl, rfl⟩)
  · go_ret
    refine ⟨ret_i ?_, rfl⟩
    · have q3 := cmpI_nonzero (x := a3) (y := b3) (by assumption)
      have q0 := cmpI_zero (x := a0) (y := b0) (by assumption)
      have q1 := cmpI_zero (x := a1) (y := b1) (by assumption)
      have q2 := cmpI_zero (x := a2) (y := b2) (by assumption)
      rw [← HR.out]
      simp only [cmpT, before, cmpI, decide_eq_true_eq]
      repeat' split
      all_goals omega
  rw [rounds_succ]
  go_wp2
  go_ret
  refine ⟨ret_i ?_, rfl⟩
  · skip
    have q0 := cmpI_zero (x := a0) (y := b0) (by assumption)
    have q1 := cmpI_zero (x := a1) (y := b1) (by assumption)
    have q2 := cmpI_zero (x := a2) (y := b2) (by assumption)
    have q3 := cmpI_zero (x := a3) (y := b3) (by assumption)
    rw [← HR.out]
    simp only [cmpT, before, decide_eq_true_eq]
    repeat' split
    all_goals omega

set_option maxRecDepth 100000 in
set_option maxHeartbeats 400000 in
theorem compareTiles_any (a b : Tl) (w : World) : Calls Try.prog 125 #[tv a, tv b] w fun e w' => e = .returned (.int .i64 (cmpT a b)) ∧ Ext w w' := by
  unfold tv
  have hcon := fun (W : World) g h => compareS_any g h a b W
  generalize cmpT a b = r at hcon ⊢
  go_enter Try.func125, Try.ntmps125
  go_wp2_with fail
  go_quiet ((go_at_call 127; exact Calls.quiet_of_same (hcon _ _ _ (by go_simp) (by go_simp) (by go_simp) (by go_simp) (by go_simp) (by go_simp) (by go_simp) (by go_simp))))
  go_wp2
  go_ret
  exact ⟨rfl, by repeat (first | exact Ext.refl _ | refine Ext.drewN ?_ _ | refine Ext.alloc ?_ _ | refine Ext.drew ?_)⟩
end

section
set_option linter.unusedVariables false
set_option linter.unusedSimpArgs false
open Go.RowKit Go.Sort

abbrev T0 : Tl := (0, 0, 0, 0)
/-- The four cells at an address hold the tile x. -/
def Cell4 (w : World) (b o : Nat) (x : Tl) : Prop :=
  w.cell? ⟨b, o, none⟩ = some (.int .i64 x.1) ∧ w.cell? ⟨b, o + 1, none⟩ = some (.int .i64 x.2.1) ∧ w.cell? ⟨b, o + 2, none⟩ = some (.int .i64 x.2.2.1) ∧ w.cell? ⟨b, o + 3, none⟩ = some (.int .i64 x.2.2.2)
theorem Cell4.keep {w w' : World} {b o : Nat} {x : Tl} (h : Cell4 w b o x) (hk : ∀ i, w'.cell? ⟨b, i, none⟩ = w.cell? ⟨b, i, none⟩) : Cell4 w' b o x :=
  ⟨(hk _).trans h.1, (hk _).trans h.2.1, (hk _).trans h.2.2.1, (hk _).trans h.2.2.2⟩
/-- The slice at A reads as the tiles ts, all of it below block B. -/
def TR (w : World) (B : Nat) (A : Option Addr) (ts : List Tl) : Prop :=
  0 < ts.length → ∃ b off, A = some ⟨b, off, none⟩ ∧ b < B ∧ ∀ k, k < ts.length → Cell4 w b (off + k * 4) (ts.getD k T0)
theorem TR.keep {w w' : World} {B : Nat} {A : Option Addr} {ts : List Tl} (h : TR w B A ts) (hk : ∀ b, b < B → ∀ i, w'.cell? ⟨b, i, none⟩ = w.cell? ⟨b, i, none⟩) : TR w' B A ts := fun h0 => by
  obtain ⟨b, off, e, hb, hc⟩ := h h0
  exact ⟨b, off, e, hb, fun k hk' => (hc k hk').keep (hk b hb)⟩
theorem TR.below {w w' : World} {B B' : Nat} {A : Option Addr} {ts : List Tl} (h : TR w B A ts) (hB : Below B' w w') (hle : B ≤ B') : TR w' B A ts :=
  h.keep fun b hb i => hB.cell (p := ⟨b, i, none⟩) (by show b < B'; omega)
theorem TR.more {w : World} {B B' : Nat} {A : Option Addr} {ts : List Tl} (h : TR w B A ts) (hle : B ≤ B') : TR w B' A ts := fun h0 => by
  obtain ⟨b, off, e, hb, hc⟩ := h h0
  exact ⟨b, off, e, by omega, hc⟩
theorem TR.ext {w w' : World} {B : Nat} {A : Option Addr} {ts : List Tl} (h : TR w B A ts) (hx : Ext w w') (hB : B ≤ w.heap.size) : TR w' B A ts := h.below (hx.below (Nat.le_refl _)) hB
/-- What a round of a loop over the slice reads: the four cells in whatever world has grown. -/
theorem TR.at_ {w : World} {B : Nat} {A : Option Addr} {ts : List Tl} (h : TR w B A ts) {k : Nat} (hk : k < ts.length) (hB : B ≤ w.heap.size) :
    ∃ b off, A = some ⟨b, off, none⟩ ∧ b < B ∧ ∀ n os, Cell4 (grow (w.drewN n) os) b (off + k * 4) (ts.getD k T0) := by
  obtain ⟨b, off, e, hb, hc⟩ := h (by omega)
  exact ⟨b, off, e, hb, fun n os => (hc k hk).keep fun i => cell?_grow _ _ _ (by show b < (w.drewN n).heap.size; exact Nat.lt_of_lt_of_le hb hB)⟩

theorem list_eq_of {ts us : List Tl} (hl : ts.length = us.length) (h : ∀ j, j < ts.length → ts.getD j T0 = us.getD j T0) : ts = us := by
  apply List.ext_getElem hl
  intro i h1 h2
  have := h i h1
  simpa [List.getD, h1, h2] using this
theorem mixed : Try.prog.follows .mixedOrders = true := by kernel_rfl

set_option maxRecDepth 100000 in
set_option maxHeartbeats 400000 in
theorem eqTileS_any (A A' : Option Addr) (n n' c c' : Nat) (ts us : List Tl) (w : World) (hn : n ≤ 1152921504606846976) (hl : ts.length = n) (hl' : us.length = n') (hA : TR w w.heap.size A ts) (hA' : TR w w.heap.size A' us) :
   Calls Try.prog 55 #[.slice A n c, .slice A' n' c'] w fun e w' => e = .returned (.bool (decide (ts = us))) ∧ Ext w w' := by
  by_cases hne : n = n'
  · subst hne
    go_enter Try.func55, Try.ntmps55
    go_wp2_with fail
    go_loopw [5] (fun i wr => ∃ k : Nat, k ≤ n ∧ i = .int .i64 k ∧ (∀ j, j < k → ts.getD j T0 = us.getD j T0) ∧ Ext w wr) (fun i _ => n - (intOf i).toNat)
    case atStart => exact ⟨0, Nat.zero_le _, rfl, fun j hj => absurd hj (Nat.not_lt_zero _), Ext.refl _⟩
    case round =>
      obtain ⟨k, hk, rfl, heq, hx⟩ := hrel
      have H := Lib.hid heq
      have HX := Lib.hid hx
      clear heq
      by_cases hlt : k < n
      · obtain ⟨b, off, rfl, -, hc⟩ := (hA.ext hx (Nat.le_refl _)).at_ (k := k) (by omega) (hx.below (Nat.le_refl _)).size
        obtain ⟨b', off', rfl, -, hc'⟩ := (hA'.ext hx (Nat.le_refl _)).at_ (k := k) (by omega) (hx.below (Nat.le_refl _)).size
        clear hx hA hA'
        obtain ⟨⟨x0, x1, x2, x3⟩, hX⟩ : ∃ x, x = ts.getD k T0 := ⟨_, rfl⟩
        obtain ⟨⟨y0, y1, y2, y3⟩, hY⟩ : ∃ x, x = us.getD k T0 := ⟨_, rfl⟩
        rw [← hX] at hc
        rw [← hY] at hc'
        have EX := Lib.hid hX
        have EY := Lib.hid hY
        clear hX hY
        simp only [Cell4, forall_and] at hc hc'
        obtain ⟨c0, c1, c2, c3⟩ := hc
        obtain ⟨d0, d1, d2, d3⟩ := hc'
        have hcon : ∀ W, Calls Try.prog 100 _ W _ := fun W => eqTile_any (x0, x1, x2, x3) (y0, y1, y2, y3) W
        unfold Ext tv at hcon
        generalize hr : eqT (x0, x1, x2, x3) (y0, y1, y2, y3) = r at hcon
        have HR := Lib.hid hr
        clear hr
        have hm := mixed
        go_wp2_with fail
        go_quiet_grown ((go_at_call 100; refine Calls.grown_of (hcon _)))
        clear hm hcon c0 c1 c2 c3 d0 d1 d2 d3
        go_wp2_with fail
        · go_ret
          have hr : r = false := by simp_all
          refine ⟨ret_b ?_, HX.out.trans ⟨nq, osq, rfl⟩⟩
          have := HR.out
          rw [hr] at this
          have hd : (x0, x1, x2, x3) ≠ (y0, y1, y2, y3) := by simpa [eqT] using this
          rw [EX.out, EY.out] at hd
          exact (decide_eq_false (fun e => hd (by rw [e]))).symm
        · have hr : r = true := by simp_all
          refine ⟨⟨k + 1, by omega, by go_num, ?_, HX.out.trans ⟨nq, osq, rfl⟩⟩, by simp [intOf]; omega⟩
          intro j hj
          by_cases hjk : j = k
          · subst hjk
            have := HR.out
            rw [hr] at this
            have hd : (x0, x1, x2, x3) = (y0, y1, y2, y3) := by simpa [eqT] using this
            rw [EX.out, EY.out] at hd
            exact hd
          · exact H.out j (by omega)
      · clear hx hA hA'
        go_wp2_with fail
        go_ret
        refine ⟨ret_b ?_, HX.out⟩
        have hkn : k = n := by omega
        subst hkn
        exact (decide_eq_true (list_eq_of (by omega) (fun j hj => H.out j (by omega)))).symm
  · go_enter Try.func55, Try.ntmps55
    have hq : ((n : Int) != (n' : Int)) = true := by simp; omega
    go_wp2_with fail
    all_goals go_ret
    all_goals exact ⟨ret_b (decide_eq_false (fun e => hne (by rw [← hl, ← hl', e]))).symm, Ext.refl _⟩

set_option maxHeartbeats 400000 in
theorem eqSet_any (c0 c1 : Int) (A A' : Option Addr) (n n' c c' : Nat) (ts us : List Tl) (w : World) (hn : n ≤ 1152921504606846976) (hl : ts.length = n) (hl' : us.length = n') (hA : TR w w.heap.size A ts) (hA' : TR w w.heap.size A' us) :
   Calls Try.prog 20 #[.agg #[.int .i64 c0, .slice A n c], .agg #[.int .i64 c1, .slice A' n' c']] w fun e w' => e = .returned (.bool (decide (c0 = c1 ∧ ts = us))) ∧ Ext w w' := by
  have hcon : ∀ W, Ext w W → Calls Try.prog 55 #[.slice A n c, .slice A' n' c'] W _ := fun W hW => eqTileS_any A A' n n' c c' ts us W hn hl hl' ((hA.ext hW (Nat.le_refl _)).more (hW.below (Nat.le_refl _)).size) ((hA'.ext hW (Nat.le_refl _)).more (hW.below (Nat.le_refl _)).size)
  have HC := Lib.hid hcon
  clear hcon hA hA'
  by_cases hc : c0 = c1
  · subst hc
    go_enter Try.func20, Try.ntmps20
    go_wp2_with fail
    refine (HC.out _ (((Ext.refl w).alloc _).alloc _)).mono ?_
    rintro e w' ⟨rfl, hx⟩
    have HX := Lib.hid hx
    clear hx
    by_cases he : ts = us
    · have hd : decide (ts = us) = true := decide_eq_true he
      rw [hd]
      go_wp2_with fail
      go_ret
      exact ⟨ret_b (by simp [he]), (((Ext.refl w).alloc _).alloc _).trans HX.out⟩
    · have hd : decide (ts = us) = false := decide_eq_false he
      rw [hd]
      go_wp2_with fail
      go_ret
      exact ⟨ret_b (by simp [he]), (((Ext.refl w).alloc _).alloc _).trans HX.out⟩
  · go_enter Try.func20, Try.ntmps20
    have hq : (c0 != c1) = true := by simp; omega
    go_wp2_with fail
    all_goals go_ret
    all_goals exact ⟨ret_b (by simp [hc]), by repeat (first | exact Ext.refl _ | refine Ext.drewN ?_ _ | refine Ext.alloc ?_ _ | refine Ext.drew ?_)⟩
end

section
set_option linter.unusedVariables false
set_option linter.unusedSimpArgs false
open Go.RowKit Go.Sort

/-- Block g is just the cells cs, none frozen. -/
def Blk (w : World) (g : Nat) (t : TypeId) (cs : Array Value) : Prop := w.heap[g]? = some (.cells cs t (0, 0))
theorem Blk.lt {w : World} {g : Nat} {t : TypeId} {cs : Array Value} (h : Blk w g t cs) : g < w.heap.size := by
  rcases Nat.lt_or_ge g w.heap.size with hlt | hge
  · exact hlt
  · unfold Blk at h; rw [Array.getElem?_eq_none hge] at h; cases h
theorem Blk.cell {w : World} {g : Nat} {t : TypeId} {cs : Array Value} (h : Blk w g t cs) (i : Nat) : w.cell? ⟨g, i, none⟩ = cs[i]? := cell_of_row w g i cs t (0, 0) h
theorem Blk.frozen {w : World} {g : Nat} {t : TypeId} {cs : Array Value} (h : Blk w g t cs) (i : Nat) : w.frozen? ⟨g, i, none⟩ = false := by
  unfold Blk at h
  simp [World.frozen?, h]
theorem Blk.new (w : World) (t : TypeId) (cs : Array Value) : Blk (w.alloc (.cells cs t)) w.heap.size t cs := heap_alloc_new w _
theorem Blk.set_ {w : World} {g : Nat} {t : TypeId} {cs : Array Value} (h : Blk w g t cs) (i : Nat) (u : Value) : Blk (w.setCell ⟨g, i, none⟩ u) g t (cs.setIfInBounds i u) := by
  unfold Blk at h ⊢
  simp [World.setCell, Array.getElem?_modify, h]
theorem Blk.far {w : World} {g : Nat} {t : TypeId} {cs : Array Value} (h : Blk w g t cs) {p : Addr} (hp : g ≠ p.block) (u : Value) : Blk (w.setCell p u) g t cs := (Below.heap_setCell w p u g hp).trans h
theorem Blk.below {w w' : World} {g : Nat} {t : TypeId} {cs : Array Value} {B : Nat} (h : Blk w g t cs) (hb : Below B w w') (hg : g < B) : Blk w' g t cs := (hb.block g hg).trans h
theorem Blk.ext {w w' : World} {g : Nat} {t : TypeId} {cs : Array Value} (h : Blk w g t cs) (hb : Ext w w') : Blk w' g t cs := h.below (hb.below (Nat.le_refl _)) h.lt

/-- The four cells from o on are the tile x. -/
def At4 (cs : Array Value) (o : Nat) (x : Tl) : Prop := cs[o]? = some (.int .i64 x.1) ∧ cs[o + 1]? = some (.int .i64 x.2.1) ∧ cs[o + 2]? = some (.int .i64 x.2.2.1) ∧ cs[o + 3]? = some (.int .i64 x.2.2.2)
def put4 (cs : Array Value) (o : Nat) (x : Tl) : Array Value :=
  (((cs.setIfInBounds o (.int .i64 x.1)).setIfInBounds (o + 1) (.int .i64 x.2.1)).setIfInBounds (o + 2) (.int .i64 x.2.2.1)).setIfInBounds (o + 3) (.int .i64 x.2.2.2)
theorem put4_size (cs : Array Value) (o : Nat) (x : Tl) : (put4 cs o x).size = cs.size := by simp [put4]
theorem put4_at (cs : Array Value) (o : Nat) (x : Tl) (h : o + 4 ≤ cs.size) : At4 (put4 cs o x) o x := by
  refine ⟨?_, ?_, ?_, ?_⟩ <;> simp [put4, Array.getElem?_setIfInBounds] <;> omega
theorem put4_other (cs : Array Value) (o i : Nat) (x : Tl) (h : i < o ∨ o + 4 ≤ i) : (put4 cs o x)[i]? = cs[i]? := by
  simp only [put4, Array.getElem?_setIfInBounds]
  repeat rw [if_neg (by omega)]
theorem At4.put4_ {cs : Array Value} {o i : Nat} {x y : Tl} (hx : At4 cs i y) (h : i + 4 ≤ o ∨ o + 4 ≤ i) : At4 (put4 cs o x) i y :=
  ⟨(put4_other cs o i x (by omega)).trans hx.1, (put4_other cs o _ x (by omega)).trans hx.2.1, (put4_other cs o _ x (by omega)).trans hx.2.2.1, (put4_other cs o _ x (by omega)).trans hx.2.2.2⟩
theorem Blk.put4_ {w : World} {g : Nat} {t : TypeId} {cs : Array Value} (h : Blk w g t cs) (o : Nat) (x : Tl) :
    Blk ((((w.setCell ⟨g, o, none⟩ (.int .i64 x.1)).setCell ⟨g, o + 1, none⟩ (.int .i64 x.2.1)).setCell ⟨g, o + 2, none⟩ (.int .i64 x.2.2.1)).setCell ⟨g, o + 3, none⟩ (.int .i64 x.2.2.2)) g t (put4 cs o x) :=
  (((h.set_ _ _).set_ _ _).set_ _ _).set_ _ _
theorem At4.cell4 {w : World} {g : Nat} {t : TypeId} {cs : Array Value} {o : Nat} {x : Tl} (h : At4 cs o x) (hb : Blk w g t cs) : Cell4 w g o x :=
  ⟨(hb.cell _).trans h.1, (hb.cell _).trans h.2.1, (hb.cell _).trans h.2.2.1, (hb.cell _).trans h.2.2.2⟩

/-- The slice at A holds the tiles ts, in a block from lo on that can be written. -/
def TW (w : World) (lo : Nat) (A : Option Addr) (ts : List Tl) : Prop :=
  0 < ts.length → ∃ b off t cs, A = some ⟨b, off, none⟩ ∧ lo ≤ b ∧ Blk w b t cs ∧ ∀ k, k < ts.length → At4 cs (off + k * 4) (ts.getD k T0)
theorem TW.tr {w : World} {lo : Nat} {A : Option Addr} {ts : List Tl} (h : TW w lo A ts) : TR w w.heap.size A ts := fun h0 => by
  obtain ⟨b, off, t, cs, e, _, hb, hc⟩ := h h0
  exact ⟨b, off, e, hb.lt, fun k hk => (hc k hk).cell4 hb⟩
theorem TW.ext {w w' : World} {lo : Nat} {A : Option Addr} {ts : List Tl} (h : TW w lo A ts) (hx : Ext w w') : TW w' lo A ts := fun h0 => by
  obtain ⟨b, off, t, cs, e, hl, hb, hc⟩ := h h0
  exact ⟨b, off, t, cs, e, hl, hb.ext hx, hc⟩
theorem TW.below {w w' : World} {lo : Nat} {A : Option Addr} {ts : List Tl} (h : TW w lo A ts) (hx : Below w.heap.size w w') : TW w' lo A ts := fun h0 => by
  obtain ⟨b, off, t, cs, e, hl, hb, hc⟩ := h h0
  exact ⟨b, off, t, cs, e, hl, hb.below hx hb.lt, hc⟩
theorem TW.low {w : World} {lo lo' : Nat} {A : Option Addr} {ts : List Tl} (h : TW w lo A ts) (hl : lo' ≤ lo) : TW w lo' A ts := fun h0 => by
  obtain ⟨b, off, t, cs, e, hl', hb, hc⟩ := h h0
  exact ⟨b, off, t, cs, e, by omega, hb, hc⟩

theorem ext_of_same {w : World} : Below w.heap.size w w := Below.refl _ _

theorem run_make_rowN {P : Program} (t e : TypeId) (i : TypeInfo) (z : Value) (ht : P.underlying t = some (.slice e)) (hi : P.info? e = some i) (hz : i.zero = some z)
    (kl kc : IntKind) (n c : Nat) (hnc : n ≤ c) (hbytes : i.bytes * c ≤ 281474976710656) (h63 : c ≤ 9223372036854775807) (w : World) :
    (Instr.makeSlice t (.int kl (n : Int)) (.int kc (c : Int))).run P w = .ok (.slice (some ⟨w.heap.size, 0, none⟩) n c) (w.alloc (.cells (madeCells z.cells (c * i.size)) e)) := by
  have hb : (i.bytes : Int) * (c : Int) ≤ 281474976710656 := by
    have h : ((i.bytes * c : Nat) : Int) ≤ 281474976710656 := by omega
    rwa [Int.natCast_mul] at h
  have hr := run_make (P := P) w t e i z ht hi hz kl kc n c (by omega) (by omega) hb (by omega)
  simp only [Int.toNat_natCast] at hr
  exact hr

/-- What the loop of a slice that is copied tile by tile knows: of the call's own block g the first k tiles are done. -/
def Copied (w0 wr : World) (g n k : Nat) (ts : List Tl) : Prop :=
  ∃ cs t, Blk wr g t cs ∧ cs.size = n * 4 ∧ w0.heap.size ≤ g ∧ Below w0.heap.size w0 wr ∧ ∀ j, j < k → At4 cs (j * 4) (ts.getD j T0)
theorem Copied.start (w : World) (n : Nat) (t : TypeId) (cs : Array Value) (h : cs.size = n * 4) (ts : List Tl) : Copied w (w.alloc (.cells cs t)) w.heap.size n 0 ts :=
  ⟨cs, t, Blk.new _ _ _, h, Nat.le_refl _, (Below.refl _ _).alloc (Nat.le_refl _) _, fun j hj => absurd hj (Nat.not_lt_zero _)⟩
theorem Copied.ext {w0 wr w' : World} {g n k : Nat} {ts : List Tl} (h : Copied w0 wr g n k ts) (hx : Ext wr w') : Copied w0 w' g n k ts := by
  obtain ⟨cs, t, hb, hs, hg, hbe, hc⟩ := h
  exact ⟨cs, t, hb.ext hx, hs, hg, hbe.trans (hx.below hbe.size), hc⟩
theorem Copied.step {w0 wr : World} {g n k : Nat} {ts : List Tl} {x : Tl} (h : Copied w0 wr g n k ts) (hk : k < n) (hx : x = ts.getD k T0) :
    Copied w0 ((((wr.setCell ⟨g, k * 4, none⟩ (.int .i64 x.1)).setCell ⟨g, k * 4 + 1, none⟩ (.int .i64 x.2.1)).setCell ⟨g, k * 4 + 2, none⟩ (.int .i64 x.2.2.1)).setCell ⟨g, k * 4 + 3, none⟩ (.int .i64 x.2.2.2)) g n (k + 1) ts := by
  obtain ⟨cs, t, hb, hs, hg, hbe, hc⟩ := h
  refine ⟨put4 cs (k * 4) x, t, hb.put4_ _ _, by rw [put4_size, hs], hg, (((hbe.setCell hg _).setCell hg _).setCell hg _).setCell hg _, fun j hj => ?_⟩
  by_cases hjk : j = k
  · subst hjk
    rw [← hx]
    exact put4_at _ _ _ (by omega)
  · exact (hc j (by omega)).put4_ (by omega)
/-- The cells that the round's store asks for. -/
theorem Copied.room {w0 wr : World} {g n k : Nat} {ts : List Tl} (h : Copied w0 wr g n k ts) (hk : k < n) :
    ∃ v0 v1 v2 v3, wr.cell? ⟨g, k * 4, none⟩ = some v0 ∧ wr.cell? ⟨g, k * 4 + 1, none⟩ = some v1 ∧ wr.cell? ⟨g, k * 4 + 2, none⟩ = some v2 ∧ wr.cell? ⟨g, k * 4 + 3, none⟩ = some v3 ∧
      wr.frozen? ⟨g, k * 4, none⟩ = false ∧ wr.frozen? ⟨g, k * 4 + 1, none⟩ = false ∧ wr.frozen? ⟨g, k * 4 + 2, none⟩ = false ∧ wr.frozen? ⟨g, k * 4 + 3, none⟩ = false := by
  obtain ⟨cs, t, hb, hs, hg, hbe, hc⟩ := h
  exact ⟨cs[k * 4]'(by omega), cs[k * 4 + 1]'(by omega), cs[k * 4 + 2]'(by omega), cs[k * 4 + 3]'(by omega), by rw [hb.cell]; simp, by rw [hb.cell]; simp, by rw [hb.cell]; simp, by rw [hb.cell]; simp, hb.frozen _, hb.frozen _, hb.frozen _, hb.frozen _⟩
theorem Copied.done {w0 wr : World} {g n : Nat} {ts : List Tl} (h : Copied w0 wr g n n ts) (hl : ts.length = n) : Below w0.heap.size w0 wr ∧ TW wr w0.heap.size (some ⟨g, 0, none⟩) ts := by
  obtain ⟨cs, t, hb, hs, hg, hbe, hc⟩ := h
  exact ⟨hbe, fun _ => ⟨g, 0, t, cs, rfl, hg, hb, fun k hk => by simpa using hc k (by omega)⟩⟩
theorem Copied.below {w0 wr : World} {g n k : Nat} {ts : List Tl} (h : Copied w0 wr g n k ts) : Below w0.heap.size w0 wr := by
  obtain ⟨cs, t, hb, hs, hg, hbe, hc⟩ := h
  exact hbe
end

section
set_option linter.unusedVariables false
set_option linter.unusedSimpArgs false
open Go.RowKit Go.Sort

set_option maxRecDepth 100000 in
set_option maxHeartbeats 400000 in
theorem toTile_any (a : Tl) (w : World) : Calls Try.prog 96 #[tv a] w fun e w' => e = .returned (tv a) ∧ Ext w w' := by
  obtain ⟨a0, a1, a2, a3⟩ := a
  unfold tv
  go_enter Try.func96, Try.ntmps96
  go_wp2_with fail
  refine wp_loop_rounds 5 ?_
  rw [rounds_succ]
  go_wp2
  rw [rounds_succ]
  go_wp2
  rw [rounds_succ]
  go_wp2
  rw [rounds_succ]
  go_wp2
  rw [rounds_succ]
  go_wp2
  go_returns
  exact ⟨rfl, by repeat (first | exact Ext.refl _ | refine Ext.drewN ?_ _ | refine Ext.alloc ?_ _ | refine Ext.drew ?_)⟩

theorem szTileS_any (A : Option Addr) (n c : Nat) (left : Int) (w : World) (hn : n ≤ 9223372036854775807) (h1 : 0 ≤ left) (h2 : left ≤ 1048576) :
    Calls Try.prog 51 #[.slice A n c, .int .i64 left] w fun e w' => e = .returned (.int .i64 (if left < n then -1 else left - n)) ∧ Ext w w' := by
  go_enter Try.func51, Try.ntmps51
  by_cases hl : left < n
  · have hl' : left - (n : Int) < 0 := by omega
    go_wp2_with fail
    go_ret
    exact ⟨ret_i (by simp [hl]), Ext.refl _⟩
  · have hl' : ¬ left - (n : Int) < 0 := by omega
    go_wp2_with fail
    go_ret
    exact ⟨ret_i (by simp [hl]), Ext.refl _⟩

theorem szSet_any (c0 : Int) (A : Option Addr) (n c : Nat) (left : Int) (w : World) (hn : n ≤ 9223372036854775807) (h1 : 0 ≤ left) (h2 : left ≤ 1048576) :
    Calls Try.prog 16 #[.agg #[.int .i64 c0, .slice A n c], .int .i64 left] w fun e w' => e = .returned (.int .i64 (if left < n then -1 else left - n)) ∧ Ext w w' := by
  have hcon : ∀ W, Calls Try.prog 51 #[.slice A n c, .int .i64 left] W _ := fun W => szTileS_any A n c left W hn h1 h2
  go_enter Try.func16, Try.ntmps16
  by_cases hl : left < n
  · simp only [if_pos hl] at hcon
    go_wp2_with fail
    refine (hcon _).mono ?_
    rintro e w' ⟨rfl, hx⟩
    have HX := Lib.hid hx
    clear hx
    go_wp2_with fail
    go_ret
    exact ⟨ret_i (by simp [hl]), ((Ext.refl w).alloc _).trans HX.out⟩
  · have hl' : ¬ left - (n : Int) < 0 := by omega
    simp only [if_neg hl] at hcon
    go_wp2_with fail
    refine (hcon _).mono ?_
    rintro e w' ⟨rfl, hx⟩
    have HX := Lib.hid hx
    clear hx
    go_wp2_with fail
    go_ret
    exact ⟨ret_i (by simp [hl]), ((Ext.refl w).alloc _).trans HX.out⟩

theorem info_tile : (Try.prog.info? 69).map (fun i => (i.zero, i.size, i.bytes)) = some (some (.agg #[.int .i64 0, .int .i64 0, .int .i64 0, .int .i64 0]), 4, 32) := by kernel_rfl

set_option maxRecDepth 100000 in
set_option maxHeartbeats 400000 in
theorem toTileS_any (A : Option Addr) (n c : Nat) (ts : List Tl) (w : World) (hn : n ≤ 1048576) (hl : ts.length = n) (hA : TR w w.heap.size A ts) :
    Calls Try.prog 53 #[.slice A n c] w fun e w' => ∃ A', e = .returned (.slice A' n n) ∧ Below w.heap.size w w' ∧ TW w' w.heap.size A' ts := by
  obtain ⟨i0, hi, hz0, hz1, hz2⟩ := info_parts info_tile
  have hmk := fun W => run_make_rowN (P := Try.prog) 28 69 i0 _ (by kernel_rfl) hi hz0 .i64 .i64 n n (Nat.le_refl _) (by rw [hz2]; omega) (by omega) W
  rw [hz1] at hmk
  generalize hcs : madeCells (Value.cells (.agg #[.int .i64 0, .int .i64 0, .int .i64 0, .int .i64 0])) (n * 4) = cs0 at hmk
  have hsz : cs0.size = n * 4 := by rw [← hcs, size_madeCells]
  clear hcs hi hz0 hz1 hz2
  have HS := Lib.hid hsz
  clear hsz
  go_enter Try.func53, Try.ntmps53
  go_wp2_with fail
  go_loopw [4] (fun i wr => ∃ k : Nat, k ≤ n ∧ i = .int .i64 k ∧ Copied w wr w.heap.size n k ts) (fun i _ => n - (intOf i).toNat)
  case atStart => exact ⟨0, Nat.zero_le _, rfl, Copied.start w n _ cs0 HS.out ts⟩
  case round =>
    clear hmk
    obtain ⟨k, hk, rfl, hx⟩ := hrel
    have HX := Lib.hid hx
    by_cases hlt : k < n
    · obtain ⟨b, off, rfl, -, hc⟩ := (hA.below hx.below (Nat.le_refl _)) (by omega)
      have hc := hc k (by omega)
      clear hx hA
      obtain ⟨⟨x0, x1, x2, x3⟩, hX⟩ : ∃ x, x = ts.getD k T0 := ⟨_, rfl⟩
      rw [← hX] at hc
      have EX := Lib.hid hX
      clear hX
      obtain ⟨c0, c1, c2, c3⟩ := hc
      simp only at c0 c1 c2 c3
      go_wp2_with fail
      refine (toTile_any (x0, x1, x2, x3) _).mono ?_
      rintro e w1 ⟨rfl, he⟩
      unfold tv
      have HE := HX.out.ext he
      obtain ⟨v0, v1, v2, v3, r0, r1, r2, r3, z0, z1, z2, z3⟩ := HE.room hlt
      have HN := Lib.hid HE
      clear HE he HX c0 c1 c2 c3
      go_wp2_with fail
      go_roundw
      case rel => exact ⟨k + 1, by omega, by go_num, HN.out.step (x := (x0, x1, x2, x3)) hlt EX.out⟩
      case measure => simp [intOf]; omega
    · clear hx hA
      go_wp2_with fail
      go_ret
      obtain rfl : k = n := by omega
      have := HX.out.done hl
      exact ⟨_, rfl, this.1, this.2⟩

theorem TW.far {w : World} {lo : Nat} {A : Option Addr} {ts : List Tl} (h : TW w lo A ts) {p : Addr} (hp : p.block < lo) (u : Value) : TW (w.setCell p u) lo A ts := fun h0 => by
  obtain ⟨b, off, t, cs, e, hl', hb, hc⟩ := h h0
  exact ⟨b, off, t, cs, e, hl', hb.far (by omega) u, hc⟩
theorem bcell {W w1 : World} (hb : Below W.heap.size W w1) : (∀ b o, b < W.heap.size → w1.cell? ⟨b, o, none⟩ = W.cell? ⟨b, o, none⟩) ∧ (∀ b o, b < W.heap.size → w1.frozen? ⟨b, o, none⟩ = W.frozen? ⟨b, o, none⟩) :=
  ⟨fun b o h => hb.cell (p := ⟨b, o, none⟩) h, fun b o h => hb.frozen (p := ⟨b, o, none⟩) h⟩

set_option maxHeartbeats 400000 in
theorem toSet_any (c0 : Int) (A : Option Addr) (n c : Nat) (ts : List Tl) (w : World) (hn : n ≤ 1048576) (hl : ts.length = n) (hA : TR w w.heap.size A ts) :
    Calls Try.prog 18 #[.agg #[.int .i64 c0, .slice A n c]] w fun e w' => ∃ A', e = .returned (.agg #[.int .i64 c0, .slice A' n n]) ∧ Below w.heap.size w w' ∧ TW w' w.heap.size A' ts := by
  have hcon : ∀ W, Ext w W → Calls Try.prog 53 #[.slice A n c] W _ := fun W hW => toTileS_any A n c ts W hn hl ((hA.ext hW (Nat.le_refl _)).more (hW.below (Nat.le_refl _)).size)
  have HC := Lib.hid hcon
  clear hcon hA
  go_enter Try.func18, Try.ntmps18
  go_wp2_with fail
  refine (HC.out _ ?_).mono ?_
  · repeat (first | exact Ext.refl _ | refine Ext.drewN ?_ _ | refine Ext.alloc ?_ _ | refine Ext.drew ?_)
  rintro e w1 ⟨A', rfl, hb, hw⟩
  have HB := Lib.hid hb
  have HW := Lib.hid hw
  clear hw
  obtain ⟨hc, hf⟩ := bcell hb
  have hz : w.heap.size + 2 < w1.heap.size := by have := hb.size; simp at this; omega
  clear hb
  go_wp2_with fail
  refine bodyPost_ret (v := .agg #[.int .i64 c0, .slice A' n n]) (by simp [results, Try.results18, go_sem, hc, hz]) rfl ⟨A', rfl, ?_, ?_⟩
  · have h0 : Below w.heap.size w w1 := ((((Below.refl w.heap.size w).alloc (Nat.le_refl _) _).alloc (by simp) _).alloc (by simp; omega) _).trans (HB.out.mono (by simp; omega))
    exact ((h0.setCell (by simp; omega) _).setCell (by simp) _).setCell (by simp) _
  · have h0 : TW w1 (w.heap.size + 1 + 1 + 1) A' ts := by simpa using HW.out
    exact (((h0.far (by simp) _).far (by simp) _).far (by simp) _).low (by omega)
end
end Go.Proofs.Ytleabblnikbmpaa
