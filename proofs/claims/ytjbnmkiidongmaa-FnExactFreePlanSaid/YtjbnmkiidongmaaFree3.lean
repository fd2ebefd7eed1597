/- Plans with -1 alone, on both sides. -/
import Derived.Test.YtjbnmkiidongmaaFree2
namespace Go.Proofs.Ytjbnmkiidongmaa
set_option linter.unusedVariables false
set_option linter.unusedSimpArgs false
open Go.RowKit Go.Sort

theorem isPlanSide_any (n : Int) (w : World) : Calls Try.prog 61 #[.int .i64 n] w fun e w' => e = .returned (.bool (decide (1 ≤ n ∧ n ≤ 5))) ∧ w = w' := by
  go_enter Try.func61, Try.ntmps61
  by_cases h1 : 1 ≤ n <;> by_cases h2 : n ≤ 5 <;> go_wp2 <;> go_ret <;> exact ⟨by simp [h1, h2], rfl⟩

/-- What FreePlan hands back. -/
def planOk (a b : Int) : Bool := decide (1 ≤ a ∧ a ≤ 5) && decide (1 ≤ b ∧ b ≤ 5)
def freeV (a b : Int) : List (List Int) := if planOk a b = true then freeRows a.toNat b.toNat else []
def freeC (a b : Int) : Int := if planOk a b = true then 0 else 2

set_option maxRecDepth 100000 in
set_option maxHeartbeats 1000000 in
theorem specFree_any (a b : Int) (w : World) :
    Calls Try.prog 15 #[.int .i64 a, .int .i64 b] w fun e w' => ∃ R p, e = .returned (.tuple #[.slice R (freeV a b).length p, .int .i64 (freeC a b)]) ∧ Below w.heap.size w w' ∧ IWW w' w.heap.size w'.heap.size R (freeV a b) := by
  by_cases ha : 1 ≤ a ∧ a ≤ 5
  · by_cases hb : 1 ≤ b ∧ b ≤ 5
    · obtain ⟨h, rfl⟩ : ∃ h : Nat, a = (h : Int) := ⟨a.toNat, by omega⟩
      obtain ⟨m, rfl⟩ : ∃ m : Nat, b = (m : Int) := ⟨b.toNat, by omega⟩
      have hok : planOk (h : Int) (m : Int) = true := by simp [planOk]; omega
      have e1 : (freeV (h : Int) (m : Int)) = freeRows h m := by simp [freeV, hok]
      have e2 : (freeC (h : Int) (m : Int)) = 0 := by simp [freeC, hok]
      rw [e1, e2, freeRows_len]
      have hcon := l03Free_any h m w (by omega) (by omega)
      have d1 : decide (1 ≤ (h : Int) ∧ (h : Int) ≤ 5) = true := decide_eq_true ha
      have d2 : decide (1 ≤ (m : Int) ∧ (m : Int) ≤ 5) = true := decide_eq_true hb
      have i1 := fun W => l01In_any (h : Int) 1 5 W
      have i2 := fun W => l01In_any (m : Int) 1 5 W
      rw [d1] at i1
      rw [d2] at i2
      have HC := Lib.hid hcon
      clear hcon d1 d2 e1 e2 hok ha hb
      go_enter Try.func15, Try.ntmps15
      go_wp2_with (first | (go_at_call 59; with_reducible refine (i1 _).mono ?_; rintro e w' ⟨rfl, rfl⟩) | (go_at_call 59; with_reducible refine (i2 _).mono ?_; rintro e w' ⟨rfl, rfl⟩))
      refine HC.out.mono ?_
      rintro e w1 ⟨A, cap, rfl, hb, hw⟩
      have HB := Lib.hid (And.intro hb hw)
      clear hb hw
      go_wp2_with fail
      go_ret2
      exact ⟨A, cap, rfl, HB.out.1, HB.out.2⟩
    · have hok : planOk a b = false := by simp [planOk]; omega
      have e1 : (freeV a b) = [] := by simp [freeV, hok]
      have e2 : (freeC a b) = 2 := by simp [freeC, hok]
      rw [e1, e2]
      have d1 : decide (1 ≤ a ∧ a ≤ 5) = true := decide_eq_true ha
      have d2 : decide (1 ≤ b ∧ b ≤ 5) = false := decide_eq_false hb
      have i1 := fun W => l01In_any a 1 5 W
      have i2 := fun W => l01In_any b 1 5 W
      rw [d1] at i1
      rw [d2] at i2
      clear d1 d2 e1 e2 hok ha hb
      go_enter Try.func15, Try.ntmps15
      go_wp2_with (first | (go_at_call 59; with_reducible refine (i1 _).mono ?_; rintro e w' ⟨rfl, rfl⟩) | (go_at_call 59; with_reducible refine (i2 _).mono ?_; rintro e w' ⟨rfl, rfl⟩))
      go_ret2
      exact ⟨none, 0, rfl, Below.refl _ _, fun h => absurd h (by simp)⟩
  · have hok : planOk a b = false := by simp [planOk]; omega
    have e1 : (freeV a b) = [] := by simp [freeV, hok]
    have e2 : (freeC a b) = 2 := by simp [freeC, hok]
    rw [e1, e2]
    have d1 : decide (1 ≤ a ∧ a ≤ 5) = false := decide_eq_false ha
    have i1 := fun W => l01In_any a 1 5 W
    rw [d1] at i1
    clear d1 e1 e2 hok ha
    go_enter Try.func15, Try.ntmps15
    go_wp2_with (go_at_call 59; with_reducible refine (i1 _).mono ?_; rintro e w' ⟨rfl, rfl⟩)
    go_ret2
    exact ⟨none, 0, rfl, Below.refl _ _, fun h => absurd h (by simp)⟩

set_option maxRecDepth 100000 in
set_option maxHeartbeats 1000000 in
theorem implFree_any (a b : Int) (w : World) :
    Calls Try.prog 16 #[.int .i64 a, .int .i64 b] w fun e w' => ∃ R p, e = .returned (.tuple #[.slice R (freeV a b).length p, .int .i64 (freeC a b)]) ∧ Below w.heap.size w w' ∧ IWW w' w.heap.size w'.heap.size R (freeV a b) := by
  by_cases ha : 1 ≤ a ∧ a ≤ 5
  · by_cases hb : 1 ≤ b ∧ b ≤ 5
    · obtain ⟨h, rfl⟩ : ∃ h : Nat, a = (h : Int) := ⟨a.toNat, by omega⟩
      obtain ⟨m, rfl⟩ : ∃ m : Nat, b = (m : Int) := ⟨b.toNat, by omega⟩
      have hok : planOk (h : Int) (m : Int) = true := by simp [planOk]; omega
      have e1 : (freeV (h : Int) (m : Int)) = freeRows h m := by simp [freeV, hok]
      have e2 : (freeC (h : Int) (m : Int)) = 0 := by simp [freeC, hok]
      rw [e1, e2, freeRows_len]
      obtain ⟨i0, hi, hz0, hz1, hz2⟩ := info_parts info_row
      have hmk := fun W => run_make_rowN (P := Try.prog) 22 41 i0 _ (by kernel_rfl) hi hz0 .i64 .i64 h h (Nat.le_refl _) (by rw [hz2]; omega) (by omega) W
      rw [hz1] at hmk
      generalize hcs : madeCells (Value.cells (.slice none 0 0)) (h * 1) = cs0 at hmk
      have hsz : cs0.size = h := by rw [← hcs, size_madeCells, Nat.mul_one]
      have hw1 : IntKind.i64.wrap (h : Int) = h := IntWalk.i64_in _ (by omega)
      have hw2 : IntKind.i64.wrap (m : Int) = m := IntWalk.i64_in _ (by omega)
      clear hcs hi hz0 hz1 hz2
      have d1 : decide (1 ≤ (h : Int) ∧ (h : Int) ≤ 5) = true := decide_eq_true ha
      have d2 : decide (1 ≤ (m : Int) ∧ (m : Int) ≤ 5) = true := decide_eq_true hb
      have i1 := fun W => isPlanSide_any (h : Int) W
      have i2 := fun W => isPlanSide_any (m : Int) W
      rw [d1] at i1
      rw [d2] at i2
      have hh5 : h ≤ 5 := by omega
      have hm1 : 1 ≤ m := by omega
      have hm5 : m ≤ 5 := by omega
      have HS := Lib.hid hsz
      clear d1 d2 e1 e2 hok ha hb hsz
      go_enter Try.func16, Try.ntmps16
      go_wp2_with (first | (go_at_call 61; with_reducible refine (i1 _).mono ?_; rintro e w' ⟨rfl, rfl⟩) | (go_at_call 61; with_reducible refine (i2 _).mono ?_; rintro e w' ⟨rfl, rfl⟩))
      clear i1 i2 hmk
      go_loopw [20] (fun i wr => ∃ k : Nat, k ≤ h ∧ i = .int .i64 k ∧ RCopied w wr w.heap.size h k (freeRows h m)) (fun i _ => h - (intOf i).toNat)
      case atStart => exact ⟨0, Nat.zero_le _, rfl, RCopied.start w h _ cs0 HS.out (freeRows h m)⟩
      case round =>
        obtain ⟨k, hk, rfl, hx⟩ := hrel
        have HX := Lib.hid hx
        clear hx
        by_cases hlt : k < h
        · have e0 := (Blk.new wr 2 #[.int .i64 (-1)]).rd 0 rfl
          have hcon := Lib.hid (repeat_any wr.heap.size 0 m (wr.alloc (.cells #[.int .i64 (-1)] 2)) hm1 hm5 e0)
          clear e0
          go_wp2_with fail
          refine hcon.out.mono ?_
          rintro e w1 ⟨A, rfl, hb, hw⟩
          have hbw : Below wr.heap.size wr w1 := ((Below.refl _ _).alloc (Nat.le_refl _) _).trans (hb.mono (by simp))
          have hw' : IWr w1 wr.heap.size w1.heap.size A ((freeRows h m).getD k []) := by rw [freeRows_at hlt]; exact hw.low (by simp)
          obtain ⟨v0, r0, z0⟩ := HX.out.room hlt hbw
          have H1 := Lib.hid (HX.out.step hlt (by rw [freeRows_at hlt]; simp) (Nat.le_refl m) hbw hw')
          clear hb hw hbw hw' hcon HX
          go_wp2_with fail
          go_roundw
          case rel => exact ⟨k + 1, by omega, by go_num, H1.out⟩
          case measure => simp [intOf]; omega
        · obtain rfl : k = h := by omega
          go_wp2_with fail
          go_ret2
          have := HX.out.done (freeRows_len k m)
          exact ⟨_, _, rfl, this.1, this.2⟩
    · have hok : planOk a b = false := by simp [planOk]; omega
      have e1 : (freeV a b) = [] := by simp [freeV, hok]
      have e2 : (freeC a b) = 2 := by simp [freeC, hok]
      rw [e1, e2]
      have d1 : decide (1 ≤ a ∧ a ≤ 5) = true := decide_eq_true ha
      have d2 : decide (1 ≤ b ∧ b ≤ 5) = false := decide_eq_false hb
      have i1 := fun W => isPlanSide_any a W
      have i2 := fun W => isPlanSide_any b W
      rw [d1] at i1
      rw [d2] at i2
      clear d1 d2 e1 e2 hok ha hb
      go_enter Try.func16, Try.ntmps16
      go_wp2_with (first | (go_at_call 61; with_reducible refine (i1 _).mono ?_; rintro e w' ⟨rfl, rfl⟩) | (go_at_call 61; with_reducible refine (i2 _).mono ?_; rintro e w' ⟨rfl, rfl⟩))
      go_ret2
      exact ⟨none, 0, rfl, Below.refl _ _, fun h => absurd h (by simp)⟩
  · have hok : planOk a b = false := by simp [planOk]; omega
    have e1 : (freeV a b) = [] := by simp [freeV, hok]
    have e2 : (freeC a b) = 2 := by simp [freeC, hok]
    rw [e1, e2]
    have d1 : decide (1 ≤ a ∧ a ≤ 5) = false := decide_eq_false ha
    have i1 := fun W => isPlanSide_any a W
    rw [d1] at i1
    clear d1 e1 e2 hok ha
    go_enter Try.func16, Try.ntmps16
    go_wp2_with (go_at_call 61; with_reducible refine (i1 _).mono ?_; rintro e w' ⟨rfl, rfl⟩)
    go_ret2
    exact ⟨none, 0, rfl, Below.refl _ _, fun h => absurd h (by simp)⟩
theorem need_free (a b : Int) : need (freeV a b) ≤ 65536 := by
  unfold freeV
  split
  · rename_i h
    simp only [planOk, Bool.and_eq_true, decide_eq_true_eq] at h
    have key : ∀ h m k : Nat, k ≤ h → pre (freeRows h m) k = k * m := by
      intro h m k
      induction k with
      | zero => intro _; simp [pre]
      | succ k ih => intro hk; rw [pre_succ (by rw [freeRows_len]; omega), ih (by omega), freeRows_at (by omega), List.length_replicate, Nat.succ_mul]
    unfold need
    rw [freeRows_len, key _ _ _ (Nat.le_refl _)]
    have h1 : a.toNat ≤ 5 := by omega
    have h2 : b.toNat ≤ 5 := by omega
    have := Nat.mul_le_mul h1 h2
    omega
  · simp [need, pre]
end Go.Proofs.Ytjbnmkiidongmaa
