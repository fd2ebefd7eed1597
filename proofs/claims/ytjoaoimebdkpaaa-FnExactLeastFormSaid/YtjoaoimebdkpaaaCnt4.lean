/- The model's counts of rows: the small functions. -/
import Derived.Test.YtjoaoimebdkpaaaCnt2
import Derived.Test.YtjoaoimebdkpaaaAppI
import Derived.Laws.OwnMore
namespace Go.Proofs.Ytjoaoimebdkpaaa
set_option linter.unusedVariables false
set_option linter.unusedSimpArgs false
open Go.RowKit Go.Sort

/-- A list of the first C values. -/
def fl (C : Nat) (f : Nat → Int) : List Int := (List.range C).map f
theorem fl_len (C : Nat) (f : Nat → Int) : (fl C f).length = C := by simp [fl]
theorem fl_at {C : Nat} {f : Nat → Int} {e : Nat} (h : e < C) : (fl C f).getD e 0 = f e := by simp [fl, List.getD, h]
theorem fl_take {C : Nat} {f : Nat → Int} {k : Nat} (h : k ≤ C) : (fl C f).take k = fl k f := by
  simp [fl, ← List.map_take, List.take_range, Nat.min_eq_left h]
theorem reads_of_ir {w : World} {B n : Nat} {A : Option Addr} {xs : List Int} (h : IR w B A xs) (hl : xs.length = n) : Reads w B 1 A n (vis xs) := by
  refine ⟨by rw [vis_len, hl, Nat.mul_one], fun hn => ?_⟩
  obtain ⟨b, off, rfl, hb, hc⟩ := h (by omega)
  refine ⟨_, rfl, hb, fun j u hu => ?_⟩
  have hj : j < xs.length := by have := (List.getElem?_eq_some_iff.1 hu).1; rw [vis_len] at this; exact this
  have : (vis xs)[j]? = some (.int .i64 (xs.getD j 0)) := by simp [vis, vi, List.getD, hj]
  rw [this] at hu
  injection hu with hu
  rw [Go.WideShapes.add_plain, ← hu]
  exact hc j hj
theorem vis_one (xs : List Int) : ∀ u ∈ vis xs, u.oneCell' = true := by
  intro u hu
  obtain ⟨x, _, rfl⟩ := List.mem_map.1 hu
  rfl

set_option maxHeartbeats 1000000 in
theorem l01Own_any (A : Option Addr) (n c : Nat) (xs : List Int) (w : World) (hn : n ≤ 1048576) (hl : xs.length = n) (hA : IR w w.heap.size A xs) :
    Calls Try.prog 154 #[.slice A n c] w fun e w' => ∃ A' cap, e = .returned (.slice A' n cap) ∧ Below w.heap.size w w' ∧ IWr w' w.heap.size w'.heap.size A' xs := by
  obtain ⟨i0, hi, hz0, hz1, hz2⟩ := info_parts info_int
  have HI := Lib.hid (And.intro hi (And.intro hz0 (And.intro hz1 hz2)))
  clear hi hz0 hz1 hz2
  have HR := Lib.hid (reads_of_ir hA hl)
  clear hA
  have ho := Lib.hid (World.ownsRow_made (base := w.heap.size) (e := 2) (size := 1) w #[] 0 (Nat.le_refl _) (by unfold maxLen; omega) rfl)
  go_enter Try.func154, Try.ntmps154
  go_wp2_with (at_builtin; refine wpList_append_any _ rfl _ _ _ rfl w.heap.size 2 i0 _ 1 8 Try.underlying51 HI.out.1 HI.out.2.1 HI.out.2.2.1 HI.out.2.2.2 rfl (by decide) _ 0 [] rfl ho.out w.heap.size _ n _ (vis xs) rfl (HR.out.alloc (Nat.le_refl _) _) (vis_one _) ?c1 ?c2 ?c3 ?_)
  case c1 => unfold maxLen; omega
  case c2 => omega
  case c3 => simp
  intro v' w' hown hgrow _
  obtain ⟨A2, cap2, rfl, hcap, htw⟩ := own_iwr hown hl
  have HT := Lib.hid htw
  have HB := Lib.hid (((Below.refl w.heap.size w).alloc (Nat.le_refl _) (Obj.cells #[] 2)).grown hgrow (by simp) (fun j hj => (ho.out.lt j hj).1))
  clear htw hown hgrow
  go_wp2_with fail
  go_ret
  exact ⟨A2, cap2, rfl, HB.out, HT.out⟩

/-- The sum, at most 10^15 + 1. -/
def capSum (f : Nat → Int) : Nat → Int
  | 0 => 0
  | k + 1 => min (capSum f k + f k) 1000000000000001
theorem capSum_cap {f : Nat → Int} (h : Cap f) : ∀ k, 0 ≤ capSum f k ∧ capSum f k ≤ 1000000000000001
  | 0 => by unfold capSum; omega
  | k + 1 => by
    have := capSum_cap h k
    have := h k
    unfold capSum
    omega
set_option maxHeartbeats 1000000 in
theorem l02Total_any (A : Option Addr) (C c : Nat) (f : Nat → Int) (w : World) (hC : C ≤ 1048576) (hf : Cap f) (hA : IR w w.heap.size A (fl C f)) :
    Calls Try.prog 109 #[.slice A C c] w fun e w' => e = .returned (.int .i64 (capSum f C)) ∧ Below w.heap.size w w' := by
  go_enter Try.func109, Try.ntmps109
  go_wp2_with fail
  go_loop [3, 4] (fun s i => ∃ k : Nat, k ≤ C ∧ i = .int .i64 k ∧ s = .int .i64 (capSum f k)) (fun _ i => C - (intOf i).toNat)
  case atStart => exact ⟨0, Nat.zero_le _, rfl, rfl⟩
  case round =>
    obtain ⟨k, hk, rfl, rfl⟩ := hrel
    have h1 := capSum_cap hf k
    have h2 := hf k
    by_cases hlt : k < C
    · obtain ⟨b, o, rfl, -, hc⟩ := hA (by rw [fl_len]; omega)
      replace hc := hc k (by rw [fl_len]; omega)
      rw [fl_at hlt] at hc
      have hst : capSum f (k + 1) = min (capSum f k + f k) 1000000000000001 := rfl
      generalize capSum f k = s at h1 hst ⊢
      generalize f k = y at h2 hc hst
      have HST := Lib.hid hst
      clear hA hst
      go_wp2_with fail
      all_goals
        go_round
        case rel =>
          refine ⟨k + 1, by omega, by go_num, ?_⟩
          rw [HST.out, Int.min_def]
          first | rfl | (congr 1; split <;> omega) | (congr 1; (repeat' split) <;> omega)
        case measure => simp [intOf]; omega
    · clear hA
      go_wp2_with fail
      go_ret
      obtain rfl : k = C := by omega
      exact ⟨rfl, Below.refl _ _⟩
end Go.Proofs.Ytjoaoimebdkpaaa
