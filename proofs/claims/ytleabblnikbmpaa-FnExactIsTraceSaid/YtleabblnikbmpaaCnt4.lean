/- The model's counts of rows: the small functions. -/
import Derived.Test.YtleabblnikbmpaaCnt2
import Derived.Test.YtleabblnikbmpaaAppI
import Derived.Laws.OwnMore
namespace Go.Proofs.Ytleabblnikbmpaa
set_option linter.unusedVariables false
set_option linter.unusedSimpArgs false
open Go.RowKit Go.Sort

/-- A list of the first C values. -/
def fl (C : Nat) (f : Nat → Int) : List Int := (List.range C).map f
theorem fl_len (C : Nat) (f : Nat → Int) : (fl C f).length = C := by simp [fl]
theorem fl_at {C : Nat} {f : Nat → Int} {e : Nat} (h : e < C) : (fl C f).getD e 0 = f e := by simp [fl, List.getD, h]
theorem fl_take {C : Nat} {f : Nat → Int} {k : Nat} (h : k ≤ C) : (fl C f).take k = fl k f := by
  simp [fl, ← List.map_take, List.take_range, Nat.min_eq_left h]
theorem reads_of_ir {w : World} {B n : Nat} {A : Option Addr} {xs : List Int} (h : IR w B A xs) (hl : xs.length = n) : Reads w B 1 A n (vis xs) := by
  refine ⟨by rw [vis_len, hl, Nat.mul_one], fun hn => ?_⟩
  obtain ⟨b, off, rfl, hb, hc⟩ := h (by omega)
  refine ⟨_, rfl, hb, fun j u hu => ?_⟩
  have hj : j < xs.length := by have := (List.getElem?_eq_some_iff.1 hu).1; rw [vis_len] at this; exact this
  have : (vis xs)[j]? = some (.int .i64 (xs.getD j 0)) := by simp [vis, vi, List.getD, hj]
  rw [this] at hu
  injection hu with hu
  rw [Go.WideShapes.add_plain, ← hu]
  exact hc j hj
theorem vis_one (xs : List Int) : ∀ u ∈ vis xs, u.oneCell' = true := by
  intro u hu
  obtain ⟨x, _, rfl⟩ := List.mem_map.1 hu
  rfl

set_option maxHeartbeats 1000000 in
theorem l01Own_any (A : Option Addr) (n c : Nat) (xs : List Int) (w : World) (hn : n ≤ 1048576) (hl : xs.length = n) (hA : IR w w.heap.size A xs) :
    Calls Try.prog 84 #[.slice A n c] w fun e w' => ∃ A' cap, e = .returned (.slice A' n cap) ∧ Below w.heap.size w w' ∧ IWr w' w.heap.size w'.heap.size A' xs := by
  obtain ⟨i0, hi, hz0, hz1, hz2⟩ := info_parts info_int
  have HI := Lib.hid (And.intro hi (And.intro hz0 (And.intro hz1 hz2)))
  clear hi hz0 hz1 hz2
  have HR := Lib.hid (reads_of_ir hA hl)
  clear hA
  have ho := Lib.hid (World.ownsRow_made (base := w.heap.size) (e := 2) (size := 1) w #[] 0 (Nat.le_refl _) (by unfold maxLen; omega) rfl)
  go_enter Try.func84, Try.ntmps84
  go_wp2_with (at_builtin; refine wpList_append_any _ rfl _ _ _ rfl w.heap.size 2 i0 _ 1 8 Try.underlying42 HI.out.1 HI.out.2.1 HI.out.2.2.1 HI.out.2.2.2 rfl (by decide) _ 0 [] rfl ho.out w.heap.size _ n _ (vis xs) rfl (HR.out.alloc (Nat.le_refl _) _) (vis_one _) ?c1 ?c2 ?c3 ?_)
  case c1 => unfold maxLen; omega
  case c2 => omega
  case c3 => simp
  intro v' w' hown hgrow _
  obtain ⟨A2, cap2, rfl, hcap, htw⟩ := own_iwr hown hl
  have HT := Lib.hid htw
  have HB := Lib.hid (((Below.refl w.heap.size w).alloc (Nat.le_refl _) (Obj.cells #[] 2)).grown hgrow (by simp) (fun j hj => (ho.out.lt j hj).1))
  clear htw hown hgrow
  go_wp2_with fail
  go_ret
  exact ⟨A2, cap2, rfl, HB.out, HT.out⟩

/-- The sum, at most 10^15 + 1. -/
def capSum (f : Nat → Int) : Nat → Int
  | 0 => 0
  | k + 1 => min (capSum f k + f k) 1000000000000001
theorem capSum_cap {f : Nat → Int} (h : Cap f) : ∀ k, 0 ≤ capSum f k ∧ capSum f k ≤ 1000000000000001
  | 0 => by unfold capSum; omega
  | k + 1 => by
    have := capSum_cap h k
    have := h k
    unfold capSum
    omega
end Go.Proofs.Ytleabblnikbmpaa
