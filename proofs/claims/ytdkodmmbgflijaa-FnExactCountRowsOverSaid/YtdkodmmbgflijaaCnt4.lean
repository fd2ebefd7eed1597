/- The model's counts of rows: the small functions. -/
import Derived.Test.YtdkodmmbgflijaaCnt2
import Derived.Test.YtdkodmmbgflijaaAppI
import Derived.Laws.OwnMore
namespace Go.Proofs.Ytdkodmmbgflijaa
set_option linter.unusedVariables false
set_option linter.unusedSimpArgs false
open Go.RowKit Go.Sort

theorem l02Long_any (c0 : Int) (A : Option Addr) (n c : Nat) (ts : List Tl) (i : Int) (w : World) (hn : n ≤ 1048576) (hl : ts.length = n) (hA : TR w w.heap.size A ts) :
    Calls Try.prog 79 #[.agg #[.int .i64 c0, .slice A n c], .int .i64 i] w fun e w' => e = .returned (.int .i64 (lenCode c0 ts i)) ∧ Ext w w' := by
  have his : ∀ W, Ext w W → Calls Try.prog 52 #[.agg #[.int .i64 c0, .slice A n c]] W _ := fun W hW => l01Is_any c0 A n c ts W (by omega) hl ((hA.ext hW (Nat.le_refl _)).more (hW.below (Nat.le_refl _)).size)
  have HI := Lib.hid his
  clear his hA
  have hlc := fun W => l01In_any i 1 40 W
  unfold lenCode
  generalize isSet c0 ts = s at HI ⊢
  cases s with
  | false =>
    clear hlc
    go_enter Try.func79, Try.ntmps79
    go_wp2_with fail
    refine (HI.out _ ((Ext.refl w).alloc _)).mono ?_
    rintro e w1 ⟨rfl, hx⟩
    have HX := Lib.hid (((Ext.refl w).alloc _).trans hx)
    clear hx
    go_wp2_with fail
    go_ret
    exact ⟨ret_i (by simp), HX.out⟩
  | true =>
    by_cases h1 : 1 ≤ i ∧ i ≤ 40
    · rw [decide_eq_true h1] at hlc
      go_enter Try.func79, Try.ntmps79
      go_wp2_with fail
      refine (HI.out _ ((Ext.refl w).alloc _)).mono ?_
      rintro e w1 ⟨rfl, hx⟩
      have HX := Lib.hid (((Ext.refl w).alloc _).trans hx)
      clear hx
      go_wp2_with fail
      refine (hlc _).mono ?_
      rintro e w' ⟨rfl, rfl⟩
      go_wp2_with fail
      go_ret
      exact ⟨ret_i (by first | rfl | (rw [if_pos rfl, if_pos h1])), HX.out⟩
    · rw [decide_eq_false h1] at hlc
      go_enter Try.func79, Try.ntmps79
      go_wp2_with fail
      refine (HI.out _ ((Ext.refl w).alloc _)).mono ?_
      rintro e w1 ⟨rfl, hx⟩
      have HX := Lib.hid (((Ext.refl w).alloc _).trans hx)
      clear hx
      go_wp2_with fail
      refine (hlc _).mono ?_
      rintro e w' ⟨rfl, rfl⟩
      go_wp2_with fail
      go_ret
      exact ⟨ret_i (by first | rfl | (rw [if_pos rfl, if_neg h1])), HX.out⟩

theorem l02Told_any (n : Int) (w : World) : Calls Try.prog 80 #[.int .i64 n] w fun e w' => e = .returned (.tuple #[.int .i64 (cnt n), .int .i64 (cntCode n)]) ∧ w' = w := by
  unfold cnt cntCode
  go_enter Try.func80, Try.ntmps80
  by_cases h : 1000000000000000 < n
  · go_wp2
    go_ret2
    exact ⟨by simp [h], rfl⟩
  · go_wp2
    go_ret2
    exact ⟨by simp [h], rfl⟩

/-- A list of the first C values. -/
def fl (C : Nat) (f : Nat → Int) : List Int := (List.range C).map f
theorem fl_len (C : Nat) (f : Nat → Int) : (fl C f).length = C := by simp [fl]
theorem fl_at {C : Nat} {f : Nat → Int} {e : Nat} (h : e < C) : (fl C f).getD e 0 = f e := by simp [fl, List.getD, h]
theorem fl_take {C : Nat} {f : Nat → Int} {k : Nat} (h : k ≤ C) : (fl C f).take k = fl k f := by
  simp [fl, ← List.map_take, List.take_range, Nat.min_eq_left h]
theorem reads_of_ir {w : World} {B n : Nat} {A : Option Addr} {xs : List Int} (h : IR w B A xs) (hl : xs.length = n) : Reads w B 1 A n (vis xs) := by
  refine ⟨by rw [vis_len, hl, Nat.mul_one], fun hn => ?_⟩
  obtain ⟨b, off, rfl, hb, hc⟩ := h (by omega)
  refine ⟨_, rfl, hb, fun j u hu => ?_⟩
  have hj : j < xs.length := by have := (List.getElem?_eq_some_iff.1 hu).1; rw [vis_len] at this; exact this
  have : (vis xs)[j]? = some (.int .i64 (xs.getD j 0)) := by simp [vis, vi, List.getD, hj]
  rw [this] at hu
  injection hu with hu
  rw [Go.WideShapes.add_plain, ← hu]
  exact hc j hj
theorem vis_one (xs : List Int) : ∀ u ∈ vis xs, u.oneCell' = true := by
  intro u hu
  obtain ⟨x, _, rfl⟩ := List.mem_map.1 hu
  rfl

set_option maxHeartbeats 1000000 in
theorem l02Each_any (C : Nat) (w : World) (hC : C ≤ 1048576) : Calls Try.prog 83 #[.int .i64 (C : Int)] w fun e w' => ∃ A' cap, e = .returned (.slice A' C cap) ∧ Below w.heap.size w w' ∧ IWr w' w.heap.size w'.heap.size A' (fl C fun _ => 1) := by
  go_enter Try.func83, Try.ntmps83
  go_wp2_with fail
  go_loopw [3, 4] (fun v i wr => ∃ k : Nat, k ≤ C ∧ i = .int .i64 k ∧ wr.ownsRow w.heap.size 2 1 v k (vis (fl k fun _ => 1)) ∧ Below w.heap.size w wr) (fun _ i _ => C - (intOf i).toNat)
  case atStart => exact ⟨0, Nat.zero_le _, rfl, World.ownsRow_made (base := w.heap.size) (e := 2) (size := 1) w #[] 0 (Nat.le_refl _) (by unfold maxLen; omega) rfl, (Below.refl _ _).alloc (Nat.le_refl _) _⟩
  case round =>
    obtain ⟨k, hk, rfl, hown, hb⟩ := hrel
    have HO := Lib.hid hown
    have HB := Lib.hid hb
    clear hown hb
    by_cases hlt : k < C
    · go_wp2_with (at_builtin; refine wpList_push rfl _ _ rfl w.heap.size _ k _ rfl (HO.out.alloc _) wr.heap.size 1 rfl (heap_alloc_new wr _) ?c1 ?c2 ?c3 ?_)
      case c1 => unfold maxLen; omega
      case c2 => omega
      case c3 => have := HB.out.size; simp; omega
      intro v' w3 hown' hgrow _
      have e1 : vis (fl k fun _ => 1) ++ [vi 1] = vis (fl (k + 1) fun _ => 1) := by simp [vis, fl, List.range_succ]
      rw [e1] at hown'
      have O3 := Lib.hid hown'
      have B3 := Lib.hid ((HB.out.alloc HB.out.size _).grown hgrow (by have := HB.out.size; simp; omega) (fun j hj => (HO.out.lt j hj).1))
      clear hown' hgrow HO HB
      go_wp2_with fail
      go_roundw
      case rel => exact ⟨k + 1, by omega, by go_num, O3.out, B3.out⟩
      case measure => simp [intOf]; omega
    · obtain rfl : k = C := by omega
      obtain ⟨A2, cap2, rfl, hcap, htw⟩ := own_iwr HO.out (by rw [fl_len])
      have HT := Lib.hid htw
      clear htw HO
      go_wp2_with fail
      go_ret
      exact ⟨A2, cap2, rfl, HB.out, HT.out⟩

set_option maxHeartbeats 1000000 in
theorem l01Own_any (A : Option Addr) (n c : Nat) (xs : List Int) (w : World) (hn : n ≤ 1048576) (hl : xs.length = n) (hA : IR w w.heap.size A xs) :
    Calls Try.prog 106 #[.slice A n c] w fun e w' => ∃ A' cap, e = .returned (.slice A' n cap) ∧ Below w.heap.size w w' ∧ IWr w' w.heap.size w'.heap.size A' xs := by
  obtain ⟨i0, hi, hz0, hz1, hz2⟩ := info_parts info_int
  have HI := Lib.hid (And.intro hi (And.intro hz0 (And.intro hz1 hz2)))
  clear hi hz0 hz1 hz2
  have HR := Lib.hid (reads_of_ir hA hl)
  clear hA
  have ho := Lib.hid (World.ownsRow_made (base := w.heap.size) (e := 2) (size := 1) w #[] 0 (Nat.le_refl _) (by unfold maxLen; omega) rfl)
  go_enter Try.func106, Try.ntmps106
  go_wp2_with (at_builtin; refine wpList_append_any _ rfl _ _ _ rfl w.heap.size 2 i0 _ 1 8 Try.underlying38 HI.out.1 HI.out.2.1 HI.out.2.2.1 HI.out.2.2.2 rfl (by decide) _ 0 [] rfl ho.out w.heap.size _ n _ (vis xs) rfl (HR.out.alloc (Nat.le_refl _) _) (vis_one _) ?c1 ?c2 ?c3 ?_)
  case c1 => unfold maxLen; omega
  case c2 => omega
  case c3 => simp
  intro v' w' hown hgrow _
  obtain ⟨A2, cap2, rfl, hcap, htw⟩ := own_iwr hown hl
  have HT := Lib.hid htw
  have HB := Lib.hid (((Below.refl w.heap.size w).alloc (Nat.le_refl _) (Obj.cells #[] 2)).grown hgrow (by simp) (fun j hj => (ho.out.lt j hj).1))
  clear htw hown hgrow
  go_wp2_with fail
  go_ret
  exact ⟨A2, cap2, rfl, HB.out, HT.out⟩

/-- The sum, at most 10^15 + 1. -/
def capSum (f : Nat → Int) : Nat → Int
  | 0 => 0
  | k + 1 => min (capSum f k + f k) 1000000000000001
theorem capSum_cap {f : Nat → Int} (h : Cap f) : ∀ k, 0 ≤ capSum f k ∧ capSum f k ≤ 1000000000000001
  | 0 => by unfold capSum; omega
  | k + 1 => by
    have := capSum_cap h k
    have := h k
    unfold capSum
    omega
set_option maxHeartbeats 1000000 in
theorem l02Total_any (A : Option Addr) (C c : Nat) (f : Nat → Int) (w : World) (hC : C ≤ 1048576) (hf : Cap f) (hA : IR w w.heap.size A (fl C f)) :
    Calls Try.prog 81 #[.slice A C c] w fun e w' => e = .returned (.int .i64 (capSum f C)) ∧ Below w.heap.size w w' := by
  go_enter Try.func81, Try.ntmps81
  go_wp2_with fail
  go_loop [3, 4] (fun s i => ∃ k : Nat, k ≤ C ∧ i = .int .i64 k ∧ s = .int .i64 (capSum f k)) (fun _ i => C - (intOf i).toNat)
  case atStart => exact ⟨0, Nat.zero_le _, rfl, rfl⟩
  case round =>
    obtain ⟨k, hk, rfl, rfl⟩ := hrel
    have h1 := capSum_cap hf k
    have h2 := hf k
    by_cases hlt : k < C
    · obtain ⟨b, o, rfl, -, hc⟩ := hA (by rw [fl_len]; omega)
      replace hc := hc k (by rw [fl_len]; omega)
      rw [fl_at hlt] at hc
      have hst : capSum f (k + 1) = min (capSum f k + f k) 1000000000000001 := rfl
      generalize capSum f k = s at h1 hst ⊢
      generalize f k = y at h2 hc hst
      have HST := Lib.hid hst
      clear hA hst
      go_wp2_with fail
      all_goals
        go_round
        case rel =>
          refine ⟨k + 1, by omega, by go_num, ?_⟩
          rw [HST.out, Int.min_def]
          first | rfl | (congr 1; split <;> omega) | (congr 1; (repeat' split) <;> omega)
        case measure => simp [intOf]; omega
    · clear hA
      go_wp2_with fail
      go_ret
      obtain rfl : k = C := by omega
      exact ⟨rfl, Below.refl _ _⟩
end Go.Proofs.Ytdkodmmbgflijaa
