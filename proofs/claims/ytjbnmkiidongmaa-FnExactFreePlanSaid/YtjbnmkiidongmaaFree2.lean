/- The library's Repeat at a row of one -1. -/
import Derived.Test.YtjbnmkiidongmaaFree1
import Derived.Laws.CopyOwn
import Derived.Deep.RegionLaw
namespace Go.Proofs.Ytjbnmkiidongmaa
set_option linter.unusedVariables false
set_option linter.unusedSimpArgs false
open Go.RowKit Go.Sort

theorem mul_one (m : Nat) (w : World) (h1 : 1 ≤ m) (h5 : m ≤ 5) :
    Calls Try.prog 96 #[.int .u64 1, .int .u64 (m : Int)] w fun e w' => e = .returned (.tuple #[.int .u64 0, .int .u64 (m : Int)]) ∧ w = w' := by
  have key : ∀ w, Calls Try.prog 109 #[.int .u64 1, .int .u64 (m : Int)] w fun e w' => e = .returned (.tuple #[.int .u64 0, .int .u64 (m : Int)]) ∧ w = w' := by
    intro w
    obtain rfl | rfl | rfl | rfl | rfl : m = 1 ∨ m = 2 ∨ m = 3 ∨ m = 4 ∨ m = 5 := by omega
    all_goals
      go_enter Try.func109, Try.ntmps109
      go_wp2
      go_ret2
      exact ⟨rfl, rfl⟩
  go_enter Try.func96, Try.ntmps96
  go_wp2_with fail
  refine (key _).mono ?_
  rintro e w' ⟨rfl, rfl⟩
  go_wp2_with fail
  go_ret2
  exact ⟨rfl, rfl⟩

theorem splice_same {x : Value} {cur : List Value} {m k c : Nat} (hl : cur.length = m) (hk : k + c ≤ m) (h : ∀ j, j < k → cur[j]? = some x) :
    (splice cur k (List.replicate c x)).length = m ∧ ∀ j, j < k + c → (splice cur k (List.replicate c x))[j]? = some x := by
  refine ⟨by rw [length_splice _ _ _ (by simp; omega), hl], fun j hj => ?_⟩
  unfold splice
  by_cases h1 : j < k
  · rw [List.getElem?_append_left (by simp; omega), List.getElem?_take, if_pos h1]
    exact h j h1
  · rw [List.getElem?_append_right (by simp; omega), List.getElem?_append_left (by simp; omega), List.length_take, List.getElem?_replicate, if_pos (by omega)]

theorem minus_src {w : World} {g k c : Nat} {X cur : List Value} {A : Option Addr} {t : TypeId} (hX : X = List.replicate c (vi (-1))) (hA : ∀ j, j < k → cur[j]? = some (vi (-1))) (hck : c ≤ k) (hg : w.heap[g]? = some (.cells cur.toArray t (0, 0))) :
    0 < X.length → A = A ∧ ∃ ad, (some (⟨g, 0, none⟩ : Addr)) = some ad ∧ ∀ j v, X[j]? = some v → w.drew.cell? (ad.add j) = some v := fun _ => ⟨rfl, _, rfl, fun j v hv => by
  subst hX
  rw [List.getElem?_replicate] at hv
  split at hv
  · rename_i h
    cases hv
    rw [Go.WideShapes.add_plain, Nat.zero_add]
    exact (Blk.cell (w := w.drew) (g := g) (cs := cur.toArray) (t := t) hg j).trans (by simpa using hA j (by omega))
  · cases hv⟩
theorem minus_one {c : Nat} {X : List Value} (hX : X = List.replicate c (vi (-1))) : ∀ v ∈ X, v.oneCell' = true := by
  intro v hv
  rw [hX] at hv
  rw [List.eq_of_mem_replicate hv]
  rfl
set_option maxRecDepth 100000 in
set_option maxHeartbeats 1000000 in
theorem repeat_any (b o m : Nat) (w : World) (h1 : 1 ≤ m) (h5 : m ≤ 5) (hc : w.cell? ⟨b, o, none⟩ = some (.int .i64 (-1))) :
    Calls Try.prog 62 #[.slice (some ⟨b, o, none⟩) 1 1, .int .i64 (m : Int)] w fun e w' => ∃ A, e = .returned (.slice A m m) ∧ Below w.heap.size w w' ∧ IWr w' w.heap.size w'.heap.size A (List.replicate m (-1)) := by
  have hbl := World.block_lt_of_cell? w _ hc
  obtain ⟨i0, hi, hz0, hz1, hz2⟩ := info_parts info_int
  have hmk := fun W => run_make_rowN (P := Try.prog) 41 2 i0 _ (by kernel_rfl) hi hz0 .i64 .i64 m m (Nat.le_refl _) (by rw [hz2]; omega) (by omega) W
  rw [hz1] at hmk
  generalize hcs : madeCells (Value.cells (.int .i64 0)) (m * 1) = cs0 at hmk
  have hsz : cs0.toList.length = m := by rw [← hcs]; simp [size_madeCells]
  obtain ⟨l0, hl0⟩ : ∃ l0, l0 = cs0.toList := ⟨_, rfl⟩
  obtain rfl : cs0 = l0.toArray := by rw [hl0]
  rw [← hl0] at hsz
  have HS := Lib.hid hsz
  clear hcs hi hz0 hz1 hz2 hsz hl0
  have hu := Try.underlying41
  have hs1 : (Try.prog.info? 2).map (·.size) = some 1 := by kernel_rfl
  have HU := Lib.hid (And.intro hu hs1)
  clear hu hs1
  have hmul := fun W => mul_one m W h1 h5
  have hw1 : IntKind.u64.wrap (m : Int) = m := IntWalk.u64_in _ (by omega)
  have hw2 : IntKind.i64.wrap (m : Int) = m := IntWalk.i64_in _ (by omega)
  have hm0 : ¬ ((m : Int) < 0) := by omega
  have hbig : decide ((9223372036854775807 : Int) < (m : Int)) = false := by rw [decide_eq_false_iff_not]; omega
  go_enter Try.func62, Try.ntmps62
  go_wp2_with fail
  refine (hmul _).mono ?_
  rintro e w' ⟨rfl, rfl⟩
  clear hmul
  have hnew := heap_alloc_new w (.cells l0.toArray 2)
  have hc1 : (w.alloc (.cells l0.toArray 2)).cell? ⟨b, o, none⟩ = some (.int .i64 (-1)) := ((Below.refl _ w).alloc (Nat.le_refl _) _).cell (p := ⟨b, o, none⟩) hbl |>.trans hc
  have hb0 := (Below.refl w.heap.size w).alloc (Nat.le_refl _) (.cells l0.toArray 2)
  have HN := Lib.hid (And.intro hnew (And.intro hc1 hb0))
  clear hnew hc1 hb0
  go_wp2_with (with_reducible refine wpList_copy_splice (o := ⟨some 33, _, _, _, _, _⟩) rfl (.tmp 31) (.tmp 32) 41 41 rfl 2 (by kernel_rfl) (by kernel_rfl) _ _ _ _ _ _ rfl rfl w.heap.size 0 l0 _ HN.out.1 [vi (-1)] ?c1 ?c2 ?c3 ?c4 w.heap.size w HN.out.2.2 (Nat.le_refl _) ?_)
  case c1 => show 1 = min 1 m; omega
  case c2 =>
    intro j v hv
    rcases j with _ | j
    · simp [vi] at hv
      subst hv
      exact hc
    · simp at hv
  case c3 => rw [HS.out]; simp; omega
  case c4 => simp [vi, Value.oneCell']
  intro w2 HG2 hB2
  have HB2 := Lib.hid hB2
  clear hB2
  have hsp := splice_same (x := vi (-1)) HS.out (k := 0) (c := 1) (by omega) (fun j hj => absurd hj (Nat.not_lt_zero _))
  rw [show List.replicate 1 (vi (-1)) = [vi (-1)] from rfl] at hsp
  generalize splice l0 0 [vi (-1)] = l1 at HG2 hsp
  have HSP := Lib.hid hsp
  clear hsp HN HS hmk
  go_wp2_with fail
  go_loopw [8] (fun i wr => ∃ k : Nat, 1 ≤ k ∧ k ≤ m ∧ i = .int .i64 k ∧ ∃ cur : List Value, wr.heap[w.heap.size]? = some (.cells cur.toArray 2 (0, 0)) ∧ cur.length = m ∧ (∀ j, j < k → cur[j]? = some (vi (-1))) ∧ Below w.heap.size w wr) (fun i _ => m - (intOf i).toNat)
  case atStart => exact ⟨1, Nat.le_refl _, h1, rfl, l1, HG2.out, HSP.out.1, HSP.out.2, HB2.out⟩
  case round =>
    obtain ⟨k, hk1, hk, rfl, cur, hg, hl, hall, hb⟩ := hrel
    have HG := Lib.hid hg
    have HA := Lib.hid hall
    have HB := Lib.hid hb
    clear hg hall hb HG2 HSP HB2
    by_cases hlt : k < m
    · have e1 : (0 : Int) ≤ k := by omega
      have e2 : (k : Int) ≤ m := by omega
      have e3 : (k : Int) < m := by omega
      have e4 : k ≤ m := by omega
      obtain ⟨c, hc0⟩ : ∃ c, min k (m - k) = c := ⟨_, rfl⟩
      have hcb : 1 ≤ c ∧ c ≤ k ∧ k + c ≤ m := by omega
      obtain ⟨X, hX⟩ : ∃ X, X = List.replicate c (vi (-1)) := ⟨_, rfl⟩
      have hXl : X.length = c := by rw [hX]; simp
      have HC := Lib.hid hc0
      have HX := Lib.hid hX
      have HXL := Lib.hid hXl
      clear hc0 hX hXl
      go_wp2_with fail
      have e5 : ¬ m = k := by omega
      have hcm : X.length = c := HXL.out
      have e6 : (0 : Int) ≤ c := by omega
      have e7 : (k : Int) + (c : Int) ≤ m := by omega
      have e9 : IntKind.i64.wrap ((k : Int) + (c : Int)) = (k : Int) + (c : Int) := IntWalk.i64_in _ (by omega)
      go_region_law (
        (refine step_copy_splice rfl (.tmp 41) (.tmp 44) 41 41 rfl 2 HU.out.1 HU.out.2 (some ⟨w.heap.size, k, none⟩) (some ⟨w.heap.size, 0, none⟩) (m - k) (m - k) k m ?_ ?_ w.heap.size k cur _ HG.out X ?_ ?_ ?_ ?_ w.heap.size w HB.out.drew (Nat.le_refl _) ?_)
        · (go_simp)
        · (go_simp)
        · exact HXL.out.trans HC.out.symm
        · exact minus_src HX.out HA.out hcb.2.1 HG.out
        · (rw [HXL.out]; omega)
        · exact minus_one HX.out
        intro w4 HG4 hB4)
      have hsp := splice_same (x := vi (-1)) hl (k := k) (c := c) hcb.2.2 HA.out
      rw [← HX.out] at hsp
      generalize splice cur k X = cur4 at HG4 hsp
      have HSP := Lib.hid hsp
      have HB4 := Lib.hid hB4
      clear hsp hB4 HG HA HB HX HC
      go_simp
      go_roundw
      case rel => ((repeat apply Exists.intro); exact ⟨⟨k + c, by omega, by omega, by go_num, cur4, HG4.out, HSP.out.1, HSP.out.2, HB4.out⟩, rfl⟩)
      case measure => simp [intOf]; omega
    · obtain rfl : k = m := by omega
      go_wp2_with fail
      go_ret
      exact ⟨_, rfl, HB.out, fun _ => ⟨_, 0, _, _, rfl, Nat.le_refl _, Blk.lt HG.out, HG.out, fun j hj => by
        rw [List.length_replicate] at hj
        have := HA.out j hj
        simpa [vi, List.getD, hj] using this⟩⟩
end Go.Proofs.Ytjbnmkiidongmaa
