/- Sets of words as rows of bools; the library's Repeat, Index and Contains at them. -/
import Derived.Test.YtleabblnikbmpaaTx0
import Derived.Test.YtleabblnikbmpaaAppT
import Derived.Test.YtleabblnikbmpaaRen1
import Derived.Laws.CopyOwn
import Derived.Laws.Bits64b
import Derived.Deep.RegionLaw
import Derived.Deep.RegionHeld3
import Derived.Lib.Hide
namespace Go.Proofs.Ytleabblnikbmpaa
set_option linter.unusedVariables false
set_option linter.unusedSimpArgs false
open Go.RowKit Go.Sort

/-- A row of n bools that lies in a block of its own. -/
def BQ (w : World) (g n : Nat) (p : Nat → Bool) : Prop := ∃ cs, Blk w g 4 cs ∧ cs.size = n ∧ ∀ x, x < n → cs[x]? = some (.bool (p x))
theorem BQ.lt {w : World} {g n : Nat} {p : Nat → Bool} (h : BQ w g n p) : g < w.heap.size := let ⟨_, hb, _⟩ := h; hb.lt
theorem BQ.at_ {w : World} {g n : Nat} {p : Nat → Bool} (h : BQ w g n p) {x : Nat} (hx : x < n) : w.cell? ⟨g, x, none⟩ = some (.bool (p x)) ∧ w.frozen? ⟨g, x, none⟩ = false := by
  obtain ⟨cs, hb, hs, hc⟩ := h
  exact ⟨(hb.cell x).trans (hc x hx), hb.frozen x⟩
theorem BQ.below {w w' : World} {g n B : Nat} {p : Nat → Bool} (h : BQ w g n p) (hx : Below B w w') (hg : g < B) : BQ w' g n p := by
  obtain ⟨cs, hb, hs, hc⟩ := h
  exact ⟨cs, hb.below hx hg, hs, hc⟩
theorem BQ.ext {w w' : World} {g n : Nat} {p : Nat → Bool} (h : BQ w g n p) (hx : Ext w w') : BQ w' g n p := h.below (hx.below (Nat.le_refl _)) h.lt
theorem BQ.far {w : World} {g n : Nat} {p : Nat → Bool} (h : BQ w g n p) {a : Addr} (hp : g ≠ a.block) (u : Value) : BQ (w.setCell a u) g n p := by
  obtain ⟨cs, hb, hs, hc⟩ := h
  exact ⟨cs, hb.far hp u, hs, hc⟩
theorem BQ.grown {w w' : World} {g n : Nat} {p : Nat → Bool} {row : Option Nat} (h : BQ w g n p) (hg : w.grownBy w' row) (hne : some g ≠ row) : BQ w' g n p := by
  obtain ⟨cs, hb, hs, hc⟩ := h
  exact ⟨cs, (hg.block g hb.lt hne).trans hb, hs, hc⟩
theorem BQ.congr {w : World} {g n : Nat} {p q : Nat → Bool} (h : BQ w g n p) (he : ∀ x, x < n → p x = q x) : BQ w g n q := by
  obtain ⟨cs, hb, hs, hc⟩ := h
  exact ⟨cs, hb, hs, fun x hx => by rw [hc x hx, he x hx]⟩
theorem BQ.set_ {w : World} {g n : Nat} {p : Nat → Bool} (h : BQ w g n p) (i : Nat) (b : Bool) : BQ (w.setCell ⟨g, i, none⟩ (.bool b)) g n (fun x => if x = i then b else p x) := by
  obtain ⟨cs, hb, hs, hc⟩ := h
  refine ⟨_, hb.set_ i (.bool b), by simp [hs], fun x hx => ?_⟩
  rw [Array.getElem?_setIfInBounds]
  by_cases e : i = x
  · subst e
    rw [if_pos rfl, if_pos (by omega)]
    simp
  · rw [if_neg e, hc x hx]
    simp [Ne.symm e]
theorem BQ.new {W : World} {cs0 : Array Value} {S : Nat} (hF : cs0.size = S ∧ ∀ x : Nat, x < cs0.size → cs0[x]? = some (.bool false)) : BQ (W.alloc (.cells cs0 4)) W.heap.size S (fun _ => false) := ⟨cs0, Blk.new W _ _, hF.1, fun x hx => hF.2 x (by rw [hF.1]; exact hx)⟩
/-- Is one of the first n in the set? -/
def anyQ (n : Nat) (p : Nat → Bool) : Bool := (List.range n).any p
theorem anyQ_no {n : Nat} {p : Nat → Bool} (h : ∀ j, j < n → p j = false) : anyQ n p = false := by
  unfold anyQ
  rw [List.any_eq_false]
  intro x hx
  rw [h x (List.mem_range.1 hx)]
  exact Bool.false_ne_true
theorem anyQ_yes {n j : Nat} {p : Nat → Bool} (hj : j < n) (h : p j = true) : anyQ n p = true := List.any_eq_true.2 ⟨j, List.mem_range.2 hj, h⟩

set_option maxRecDepth 100000 in
set_option maxHeartbeats 1000000 in
theorem indexQ_any (g n c : Nat) (p : Nat → Bool) (w : World) (hn : n ≤ 1048576) (hA : BQ w g n p) :
    Calls Try.prog 148 #[.slice (some ⟨g, 0, none⟩) n c, .bool true] w fun e w' => (∃ r : Int, e = .returned (.int .i64 r) ∧ (0 ≤ r ↔ anyQ n p = true) ∧ r < 1048576 ∧ -1 ≤ r) ∧ w = w' := by
  have HA := Lib.hid hA
  clear hA
  go_enter Try.func148, Try.ntmps148
  go_wp2_with fail
  go_loopw [8] (fun ii wr => ∃ k : Nat, k ≤ n ∧ ii = .int .i64 k ∧ (∀ j, j < k → p j = false) ∧ w = wr) (fun ii _ => n - (intOf ii).toNat)
  case atStart => exact ⟨0, Nat.zero_le _, rfl, fun j hj => absurd hj (Nat.not_lt_zero _), rfl⟩
  case round =>
    obtain ⟨k, hk, rfl, hno, rfl⟩ := hrel
    have HNO := Lib.hid hno
    clear hno
    by_cases hlt : k < n
    · have hlt3 : (k : Int) < (n : Int) := by omega
      have q1 := (HA.out.at_ hlt).1
      obtain ⟨x, hx⟩ : ∃ x, x = p k := ⟨_, rfl⟩
      rw [← hx] at q1
      have HE := Lib.hid hx
      clear hx
      cases x with
      | true =>
        go_wp2_with fail
        go_ret
        exact ⟨⟨(k : Int), rfl, ⟨fun _ => anyQ_yes hlt HE.out.symm, fun _ => by omega⟩, by omega, by omega⟩, rfl⟩
      | false =>
        have HN2 := Lib.hid (show ∀ j, j < k + 1 → p j = false from fun j hj => by
          by_cases e : j = k
          · subst e; exact HE.out.symm
          · exact HNO.out j (by omega))
        go_wp2_with fail
        go_roundw
        case rel => exact ⟨k + 1, by omega, by go_num, HN2.out, trivial⟩
        case measure => simp [intOf]; omega
    · obtain rfl : k = n := by omega
      go_wp2_with fail
      go_ret
      refine ⟨⟨-1, rfl, ⟨fun h => by omega, fun h => ?_⟩, by omega, by omega⟩, rfl⟩
      rw [anyQ_no HNO.out] at h
      cases h
set_option maxRecDepth 100000 in
set_option maxHeartbeats 1000000 in
theorem containsQ_any (g n c : Nat) (p : Nat → Bool) (w : World) (hn : n ≤ 1048576) (hA : BQ w g n p) :
    Calls Try.prog 119 #[.slice (some ⟨g, 0, none⟩) n c, .bool true] w fun e w' => e = .returned (.bool (anyQ n p)) ∧ w = w' := by
  have HI := Lib.hid (indexQ_any g n c p w hn hA)
  clear hA
  go_enter Try.func119, Try.ntmps119
  go_wp2_with fail
  refine HI.out.mono ?_
  rintro e w1 ⟨⟨r, rfl, hr, hr1, hr2⟩, rfl⟩
  have HR := Lib.hid hr
  clear hr
  by_cases h0 : 0 ≤ r
  · have HM := Lib.hid (HR.out.1 h0)
    go_wp2_with fail
    go_ret
    exact ⟨by rw [HM.out]; rfl, rfl⟩
  · have HM := Lib.hid (show anyQ n p = false from by
      cases e : anyQ n p with
      | false => rfl
      | true => exact absurd (HR.out.2 e) h0)
    go_wp2_with fail
    go_ret
    refine ⟨?_, rfl⟩
    rw [HM.out]
    exact congrArg (fun b => Ending.returned (.bool b)) (decide_eq_false (Int.not_le.2 h0))
set_option maxRecDepth 100000 in
theorem isEmpty_any (g n c : Nat) (p : Nat → Bool) (w : World) (hn : n ≤ 1048576) (hA : BQ w g n p) :
    Calls Try.prog 76 #[.slice (some ⟨g, 0, none⟩) n c] w fun e w' => e = .returned (.bool (!anyQ n p)) ∧ w = w' := by
  have HI := Lib.hid (containsQ_any g n c p w hn hA)
  clear hA
  go_enter Try.func76, Try.ntmps76
  go_wp2_with fail
  refine HI.out.mono ?_
  rintro e w1 ⟨rfl, rfl⟩
  go_wp2_with fail
  go_ret
  exact ⟨rfl, rfl⟩

theorem mul64_one (m : Nat) (w : World) (h5 : m ≤ 65536) :
    Calls Try.prog 154 #[.int .u64 1, .int .u64 (m : Int)] w fun e w' => e = .returned (.tuple #[.int .u64 0, .int .u64 (m : Int)]) ∧ w = w' := by
  have a1 : bits BinOp.and IntKind.u64 1 4294967295 = 1 := by decide +kernel
  have a0 : bits BinOp.and IntKind.u64 0 4294967295 = 0 := by decide +kernel
  have a2 : bits BinOp.and IntKind.u64 (m : Int) 4294967295 = (m : Int) := by
    have h := bits_and_u64_nat m 4294967295 (by omega) (by omega)
    rw [Nat.and_two_pow_sub_one_of_lt_two_pow (n := 32) (by omega)] at h
    exact h
  have b2 : (m : Int) / 4294967296 = 0 := by omega
  have c2 : IntKind.u64.wrap (m : Int) = (m : Int) := IntWalk.u64_in _ (by omega)
  go_enter Try.func154, Try.ntmps154
  go_wp2_with fail
  go_ret2
  exact ⟨by simp [c2], rfl⟩
theorem mul_one_any (m : Nat) (w : World) (h5 : m ≤ 65536) :
    Calls Try.prog 136 #[.int .u64 1, .int .u64 (m : Int)] w fun e w' => e = .returned (.tuple #[.int .u64 0, .int .u64 (m : Int)]) ∧ w = w' := by
  have key := fun w => mul64_one m w h5
  go_enter Try.func136, Try.ntmps136
  go_wp2_with fail
  refine (key _).mono ?_
  rintro e w' ⟨rfl, rfl⟩
  go_wp2_with fail
  go_ret2
  exact ⟨rfl, rfl⟩
theorem splice_sameQ {x : Value} {cur : List Value} {m k c : Nat} (hl : cur.length = m) (hk : k + c ≤ m) (h : ∀ j, j < k → cur[j]? = some x) :
    (splice cur k (List.replicate c x)).length = m ∧ ∀ j, j < k + c → (splice cur k (List.replicate c x))[j]? = some x := by
  refine ⟨by rw [length_splice _ _ _ (by simp; omega), hl], fun j hj => ?_⟩
  unfold splice
  by_cases h1 : j < k
  · rw [List.getElem?_append_left (by simp; omega), List.getElem?_take, if_pos h1]
    exact h j h1
  · rw [List.getElem?_append_right (by simp; omega), List.getElem?_append_left (by simp; omega), List.length_take, List.getElem?_replicate, if_pos (by omega)]

theorem true_src {w : World} {g k c : Nat} {X cur : List Value} {A : Option Addr} {t : TypeId} (hX : X = List.replicate c (Value.bool true)) (hA : ∀ j, j < k → cur[j]? = some (Value.bool true)) (hck : c ≤ k) (hg : w.heap[g]? = some (.cells cur.toArray t (0, 0))) :
    0 < X.length → A = A ∧ ∃ ad, (some (⟨g, 0, none⟩ : Addr)) = some ad ∧ ∀ j v, X[j]? = some v → w.drew.cell? (ad.add j) = some v := fun _ => ⟨rfl, _, rfl, fun j v hv => by
  subst hX
  rw [List.getElem?_replicate] at hv
  split at hv
  · rename_i h
    cases hv
    rw [Go.WideShapes.add_plain, Nat.zero_add]
    exact (Blk.cell (w := w.drew) (g := g) (cs := cur.toArray) (t := t) hg j).trans (by simpa using hA j (by omega))
  · cases hv⟩
theorem true_one {c : Nat} {X : List Value} (hX : X = List.replicate c (Value.bool true)) : ∀ v ∈ X, v.oneCell' = true := by
  intro v hv
  rw [hX] at hv
  rw [List.eq_of_mem_replicate hv]
  rfl
set_option maxRecDepth 100000 in
set_option maxHeartbeats 1000000 in
theorem repeatQ_any (b o m : Nat) (w : World) (h1 : 1 ≤ m) (h5 : m ≤ 65536) (hc : w.cell? ⟨b, o, none⟩ = some (.bool true)) :
    Calls Try.prog 118 #[.slice (some ⟨b, o, none⟩) 1 1, .int .i64 (m : Int)] w fun e w' => ∃ g, e = .returned (.slice (some ⟨g, 0, none⟩) m m) ∧ Below w.heap.size w w' ∧ w.heap.size ≤ g ∧ BQ w' g m fun _ => true := by
  have hbl := World.block_lt_of_cell? w _ hc
  obtain ⟨i0, hi, hz0, hz1, hz2⟩ := info_parts info_bool
  have hmk := fun W => run_make_rowN (P := Try.prog) 82 4 i0 _ (by kernel_rfl) hi hz0 .i64 .i64 m m (Nat.le_refl _) (by rw [hz2]; omega) (by omega) W
  rw [hz1] at hmk
  generalize hcs : madeCells (Value.cells (.bool false)) (m * 1) = cs0 at hmk
  have hsz : cs0.toList.length = m := by rw [← hcs]; simp [size_madeCells]
  obtain ⟨l0, hl0⟩ : ∃ l0, l0 = cs0.toList := ⟨_, rfl⟩
  obtain rfl : cs0 = l0.toArray := by rw [hl0]
  rw [← hl0] at hsz
  have HS := Lib.hid hsz
  clear hcs hi hz0 hz1 hz2 hsz hl0
  have hu := Try.underlying82
  have hs1 : (Try.prog.info? 4).map (·.size) = some 1 := by kernel_rfl
  have HU := Lib.hid (And.intro hu hs1)
  clear hu hs1
  have hmul := fun W => mul_one_any m W h5
  have hw1 : IntKind.u64.wrap (m : Int) = m := IntWalk.u64_in _ (by omega)
  have hw2 : IntKind.i64.wrap (m : Int) = m := IntWalk.i64_in _ (by omega)
  have hm0 : ¬ ((m : Int) < 0) := by omega
  have hbig : decide ((9223372036854775807 : Int) < (m : Int)) = false := by rw [decide_eq_false_iff_not]; omega
  go_enter Try.func118, Try.ntmps118
  go_wp2_with fail
  refine (hmul _).mono ?_
  rintro e w' ⟨rfl, rfl⟩
  clear hmul
  have hnew := heap_alloc_new w (.cells l0.toArray 4)
  have hc1 : (w.alloc (.cells l0.toArray 4)).cell? ⟨b, o, none⟩ = some (.bool true) := ((Below.refl _ w).alloc (Nat.le_refl _) _).cell (p := ⟨b, o, none⟩) hbl |>.trans hc
  have hb0 := (Below.refl w.heap.size w).alloc (Nat.le_refl _) (.cells l0.toArray 4)
  have HN := Lib.hid (And.intro hnew (And.intro hc1 hb0))
  clear hnew hc1 hb0
  go_wp2_with (with_reducible refine wpList_copy_splice (o := ⟨some 33, _, _, _, _, _⟩) rfl (.tmp 31) (.tmp 32) 82 82 rfl 4 (by kernel_rfl) (by kernel_rfl) _ _ _ _ _ _ rfl rfl w.heap.size 0 l0 _ HN.out.1 [Value.bool true] ?c1 ?c2 ?c3 ?c4 w.heap.size w HN.out.2.2 (Nat.le_refl _) ?_)
  case c1 => show 1 = min 1 m; omega
  case c2 =>
    intro j v hv
    rcases j with _ | j
    · simp [vi] at hv
      subst hv
      exact hc
    · simp at hv
  case c3 => rw [HS.out]; simp; omega
  case c4 => simp [vi, Value.oneCell']
  intro w2 HG2 hB2
  have HB2 := Lib.hid hB2
  clear hB2
  have hsp := splice_sameQ (x := Value.bool true) HS.out (k := 0) (c := 1) (by omega) (fun j hj => absurd hj (Nat.not_lt_zero _))
  rw [show List.replicate 1 (Value.bool true) = [Value.bool true] from rfl] at hsp
  generalize splice l0 0 [Value.bool true] = l1 at HG2 hsp
  have HSP := Lib.hid hsp
  clear hsp HN HS hmk
  go_wp2_with fail
  go_loopw [8] (fun i wr => ∃ k : Nat, 1 ≤ k ∧ k ≤ m ∧ i = .int .i64 k ∧ ∃ cur : List Value, wr.heap[w.heap.size]? = some (.cells cur.toArray 4 (0, 0)) ∧ cur.length = m ∧ (∀ j, j < k → cur[j]? = some (Value.bool true)) ∧ Below w.heap.size w wr) (fun i _ => m - (intOf i).toNat)
  case atStart => exact ⟨1, Nat.le_refl _, h1, rfl, l1, HG2.out, HSP.out.1, HSP.out.2, HB2.out⟩
  case round =>
    obtain ⟨k, hk1, hk, rfl, cur, hg, hl, hall, hb⟩ := hrel
    have HG := Lib.hid hg
    have HA := Lib.hid hall
    have HB := Lib.hid hb
    clear hg hall hb HG2 HSP HB2
    by_cases hlt : k < m
    · have e1 : (0 : Int) ≤ k := by omega
      have e2 : (k : Int) ≤ m := by omega
      have e3 : (k : Int) < m := by omega
      have e4 : k ≤ m := by omega
      obtain ⟨c, hc0⟩ : ∃ c, min k (m - k) = c := ⟨_, rfl⟩
      have hcb : 1 ≤ c ∧ c ≤ k ∧ k + c ≤ m := by omega
      obtain ⟨X, hX⟩ : ∃ X, X = List.replicate c (Value.bool true) := ⟨_, rfl⟩
      have hXl : X.length = c := by rw [hX]; simp
      have HC := Lib.hid hc0
      have HX := Lib.hid hX
      have HXL := Lib.hid hXl
      clear hc0 hX hXl
      go_wp2_with fail
      have e5 : ¬ m = k := by omega
      have hcm : X.length = c := HXL.out
      have e6 : (0 : Int) ≤ c := by omega
      have e7 : (k : Int) + (c : Int) ≤ m := by omega
      have e9 : IntKind.i64.wrap ((k : Int) + (c : Int)) = (k : Int) + (c : Int) := IntWalk.i64_in _ (by omega)
      go_region_law (
        (refine step_copy_splice rfl (.tmp 41) (.tmp 44) 82 82 rfl 4 HU.out.1 HU.out.2 (some ⟨w.heap.size, k, none⟩) (some ⟨w.heap.size, 0, none⟩) (m - k) (m - k) k m ?_ ?_ w.heap.size k cur _ HG.out X ?_ ?_ ?_ ?_ w.heap.size w HB.out.drew (Nat.le_refl _) ?_)
        · (go_simp)
        · (go_simp)
        · exact HXL.out.trans HC.out.symm
        · exact true_src HX.out HA.out hcb.2.1 HG.out
        · (rw [HXL.out]; omega)
        · exact true_one HX.out
        intro w4 HG4 hB4)
      have hsp := splice_sameQ (x := Value.bool true) hl (k := k) (c := c) hcb.2.2 HA.out
      rw [← HX.out] at hsp
      generalize splice cur k X = cur4 at HG4 hsp
      have HSP := Lib.hid hsp
      have HB4 := Lib.hid hB4
      clear hsp hB4 HG HA HB HX HC
      go_simp
      go_roundw
      case rel => ((repeat apply Exists.intro); exact ⟨⟨k + c, by omega, by omega, by go_num, cur4, HG4.out, HSP.out.1, HSP.out.2, HB4.out⟩, rfl⟩)
      case measure => simp [intOf]; omega
    · obtain rfl : k = m := by omega
      go_wp2_with fail
      go_ret
      exact ⟨_, rfl, HB.out, Nat.le_refl _, _, HG.out, by simpa using hl, fun j hj => by
        have := HA.out j hj
        simpa using this⟩
theorem one_src {w : World} {g k c : Nat} {X cur : List Value} {A : Option Addr} {t : TypeId} (hX : X = List.replicate c (vi 1)) (hA : ∀ j, j < k → cur[j]? = some (vi 1)) (hck : c ≤ k) (hg : w.heap[g]? = some (.cells cur.toArray t (0, 0))) :
    0 < X.length → A = A ∧ ∃ ad, (some (⟨g, 0, none⟩ : Addr)) = some ad ∧ ∀ j v, X[j]? = some v → w.drew.cell? (ad.add j) = some v := fun _ => ⟨rfl, _, rfl, fun j v hv => by
  subst hX
  rw [List.getElem?_replicate] at hv
  split at hv
  · rename_i h
    cases hv
    rw [Go.WideShapes.add_plain, Nat.zero_add]
    exact (Blk.cell (w := w.drew) (g := g) (cs := cur.toArray) (t := t) hg j).trans (by simpa using hA j (by omega))
  · cases hv⟩
theorem one_one {c : Nat} {X : List Value} (hX : X = List.replicate c (vi 1)) : ∀ v ∈ X, v.oneCell' = true := by
  intro v hv
  rw [hX] at hv
  rw [List.eq_of_mem_replicate hv]
  rfl
set_option maxRecDepth 100000 in
set_option maxHeartbeats 1000000 in
theorem repeat1_any (b o m : Nat) (w : World) (h1 : 1 ≤ m) (h5 : m ≤ 65536) (hc : w.cell? ⟨b, o, none⟩ = some (.int .i64 1)) :
    Calls Try.prog 91 #[.slice (some ⟨b, o, none⟩) 1 1, .int .i64 (m : Int)] w fun e w' => ∃ A, e = .returned (.slice A m m) ∧ Below w.heap.size w w' ∧ IWr w' w.heap.size w'.heap.size A (List.replicate m 1) := by
  have hbl := World.block_lt_of_cell? w _ hc
  obtain ⟨i0, hi, hz0, hz1, hz2⟩ := info_parts info_int
  have hmk := fun W => run_make_rowN (P := Try.prog) 42 2 i0 _ (by kernel_rfl) hi hz0 .i64 .i64 m m (Nat.le_refl _) (by rw [hz2]; omega) (by omega) W
  rw [hz1] at hmk
  generalize hcs : madeCells (Value.cells (.int .i64 0)) (m * 1) = cs0 at hmk
  have hsz : cs0.toList.length = m := by rw [← hcs]; simp [size_madeCells]
  obtain ⟨l0, hl0⟩ : ∃ l0, l0 = cs0.toList := ⟨_, rfl⟩
  obtain rfl : cs0 = l0.toArray := by rw [hl0]
  rw [← hl0] at hsz
  have HS := Lib.hid hsz
  clear hcs hi hz0 hz1 hz2 hsz hl0
  have hu := Try.underlying42
  have hs1 : (Try.prog.info? 2).map (·.size) = some 1 := by kernel_rfl
  have HU := Lib.hid (And.intro hu hs1)
  clear hu hs1
  have hmul := fun W => mul_one_any m W h5
  have hw1 : IntKind.u64.wrap (m : Int) = m := IntWalk.u64_in _ (by omega)
  have hw2 : IntKind.i64.wrap (m : Int) = m := IntWalk.i64_in _ (by omega)
  have hm0 : ¬ ((m : Int) < 0) := by omega
  have hbig : decide ((9223372036854775807 : Int) < (m : Int)) = false := by rw [decide_eq_false_iff_not]; omega
  go_enter Try.func91, Try.ntmps91
  go_wp2_with fail
  refine (hmul _).mono ?_
  rintro e w' ⟨rfl, rfl⟩
  clear hmul
  have hnew := heap_alloc_new w (.cells l0.toArray 2)
  have hc1 : (w.alloc (.cells l0.toArray 2)).cell? ⟨b, o, none⟩ = some (.int .i64 1) := ((Below.refl _ w).alloc (Nat.le_refl _) _).cell (p := ⟨b, o, none⟩) hbl |>.trans hc
  have hb0 := (Below.refl w.heap.size w).alloc (Nat.le_refl _) (.cells l0.toArray 2)
  have HN := Lib.hid (And.intro hnew (And.intro hc1 hb0))
  clear hnew hc1 hb0
  go_wp2_with (with_reducible refine wpList_copy_splice (o := ⟨some 33, _, _, _, _, _⟩) rfl (.tmp 31) (.tmp 32) 42 42 rfl 2 (by kernel_rfl) (by kernel_rfl) _ _ _ _ _ _ rfl rfl w.heap.size 0 l0 _ HN.out.1 [vi 1] ?c1 ?c2 ?c3 ?c4 w.heap.size w HN.out.2.2 (Nat.le_refl _) ?_)
  case c1 => show 1 = min 1 m; omega
  case c2 =>
    intro j v hv
    rcases j with _ | j
    · simp [vi] at hv
      subst hv
      exact hc
    · simp at hv
  case c3 => rw [HS.out]; simp; omega
  case c4 => simp [vi, Value.oneCell']
  intro w2 HG2 hB2
  have HB2 := Lib.hid hB2
  clear hB2
  have hsp := splice_sameQ (x := vi 1) HS.out (k := 0) (c := 1) (by omega) (fun j hj => absurd hj (Nat.not_lt_zero _))
  rw [show List.replicate 1 (vi 1) = [vi 1] from rfl] at hsp
  generalize splice l0 0 [vi 1] = l1 at HG2 hsp
  have HSP := Lib.hid hsp
  clear hsp HN HS hmk
  go_wp2_with fail
  go_loopw [8] (fun i wr => ∃ k : Nat, 1 ≤ k ∧ k ≤ m ∧ i = .int .i64 k ∧ ∃ cur : List Value, wr.heap[w.heap.size]? = some (.cells cur.toArray 2 (0, 0)) ∧ cur.length = m ∧ (∀ j, j < k → cur[j]? = some (vi 1)) ∧ Below w.heap.size w wr) (fun i _ => m - (intOf i).toNat)
  case atStart => exact ⟨1, Nat.le_refl _, h1, rfl, l1, HG2.out, HSP.out.1, HSP.out.2, HB2.out⟩
  case round =>
    obtain ⟨k, hk1, hk, rfl, cur, hg, hl, hall, hb⟩ := hrel
    have HG := Lib.hid hg
    have HA := Lib.hid hall
    have HB := Lib.hid hb
    clear hg hall hb HG2 HSP HB2
    by_cases hlt : k < m
    · have e1 : (0 : Int) ≤ k := by omega
      have e2 : (k : Int) ≤ m := by omega
      have e3 : (k : Int) < m := by omega
      have e4 : k ≤ m := by omega
      obtain ⟨c, hc0⟩ : ∃ c, min k (m - k) = c := ⟨_, rfl⟩
      have hcb : 1 ≤ c ∧ c ≤ k ∧ k + c ≤ m := by omega
      obtain ⟨X, hX⟩ : ∃ X, X = List.replicate c (vi 1) := ⟨_, rfl⟩
      have hXl : X.length = c := by rw [hX]; simp
      have HC := Lib.hid hc0
      have HX := Lib.hid hX
      have HXL := Lib.hid hXl
      clear hc0 hX hXl
      go_wp2_with fail
      have e5 : ¬ m = k := by omega
      have hcm : X.length = c := HXL.out
      have e6 : (0 : Int) ≤ c := by omega
      have e7 : (k : Int) + (c : Int) ≤ m := by omega
      have e9 : IntKind.i64.wrap ((k : Int) + (c : Int)) = (k : Int) + (c : Int) := IntWalk.i64_in _ (by omega)
      go_region_law (
        (refine step_copy_splice rfl (.tmp 41) (.tmp 44) 42 42 rfl 2 HU.out.1 HU.out.2 (some ⟨w.heap.size, k, none⟩) (some ⟨w.heap.size, 0, none⟩) (m - k) (m - k) k m ?_ ?_ w.heap.size k cur _ HG.out X ?_ ?_ ?_ ?_ w.heap.size w HB.out.drew (Nat.le_refl _) ?_)
        · (go_simp)
        · (go_simp)
        · exact HXL.out.trans HC.out.symm
        · exact one_src HX.out HA.out hcb.2.1 HG.out
        · (rw [HXL.out]; omega)
        · exact one_one HX.out
        intro w4 HG4 hB4)
      have hsp := splice_sameQ (x := vi 1) hl (k := k) (c := c) hcb.2.2 HA.out
      rw [← HX.out] at hsp
      generalize splice cur k X = cur4 at HG4 hsp
      have HSP := Lib.hid hsp
      have HB4 := Lib.hid hB4
      clear hsp hB4 HG HA HB HX HC
      go_simp
      go_roundw
      case rel => ((repeat apply Exists.intro); exact ⟨⟨k + c, by omega, by omega, by go_num, cur4, HG4.out, HSP.out.1, HSP.out.2, HB4.out⟩, rfl⟩)
      case measure => simp [intOf]; omega
    · obtain rfl : k = m := by omega
      go_wp2_with fail
      go_ret
      exact ⟨_, rfl, HB.out, fun _ => ⟨_, 0, _, _, rfl, Nat.le_refl _, Blk.lt HG.out, HG.out, fun j hj => by
        rw [List.length_replicate] at hj
        have := HA.out j hj
        simpa [vi, List.getD, hj] using this⟩⟩
end Go.Proofs.Ytleabblnikbmpaa
