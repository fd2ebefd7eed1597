/- Lasting words and their table. -/
import Derived.Test.YtleabblnikbmpaaStA
import Derived.Test.YtleabblnikbmpaaDi1
import Derived.Test.YtleabblnikbmpaaAppT
import Derived.Test.YtleabblnikbmpaaGcA
import Derived.Test.YtleabblnikbmpaaGcB
import Derived.Test.YtleabblnikbmpaaShelfI
import Derived.Lib.Hide
import Derived.Deep.RegionHeld3
import Derived.RangeFuncBox
import Derived.Test.YtleabblnikbmpaaGcC
import Derived.Test.YtleabblnikbmpaaKept1
import Derived.Test.YtleabblnikbmpaaRs
namespace Go.Proofs.Ytleabblnikbmpaa
section
set_option linter.unusedVariables false
set_option linter.unusedSimpArgs false
open Go.RowKit Go.Sort

theorem mem_lastingT {E : List Tl} {e : Tl} : e ∈ lastingT E ↔ ∃ k, lastT E k ∧ e = E.getD k T0 := by
  classical
  unfold lastingT pick lastL
  simp only [List.map_map, List.mem_map, List.mem_filter, List.mem_range, decide_eq_true_eq, Function.comp]
  constructor
  · rintro ⟨k, ⟨_, h⟩, rfl⟩; exact ⟨k, h, by simp⟩
  · rintro ⟨k, h, rfl⟩; exact ⟨k, ⟨lastT_lt h, h⟩, by simp⟩
/-- The lasting words, as numbers, ascending. -/
noncomputable def wordsL (E : List Tl) : List Int := sortI ((lastingT E).map fun e => e.1)
theorem words_W {E : List Tl} {e : Tl} (h : e ∈ lastingT E) : e.1 ∈ wordsL E := sortI_mem.2 (List.mem_map_of_mem h)
theorem words_E {E : List Tl} {e : Tl} (h : e ∈ lastingT E) : e.2.2.1 ∈ wordsL E := by
  obtain ⟨k, hk, rfl⟩ := mem_lastingT.1 h
  obtain ⟨-, -, y, hy, he⟩ := lastT_closed E k hk
  have := words_W (mem_lastingT.2 ⟨y, hy, rfl⟩)
  unfold eastOf at he
  rwa [he] at this
theorem wordsL_asc (E : List Tl) : AscI (wordsL E) := sortI_asc _
def bothW (es : List Tl) : List Int := es.flatMap fun e => [e.1, e.2.2.1]
theorem bothW_snoc (es : List Tl) (e : Tl) : bothW (es ++ [e]) = bothW es ++ [e.1, e.2.2.1] := by simp [bothW]
theorem bothW_len (es : List Tl) : (bothW es).length = 2 * es.length := by
  induction es with
  | nil => rfl
  | cons e es ih => simp only [bothW, List.flatMap_cons, List.length_append, List.length_cons, List.length_nil] at ih ⊢; omega
theorem words_both (E : List Tl) : sortI (bothW (lastingT E)) = wordsL E := by
  refine ascI_eq (sortI_asc _) (wordsL_asc E) fun y => ?_
  rw [sortI_mem]
  constructor
  · intro h
    simp only [bothW, List.mem_flatMap, List.mem_cons, List.not_mem_nil, or_false] at h
    obtain ⟨e, he, rfl | rfl⟩ := h
    · exact words_W he
    · exact words_E he
  · intro h
    obtain ⟨e, he, rfl⟩ := List.mem_map.1 (sortI_mem.1 h)
    exact List.mem_flatMap.2 ⟨e, he, by simp⟩
/-- How many of some edges lead from the i-th word to the j-th. -/
def tabF (ws : List Int) (es : List Tl) (i j : Nat) : Int := ((es.countP fun e => decide (i = rk ws e.1 ∧ j = rk ws e.2.2.1) : Nat) : Int)
theorem tabF_nil (ws : List Int) : tabF ws [] = fun _ _ => 0 := rfl
theorem tabF_snoc (ws : List Int) (es : List Tl) (e : Tl) : tabF ws (es ++ [e]) = fun i j => if i = rk ws e.1 ∧ j = rk ws e.2.2.1 then tabF ws es (rk ws e.1) (rk ws e.2.2.1) + 1 else tabF ws es i j := by
  funext i j
  unfold tabF
  rw [List.countP_append, List.countP_singleton]
  by_cases h : i = rk ws e.1 ∧ j = rk ws e.2.2.1
  · obtain ⟨rfl, rfl⟩ := h
    simp
  · rw [if_neg h, decide_eq_false h]; simp
theorem tabF_le (ws : List Int) (es : List Tl) (i j : Nat) : 0 ≤ tabF ws es i j ∧ tabF ws es i j ≤ es.length := by
  unfold tabF
  have := List.countP_le_length (p := fun e => decide (i = rk ws e.1 ∧ j = rk ws e.2.2.1)) (l := es)
  omega
/-- The table of a height. -/
noncomputable def tabL (E : List Tl) : List (List Int) := matL (wordsL E).length (tabF (wordsL E) (lastingT E))
end

section
set_option linter.unusedVariables false
set_option linter.unusedSimpArgs false
open Go.RowKit Go.Sort

theorem own_putI {w : World} {base g n cap : Nat} {xs : List Value} (h : w.ownsRow base 2 1 (.slice (some ⟨g, 0, none⟩) n cap) n xs) (d' : Array Int) (hd : d'.size = n) (m : Nat) (os : Array Obj) :
    (grow (putRow (Value.int .i64) (Go.Sort.ahead w m) g 0 d') os).ownsRow base 2 1 (.slice (some ⟨g, 0, none⟩) n cap) n (vis d'.toList) ∧ w.grownBy (grow (putRow (Value.int .i64) (Go.Sort.ahead w m) g 0 d') os) (some g) := by
  have hlt := h.lt g rfl
  rcases h.2 with ⟨hv, _⟩ | ⟨g', cap', cur, hv, hb, hh, hn, hm, hs, ht⟩
  · cases hv
  · cases hv
    have hnew : (grow (putRow (Value.int .i64) (Go.Sort.ahead w m) g 0 d') os).heap[g]? = some (.cells (putCells (Value.int .i64) 0 d' cur) 2 (0, 0)) := by
      unfold putRow
      rw [heap_grow_old _ _ (by simp [mapBlock, Go.Sort.ahead]; exact hlt.2)]
      simp [mapBlock, Go.Sort.ahead, Array.getElem?_modify, hh, onCells]
    refine ⟨⟨by simp [vis, hd], .inr ⟨g, cap, _, rfl, hb, hnew, hn, hm, by simp [putCells, hs], ?_⟩⟩, ?_⟩
    · apply List.ext_getElem?
      intro j
      rw [List.getElem?_take]
      by_cases hj : j < n * 1
      · rw [if_pos hj]
        have hjc : j < cur.size := by rw [hs]; exact Nat.lt_of_lt_of_le hj (Nat.mul_le_mul_right 1 hn)
        have hjf : j < d'.size := by rw [hd]; omega
        simp [putCells, hjc, hjf, vis, vi]
      · rw [if_neg hj, List.getElem?_eq_none (by simp [vis, hd]; omega)]
    · refine ⟨rfl, rfl, rfl, by simp [putRow, mapBlock, Go.Sort.ahead], fun k hk hne => ?_⟩
      unfold putRow
      rw [heap_grow_old _ _ (by simp [mapBlock, Go.Sort.ahead]; omega)]
      have : g ≠ k := fun e => hne (by rw [e])
      simp [mapBlock, Go.Sort.ahead, Array.getElem?_modify, this]
theorem holds_own {w : World} {base g cap : Nat} {xs : List Int} (h : w.ownsRow base 2 1 (.slice (some ⟨g, 0, none⟩) xs.length cap) xs.length (vis xs)) : Holds (Value.int .i64) w g 0 xs.toArray := by
  intro j hj
  have hj' : j < xs.length := by simpa using hj
  refine ⟨?_, h.frozenAt _⟩
  rw [Nat.zero_add, h.cellAt j (by omega)]
  simp [vis, vi, hj']

/-- slices.Sort at numbers. -/
def srt (xs : List Int) : List Int := xs.mergeSort fun x y => decide (x ≤ y)
theorem srt_len (xs : List Int) : (srt xs).length = xs.length := by simp [srt]
theorem sortInts_any (base : Nat) (v : Value) (xs : List Int) (w : World) (hn : xs.length ≤ 1048576) (h : w.ownsRow base 2 1 v xs.length (vis xs)) :
    Calls Try.prog 143 #[v] w fun e w' => e = .returned (.tuple #[]) ∧ w'.ownsRow base 2 1 v (srt xs).length (vis (srt xs)) ∧ w.grownBy w' v.ownBlock := by
  by_cases h0 : xs.length = 0
  · obtain rfl := List.eq_nil_of_length_eq_zero h0
    obtain ⟨A, cap, rfl, hcap, -⟩ := own_iwr h rfl
    have hcon := AnyG.slices_Sort_int_none Try.sortInts A cap w
    change Calls Try.prog 143 _ _ _ at hcon
    refine hcon.mono ?_
    rintro e w' ⟨rfl, rfl⟩
    exact ⟨rfl, by simpa [srt] using h, World.grownBy.refl _ _⟩
  · obtain ⟨g, cap, hv, hbg, hlt⟩ := h.form (by omega)
    subst hv
    have hcon := AnyG.slices_Sort_int Try.sortInts g 0 cap xs w (holds_own h) hlt (by omega)
    change Calls Try.prog 143 _ _ _ at hcon
    refine hcon.mono ?_
    rintro e w' ⟨rfl, m, os, rfl⟩
    have hoo := own_putI h (xs.mergeSort fun x y => decide (x ≤ y)).toArray (by simp) m os
    refine ⟨rfl, ?_, hoo.2⟩
    have := hoo.1
    rw [srt_len]
    exact this
/-- slices.Compact at numbers. -/
theorem compactInts_any (base : Nat) (v : Value) (xs : List Int) (w : World) (hn : xs.length ≤ 1048576) (h : w.ownsRow base 2 1 v xs.length (vis xs)) :
    Calls Try.prog 144 #[v] w fun e w' => ∃ A cap, e = .returned (.slice A (Lib.compact xs).length cap) ∧ (Lib.compact xs).length ≤ cap ∧ IWr w' base w'.heap.size A (Lib.compact xs) ∧ w.grownBy w' v.ownBlock := by
  by_cases h0 : xs.length = 0
  · obtain rfl := List.eq_nil_of_length_eq_zero h0
    obtain ⟨A, cap, rfl, hcap, -⟩ := own_iwr h rfl
    have hcon := AnyG.slices_Compact_int_empty Try.compactInts A cap w
    change Calls Try.prog 144 _ _ _ at hcon
    refine hcon.mono ?_
    rintro e w' ⟨rfl, rfl⟩
    exact ⟨A, cap, rfl, Nat.zero_le _, fun h => absurd h (Nat.lt_irrefl _), World.grownBy.refl _ _⟩
  · have hcc := own_iwr h rfl
    obtain ⟨g, cap, hv, hbg, hlt⟩ := h.form (by omega)
    subst hv
    obtain ⟨A2, cap2, e2, hcap, -⟩ := hcc
    cases e2
    have hcon := AnyG.slices_Compact_int Try.compactInts g 0 cap xs w (holds_own h) (by omega) hcap
    change Calls Try.prog 144 _ _ _ at hcon
    refine hcon.mono ?_
    rintro e w' ⟨rfl, m, rfl⟩
    have hcl := Lib.compact_length_le xs
    obtain ⟨ys, hys⟩ : ∃ ys, ys = Lib.compact xs ++ List.replicate (xs.length - (Lib.compact xs).length) 0 := ⟨_, rfl⟩
    have hyl : ys.length = xs.length := by rw [hys]; simp; omega
    rw [← hys]
    have hoo := own_putI h ys.toArray (by simpa using hyl) m #[]
    rw [show grow (putRow (Value.int .i64) (Go.Sort.ahead w m) g 0 ys.toArray) #[] = putRow (Value.int .i64) (Go.Sort.ahead w m) g 0 ys.toArray by simp [grow]; rfl] at hoo
    refine ⟨_, cap, rfl, by omega, ?_, hoo.2⟩
    obtain ⟨A3, cap3, e3, -, hw3⟩ := own_iwr (xs := ys) (by simpa using hoo.1) hyl
    cases e3
    intro h1
    obtain ⟨b, off, t, cs, e4, h2, h3, hb, hc⟩ := hw3 (by omega)
    refine ⟨b, off, t, cs, e4, h2, h3, hb, fun k hk => ?_⟩
    rw [hc k (by omega), hys]
    simp [List.getD, List.getElem?_append_left hk]

/-- What is left of an ascending list: each number once. -/
theorem compact_asc {zs : List Int} (hs : zs.Pairwise fun x y => x ≤ y) : Lib.compact zs = sortI zs := by
  have hat : ∀ i, i < zs.length → zs.toArray[i]! = zs.getD i 0 := by intro i hi; simp [List.getD, hi]
  have hle : ∀ i j, i ≤ j → j < zs.length → zs.getD i 0 ≤ zs.getD j 0 := by
    intro i j hij hj
    rcases Nat.eq_or_lt_of_le hij with h | h
    · subst h; exact Int.le_refl _
    · have := List.pairwise_iff_getElem.1 hs i j (by omega) hj h
      simpa [List.getD, hj, show i < zs.length by omega] using this
  have key : ∀ m, m ≤ zs.length → AscI (Lib.compactUpTo zs.toArray m) ∧ (∀ y ∈ Lib.compactUpTo zs.toArray m, ∃ j, j < m ∧ y = zs.getD j 0) ∧ (∀ j, j < m → zs.getD j 0 ∈ Lib.compactUpTo zs.toArray m) := by
    intro m
    induction m with
    | zero => intro _; exact ⟨List.Pairwise.nil, fun y hy => by simp [Lib.compactUpTo] at hy, fun j hj => absurd hj (Nat.not_lt_zero _)⟩
    | succ m ih =>
      intro hm
      obtain ⟨h1, h2, h3⟩ := ih (by omega)
      rw [Lib.compactUpTo_succ]
      by_cases hk : Lib.keeps zs.toArray m = true
      · rw [if_pos hk, hat m (by omega)]
        refine ⟨?_, ?_, ?_⟩
        · refine List.pairwise_append.2 ⟨h1, List.pairwise_singleton _ _, fun x hx y hy => ?_⟩
          obtain ⟨j, hj, rfl⟩ := h2 x hx
          rw [List.mem_singleton] at hy
          subst hy
          have h5 := hle j (m - 1) (by omega) (by omega)
          have h6 := hle (m - 1) m (by omega) (by omega)
          unfold Lib.keeps at hk
          rw [decide_eq_true_eq] at hk
          rcases hk with hk | hk
          · omega
          · rw [hat m (by omega), hat (m - 1) (by omega)] at hk
            omega
        · intro y hy
          rcases List.mem_append.1 hy with hy | hy
          · obtain ⟨j, hj, e⟩ := h2 y hy
            exact ⟨j, by omega, e⟩
          · rw [List.mem_singleton] at hy; exact ⟨m, by omega, hy⟩
        · intro j hj
          rcases Nat.lt_or_ge j m with h | h
          · exact List.mem_append.2 (Or.inl (h3 j h))
          · obtain rfl : j = m := by omega
            simp
      · rw [if_neg hk, List.append_nil]
        refine ⟨h1, fun y hy => ?_, fun j hj => ?_⟩
        · obtain ⟨j, hj, e⟩ := h2 y hy
          exact ⟨j, by omega, e⟩
        · rcases Nat.lt_or_ge j m with h | h
          · exact h3 j h
          · obtain rfl : j = m := by omega
            unfold Lib.keeps at hk
            rw [decide_eq_true_eq] at hk
            have hm0 : j ≠ 0 := fun e => hk (Or.inl e)
            have he : zs.toArray[j]! = zs.toArray[j - 1]! := Classical.byContradiction fun e => hk (Or.inr e)
            rw [hat j (by omega), hat (j - 1) (by omega)] at he
            rw [he]
            exact h3 (j - 1) (by omega)
  obtain ⟨h1, h2, h3⟩ := key zs.length (Nat.le_refl _)
  refine sortI_eq h1 fun y => ⟨fun hy => ?_, fun hy => ?_⟩
  · obtain ⟨j, hj, rfl⟩ := h2 y hy
    simp [List.getD, hj]
  · obtain ⟨j, hj, rfl⟩ := List.getElem_of_mem hy
    have := h3 j hj
    rwa [show zs.getD j 0 = zs[j] by simp [List.getD, hj]] at this
theorem compact_srt (xs : List Int) : Lib.compact (srt xs) = sortI xs := by
  have hp : (srt xs).Perm xs := List.mergeSort_perm _ _
  have hs : (srt xs).Pairwise fun x y => x ≤ y := by
    have := List.pairwise_mergeSort (le := fun x y : Int => decide (x ≤ y)) (fun a b c h1 h2 => by simp at *; omega) (fun a b => by simp; omega) xs
    exact this.imp (fun h => by simpa using h)
  rw [compact_asc hs]
  exact ascI_eq (sortI_asc _) (sortI_asc _) fun y => by rw [sortI_mem, sortI_mem, hp.mem_iff]
/-- 'append(list, numbers...)' within a region. -/
theorem step_appI {w : World} {ops : Array Oper} {o : Oper} {a : Act} {K : Act → World → Prop} {Q' : Exit → Act → World → Prop} {E : Prop} (hgd : o.guard = none) (s x : Operand)
    (ho : o.op = .call { callee := .builtin .append, args := #[s, x], argTypes := #[42, 42] })
    (base : Nat) (v : Value) (xs : List Int) (hs : a.eval s = v) (hown : w.ownsRow base 2 1 v xs.length (vis xs))
    (A : Option Addr) (m c : Nat) (ys : List Int) (hx : a.eval x = .slice A m c) (hr : IR w w.heap.size A ys) (hl : ys.length = m) (h63 : xs.length + m ≤ 1048576) (hbase : base ≤ w.heap.size)
    (hK : ∀ v' w', w'.ownsRow base 2 1 v' (xs ++ ys).length (vis (xs ++ ys)) → w.grownBy w' v.ownBlock → (v'.ownBlock = v.ownBlock ∨ v'.ownBlock = some w.heap.size) → K (a.put o.dst v') w') :
    if Region.wanted o (yielded ops a.tmps) = true then Oper.wp Try.prog o a w K Q' else E := by
  obtain ⟨i0, hi, hz0, hz1, hz2⟩ := info_parts info_int
  refine step_append_any w hgd s x _ ho base 2 i0 _ 1 8 Try.underlying42 hi hz0 hz1 hz2 rfl (by decide) v xs.length (vis xs) hs hown w.heap.size A m c (vis ys) hx (reads_ints hr hl) (visOne ys) (by unfold maxLen; omega) (by omega) hbase fun v' w' h1 h2 h3 => hK v' w' ?_ h2 h3
  rw [visApp, List.length_append, hl]
  exact h1
end

section
set_option linter.unusedVariables false
set_option linter.unusedSimpArgs false
open Go.RowKit Go.Sort

theorem allT_upTo (ts : List Tl) : allT ts (upTo ts.length) = true := by
  refine allT_all fun j hj => ?_
  rw [upTo_len] at hj
  rw [upTo_at hj]
  simp [inT]; omega
theorem colW_upTo (ts : List Tl) : colW ts (upTo ts.length) = ts.map fun e => e.1 := by
  apply List.ext_getElem
  · simp [colW, upTo]
  · intro i h1 h2
    have hi : i < ts.length := by simpa using h2
    simp [colW, upTo, List.getD, hi]
set_option maxRecDepth 100000 in
set_option maxHeartbeats 8000000 in
theorem wordsAt_any (c0 : Int) (A : Option Addr) (n c : Nat) (ts : List Tl) (B : Option Addr) (d : Nat) (w : World) (hn : n ≤ 65536) (hl : ts.length = n) (hA : TR w w.heap.size A ts) (hB : IR w w.heap.size B [0]) :
    Calls Try.prog 105 #[.agg #[.int .i64 c0, .slice A n c], .slice B 1 d] w fun e w' => ∃ A' cap, e = .returned (.slice A' (sortI (ts.map fun e => e.1)).length cap) ∧ Below w.heap.size w w' ∧ IWr w' w.heap.size w'.heap.size A' (sortI (ts.map fun e => e.1)) := by
  have htn : ∀ W, Calls Try.prog 134 #[.agg #[.int .i64 c0, .slice A n c]] W _ := fun W => tileNumbers_any c0 A n c W (by omega)
  have hca : ∀ W F cf, Below w.heap.size w W → IR W W.heap.size F (upTo n) → Calls Try.prog 142 #[.agg #[.int .i64 c0, .slice A n c], .slice F n cf, .int .i64 0] W _ := fun W F cf hW hF => coloursAt_W c0 A n c ts F n cf (upTo n) W (by omega) hl ((hA.below hW (Nat.le_refl _)).more hW.size) (by omega) (upTo_len n) hF (by rw [← hl]; exact allT_upTo ts)
  rw [show colW ts (upTo n) = ts.map fun e => e.1 by rw [← hl]; exact colW_upTo ts] at hca
  have HTN := Lib.hid htn
  have HCA := Lib.hid hca
  have HL := Lib.hid (show (ts.map fun e => e.1).length = n by simp [hl])
  clear htn hca hA
  generalize (ts.map fun e => e.1) = ws at *
  have hsi : ∀ W v, W.ownsRow (w.heap.size + 1) 2 1 v ws.length (vis ws) → Calls Try.prog 143 #[v] W _ := fun W v h => sortInts_any (w.heap.size + 1) v ws W (by have := HL.out; omega) h
  have hci : ∀ W v, W.ownsRow (w.heap.size + 1) 2 1 v (srt ws).length (vis (srt ws)) → Calls Try.prog 144 #[v] W _ := fun W v h => compactInts_any (w.heap.size + 1) v (srt ws) W (by rw [srt_len]; have := HL.out; omega) h
  rw [compact_srt] at hci
  have HSI := Lib.hid hsi
  have HCI := Lib.hid hci
  clear hsi hci
  obtain ⟨bB, oB, rfl, hbB, hcB⟩ := hB (by simp)
  have q0 := hcB 0 (by simp)
  simp only [Nat.add_zero, List.getD_cons_zero] at q0
  clear hcB hB
  go_enter Try.func105, Try.ntmps105
  go_wp2_with fail
  obtain ⟨W0, hW0⟩ : ∃ W0, w.alloc (Obj.cells #[.int .i64 c0, .slice A n c] 30) = W0 := ⟨_, rfl⟩
  have hx0 : Ext w W0 := by rw [← hW0]; exact (Ext.refl w).alloc _
  have hS : Blk W0 w.heap.size 30 #[.int .i64 c0, .slice A n c] := by rw [← hW0]; exact Blk.new w _ _
  have hsz : w.heap.size + 1 ≤ W0.heap.size := by rw [← hW0]; simp
  rw [hW0]
  have H0 := Lib.hid (hx0.below (Nat.le_refl _))
  have HS := Lib.hid hS
  clear hx0 hS hW0
  go_loopw [5, 10] (fun v ii wr => ∃ k : Nat, k ≤ 1 ∧ ii = .int .i64 k ∧ wr.ownsRow (w.heap.size + 1) 2 1 v (if k = 0 then [] else ws).length (vis (if k = 0 then [] else ws)) ∧ Below (w.heap.size + 1) W0 wr) (fun _ ii _ => 1 - (intOf ii).toNat)
  case atStart => exact ⟨0, by omega, rfl, World.ownsRow_nil _ _ _ _, Below.refl _ _⟩
  case round =>
    obtain ⟨k, hk, rfl, hown, hb⟩ := hrel
    have HB := Lib.hid hb
    have HBW := Lib.hid (H0.out.trans (hb.mono (by omega)))
    have hszr := hb.size
    clear hb
    by_cases hlt : k < 1
    · obtain rfl : k = 0 := by omega
      simp only [if_true] at hown
      have HO := Lib.hid hown
      have q1 := (HBW.out.cell (p := ⟨bB, oB, none⟩) hbB).trans q0
      have r0 := (HS.out.below HB.out (by omega)).rd 0 rfl
      have r1 := (HS.out.below HB.out (by omega)).rd 1 rfl
      have HSZ := Lib.hid (show w.heap.size + 1 ≤ wr.heap.size by omega)
      clear hown
      go_wp2_with fail
      go_region_held3 (fun w' => w'.cell? ⟨w.heap.size, 0, none⟩ = some (.int .i64 c0) ∧ w'.cell? ⟨w.heap.size, 1, none⟩ = some (.slice A n c))
        (first | exact ⟨k0, k1⟩ | exact ⟨l0, l1⟩ | exact ⟨m0, m1⟩ | go_keep)
        (first
          | (go_at_call 134; refine (HTN.out _).mono ?_; rintro e w2 ⟨X, cx, rfl, hb2, hx2⟩; have K2 := Lib.hid ((Below.refl wr.heap.size wr).drew.trans hb2); have X2 := Lib.hid hx2; have k0 := (HS.out.below (HB.out.trans (K2.out.mono HSZ.out)) (Nat.lt_succ_self _)).rd 0 rfl; have k1 := (HS.out.below (HB.out.trans (K2.out.mono HSZ.out)) (Nat.lt_succ_self _)).rd 1 rfl; clear hb2 hx2)
          | (go_at_call 142; refine (HCA.out _ _ _ (HBW.out.trans (K2.out.mono HBW.out.size)) X2.out.ir).mono ?_; rintro e w3 ⟨Y, cy, rfl, hb3, hx3⟩; have K3 := Lib.hid (K2.out.trans (hb3.mono K2.out.size)); have X3 := Lib.hid hx3; have l0 := (HS.out.below (HB.out.trans (K3.out.mono HSZ.out)) (Nat.lt_succ_self _)).rd 0 rfl; have l1 := (HS.out.below (HB.out.trans (K3.out.mono HSZ.out)) (Nat.lt_succ_self _)).rd 1 rfl; clear hb3 hx3 k0 k1)
          | (refine step_appI (by rfl) _ _ (by rfl) (w.heap.size + 1) _ [] (by rfl) (own_belowA HO.out K3.out) Y ws.length cy ws (by rfl) X3.out.ir rfl (by have := HL.out; simp; omega) (Nat.le_trans HSZ.out K3.out.size) ?_; intro v4 w4 hown4 hgrow4 hat4; have m0 := hgrow4.cell l0 (fun e => by have := (HO.out.lt _ e.symm).1; exact Nat.lt_irrefl _ this); have m1 := hgrow4.cell l1 (fun e => by have := (HO.out.lt _ e.symm).1; exact Nat.lt_irrefl _ this)))
      have O4 := Lib.hid (show w4.ownsRow (w.heap.size + 1) 2 1 v4 ws.length (vis ws) by simpa using hown4)
      have B4 := Lib.hid ((HB.out.trans (K3.out.mono HSZ.out)).grown hgrow4 (Nat.le_trans HSZ.out K3.out.size) (fun j hj => (HO.out.lt j hj).1))
      clear hown4 hgrow4 hat4 r0 r1 l0 l1 m0 m1
      go_wp2_with fail
      go_roundw
      case rel => exact ⟨1, by omega, by go_num, O4.out, B4.out⟩
      case measure => simp [intOf]
    · obtain rfl : k = 1 := by omega
      simp only [show ¬ (1 : Nat) = 0 by omega, if_false] at hown
      have HO := Lib.hid hown
      have hrk : ¬ (1 : Int) < 1 := by omega
      clear hown
      go_wp2_with fail
      refine (HSI.out _ _ HO.out).mono ?_
      rintro e w2 ⟨rfl, ho2, hg2⟩
      have O2 := Lib.hid ho2
      have B2 := Lib.hid (HB.out.grown hg2 (by omega) (fun j hj => (HO.out.lt j hj).1))
      have hsz2 := hg2.size
      clear ho2 hg2
      go_wp2_with fail
      refine (HCI.out _ _ O2.out).mono ?_
      rintro e w3 ⟨Z, cz, rfl, hcz, hz3, hg3⟩
      have B3 := Lib.hid (B2.out.grown hg3 (by omega) (fun j hj => (O2.out.lt j hj).1))
      have Z3 := Lib.hid hz3
      clear hz3 hg3
      go_wp2_with fail
      go_ret
      exact ⟨Z, cz, rfl, H0.out.trans (B3.out.mono (by omega)), Z3.out.low (by omega)⟩
end

section
set_option linter.unusedVariables false
set_option linter.unusedSimpArgs false
open Go.RowKit Go.Sort

theorem edges_ok {C : Nat} {ts : List Tl} (h1 : 1 ≤ C) (hs : colOk C ts) (h : Nat) : colOk (C ^ h) (edgesL (C : Int) ts h) := by
  intro k hk
  rw [edgesL_len] at hk
  rw [edgesL_at (C : Int) ts h hk]
  obtain ⟨hl, hal⟩ := colsL_at ts h hk
  obtain ⟨a, ea, ha⟩ := wnum_lt (c := C) (by omega) (mem_colW hs hal)
  obtain ⟨b, eb, hb⟩ := wnum_lt (c := C) (by omega) (mem_colE hs hal)
  rw [colW_len, hl] at ha
  rw [colE_len, hl] at hb
  exact ⟨a, b, ea, ha, eb, hb⟩
theorem wordsL_len (E : List Tl) : (wordsL E).length ≤ E.length := by
  refine Nat.le_trans (sortI_len _) ?_
  rw [List.length_map]
  unfold lastingT
  rw [pick_len]
  exact lastL_le E
/-- The lasting edges, and the lasting words, handed back. -/
def LastGood (w : World) (P : Nat) (E : List Tl) (e : Ending) (w' : World) : Prop :=
  ∃ A1 q1 A2 q2, e = .returned (.tuple #[.agg #[.int .i64 (P : Int), .slice A1 (lastingT E).length q1], .slice A2 (wordsL E).length q2, .int .i64 0]) ∧ Below w.heap.size w w' ∧ TW w' (w.heap.size + 2) A1 (lastingT E) ∧ IWr w' (w.heap.size + 2) w'.heap.size A2 (wordsL E)
/-- No edges, with a code. -/
def NoEdges (w : World) (code : Int) (e : Ending) (w' : World) : Prop :=
  e = .returned (.tuple #[.agg #[.int .i64 0, .slice none 0 0], .slice none 0 0, .int .i64 code]) ∧ Below w.heap.size w w'

set_option maxRecDepth 100000 in
set_option maxHeartbeats 8000000 in
theorem lastingEdges_g (C : Nat) (A : Option Addr) (n c : Nat) (ts : List Tl) (h : Nat) (w : World) (hl : ts.length = n) (hA : TR w w.heap.size A ts) (hs : isSet (C : Int) ts = true) (h1 : 1 ≤ h) (h4 : h ≤ 4) (hC7 : C ^ h ≤ 700) (hN : (colsL ts h).length ≤ 5000) :
    Calls Try.prog 58 #[.agg #[.int .i64 (C : Int), .slice A n c], .int .i64 (h : Int)] w fun e w' =>
      ((wordsL (edgesL (C : Int) ts h)).length ≤ 40 → LastGood w (C ^ h) (edgesL (C : Int) ts h) e w') ∧ (¬ (wordsL (edgesL (C : Int) ts h)).length ≤ 40 → NoEdges w 3 e w') := by
  have hcc := isSet_col hs
  have hok := edges_ok (C := C) (ts := ts) (by omega) (colOk_set hs rfl) h
  have hgo : ∀ W, Ext w W → Calls Try.prog 54 #[.agg #[.int .i64 (C : Int), .slice A n c], .int .i64 (h : Int)] W _ := fun W hW => graphOf_0 C A n c ts h W hl ((hA.ext hW (Nat.le_refl _)).more (hW.below (Nat.le_refl _)).size) hs h1 h4 hC7 hN
  unfold GraphRes at hgo
  have hel := edgesL_len (C : Int) ts h
  have hwl : ∀ W (F : Option Addr) (cf : Nat), TR W W.heap.size F (edgesL (C : Int) ts h) → Calls Try.prog 104 #[.agg #[.int .i64 ((C ^ h : Nat) : Int), .slice F (colsL ts h).length cf]] W _ := fun W F cf hF => withLasting_any (C ^ h) F _ cf (edgesL (C : Int) ts h) W (by omega) hel hF (by omega) hok
  unfold SetOnly at hwl
  have hll := lastingT_len (edgesL (C : Int) ts h)
  have hwa : ∀ W (F : Option Addr) (cf : Nat) (B : Option Addr) (d : Nat), TR W W.heap.size F (lastingT (edgesL (C : Int) ts h)) → IR W W.heap.size B [0] → Calls Try.prog 105 #[.agg #[.int .i64 ((C ^ h : Nat) : Int), .slice F (lastingT (edgesL (C : Int) ts h)).length cf], .slice B 1 d] W _ := fun W F cf B d hF hB => wordsAt_any _ F _ cf (lastingT (edgesL (C : Int) ts h)) B d W (by omega) rfl hF hB
  unfold LastGood NoEdges
  have HWL := Lib.hid hwl
  have HG := Lib.hid hgo
  have HWA := Lib.hid hwa
  clear hwl hgo hwa hA hs hok hcc hel hll
  rw [show sortI ((lastingT (edgesL (C : Int) ts h)).map fun e => e.1) = wordsL (edgesL (C : Int) ts h) from rfl] at HWA
  generalize edgesL (C : Int) ts h = E at *
  generalize lastingT E = es at *
  generalize wordsL E = ws at *
  generalize colsL ts h = cols at *
  generalize C ^ h = P at *
  go_enter Try.func58, Try.ntmps58
  go_wp2_with fail
  obtain ⟨W0, hW0⟩ : ∃ W0, (w.alloc (Obj.cells #[.int .i64 (C : Int), .slice A n c] 30)).alloc (Obj.cells #[.int .i64 0, .slice none 0 0] 30) = W0 := ⟨_, rfl⟩
  have hx0 : Ext w W0 := by rw [← hW0]; exact ((Ext.refl w).alloc _).alloc _
  have hS : Blk W0 w.heap.size 30 #[.int .i64 (C : Int), .slice A n c] := by rw [← hW0]; exact (Blk.new w _ _).ext ((Ext.refl _).alloc _)
  have hR : Blk W0 (w.heap.size + 1) 30 #[.int .i64 0, .slice none 0 0] := by
    rw [← hW0]
    have := Blk.new (w.alloc (Obj.cells #[.int .i64 (C : Int), .slice A n c] 30)) 30 #[.int .i64 0, .slice none 0 0]
    simpa using this
  have hsz : w.heap.size + 2 ≤ W0.heap.size := by rw [← hW0]; simp
  rw [hW0]
  have HX0 := Lib.hid hx0
  have HR := Lib.hid hR
  have r0 := hS.rd 0 rfl
  have r1 := hS.rd 1 rfl
  clear hx0 hS hR hW0
  refine (HG.out _ HX0.out).mono ?_
  rintro e w1 ⟨R, q, F, qf, rfl, hb1, -, hF⟩
  have B1 := Lib.hid hb1
  have TF := Lib.hid hF
  have hsz1 := hb1.size
  clear hb1 hF r0 r1
  go_wp2_with fail
  obtain ⟨W2, hW2⟩ : ∃ W2, w1.alloc (Obj.cells #[.int .i64 (C : Int), .slice A n c, .slice R cols.length q, .int .i64 (P : Int), .slice F cols.length qf] 55) = W2 := ⟨_, rfl⟩
  have hx2 : Ext w1 W2 := by rw [← hW2]; exact (Ext.refl w1).alloc _
  rw [hW2]
  have hsz2 := (hx2.below (Nat.le_refl _)).size
  have B2 := Lib.hid (B1.out.trans (hx2.below hsz1))
  refine (HWL.out _ _ _ ((TF.out.ext hx2 (Nat.le_refl _)).more hsz2)).mono ?_
  rintro e w3 ⟨G, qg, rfl, hb3, hG⟩
  have B3 := Lib.hid (B2.out.trans (hb3.mono (by omega)))
  have hsz3 := hb3.size
  have TG := Lib.hid hG
  clear hb3 hG hx2 hW2
  go_wp2_with fail
  obtain ⟨W4, hW4⟩ : ∃ W4, (w3.alloc (Obj.cells #[.int .i64 (P : Int), .slice G es.length qg] 30)).alloc (Obj.cells #[.int .i64 0] 3) = W4 := ⟨_, rfl⟩
  have hx4 : Ext w3 W4 := by rw [← hW4]; exact ((Ext.refl w3).alloc _).alloc _
  have hK : Blk W4 w3.heap.size 30 #[.int .i64 (P : Int), .slice G es.length qg] := by rw [← hW4]; exact (Blk.new w3 _ _).ext ((Ext.refl _).alloc _)
  have hZ : Blk W4 (w3.heap.size + 1) 3 #[.int .i64 0] := by
    rw [← hW4]
    have := Blk.new (w3.alloc (Obj.cells #[.int .i64 (P : Int), .slice G es.length qg] 30)) 3 #[.int .i64 0]
    simpa using this
  have hir : IR W4 W4.heap.size (some ⟨w3.heap.size + 1, 0, none⟩) [0] := fun _ => ⟨_, _, rfl, hZ.lt, fun k hk => by
    have hk0 : k = 0 := by simp at hk; exact hk
    subst hk0
    exact hZ.cell 0⟩
  rw [hW4]
  have hsz4 := (hx4.below (Nat.le_refl _)).size
  have B4 := Lib.hid (B3.out.trans (hx4.below (by omega)))
  have HK := Lib.hid hK
  have TG4 := Lib.hid (TG.out.ext hx4)
  clear hx4 hK hZ hW4
  refine (HWA.out _ _ _ _ _ TG4.out.tr hir).mono ?_
  rintro e w5 ⟨Y, qy, rfl, hb5, hY⟩
  have B5 := Lib.hid (B4.out.trans (hb5.mono (by omega)))
  have YY := Lib.hid hY
  have TG5 := Lib.hid (TG4.out.below hb5)
  have HK5 := HK.out.below hb5 HK.out.lt
  have k0 := HK5.rd 0 rfl
  have k1 := HK5.rd 1 rfl
  have HR5 := HR.out.below B5.out (by omega)
  have t0 := HR5.rd 0 rfl
  have t1 := HR5.rd 1 rfl
  have z0 := HR5.frozen 0
  have z1 := HR5.frozen 1
  have HLE := Lib.hid (show w.heap.size ≤ w.heap.size + 1 by omega)
  have HBW := Lib.hid ((HX0.out.below (Nat.le_refl _)).trans (B5.out.mono (by omega)))
  have HSZ := Lib.hid (show w.heap.size + 1 < W2.heap.size ∧ w.heap.size + 1 < W4.heap.size ∧ w.heap.size + 2 ≤ W2.heap.size ∧ w.heap.size + 2 ≤ W4.heap.size by omega)
  clear hb5 hY hir HK5 HR5
  by_cases h40 : ws.length ≤ 40
  · have h40' : ¬ (40 : Int) < (ws.length : Int) := by omega
    go_wp2_with fail
    refine bodyPost_ret (v := .tuple #[.agg #[.int .i64 (P : Int), .slice G es.length qg], .slice Y ws.length qy, .int .i64 0]) (by simp [results, Try.results58, go_sem, t0, t1, z0, z1]) rfl ⟨fun _ => ⟨G, qg, Y, qy, rfl, ?_, ?_, ?_⟩, fun h => absurd h40 h⟩
    · exact (HBW.out.setCell HLE.out _).setCell HLE.out _
    · exact ((TG5.out.far (p := ⟨w.heap.size + 1, 0, none⟩) HSZ.out.1 _).far (p := ⟨w.heap.size + 1, 1, none⟩) HSZ.out.1 _).low HSZ.out.2.2.1
    · have hlo : ∀ c u, Y = some ⟨c, u, none⟩ → 0 < ws.length → c ≠ w.heap.size + 1 := fun c u e h0 => by
        have h8 := YY.out.lo_at (Nat.le_refl _) c u e h0
        have h9 := HSZ.out.2.1
        omega
      have h8 := ((YY.out.set_far (p := ⟨w.heap.size + 1, 0, none⟩) hlo (.int .i64 (P : Int))).set_far (p := ⟨w.heap.size + 1, 1, none⟩) hlo (.slice G es.length qg)).low HSZ.out.2.2.2
      simpa using h8
  · have h40' : (40 : Int) < (ws.length : Int) := by omega
    go_wp2_with fail
    refine bodyPost_ret (v := .tuple #[.agg #[.int .i64 0, .slice none 0 0], .slice none 0 0, .int .i64 3]) (by simp [results, Try.results58, go_sem, t0, t1, z0, z1]) rfl ⟨fun h => absurd h h40, fun _ => ⟨rfl, ?_⟩⟩
    exact (HBW.out.setCell HLE.out _).setCell HLE.out _

set_option maxRecDepth 100000 in
set_option maxHeartbeats 4000000 in
theorem lastingEdges_no (c0 : Int) (A : Option Addr) (n c : Nat) (ts : List Tl) (h : Int) (w : World) (hn : n ≤ 1048576) (hl : ts.length = n) (hA : TR w w.heap.size A ts) (hg : gCode c0 ts h ≠ 0) :
    Calls Try.prog 58 #[.agg #[.int .i64 c0, .slice A n c], .int .i64 h] w (NoEdges w (gCode c0 ts h)) := by
  have hgo : ∀ W, Ext w W → Calls Try.prog 54 #[.agg #[.int .i64 c0, .slice A n c], .int .i64 h] W _ := fun W hW => graphOf_no c0 A n c ts h W hn hl ((hA.ext hW (Nat.le_refl _)).more (hW.below (Nat.le_refl _)).size) hg
  unfold NoGraph at hgo
  unfold NoEdges
  generalize gCode c0 ts h = code at *
  have hne : (code != 0) = true := by simp [hg]
  have HG := Lib.hid hgo
  clear hgo hA
  go_enter Try.func58, Try.ntmps58
  go_wp2_with fail
  obtain ⟨W0, hW0⟩ : ∃ W0, (w.alloc (Obj.cells #[.int .i64 c0, .slice A n c] 30)).alloc (Obj.cells #[.int .i64 0, .slice none 0 0] 30) = W0 := ⟨_, rfl⟩
  have hx0 : Ext w W0 := by rw [← hW0]; exact ((Ext.refl w).alloc _).alloc _
  have hS : Blk W0 w.heap.size 30 #[.int .i64 c0, .slice A n c] := by rw [← hW0]; exact (Blk.new w _ _).ext ((Ext.refl _).alloc _)
  have hR : Blk W0 (w.heap.size + 1) 30 #[.int .i64 0, .slice none 0 0] := by
    rw [← hW0]
    have := Blk.new (w.alloc (Obj.cells #[.int .i64 c0, .slice A n c] 30)) 30 #[.int .i64 0, .slice none 0 0]
    simpa using this
  have hsz : w.heap.size + 2 ≤ W0.heap.size := by rw [← hW0]; simp
  rw [hW0]
  have HX0 := Lib.hid hx0
  have HR := Lib.hid hR
  have r0 := hS.rd 0 rfl
  have r1 := hS.rd 1 rfl
  clear hx0 hS hR hW0
  refine (HG.out _ HX0.out).mono ?_
  rintro e w1 ⟨rfl, hb1⟩
  have hsz1 := hb1.size
  have hx2 := ((Ext.refl w1).alloc (Obj.cells #[.int .i64 0, .slice none 0 0, .slice none 0 0, .int .i64 0, .slice none 0 0] 55))
  have B2 := Lib.hid (hb1.trans (hx2.below hsz1))
  have HR5 := HR.out.below B2.out (by omega)
  have t0 := HR5.rd 0 rfl
  have t1 := HR5.rd 1 rfl
  have z0 := HR5.frozen 0
  have z1 := HR5.frozen 1
  have HLE := Lib.hid (show w.heap.size ≤ w.heap.size + 1 by omega)
  have HBW := Lib.hid ((HX0.out.below (Nat.le_refl _)).trans (B2.out.mono (by omega)))
  clear hb1 HR5 hx2 r0 r1
  go_wp2_with fail
  refine bodyPost_ret (v := .tuple #[.agg #[.int .i64 0, .slice none 0 0], .slice none 0 0, .int .i64 code]) (by simp [results, Try.results58, go_sem, t0, t1, z0, z1]) rfl ⟨rfl, ?_⟩
  exact (HBW.out.setCell HLE.out _).setCell HLE.out _
end

section
set_option linter.unusedVariables false
set_option linter.unusedSimpArgs false
open Go.RowKit Go.Sort

set_option maxRecDepth 100000 in
set_option maxHeartbeats 2000000 in
theorem noWays_any (n : Nat) (w : World) (hn : n ≤ 1000) :
    Calls Try.prog 63 #[.int .i64 (n : Int)] w fun e w' => ∃ A', e = .returned (.slice A' n n) ∧ Below w.heap.size w w' ∧ IWW w' w.heap.size w'.heap.size A' (matL n fun _ _ => 0) := by
  obtain ⟨i0, hi, hz0, hz1, hz2⟩ := info_parts info_row
  have hmk := fun W => run_make_rowN (P := Try.prog) 34 42 i0 _ (by kernel_rfl) hi hz0 .i64 .i64 n n (Nat.le_refl _) (by rw [hz2]; omega) (by omega) W
  rw [hz1] at hmk
  generalize hcs : madeCells (Value.cells (.slice none 0 0)) (n * 1) = cs0 at hmk
  have hsz : cs0.size = n := by rw [← hcs, size_madeCells, Nat.mul_one]
  obtain ⟨i1, hi1, hy0, hy1, hy2⟩ := info_parts info_int
  have hmk1 := fun W => run_make_rowN (P := Try.prog) 42 2 i1 _ (by kernel_rfl) hi1 hy0 .i64 .i64 n n (Nat.le_refl _) (by rw [hy2]; omega) (by omega) W
  rw [hy1] at hmk1
  have hat := made_ints n
  generalize madeCells (Value.cells (.int .i64 0)) (n * 1) = cs1 at hmk1 hat
  have HAT := Lib.hid hat
  have HS := Lib.hid hsz
  clear hcs hi hz0 hz1 hz2 hi1 hy0 hy1 hy2 hat hsz
  go_enter Try.func63, Try.ntmps63
  go_wp2_with fail
  go_loopw [9] (fun i wr => ∃ k : Nat, k ≤ n ∧ i = .int .i64 k ∧ RCopied w wr w.heap.size n k (matL n fun _ _ => 0)) (fun i _ => n - (intOf i).toNat)
  case atStart => exact ⟨0, Nat.zero_le _, rfl, RCopied.start w n _ cs0 HS.out _⟩
  case round =>
    clear hmk
    obtain ⟨k, hk, rfl, hx⟩ := hrel
    have HX := Lib.hid hx
    by_cases hlt : k < n
    · have hb1 := ((Ext.refl wr).alloc (Obj.cells cs1 2)).below (Nat.le_refl wr.heap.size)
      have hw1 : IWr (wr.alloc (Obj.cells cs1 2)) wr.heap.size (wr.alloc (Obj.cells cs1 2)).heap.size (some ⟨wr.heap.size, 0, none⟩) ((matL n fun _ _ => 0).getD k []) := fun h0 => by
        refine ⟨wr.heap.size, 0, 2, cs1, rfl, Nat.le_refl _, by simp, Blk.new wr _ _, fun j hj => ?_⟩
        rw [matL_rlen hlt] at hj
        rw [matL_at hlt hj, Nat.zero_add]
        exact HAT.out j hj
      obtain ⟨v0, r0, z0⟩ := hx.room hlt hb1
      have HN := Lib.hid (hx.step hlt (matL_rlen hlt) (Nat.le_refl n) hb1 hw1)
      have hlt3 : (k : Int) < (n : Int) := by omega
      clear hb1 hw1 hx HX
      go_wp2_with fail
      go_roundw
      case rel => exact ⟨k + 1, by omega, by go_num, HN.out⟩
      case measure => simp [intOf]; omega
    · obtain rfl : k = n := by omega
      clear hx
      go_wp2_with fail
      go_ret
      obtain ⟨h1, h2⟩ := HX.out.done (matL_len k _)
      exact ⟨_, rfl, h1, h2⟩

theorem searchI_any (A : Option Addr) (n c : Nat) (xs : List Int) (y : Int) (w : World) (hn : n ≤ 1048576) (hl : xs.length = n) (hA : IR w w.heap.size A xs) (ha : AscI xs) (hy : y ∈ xs) :
    Calls Try.prog 64 #[.slice A n c, .int .i64 y] w fun e w' => ∃ b, e = .returned (.tuple #[.int .i64 ((rk xs y : Nat) : Int), .bool b]) ∧ Ext w w' := by
  obtain ⟨b, off, rfl, -, hc⟩ := hA (List.length_pos_of_mem hy)
  have hcon := AnyG.slices_BinarySearch_int Try.searchInts b off n c xs y w (by omega) (by omega) hc (by rw [List.take_of_length_le (by omega)]; exact ha.imp fun h => by omega)
  change Calls Try.prog 64 _ _ _ at hcon
  refine hcon.mono ?_
  rintro e w' ⟨rfl, q, rfl⟩
  rw [List.take_of_length_le (by omega)]
  exact ⟨_, rfl, (Ext.refl w).drewN q⟩

/-- A table handed back in memory of its own, with a code. -/
def MatRes (w : World) (vs : List (List Int)) (code : Int) (e : Ending) (w' : World) : Prop := ∃ R p, e = .returned (.tuple #[.slice R vs.length p, .int .i64 code]) ∧ Below w.heap.size w w' ∧ IWW w' w.heap.size w'.heap.size R vs
theorem MatRes.none_ {w w' : World} {code : Int} (h : Below w.heap.size w w') : MatRes w [] code (.returned (.tuple #[.slice none 0 0, .int .i64 code])) w' := ⟨none, 0, rfl, h, fun h0 => absurd h0 (Nat.lt_irrefl _)⟩
/-- The code of the table of a height. -/
noncomputable def tCode (c0 : Int) (ts : List Tl) (h : Int) : Int := if gCode c0 ts h = 0 then (if (wordsL (edgesL c0 ts h.toNat)).length ≤ 40 then 0 else 3) else gCode c0 ts h

theorem IWW.up_ {w : World} {lo lo' hi hi' : Nat} {A : Option Addr} {rs : List (List Int)} (h : IWW w lo hi A rs) (hl : lo' ≤ lo) (hh : hi ≤ hi') : IWW w lo' hi' A rs := fun h0 => by
  obtain ⟨b, off, t, cs, Q, q, e, h1, h2, hb, hr, ha⟩ := h h0
  refine ⟨b, off, t, cs, Q, q, e, by omega, by omega, hb, fun k hk => ?_, ha⟩
  obtain ⟨k1, k2, k3, k4⟩ := hr k hk
  exact ⟨k1, k2, (fun h5 => by obtain ⟨b', o', t', cs', e', g1, g2, g3⟩ := k3 h5; exact ⟨b', o', t', cs', e', by omega, by omega, g3⟩), k4⟩

set_option maxRecDepth 100000 in
set_option maxHeartbeats 8000000 in
theorem implColumnTable_0 (C : Nat) (A : Option Addr) (n c : Nat) (ts : List Tl) (h : Nat) (w : World) (hl : ts.length = n) (hA : TR w w.heap.size A ts) (hs : isSet (C : Int) ts = true) (h1 : 1 ≤ h) (h4 : h ≤ 4) (hC7 : C ^ h ≤ 700) (hN : (colsL ts h).length ≤ 5000) (h40 : (wordsL (edgesL (C : Int) ts h)).length ≤ 40) :
    Calls Try.prog 28 #[.agg #[.int .i64 (C : Int), .slice A n c], .int .i64 (h : Int)] w (MatRes w (tabL (edgesL (C : Int) ts h)) 0) := by
  have hle : ∀ W, Ext w W → Calls Try.prog 58 #[.agg #[.int .i64 (C : Int), .slice A n c], .int .i64 (h : Int)] W _ := fun W hW => lastingEdges_g C A n c ts h W hl ((hA.ext hW (Nat.le_refl _)).more (hW.below (Nat.le_refl _)).size) hs h1 h4 hC7 hN
  have hel := lastingT_len (edgesL (C : Int) ts h)
  rw [edgesL_len] at hel
  have hwm : ∀ e ∈ lastingT (edgesL (C : Int) ts h), e.1 ∈ wordsL (edgesL (C : Int) ts h) ∧ e.2.2.1 ∈ wordsL (edgesL (C : Int) ts h) := fun e he => ⟨words_W he, words_E he⟩
  have HASC := Lib.hid (wordsL_asc (edgesL (C : Int) ts h))
  unfold LastGood at hle
  unfold MatRes tabL
  have HLE := Lib.hid hle
  have HWM := Lib.hid hwm
  clear hle hA hs hwm
  generalize edgesL (C : Int) ts h = E at *
  generalize hees : lastingT E = es at *
  generalize hws : wordsL E = ws at *
  clear hees hws
  generalize C ^ h = P at *
  generalize hNN : es.length = N at *
  generalize hMM : ws.length = m at *
  have hN5 : N ≤ 5000 := by omega
  have hnw : ∀ W, Calls Try.prog 63 #[.int .i64 (m : Int)] W _ := fun W => noWays_any m W (by omega)
  have HNW := Lib.hid hnw
  clear hnw
  go_enter Try.func28, Try.ntmps28
  go_wp2_with fail
  refine (HLE.out _ ((Ext.refl w).alloc _)).mono ?_
  rintro e w1 ⟨hyes, -⟩
  obtain ⟨A1, q1, A2, q2, rfl, hb1, ht1, hw1⟩ := hyes h40
  have H0 := Lib.hid ((((Ext.refl w).alloc (.cells #[.int .i64 (C : Int), .slice A n c] 30)).below (Nat.le_refl w.heap.size)).trans (hb1.mono (by simp)))
  have T1 := Lib.hid ht1
  have W1 := Lib.hid hw1
  have hsz1 := H0.out.size
  clear hb1 ht1 hw1 hyes
  go_wp2_with fail
  obtain ⟨W2, hW2⟩ : ∃ W2, w1.alloc (Obj.cells #[.int .i64 (P : Int), .slice A1 N q1] 30) = W2 := ⟨_, rfl⟩
  have hx2 : Ext w1 W2 := by rw [← hW2]; exact (Ext.refl w1).alloc _
  have hK : Blk W2 w1.heap.size 30 #[.int .i64 (P : Int), .slice A1 N q1] := by rw [← hW2]; exact Blk.new w1 _ _
  have hsz2 : w1.heap.size + 1 ≤ W2.heap.size := by rw [← hW2]; simp
  have HK := Lib.hid hK
  have T2 := Lib.hid (T1.out.ext hx2)
  have WW2 := Lib.hid (W1.out.ext hx2)
  have B2 := Lib.hid (H0.out.trans (hx2.below hsz1))
  rw [hW2]
  clear hx2 hK hW2
  refine (HNW.out _).mono ?_
  rintro e w3 ⟨T, rfl, hb3, hm3⟩
  have B3 := Lib.hid hb3
  have MT := Lib.hid hm3
  have hsz3 := hb3.size
  have k1 := (HK.out.below hb3 HK.out.lt).rd 1 rfl
  have T3 := Lib.hid (T2.out.below hb3)
  have WW3 := Lib.hid (WW2.out.below hb3)
  clear hb3 hm3
  go_wp2_with fail
  go_loopw [32] (fun ii wr => ∃ k : Nat, k ≤ N ∧ ii = .int .i64 k ∧ Below W2.heap.size W2 wr ∧ w3.heap.size ≤ wr.heap.size ∧ IWW wr W2.heap.size w3.heap.size T (matL m (tabF ws (es.take k)))) (fun ii _ => N - (intOf ii).toNat)
  case atStart => exact ⟨0, Nat.zero_le _, rfl, B3.out, Nat.le_refl _, by rw [List.take_zero, tabF_nil]; exact MT.out⟩
  case round =>
    obtain ⟨k, hk, rfl, hb, hsw, hm⟩ := hrel
    have HB := Lib.hid hb
    have HM := Lib.hid hm
    have hbs := hb.size
    clear hb hm
    by_cases hlt : k < N
    · have hlt3 : (k : Int) < (N : Int) := by omega
      obtain ⟨b, o, rfl, hbb, ht⟩ := (T2.out.tr.below HB.out (Nat.le_refl _)) (by omega)
      replace ht := ht k (by omega)
      obtain ⟨hm0, hm2⟩ := HWM.out (es.getD k T0) (by simp [List.getD, show k < es.length by omega])
      have HTK := Lib.hid (show tabF ws (es.take (k + 1)) = _ by rw [take_snoc es (k := k) (by omega), tabF_snoc])
      generalize es.getD k T0 = ed at *
      obtain ⟨d0, d1, d2, d3⟩ := ed
      obtain ⟨c0', c1', c2', c3'⟩ := ht
      simp only at c0' c1' c2' c3' hm0 hm2
      have hs0 : ∀ W, Ext wr W → Calls Try.prog 64 #[.slice A2 m q2, .int .i64 d0] W _ := fun W hW => searchI_any A2 m q2 ws d0 W (by omega) hMM (((WW2.out.ir.below HB.out (Nat.le_refl _)).ext hW hbs).more (by have := (hW.below (Nat.le_refl _)).size; omega)) HASC.out hm0
      have hs2 : ∀ W, Ext wr W → Calls Try.prog 64 #[.slice A2 m q2, .int .i64 d2] W _ := fun W hW => searchI_any A2 m q2 ws d2 W (by omega) hMM (((WW2.out.ir.below HB.out (Nat.le_refl _)).ext hW hbs).more (by have := (hW.below (Nat.le_refl _)).size; omega)) HASC.out hm2
      have hr0 := rk_lt hm0
      have hr2 := rk_lt hm2
      rw [hMM] at hr0 hr2
      simp only at HTK
      generalize rk ws d0 = i0 at *
      generalize rk ws d2 = i2 at *
      have HS0 := Lib.hid hs0
      have HS2 := Lib.hid hs2
      have hi0 : (i0 : Int) < (m : Int) := by omega
      have hi2 : (i2 : Int) < (m : Int) := by omega
      clear hs0 hs2 hm0 hm2
      go_wp2_with fail
      have hbT : Blk (wr.alloc (Obj.cells #[.int .i64 d0, .int .i64 d1, .int .i64 d2, .int .i64 d3] 69)) wr.heap.size 69 #[.int .i64 d0, .int .i64 d1, .int .i64 d2, .int .i64 d3] := Blk.new wr _ _
      have HBT := Lib.hid hbT
      have HXT := Lib.hid ((Ext.refl wr).alloc (Obj.cells #[.int .i64 d0, .int .i64 d1, .int .i64 d2, .int .i64 d3] 69))
      generalize wr.alloc (Obj.cells #[.int .i64 d0, .int .i64 d1, .int .i64 d2, .int .i64 d3] 69) = W5 at *
      clear hbT c0' c1' c2' c3'
      refine (HS0.out _ HXT.out).mono ?_
      rintro e w6 ⟨bb, rfl, hx6⟩
      have HX6 := Lib.hid (HXT.out.trans hx6)
      have y2 := (HBT.out.ext hx6).rd 2 rfl
      clear hx6
      go_wp2_with fail
      refine (HS2.out _ HX6.out).mono ?_
      rintro e w7 ⟨bb2, rfl, hx7⟩
      have HX7 := Lib.hid (HX6.out.trans hx7)
      have hsz7 := ((HX6.out.trans hx7).below (Nat.le_refl wr.heap.size)).size
      have HM7 := Lib.hid (HM.out.ext (HX6.out.trans hx7))
      obtain ⟨bt, ot, X, x, qx, rfl, hbt1, hbt2, hrow, hX1, hX2, hqx, -, -, hcell⟩ := HM7.out.row_at (i := i0) (by rw [matL_len]; exact hr0) (by rw [matL_rlen hr0]; omega)
      rw [matL_rlen hr0] at hrow hcell hqx
      obtain ⟨hcl, hfz, hset⟩ := hcell i2 hr2
      rw [matL_at hr0 hr2] at hcl
      have htl := tabF_le ws (es.take k) i0 i2
      rw [List.length_take] at htl
      have hset2 := hset (tabF ws (es.take k) i0 i2 + 1)
      rw [matL_set hr0 hr2, ← HTK.out] at hset2
      have HST := Lib.hid hset2
      generalize tabF ws (es.take k) i0 i2 = tv0 at *
      have hwt : IntKind.i64.wrap (tv0 + 1) = tv0 + 1 := IntWalk.i64_in _ (by omega)
      have HBF := Lib.hid ((HB.out.trans (HX7.out.below hbs)).setCell (p := ⟨X, x + i2, none⟩) hX1 (.int .i64 (tv0 + 1)))
      have HSZF := Lib.hid (show w3.heap.size ≤ w7.heap.size by omega)
      clear hx7 hcell hset hset2 y2 htl
      go_wp2_with fail
      go_roundw
      case rel => exact ⟨k + 1, by omega, by go_num, HBF.out, by simpa using HSZF.out, HST.out⟩
      case measure => simp [intOf]; omega
    · obtain rfl : k = N := by omega
      have hmm := HM.out
      rw [List.take_of_length_le (by omega)] at hmm
      have HRES := Lib.hid (hmm.up_ (lo' := w.heap.size) (hi' := wr.heap.size) (by have := B2.out.size; omega) hsw)
      have HBF := Lib.hid (B2.out.trans (HB.out.mono B2.out.size))
      clear hmm HM
      go_wp2_with fail
      go_ret2
      exact ⟨T, m, by rw [matL_len]; rfl, HBF.out, HRES.out⟩

/-- The code of the lasting edges, where there is no graph, or where the lasting words are too many. -/
theorem lastingEdges_bad (c0 : Int) (A : Option Addr) (n c : Nat) (ts : List Tl) (h : Int) (w : World) (hn : n ≤ 1048576) (hl : ts.length = n) (hA : TR w w.heap.size A ts) (ht : tCode c0 ts h ≠ 0) :
    Calls Try.prog 58 #[.agg #[.int .i64 c0, .slice A n c], .int .i64 h] w (NoEdges w (tCode c0 ts h)) := by
  by_cases hg : gCode c0 ts h = 0
  · obtain ⟨hs, hh, hc7, hN⟩ := gCode_zero hg
    have hcc := isSet_col hs
    obtain ⟨C, rfl⟩ : ∃ C : Nat, c0 = (C : Int) := ⟨c0.toNat, by omega⟩
    obtain ⟨h', rfl⟩ : ∃ h' : Nat, h = (h' : Int) := ⟨h.toNat, by omega⟩
    rw [Int.toNat_natCast] at hc7 hN
    have hc8 : C ^ h' ≤ 700 := by
      have e : ((C ^ h' : Nat) : Int) = (C : Int) ^ h' := by push_cast; rfl
      omega
    have h40 : ¬ (wordsL (edgesL (C : Int) ts h')).length ≤ 40 := fun h40 => ht (by unfold tCode; rw [if_pos hg, Int.toNat_natCast, if_pos h40])
    have e3 : tCode (C : Int) ts (h' : Int) = 3 := by unfold tCode; rw [if_pos hg, Int.toNat_natCast, if_neg h40]
    rw [e3]
    exact (lastingEdges_g C A n c ts h' w hl hA hs (by omega) (by omega) hc8 hN).mono fun e w' ⟨_, hno⟩ => hno h40
  · have e3 : tCode c0 ts h = gCode c0 ts h := by unfold tCode; rw [if_neg hg]
    rw [e3]
    exact lastingEdges_no c0 A n c ts h w hn hl hA hg

set_option maxRecDepth 100000 in
set_option maxHeartbeats 4000000 in
theorem implColumnTable_no (c0 : Int) (A : Option Addr) (n c : Nat) (ts : List Tl) (h : Int) (w : World) (hn : n ≤ 1048576) (hl : ts.length = n) (hA : TR w w.heap.size A ts) (hg : tCode c0 ts h ≠ 0) :
    Calls Try.prog 28 #[.agg #[.int .i64 c0, .slice A n c], .int .i64 h] w (MatRes w [] (tCode c0 ts h)) := by
  have hgo : ∀ W, Ext w W → Calls Try.prog 58 #[.agg #[.int .i64 c0, .slice A n c], .int .i64 h] W _ := fun W hW => lastingEdges_bad c0 A n c ts h W hn hl ((hA.ext hW (Nat.le_refl _)).more (hW.below (Nat.le_refl _)).size) hg
  unfold NoEdges at hgo
  generalize tCode c0 ts h = code at *
  have hne : (code != 0) = true := by simp [hg]
  have HG := Lib.hid hgo
  clear hgo hA
  go_enter Try.func28, Try.ntmps28
  go_wp2_with fail
  refine (HG.out _ ((Ext.refl w).alloc _)).mono ?_
  rintro e w1 ⟨rfl, hb⟩
  have HB := Lib.hid ((((Ext.refl w).alloc (.cells #[.int .i64 c0, .slice A n c] 30)).below (Nat.le_refl _)).trans (hb.mono (by simp)))
  have hszb := HB.out.size
  clear hb
  go_wp2_with fail
  go_ret2
  exact MatRes.none_ (HB.out.alloc hszb _)
end
end Go.Proofs.Ytleabblnikbmpaa
