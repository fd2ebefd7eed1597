/- The sort's words for a row of tiles, and ours. -/
import Derived.Test.YtleabblnikbmpaaLSort
import Derived.Shelf.SlSortCmp.InsertionK
namespace Go.Proofs.Ytleabblnikbmpaa
set_option linter.unusedVariables false
set_option linter.unusedSimpArgs false
open Go.RowKit Go.Sort

theorem flatK_get (d : Array Tl) {j : Nat} (hj : j < d.size * 4) : some ((flatK enc 4 d)[j]!) = (flat d.toList)[j]? := by
  rw [get_flatK enc 4 d j hj]
  have h := flat_get d.toList (k := j / 4) (j := j % 4) (by simp; omega) (by omega)
  rw [show j / 4 * 4 + j % 4 = j by omega] at h
  rw [h]
  have hk : j / 4 < d.size := by omega
  have e : d.toList.getD (j / 4) T0 = d[j / 4]! := by simp [List.getD, hk]
  rw [e]
  have h4 : j % 4 < (enc d[j / 4]!).length := by simp [enc]; omega
  have gen : ∀ (l : List Value) (i : Nat), i < l.length → some l[i]! = l[i]? := by
    intro l i h
    rw [getElem!_pos l i h, List.getElem?_eq_getElem h]
  exact gen _ _ h4

theorem holds_of_own {w : World} {base g n cap : Nat} {ts : List Tl} (h : w.ownsRow base 69 4 (.slice (some ⟨g, 0, none⟩) n cap) n (flat ts)) (hl : ts.length = n) : HoldsK enc 4 w g 0 ts.toArray := by
  intro j hj
  have hj' : j < n * 4 := by simpa [hl] using hj
  refine ⟨?_, by simpa using h.frozenAt j⟩
  rw [Nat.zero_add, h.cellAt j hj']
  rw [id, flatK_get ts.toArray (by simpa [hl] using hj')]

theorem own_of_sort {w : World} {base g n cap : Nat} {ts : List Tl} (h : w.ownsRow base 69 4 (.slice (some ⟨g, 0, none⟩) n cap) n (flat ts)) (d' : Array Tl) (hd : d'.size = n) (m : Nat) (os : Array Obj) :
    (sortWorldK enc 4 w g 0 m d' os).ownsRow base 69 4 (.slice (some ⟨g, 0, none⟩) n cap) n (flat d'.toList) ∧ w.grownBy (sortWorldK enc 4 w g 0 m d' os) (some g) := by
  have hlt := h.lt g rfl
  rcases h.2 with ⟨hv, _⟩ | ⟨g', cap', cur, hv, hb, hh, hn, hm, hs, ht⟩
  · cases hv
  · cases hv
    have hnew : (sortWorldK enc 4 w g 0 m d' os).heap[g]? = some (.cells (putCells id 0 (flatK enc 4 d') cur) 69 (0, 0)) := by
      unfold sortWorldK putRowK putRow
      rw [heap_grow_old _ _ (by simp [mapBlock, ahead]; exact hlt.2)]
      simp [mapBlock, ahead, Array.getElem?_modify, hh, onCells]
    refine ⟨⟨by rw [flat_len]; simp [hd], .inr ⟨g, cap, _, rfl, hb, hnew, hn, hm, by simp [putCells, hs], ?_⟩⟩, ?_⟩
    · apply List.ext_getElem?
      intro j
      rw [List.getElem?_take]
      by_cases hj : j < n * 4
      · rw [if_pos hj, ← flatK_get d' (by rw [hd]; exact hj)]
        have hjc : j < cur.size := by rw [hs]; exact Nat.lt_of_lt_of_le hj (Nat.mul_le_mul_right 4 hn)
        have hjf : j < d'.size * 4 := by rw [hd]; exact hj
        simp [putCells, hjc, hjf]
      · rw [if_neg hj, List.getElem?_eq_none (by rw [flat_len]; simp [hd]; omega)]
    · refine ⟨rfl, rfl, rfl, by simp [sortWorldK, putRowK, putRow, mapBlock, ahead], fun k hk hne => ?_⟩
      unfold sortWorldK putRowK putRow
      rw [heap_grow_old _ _ (by simp [mapBlock, ahead]; omega)]
      have : g ≠ k := fun e => hne (by rw [e])
      simp [mapBlock, ahead, Array.getElem?_modify, this]

theorem lt_cmpT (a b : Tl) : decide (cmpT a b < 0) = before a b := by
  unfold cmpT
  by_cases h : before a b = true
  · simp [h]
  · have h' : before a b = false := by simpa using h
    by_cases g : before b a = true <;> simp [h', g]
/-- The list as the program's sort leaves it. -/
def sortM (ts : List Tl) : List Tl := ts.mergeSort fun x y => !before y x
theorem sortM_len (ts : List Tl) : (sortM ts).length = ts.length := by simp [sortM]
theorem sortM_mem {ts : List Tl} {y : Tl} : y ∈ sortM ts ↔ y ∈ ts := by simp [sortM]
/-- Where no tile stands twice, both sorts are one. -/
theorem sortM_eq {ts : List Tl} (h : ts.Nodup) : sortM ts = sortT ts := by
  have hs : (sortM ts).Pairwise fun x y => (!before y x) = true := by
    refine List.pairwise_mergeSort (fun a b c h1 h2 => ?_) (fun a b => ?_) ts
    · cases hca : before c a with
      | false => rfl
      | true =>
        exfalso
        simp only [Bool.not_eq_true'] at h1 h2
        cases hcb : before c b with
        | true => rw [hcb] at h2; cases h2
        | false =>
          cases hbc : before b c with
          | true => have := before_trans hbc hca; rw [h1] at this; cases this
          | false => have := before_tri hbc hcb; subst this; rw [h1] at hca; cases hca
    · cases hba : before b a with
      | false => rfl
      | true => simp [before_asym hba]
  have hn : (sortM ts).Nodup := (List.mergeSort_perm ts _).nodup_iff.2 h
  refine asc_eq ?_ (sortT_asc ts) fun y => by rw [sortM_mem, sortT_mem]
  unfold Asc
  refine (List.Pairwise.and hs hn).imp ?_
  intro a b hab
  cases hb : before a b with
  | true => rfl
  | false =>
    exfalso
    have h1 : before b a = false := by simpa using hab.1
    exact hab.2 (before_tri hb h1)
theorem nodup_of_asc {l : List Tl} (h : Asc l) : l.Nodup := h.imp fun {a b} hab e => by subst e; rw [before_irrefl] at hab; cases hab
theorem asc_of_isSet {c : Int} {ts : List Tl} (h : isSet c ts = true) : Asc ts := by
  simp only [isSet, Bool.and_eq_true, List.all_eq_true, List.mem_range] at h
  have hg := h.2
  have hstep : ∀ k, k + 1 < ts.length → before (ts.getD k T0) (ts.getD (k + 1) T0) = true := by
    intro k hk
    have := hg (k + 1) hk
    simp only [good, Bool.and_eq_true, Bool.or_eq_true, decide_eq_true_eq, Nat.add_sub_cancel] at this
    rcases this.2 with h0 | h0
    · omega
    · exact h0
  have hlt : ∀ d k, k + d + 1 < ts.length → before (ts.getD k T0) (ts.getD (k + d + 1) T0) = true := by
    intro d
    induction d with
    | zero => exact fun k hk => hstep k hk
    | succ d ih => exact fun k hk => before_trans (ih k (by omega)) (hstep (k + d + 1) hk)
  refine List.pairwise_iff_getElem.2 fun i j hi hj hij => ?_
  have := hlt (j - i - 1) i (by omega)
  rw [show i + (j - i - 1) + 1 = j by omega] at this
  simpa [List.getD, hi, hj] using this
theorem ok_of_isSet {c : Int} {ts : List Tl} (h : isSet c ts = true) : ∀ t ∈ ts, tileOk c t = true := by
  intro t ht
  obtain ⟨i, hi, rfl⟩ := List.mem_iff_getElem.1 ht
  simp only [isSet, Bool.and_eq_true, List.all_eq_true, List.mem_range] at h
  have := h.2 i hi
  simp only [good, Bool.and_eq_true] at this
  simpa [List.getD, hi] using this.1
end Go.Proofs.Ytleabblnikbmpaa
