/- Rows of numbers that the call owns, as elements; sorted by the library. -/
import Derived.Test.YtjoaoimebdkpaaaStA
import Derived.Test.YtjoaoimebdkpaaaAppR
import Derived.Test.YtjoaoimebdkpaaaShelf
import Derived.Shelf.SlSortCmp.NoneTotal
import Derived.Lib.BufferOwn
import Derived.Lib.Hide
import Derived.Lib.SliceRun
namespace Go.Proofs.Ytjoaoimebdkpaaa
section
set_option linter.unusedVariables false
set_option linter.unusedSimpArgs false
open Go.RowKit Go.Sort

/-- The rows es are held by a list v that the call owns, each row in cells of its own. -/
def OwnE (w : World) (base : Nat) (v : Value) (es : List El) : Prop :=
  w.ownsRow base 51 1 v es.length (es.map El.v) ∧
    (∀ e ∈ es, e.xs.length ≤ e.q ∧ IWr w base w.heap.size e.A e.xs ∧ (∀ c u, e.A = some ⟨c, u, none⟩ → 0 < e.xs.length → some c ≠ v.ownBlock)) ∧
    es.Pairwise fun a b => Apart a.A a.xs.length b.A b.xs.length
theorem OwnE.nil (w : World) (base : Nat) : OwnE w base (.slice none 0 0) [] := ⟨World.ownsRow_nil _ _ _ _, fun e he => by simp at he, List.Pairwise.nil⟩
theorem OwnE.below {w w' : World} {base : Nat} {v : Value} {es : List El} (h : OwnE w base v es) (hx : Below w.heap.size w w') : OwnE w' base v es :=
  ⟨own_belowA h.1 hx, fun e he => ⟨(h.2.1 e he).1, ((h.2.1 e he).2.1.below hx).up hx.size, (h.2.1 e he).2.2⟩, h.2.2⟩
theorem OwnE.low {w : World} {base base' : Nat} {v : Value} {es : List El} (h : OwnE w base v es) (hb : base' ≤ base) : OwnE w base' v es := by
  refine ⟨⟨h.1.1, ?_⟩, fun e he => ⟨(h.2.1 e he).1, (h.2.1 e he).2.1.low hb, (h.2.1 e he).2.2⟩, h.2.2⟩
  rcases h.1.2 with hn | ⟨g, cap, cur, hv, hbg, rest⟩
  · exact .inl hn
  · exact .inr ⟨g, cap, cur, hv, Nat.le_trans hb hbg, rest⟩
theorem apart_symm {p q : Option Addr} {n m : Nat} (h : Apart p n q m) : Apart q m p n := fun b o c u e1 e2 h1 h2 => by
  rcases h c u b o e2 e1 h2 h1 with h | h | h
  · exact .inl fun e => h e.symm
  · exact .inr (.inr h)
  · exact .inr (.inl h)
theorem el_map {es : List El} {k : Nat} (hk : k < es.length) : (es.map El.v)[k]? = some (es.getD k E0).v := by simp [List.getD, hk]
theorem el_xs {es : List El} {k : Nat} (hk : k < es.length) : (es.map El.xs).getD k [] = (es.getD k E0).xs := by simp [List.getD, hk]
theorem el_mem {es : List El} {k : Nat} (hk : k < es.length) : es.getD k E0 ∈ es := by simp [List.getD, hk]
/-- What such a list reads as. -/
theorem OwnE.done {w : World} {base : Nat} {v : Value} {es : List El} (h : OwnE w base v es) : ∃ A cap, v = .slice A es.length cap ∧ IWW w base w.heap.size A (es.map El.xs) := by
  obtain ⟨ho, hr, ha⟩ := h
  rcases ho.2 with ⟨rfl, h0⟩ | ⟨g, cap, cur, rfl, hb, hg, hn, hm, hs, ht⟩
  · rw [h0]
    exact ⟨none, 0, rfl, fun h1 => absurd h1 (by rw [List.length_map, h0]; exact Nat.lt_irrefl _)⟩
  · refine ⟨_, cap, rfl, fun _ => ⟨g, 0, _, cur, fun j => (es.getD j E0).A, fun j => (es.getD j E0).q, rfl, hb, ?_, hg, fun k hk => ?_, fun j k hjk hk => ?_⟩⟩
    · rcases Nat.lt_or_ge g w.heap.size with hlt | hge
      · exact hlt
      · rw [Array.getElem?_eq_none hge] at hg; cases hg
    · rw [List.length_map] at hk
      rw [el_xs hk]
      obtain ⟨h1, h2, h3⟩ := hr _ (el_mem hk)
      refine ⟨?_, h1, h2, fun c u e h0 => by have := h3 c u e h0; simpa [Value.ownBlock] using this⟩
      have h5 : (some (es.getD k E0).v) = cur[0 + k]? := by
        rw [Nat.zero_add, ← el_map hk, ← ht, List.getElem?_take, if_pos (by omega)]
        simp
      rw [← h5]
      rfl
    · rw [List.length_map] at hk
      rw [el_xs hk, el_xs (show j < es.length by omega)]
      have := List.pairwise_iff_getElem.1 ha j k (by omega) hk hjk
      simpa [List.getD, hk, show j < es.length by omega] using this

/-- A row that can be read whatever becomes of block g. -/
def GoodE (w : World) (g : Nat) (e : El) : Prop := e.xs.length ≤ 1048576 ∧ (0 < e.xs.length → ∃ b off, e.A = some ⟨b, off, none⟩ ∧ b < w.heap.size ∧ b ≠ g ∧ ∀ k, k < e.xs.length → w.cell? ⟨b, off + k, none⟩ = some (.int .i64 (e.xs.getD k 0)))
theorem GoodE.zero (w : World) (g : Nat) : GoodE w g E0 := ⟨Nat.zero_le _, fun h => absurd h (Nat.lt_irrefl _)⟩
theorem GoodE.ir {w w' : World} {g : Nat} {e : El} (h : GoodE w g e) (hg : w.grownBy w' (some g)) : IR w' w'.heap.size e.A e.xs := fun h0 => by
  obtain ⟨b, off, e1, hb, hne, hc⟩ := h.2 h0
  exact ⟨b, off, e1, Nat.lt_of_lt_of_le hb hg.size, fun k hk => hg.cell (hc k hk) (fun e => hne (by simpa using e))⟩
theorem OwnE.good {w : World} {base g n cap : Nat} {es : List El} (h : OwnE w base (.slice (some ⟨g, 0, none⟩) n cap) es) (hr : ∀ e ∈ es, e.xs.length ≤ 1048576) : ∀ e ∈ es, GoodE w g e := fun e he => ⟨hr e he, fun h0 => by
  obtain ⟨_, h2, h3⟩ := h.2.1 e he
  obtain ⟨b, off, t, cs, e1, hl, hh, hb, hc⟩ := h2 h0
  refine ⟨b, off, e1, hh, fun e2 => h3 b off e1 h0 (by rw [e2]; rfl), fun k hk => (hb.cell _).trans (hc k hk)⟩⟩
theorem OwnE.moved {w w' : World} {base g n cap : Nat} {es es' : List El} {n' : Nat} (h : OwnE w base (.slice (some ⟨g, 0, none⟩) n cap) es) (hg : w.grownBy w' (some g)) (ho : w'.ownsRow base 51 1 (.slice (some ⟨g, 0, none⟩) n' cap) es'.length (es'.map El.v)) (hm : ∀ e ∈ es', e ∈ es) (ha : es'.Pairwise fun a b => Apart a.A a.xs.length b.A b.xs.length) :
    OwnE w' base (.slice (some ⟨g, 0, none⟩) n' cap) es' := by
  refine ⟨ho, fun e he => ?_, ha⟩
  obtain ⟨h1, h2, h3⟩ := h.2.1 e (hm e he)
  refine ⟨h1, fun h0 => ?_, fun c u e1 h0 => h3 c u e1 h0⟩
  obtain ⟨b, off, t, cs, e1, hl, hh, hb, hc⟩ := h2 h0
  exact ⟨b, off, t, cs, e1, hl, Nat.lt_of_lt_of_le hh hg.size, (hg.block b hh (fun e2 => h3 b off e1 h0 (by rw [e2]; rfl))).trans hb, hc⟩

theorem own_of_sortR {α : Type} [Inhabited α] (encV : α → Value) {w : World} {base g n cap : Nat} {xs : List Value} (h : w.ownsRow base 51 1 (.slice (some ⟨g, 0, none⟩) n cap) n xs) (d' : Array α) (hd : d'.size = n) (m : Nat) (os : Array Obj) :
    (sortWorld encV w g 0 m d' os).ownsRow base 51 1 (.slice (some ⟨g, 0, none⟩) n cap) n (d'.toList.map encV) ∧ w.grownBy (sortWorld encV w g 0 m d' os) (some g) := by
  have hlt := h.lt g rfl
  rcases h.2 with ⟨hv, _⟩ | ⟨g', cap', cur, hv, hb, hh, hn, hm, hs, ht⟩
  · cases hv
  · cases hv
    have hnew : (sortWorld encV w g 0 m d' os).heap[g]? = some (.cells (putCells encV 0 d' cur) 51 (0, 0)) := by
      unfold sortWorld putRow
      rw [heap_grow_old _ _ (by simp [mapBlock, ahead]; exact hlt.2)]
      simp [mapBlock, ahead, Array.getElem?_modify, hh, onCells]
    refine ⟨⟨by simp [hd], .inr ⟨g, cap, _, rfl, hb, hnew, hn, hm, by simp [putCells, hs], ?_⟩⟩, ?_⟩
    · apply List.ext_getElem?
      intro j
      rw [List.getElem?_take]
      by_cases hj : j < n * 1
      · rw [if_pos hj]
        have hjc : j < cur.size := by rw [hs]; exact Nat.lt_of_lt_of_le hj (Nat.mul_le_mul_right 1 hn)
        have hjf : j < d'.size := by rw [hd]; omega
        simp [putCells, hjc, hjf]
      · rw [if_neg hj, List.getElem?_eq_none (by simp [hd]; omega)]
    · refine ⟨rfl, rfl, rfl, by simp [sortWorld, putRow, mapBlock, ahead], fun k hk hne => ?_⟩
      unfold sortWorld putRow
      rw [heap_grow_old _ _ (by simp [mapBlock, ahead]; omega)]
      have : g ≠ k := fun e => hne (by rw [e])
      simp [mapBlock, ahead, Array.getElem?_modify, this]

theorem swoL {α : Type} (f : α → List Int) : SWO (ltOf fun (x y : α) => cmpL (f x) (f y)) where
  irrefl x := by simp only [ltOf, lt_cmpL]; exact ltL_irrefl _
  trans x y z h1 h2 := by simp only [ltOf, lt_cmpL] at *; exact ltL_trans _ _ _ h1 h2
  ntrans x y z h1 h2 := by
    simp only [ltOf, lt_cmpL] at *
    cases h : ltL (f x) (f z) with
    | false => rfl
    | true =>
      exfalso
      cases hyx : ltL (f y) (f x) with
      | true => have := ltL_trans _ _ _ hyx h; rw [h2] at this; cases this
      | false => have := ltL_tri _ _ h1 hyx; rw [this, h2] at h; cases h

set_option maxHeartbeats 1000000 in
theorem sortR_any (base : Nat) (v : Value) (es : List El) (w : World) (hn : es.length ≤ 1048576) (hr : ∀ e ∈ es, e.xs.length ≤ 1048576) (h : OwnE w base v es) :
    Calls Try.prog 103 #[v, .func (.func 104) #[] #[]] w fun e w' => e = .returned (.tuple #[]) ∧ ∃ es' : List El, es'.Perm es ∧ (∀ i j, i < j → j < es'.length → ltL (es'.getD j E0).xs (es'.getD i E0).xs = false) ∧ OwnE w' base v es' ∧ w.grownBy w' v.ownBlock := by
  by_cases h0 : es.length = 0
  · obtain rfl := List.eq_nil_of_length_eq_zero h0
    obtain ⟨A, cap, rfl, -⟩ := h.done
    have hcon := AnyF.slices_SortFunc_none { Try.sortR with } A cap (.func (.func 104) #[] #[]) w
    change Calls Try.prog 103 _ _ _ at hcon
    refine hcon.mono ?_
    rintro e w' ⟨rfl, rfl⟩
    exact ⟨rfl, [], List.Perm.refl _, fun i j _ hj => absurd hj (Nat.not_lt_zero _), h, World.grownBy.refl _ _⟩
  · obtain ⟨g, cap, hv, hbg, hlt⟩ := h.1.form (by omega)
    subst hv
    have hgood := h.good hr
    let α := { e : El // GoodE w g e }
    letI : Inhabited α := ⟨⟨E0, GoodE.zero w g⟩⟩
    let d : Array α := (es.attach.map fun e => (⟨e.1, hgood e.1 e.2⟩ : α)).toArray
    have hds : d.size = es.length := by simp [d]
    have hdv : d.toList.map Subtype.val = es := by simp [d, List.map_map, Function.comp_def]
    let encV : α → Value := fun e => e.1.v
    have hdm : d.toList.map encV = es.map El.v := by
      have e9 := congrArg (List.map El.v) hdv
      rw [List.map_map] at e9
      exact e9
    have eg : ∀ args w, (callFunc 104 args).run Try.prog w = .ok (.enter 104 args) w := enters_of Try.func104 (by kernel_rfl) rfl
    have hcmp : CmpLays1 Try.prog 104 #[] encV (fun x y => cmpL x.1.xs y.1.xs) g 0 d.size w := fun m os dk hk x y => by
      have hgr := (own_of_sortR encV (h.1) dk (by rw [hk, hds]) m os).2
      refine (compareR_any x.1.A y.1.A _ _ x.1.q y.1.q x.1.xs y.1.xs _ (by have := x.2.1; omega) (by have := y.2.1; omega) rfl rfl (x.2.ir hgr) (y.2.ir hgr)).mono ?_
      rintro e w' ⟨rfl, rfl⟩
      exact ⟨rfl, 0, #[], by simp [World.drewN]⟩
    have hH : Holds encV w g 0 d := by
      intro j hj
      refine ⟨?_, h.1.frozenAt _⟩
      rw [Nat.zero_add, h.1.cellAt j (by omega), ← hdm]
      simp [hj]
    have hcon := Any.slices_SortFunc Try.sortR encV (fun _ => rfl) _ (swoL fun x : α => x.1.xs) 104 #[] g 0 cap d w eg hcmp hH hlt (by omega)
    rw [hds] at hcon
    change Calls Try.prog 103 _ _ _ at hcon
    refine hcon.mono ?_
    rintro e w' ⟨rfl, d', m, os, hp, hsd, rfl⟩
    have hs' : d'.size = es.length := by rw [hp.1, hds]
    have hpm : d'.toList.Perm d.toList := by
      have := hp.2.2
      rwa [show d'.extract 0 es.length = d' by rw [← hs']; exact Array.extract_size .., show d.extract 0 es.length = d by rw [← hds]; exact Array.extract_size ..] at this
    have hpe : (d'.toList.map Subtype.val).Perm es := by
      have := hpm.map Subtype.val
      rwa [hdv] at this
    have hl' : (d'.toList.map Subtype.val).length = es.length := hpe.length_eq
    have hoo := own_of_sortR encV h.1 d' hs' m os
    refine ⟨rfl, d'.toList.map Subtype.val, hpe, fun i j hij hj => ?_, ?_, hoo.2⟩
    · have h3 := hsd i j (Nat.zero_le _) hij (by omega)
      simp only [ltOf, lt_cmpL] at h3
      have hj2 : j < d'.size := by omega
      have hi2 : i < d'.size := by omega
      have e1 : ∀ k, k < d'.size → (d'.toList.map Subtype.val).getD k E0 = (d'[k]!).1 := by
        intro k hk
        simp [List.getD, hk]
      rw [e1 j hj2, e1 i hi2]
      exact h3
    · refine h.moved hoo.2 ?_ (fun e he => hpe.mem_iff.1 he) ?_
      · rw [hl', List.map_map]
        exact hoo.1
      · exact (hpe.pairwise_iff (fun {a b} hab => apart_symm hab)).2 h.2.2
end

section
set_option linter.unusedVariables false
set_option linter.unusedSimpArgs false
open Go.RowKit Go.Sort

theorem cleared {w : World} {g : Nat} {t : TypeId} : ∀ (vs : List Value) (o : Nat) {w1 : World} {cs : Array Value}, w.grownBy w1 (some g) → Blk w1 g t cs →
    w.grownBy (w1.setCells g o vs) (some g) ∧ ∃ cs', Blk (w1.setCells g o vs) g t cs' ∧ cs'.size = cs.size ∧ ∀ i, i < o → cs'[i]? = cs[i]? := by
  intro vs
  induction vs with
  | nil => intro o w1 cs h hb; exact ⟨h, cs, hb, rfl, fun i _ => rfl⟩
  | cons v r ih =>
    intro o w1 cs h hb
    obtain ⟨h1, cs', h2, h3, h4⟩ := ih (o + 1) (Lib.grownBy_setB h o v) (hb.set_ o v)
    refine ⟨h1, cs', h2, by rw [h3]; simp, fun i hi => ?_⟩
    rw [h4 i (by omega), Array.getElem?_setIfInBounds, if_neg (by omega)]
/-- What the second loop knows: of the first m rows the first of each run lie at the front; the rows from the last of them on are as they were. -/
def Cpd (w wr : World) (es : List El) (g cap m : Nat) : Prop :=
  w.grownBy wr (some g) ∧ (cpt es m).length ≤ m - 1 ∧ ∃ cs, Blk wr g 51 cs ∧ cs.size = cap ∧ (∀ i, i < (cpt es m).length → cs[i]? = some ((cpt es m).getD i E0).v) ∧ (∀ i, m - 1 ≤ i → i < es.length → cs[i]? = some (es.getD i E0).v)
theorem Cpd.ext {w wr w' : World} {es : List El} {g cap m : Nat} (h : Cpd w wr es g cap m) (hx : Ext wr w') : Cpd w w' es g cap m := by
  obtain ⟨h1, h2, cs, h3, h4⟩ := h
  exact ⟨Lib.grownBy_below h1 (hx.below (Nat.le_refl _)), h2, cs, h3.ext hx, h4⟩
theorem Cpd.skip {w wr : World} {es : List El} {g cap m : Nat} (h : Cpd w wr es g cap m) (hm : 0 < m) (he : (es.getD m E0).xs = (es.getD (m - 1) E0).xs) : Cpd w wr es g cap (m + 1) := by
  obtain ⟨h1, h2, cs, h3, h4, h5, h6⟩ := h
  unfold Cpd
  rw [cpt_skip hm he]
  exact ⟨h1, by omega, cs, h3, h4, h5, fun i hi => h6 i (by omega)⟩
theorem Cpd.put {w wr : World} {es : List El} {g cap m : Nat} (h : Cpd w wr es g cap m) (hm : 0 < m) (hm2 : m < es.length) (hcap : es.length ≤ cap) (he : ¬ (es.getD m E0).xs = (es.getD (m - 1) E0).xs) {x : Value} (hx : x = (es.getD m E0).v) :
    Cpd w (wr.setCell ⟨g, (cpt es m).length, none⟩ x) es g cap (m + 1) := by
  subst hx
  obtain ⟨h1, h2, cs, h3, h4, h5, h6⟩ := h
  unfold Cpd
  rw [cpt_take (.inr he)]
  refine ⟨Lib.grownBy_setB h1 _ _, by simp; omega, _, h3.set_ _ _, by simp [h4], fun i hi => ?_, fun i hi hl => ?_⟩
  · simp only [List.length_append, List.length_cons, List.length_nil] at hi
    rw [Array.getElem?_setIfInBounds]
    by_cases e : i = (cpt es m).length
    · subst e
      rw [if_pos rfl, if_pos (by omega)]
      simp [List.getD]
    · rw [if_neg (fun h => e h.symm), h5 i (by omega)]
      simp only [List.getD]
      rw [List.getElem?_append_left (by omega)]
  · rw [Array.getElem?_setIfInBounds, if_neg (by omega)]
    exact h6 i (by omega) hl
theorem Cpd.cell {w wr : World} {es : List El} {g cap m : Nat} (h : Cpd w wr es g cap m) {i : Nat} (hi : m - 1 ≤ i) (hl : i < es.length) : wr.cell? ⟨g, i, none⟩ = some (es.getD i E0).v := by
  obtain ⟨h1, h2, cs, h3, h4, h5, h6⟩ := h
  exact (h3.cell i).trans (h6 i hi hl)
theorem Cpd.room {w wr : World} {es : List El} {g cap m : Nat} (h : Cpd w wr es g cap m) {i : Nat} (hi : i < cap) : ∃ u, wr.cell? ⟨g, i, none⟩ = some u ∧ wr.frozen? ⟨g, i, none⟩ = false := by
  obtain ⟨h1, h2, cs, h3, h4, h5, h6⟩ := h
  exact ⟨cs[i]'(by omega), by rw [h3.cell]; simp [h4, hi], h3.frozen i⟩
theorem Cpd.done {w w1 : World} {es : List El} {base g n cap : Nat} (h0 : OwnE w base (.slice (some ⟨g, 0, none⟩) n cap) es) (hn : n = es.length) (h : Cpd w w1 es g cap n) (vs : List Value) :
    OwnE (w1.setCells g (cpt es n).length vs) base (.slice (some ⟨g, 0, none⟩) (cpt es n).length cap) (cpt es n) ∧ w.grownBy (w1.setCells g (cpt es n).length vs) (some g) := by
  subst hn
  obtain ⟨h1, h2, cs, h3, h4, h5, h6⟩ := h
  obtain ⟨k1, cs', k2, k3, k4⟩ := cleared vs (cpt es es.length).length h1 h3
  have hsub := cpt_sub es (Nat.le_refl es.length)
  rw [List.take_length] at hsub
  refine ⟨h0.moved k1 ?_ (fun e he => hsub.subset he) (h0.2.2.sublist hsub), k1⟩
  rcases h0.1.2 with ⟨hv, _⟩ | ⟨g', cap', cur, hv, hb, hh, hn, hm, hs, ht⟩
  · cases hv
  · cases hv
    refine ⟨by simp, .inr ⟨g, cap, cs', rfl, hb, k2, by have := cpt_len es es.length; omega, hm, by rw [k3, h4]; omega, ?_⟩⟩
    apply List.ext_getElem?
    intro i
    by_cases hi : i < (cpt es es.length).length
    · rw [List.getElem?_take_of_lt (by omega), Array.getElem?_toList, k4 i hi, h5 i hi, el_map hi]
    · rw [List.getElem?_take_eq_none (by omega), List.getElem?_eq_none (by simp; omega)]
theorem zero_row (w : World) : (zeroValue 51).run Try.prog w = .ok (.slice none 0 0) w := by
  obtain ⟨i0, hi, hz0, hz1, hz2⟩ := info_parts info_row
  first | exact run_zeroValue hi hz0 w | simp [zeroValue, typeInfo, hi, hz0] | kernel_rfl

set_option maxRecDepth 100000 in
set_option maxHeartbeats 4000000 in
theorem compactR_any (base : Nat) (v : Value) (es : List El) (w : World) (hn : es.length ≤ 1048576) (hr : ∀ e ∈ es, e.xs.length ≤ 1048576) (h : OwnE w base v es) :
    Calls Try.prog 106 #[v, .func (.func 107) #[] #[]] w fun e w' => ∃ v', e = .returned v' ∧ OwnE w' base v' (cpt es es.length) ∧ w.grownBy w' v.ownBlock := by
  by_cases h2 : es.length < 2
  · obtain ⟨A, cap, rfl, -⟩ := h.done
    have HC := Lib.hid (show cpt es es.length = es by rw [cpt_id (Nat.le_refl _) (fun i h3 h4 => absurd h4 (by omega)), List.take_length])
    have h2' : (es.length : Int) < 2 := by omega
    have H := Lib.hid h
    obtain ⟨n, hnn⟩ : ∃ n, n = es.length := ⟨_, rfl⟩
    rw [← hnn] at h2' ⊢ hn
    rw [← hnn] at H HC
    have HN := Lib.hid hnn
    clear hnn h h2
    go_enter Try.func106, Try.ntmps106
    go_wp2_with fail
    go_ret
    exact ⟨_, rfl, by rw [HC.out]; exact H.out, World.grownBy.refl _ _⟩
  · obtain ⟨g, cap, hv, hbg, hlt⟩ := h.1.form (by omega)
    subst hv
    have hgood := h.good hr
    have hcon : ∀ W, w.grownBy W (some g) → ∀ i j, i < es.length → j < es.length → Calls Try.prog 107 #[(es.getD i E0).v, (es.getD j E0).v] W fun e w' => e = .returned (.bool (decide ((es.getD i E0).xs = (es.getD j E0).xs))) ∧ ∃ q os, w' = grow (W.drewN q) os := fun W hW i j hi hj => by
      have g1 := hgood _ (el_mem hi)
      have g2 := hgood _ (el_mem hj)
      exact equalR_any _ _ _ _ _ _ (es.getD i E0).xs (es.getD j E0).xs W (by have := g1.1; omega) rfl rfl (g1.ir hW) (g2.ir hW)
    have HCON := Lib.hid hcon
    have hcell := fun k (hk : k < es.length) => (h.1.cellAt k (by omega)).trans (el_map hk)
    have HCELL := Lib.hid hcell
    have hcapn : es.length ≤ cap := by
      rcases h.1.2 with ⟨hv, _⟩ | ⟨g', cap', cur, hv, hb, hh, hn, hm, hs, ht⟩
      · cases hv
      · cases hv; exact hn
    have H := Lib.hid h
    obtain ⟨n, hnn⟩ : ∃ n, n = es.length := ⟨_, rfl⟩
    rw [← hnn] at h2 hn hcapn ⊢
    rw [← hnn] at H HCON HCELL
    have HN := Lib.hid hnn
    have h2' : ¬ (n : Int) < 2 := by omega
    clear hnn h hgood hcon hcell hr
    go_enter Try.func106, Try.ntmps106
    go_wp2_with fail
    go_loopw [5] (fun i wr => ∃ k : Nat, 1 ≤ k ∧ k ≤ n ∧ i = .int .i64 k ∧ (∀ j, 0 < j → j < k → ¬ (es.getD j E0).xs = (es.getD (j - 1) E0).xs) ∧ Ext w wr) (fun i _ => n - (intOf i).toNat)
    case atStart => exact ⟨1, Nat.le_refl _, by omega, rfl, fun j h1 hj => absurd hj (by omega), Ext.refl _⟩
    case round =>
      obtain ⟨k, hk1, hk, rfl, hall, hx⟩ := hrel
      have HALL := Lib.hid hall
      have HX := Lib.hid hx
      have hgx : w.grownBy wr (some g) := Lib.grownBy_below (World.grownBy.refl _ _) (hx.below (Nat.le_refl _))
      have HGX := Lib.hid hgx
      clear hall hx hgx
      by_cases hltk : k < n
      · obtain ⟨j, rfl⟩ : ∃ j, k = j + 1 := ⟨k - 1, by omega⟩
        have e1 := HCELL.out (j + 1) hltk
        have e2 := HCELL.out j (by omega)
        have hc := fun W hW => HCON.out W hW (j + 1) j hltk (by omega)
        have HID := Lib.hid (cpt_id (d := es) (j := j + 1) (by rw [← HN.out]; omega) HALL.out)
        have HSK := Lib.hid (cpt_skip (d := es) (j := j + 1) (by omega))
        have HTK := Lib.hid (fun h => cpt_take (d := es) (j := j + 1) (.inr h))
        rw [show j + 1 - 1 = j by omega] at HSK HTK
        obtain ⟨⟨A1, q1, xs1⟩, hE1⟩ : ∃ e, e = es.getD (j + 1) E0 := ⟨_, rfl⟩
        obtain ⟨⟨A2, q2, xs2⟩, hE2⟩ : ∃ e, e = es.getD j E0 := ⟨_, rfl⟩
        rw [← hE1] at e1 hc HSK HTK
        rw [← hE2] at e2 hc HSK HTK
        simp only [El.v] at e1 e2 hc
        have e1 := (HX.out.below (Nat.le_refl _)).cell (p := ⟨g, j + 1, none⟩) hlt |>.trans e1
        have e2 := (HX.out.below (Nat.le_refl _)).cell (p := ⟨g, j, none⟩) hlt |>.trans e2
        have g1 := fun q os => (cell?_grow (wr.drewN q) os ⟨g, j + 1, none⟩ (by have := World.block_lt_of_cell? wr _ e1; exact this)).trans e1
        have g2 := fun q os => (cell?_grow (wr.drewN q) os ⟨g, j, none⟩ (by have := World.block_lt_of_cell? wr _ e2; exact this)).trans e2
        have HE1 := Lib.hid hE1
        have HE2 := Lib.hid hE2
        generalize hr : decide (xs1 = xs2) = r at hc
        have HR := Lib.hid hr
        generalize xs1.length = m1 at *
        generalize xs2.length = m2 at *
        have HC := Lib.hid hc
        have hk9 : (j : Int) + 1 < (n : Int) := by omega
        have hk8 : (j : Int) < (n : Int) := by omega
        have hk7 : (0 : Int) ≤ (j : Int) + 1 := by omega
        have hwx : IntKind.i64.wrap (j : Int) = (j : Int) := IntWalk.i64_in _ (by omega)
        clear hE1 hE2 hc hr e1 e2
        go_wp2_with fail
        refine wp_region_quiet_grown mixed (by kernel_rfl) ?_
        repeat (go_big_quiet_step (((go_at_call 107; refine Calls.grown_of (HC.out _ (Lib.grownBy_below HGX.out (((Ext.refl _).drewN _).grow _ |>.below (Nat.le_refl _))))))))
        refine wpQuiet_nil ?_
        intro _ hw'
        obtain ⟨⟨nq, osq⟩, hw''⟩ := hw'
        subst hw''
        clear g1 g2
        have HX6 := Lib.hid (show Ext wr (grow (wr.drewN nq) osq) from ⟨nq, osq, rfl⟩)
        generalize grow (wr.drewN nq) osq = w6 at *
        cases r with
        | false =>
          go_wp2_with fail
          go_roundw
          case rel =>
            refine ⟨j + 1 + 1, by omega, by omega, by go_num, fun i h1 h2 => ?_, HX.out.trans HX6.out⟩
            by_cases e : i = j + 1
            · subst e
              rw [← HE1.out, show j + 1 - 1 = j by omega, ← HE2.out]
              exact of_decide_eq_false HR.out
            · exact HALL.out i h1 (by omega)
          case measure => simp [intOf]; omega
        | true =>
          have hcap1 : ¬ cap = j + 1 := by omega
          have hjc : j + 1 ≤ cap := by omega
          have HC0 := Lib.hid (show Cpd w w6 es g cap (j + 1 + 1) by
            have hxx := HX.out.trans HX6.out
            unfold Cpd
            rw [HSK.out (by rw [← of_decide_eq_true HR.out]), HID.out]
            rcases H.out.1.2 with ⟨hv, _⟩ | ⟨g', cap', cur, hv, hb, hh, hn5, hm5, hs5, ht5⟩
            · cases hv
            · cases hv
              have hat : ∀ i, i < es.length → cur[i]? = some (es.getD i E0).v := fun i hi => by
                have h9 := HCELL.out i (by rw [HN.out]; exact hi)
                rw [Blk.cell (t := 51) (cs := cur) hh i] at h9
                exact h9
              refine ⟨Lib.grownBy_below HGX.out (HX6.out.below (Nat.le_refl _)), by rw [List.length_take]; omega, cur, (show Blk w g 51 cur from hh).ext hxx, by omega, fun i hi => ?_, fun i _ hl => hat i hl⟩
              have hi2 : i < j + 1 ∧ i < es.length := by rw [List.length_take] at hi; omega
              rw [hat i hi2.2]
              simp only [List.getD]
              rw [List.getElem?_take_of_lt hi2.1])
          have HL0 := Lib.hid (show (cpt es (j + 1 + 1)).length = j + 1 by rw [HSK.out (by rw [← of_decide_eq_true HR.out]), HID.out, List.length_take, ← HN.out]; omega)
          clear HALL HX HGX HX6 HSK HTK HID HE1 HE2 HC HR hwx
          go_wp2_with fail
          generalize hnn2 : n - (j + 1) = nn at *
          generalize cap - (j + 1) = cc at *
          have hnj : n = j + 1 + nn := by omega
          have HNJ := Lib.hid hnj
          have hnle : nn ≤ 1048576 := by omega
          clear hnn2 hnj
          go_loopw [5, 7] (fun a b wr => ∃ p : Nat, 1 ≤ p ∧ p ≤ nn ∧ b = .int .i64 p ∧ a = .int .i64 ((cpt es (j + 1 + p)).length : Nat) ∧ Cpd w wr es g cap (j + 1 + p)) (fun _ b _ => nn - (intOf b).toNat)
          case atStart => exact ⟨1, Nat.le_refl _, by have := HNJ.out; omega, rfl, by rw [HL0.out]; go_num, HC0.out⟩
          case round =>
            clear HC0 HL0
            obtain ⟨p, hp1, hp, rfl, rfl, hc⟩ := hrel
            have HCP := Lib.hid hc
            have hkk := hc.2.1
            have hgx := hc.1
            have HGX := Lib.hid hgx
            clear hc hgx
            by_cases hltp : p < nn
            · obtain ⟨p', rfl⟩ : ∃ p', p = p' + 1 := ⟨p - 1, by omega⟩
              have hmn : j + 1 + (p' + 1) < es.length := by have := HNJ.out; have := HN.out; omega
              have hmp : j + 1 + p' < es.length := by omega
              have e1 := HCP.out.cell (i := j + 1 + (p' + 1)) (by omega) hmn
              have e2 := HCP.out.cell (i := j + 1 + p') (by omega) hmp
              have hc := fun W hW => HCON.out W hW (j + 1 + (p' + 1)) (j + 1 + p') (by have := HN.out; omega) (by have := HN.out; omega)
              have HSK := Lib.hid (fun he => HCP.out.skip (by omega) (show (es.getD (j + 1 + (p' + 1)) E0).xs = (es.getD (j + 1 + (p' + 1) - 1) E0).xs from he))
              have HPT := Lib.hid (fun he x hx => HCP.out.put (x := x) (by omega) hmn (by have := HN.out; omega) (show ¬ (es.getD (j + 1 + (p' + 1)) E0).xs = (es.getD (j + 1 + (p' + 1) - 1) E0).xs from he) hx)
              have HSL := Lib.hid (fun (he : (es.getD (j + 1 + (p' + 1)) E0).xs = (es.getD (j + 1 + (p' + 1) - 1) E0).xs) => cpt_skip (d := es) (j := j + 1 + (p' + 1)) (by omega) he)
              have HTL := Lib.hid (fun (he : ¬ (es.getD (j + 1 + (p' + 1)) E0).xs = (es.getD (j + 1 + (p' + 1) - 1) E0).xs) => cpt_take (d := es) (j := j + 1 + (p' + 1)) (.inr he))
              obtain ⟨u, hu, hfu⟩ := HCP.out.room (i := (cpt es (j + 1 + (p' + 1))).length) (by have := HN.out; omega)
              rw [show j + 1 + (p' + 1) - 1 = j + 1 + p' by omega] at HSK HPT HSL HTL
              obtain ⟨⟨A1, q1, xs1⟩, hE1⟩ : ∃ e, e = es.getD (j + 1 + (p' + 1)) E0 := ⟨_, rfl⟩
              obtain ⟨⟨A2, q2, xs2⟩, hE2⟩ : ∃ e, e = es.getD (j + 1 + p') E0 := ⟨_, rfl⟩
              rw [← hE1] at e1 hc HSK HPT HSL HTL
              rw [← hE2] at e2 hc HSK HPT HSL HTL
              simp only [El.v] at e1 e2 hc HPT
              have e1 := e1
              have e2 := e2
              have g1 := fun q os => (cell?_grow (wr.drewN q) os ⟨g, j + 1 + (p' + 1), none⟩ (by have := World.block_lt_of_cell? wr _ e1; exact this)).trans e1
              have g2 := fun q os => (cell?_grow (wr.drewN q) os ⟨g, j + 1 + p', none⟩ (by have := World.block_lt_of_cell? wr _ e2; exact this)).trans e2
              have hkn : (cpt es (j + 1 + (p' + 1))).length < n := by have := HN.out; omega
              generalize hr : decide (xs1 = xs2) = r at hc
              have HR := Lib.hid hr
              have HE1 := Lib.hid hE1
              have HE2 := Lib.hid hE2
              generalize hM1 : xs1.length = m1 at *
              generalize xs2.length = m2 at *
              have HM1 := Lib.hid hM1
              have HC := Lib.hid hc
              have hk9 : (p' : Int) + 1 < (nn : Int) := by omega
              have hk8 : (p' : Int) < (nn : Int) := by omega
              have hk7 : (0 : Int) ≤ (p' : Int) + 1 := by omega
              have hwx : IntKind.i64.wrap (p' : Int) = (p' : Int) := IntWalk.i64_in _ (by omega)
              obtain ⟨kk, hK⟩ : ∃ kk, kk = (cpt es (j + 1 + (p' + 1))).length := ⟨_, rfl⟩
              rw [← hK] at HPT hu hfu hkn hkk ⊢
              have HK := Lib.hid hK
              have hkn9 : (kk : Int) < (n : Int) := by omega
              have HU := Lib.hid (And.intro hu hfu)
              have HE := Lib.hid (And.intro e1 e2)
              clear hE1 hE2 hc hr e1 e2 hK hmn hmp hu hfu hM1
              go_wp2_with fail
              refine wp_region_quiet_grown mixed (by kernel_rfl) ?_
              repeat (go_big_quiet_step (((go_at_call 107; refine Calls.grown_of (HC.out _ (Lib.grownBy_below HGX.out (((Ext.refl _).drewN _).grow _ |>.below (Nat.le_refl _))))))))
              refine wpQuiet_nil ?_
              intro _ hw'
              obtain ⟨⟨nq, osq⟩, hw''⟩ := hw'
              subst hw''
              clear g1 g2
              have hx6 : Ext wr (grow (wr.drewN nq) osq) := ⟨nq, osq, rfl⟩
              have hb6 := hx6.below (Nat.le_refl _)
              have hglt : g < wr.heap.size := by have := World.block_lt_of_cell? wr _ HU.out.1; exact this
              have u1 := (hb6.cell (p := ⟨g, kk, none⟩) hglt).trans HU.out.1
              have u2 := (hb6.frozen (p := ⟨g, kk, none⟩) hglt).trans HU.out.2
              have u3 := (hb6.cell (p := ⟨g, j + 1 + (p' + 1), none⟩) hglt).trans HE.out.1
              have HX6 := Lib.hid hx6
              clear hx6 hb6
              generalize grow (wr.drewN nq) osq = w6 at *
              cases r with
              | true =>
                have he := of_decide_eq_true HR.out
                have HS1 := Lib.hid ((HSK.out he).ext HX6.out)
                have HS2 := Lib.hid (HSL.out he)
                clear u1 u2 u3 he
                go_wp2_with fail
                go_roundw
                case rel => first | exact ⟨p' + 1 + 1, by omega, by omega, by go_num, by rw [show j + 1 + (p' + 1 + 1) = j + 1 + (p' + 1) + 1 by omega, HS2.out, ← HK.out], HS1.out⟩ | ((repeat apply Exists.intro); exact ⟨⟨p' + 1 + 1, by omega, by omega, by go_num, by rw [show j + 1 + (p' + 1 + 1) = j + 1 + (p' + 1) + 1 by omega, HS2.out, ← HK.out], HS1.out⟩, rfl⟩)
                case measure => simp [intOf]; omega
              | false =>
                have he := of_decide_eq_false HR.out
                have HS2 := Lib.hid (HTL.out he)
                have HNE := Lib.hid (show ¬ (es.getD (j + 1 + (p' + 1)) E0).xs = (es.getD (j + 1 + (p' + 1) - 1) E0).xs by rw [show j + 1 + (p' + 1) - 1 = j + 1 + p' by omega, ← HE1.out, ← HE2.out]; exact he)
                have HXV := Lib.hid (show Value.slice A1 m1 q1 = (es.getD (j + 1 + (p' + 1)) E0).v by rw [← HE1.out, ← HM1.out]; rfl)
                have HP6 := Lib.hid (show Cpd w (w6.setCell ⟨g, kk, none⟩ (.slice A1 m1 q1)) es g cap (j + 1 + (p' + 1) + 1) by
                  have h9 := HCP.out.ext HX6.out
                  have h8 := h9.put (x := .slice A1 m1 q1) (by omega) (by have := HNJ.out; have := HN.out; omega) (by have := HN.out; omega) HNE.out HXV.out
                  rw [← HK.out] at h8
                  exact h8)
                have hl9 : (cpt es (j + 1 + (p' + 1) + 1)).length = kk + 1 := by rw [HS2.out, HK.out]; simp
                have HL9 := Lib.hid hl9
                clear he hl9
                go_wp2_with fail
                go_roundw
                case rel => first | exact ⟨p' + 1 + 1, by omega, by omega, by go_num, by rw [show j + 1 + (p' + 1 + 1) = j + 1 + (p' + 1) + 1 by omega, HL9.out]; go_num, HP6.out⟩ | ((repeat apply Exists.intro); exact ⟨⟨p' + 1 + 1, by omega, by omega, by go_num, by rw [show j + 1 + (p' + 1 + 1) = j + 1 + (p' + 1) + 1 by omega, HL9.out]; go_num, HP6.out⟩, rfl⟩)
                case measure => simp [intOf]; omega
            · obtain rfl : p = nn := by omega
              rw [← HNJ.out] at HCP hkk ⊢
              obtain ⟨kk, hK⟩ : ∃ kk, kk = (cpt es n).length := ⟨_, rfl⟩
              have HD := Lib.hid (HCP.out.done H.out HN.out (List.replicate (n - kk) (.slice none 0 0)))
              have hkn : kk < n := by omega
              have hcl : ∀ ty, (Builtin.clear_ #[25] ty #[.slice (some ⟨g, kk, none⟩) (n - kk) (cap - kk)]).run Try.prog wr = .ok (.tuple #[]) (wr.setCells g kk (List.replicate (n - kk) (.slice none 0 0))) := fun ty =>
                Lib.run_clear_slice wr 25 51 ty (.slice none 0 0) Try.underlying25 zero_row rfl rfl g kk (n - kk) (cap - kk) (by omega)
                  (fun i hi => by obtain ⟨u, h1, h2⟩ := HCP.out.room (i := kk + i) (by omega); rw [h1]; rfl) (fun i hi => by obtain ⟨u, h1, h2⟩ := HCP.out.room (i := kk + i) (by omega); exact h2)
              rw [← hK] at HD ⊢
              have HK := Lib.hid hK
              have hne : ¬ cap = kk := by omega
              have hkc : kk ≤ cap := by omega
              clear hK hkk
              go_wp2_with fail
              go_ret
              exact ⟨_, rfl, HD.out.1, HD.out.2⟩
      · obtain rfl : k = n := by omega
        have HID := Lib.hid (cpt_id (d := es) (j := k) (by rw [← HN.out]; omega) HALL.out)
        go_wp2_with fail
        go_ret
        refine ⟨_, rfl, ?_, HGX.out⟩
        show OwnE wr base (.slice (some ⟨g, 0, none⟩) k cap) (cpt es k)
        have e9 : es.take k = es := by rw [HN.out, List.take_length]
        rw [HID.out, e9]
        exact H.out.below (HX.out.below (Nat.le_refl _))
end
end Go.Proofs.Ytjoaoimebdkpaaa
