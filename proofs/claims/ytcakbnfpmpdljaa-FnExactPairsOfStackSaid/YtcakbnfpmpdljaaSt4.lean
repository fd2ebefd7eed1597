/- Rows of numbers that the call owns, as elements; sorted by the library. -/
import Derived.Test.YtcakbnfpmpdljaaSt3
import Derived.Test.YtcakbnfpmpdljaaAppR
import Derived.Test.YtcakbnfpmpdljaaShelf
import Derived.Shelf.SlSortCmp.NoneTotal
import Derived.Lib.BufferOwn
import Derived.Lib.Hide
namespace Go.Proofs.Ytcakbnfpmpdljaa
set_option linter.unusedVariables false
set_option linter.unusedSimpArgs false
open Go.RowKit Go.Sort

/-- The rows es are held by a list v that the call owns, each row in cells of its own. -/
def OwnE (w : World) (base : Nat) (v : Value) (es : List El) : Prop :=
  w.ownsRow base 49 1 v es.length (es.map El.v) ∧
    (∀ e ∈ es, e.xs.length ≤ e.q ∧ IWr w base w.heap.size e.A e.xs ∧ (∀ c u, e.A = some ⟨c, u, none⟩ → 0 < e.xs.length → some c ≠ v.ownBlock)) ∧
    es.Pairwise fun a b => Apart a.A a.xs.length b.A b.xs.length
theorem OwnE.nil (w : World) (base : Nat) : OwnE w base (.slice none 0 0) [] := ⟨World.ownsRow_nil _ _ _ _, fun e he => by simp at he, List.Pairwise.nil⟩
theorem OwnE.below {w w' : World} {base : Nat} {v : Value} {es : List El} (h : OwnE w base v es) (hx : Below w.heap.size w w') : OwnE w' base v es :=
  ⟨own_belowA h.1 hx, fun e he => ⟨(h.2.1 e he).1, ((h.2.1 e he).2.1.below hx).up hx.size, (h.2.1 e he).2.2⟩, h.2.2⟩
theorem OwnE.low {w : World} {base base' : Nat} {v : Value} {es : List El} (h : OwnE w base v es) (hb : base' ≤ base) : OwnE w base' v es := by
  refine ⟨⟨h.1.1, ?_⟩, fun e he => ⟨(h.2.1 e he).1, (h.2.1 e he).2.1.low hb, (h.2.1 e he).2.2⟩, h.2.2⟩
  rcases h.1.2 with hn | ⟨g, cap, cur, hv, hbg, rest⟩
  · exact .inl hn
  · exact .inr ⟨g, cap, cur, hv, Nat.le_trans hb hbg, rest⟩
theorem apart_symm {p q : Option Addr} {n m : Nat} (h : Apart p n q m) : Apart q m p n := fun b o c u e1 e2 h1 h2 => by
  rcases h c u b o e2 e1 h2 h1 with h | h | h
  · exact .inl fun e => h e.symm
  · exact .inr (.inr h)
  · exact .inr (.inl h)
theorem el_map {es : List El} {k : Nat} (hk : k < es.length) : (es.map El.v)[k]? = some (es.getD k E0).v := by simp [List.getD, hk]
theorem el_xs {es : List El} {k : Nat} (hk : k < es.length) : (es.map El.xs).getD k [] = (es.getD k E0).xs := by simp [List.getD, hk]
theorem el_mem {es : List El} {k : Nat} (hk : k < es.length) : es.getD k E0 ∈ es := by simp [List.getD, hk]
/-- What such a list reads as. -/
theorem OwnE.done {w : World} {base : Nat} {v : Value} {es : List El} (h : OwnE w base v es) : ∃ A cap, v = .slice A es.length cap ∧ IWW w base w.heap.size A (es.map El.xs) := by
  obtain ⟨ho, hr, ha⟩ := h
  rcases ho.2 with ⟨rfl, h0⟩ | ⟨g, cap, cur, rfl, hb, hg, hn, hm, hs, ht⟩
  · rw [h0]
    exact ⟨none, 0, rfl, fun h1 => absurd h1 (by rw [List.length_map, h0]; exact Nat.lt_irrefl _)⟩
  · refine ⟨_, cap, rfl, fun _ => ⟨g, 0, _, cur, fun j => (es.getD j E0).A, fun j => (es.getD j E0).q, rfl, hb, ?_, hg, fun k hk => ?_, fun j k hjk hk => ?_⟩⟩
    · rcases Nat.lt_or_ge g w.heap.size with hlt | hge
      · exact hlt
      · rw [Array.getElem?_eq_none hge] at hg; cases hg
    · rw [List.length_map] at hk
      rw [el_xs hk]
      obtain ⟨h1, h2, h3⟩ := hr _ (el_mem hk)
      refine ⟨?_, h1, h2, fun c u e h0 => by have := h3 c u e h0; simpa [Value.ownBlock] using this⟩
      have h5 : (some (es.getD k E0).v) = cur[0 + k]? := by
        rw [Nat.zero_add, ← el_map hk, ← ht, List.getElem?_take, if_pos (by omega)]
        simp
      rw [← h5]
      rfl
    · rw [List.length_map] at hk
      rw [el_xs hk, el_xs (show j < es.length by omega)]
      have := List.pairwise_iff_getElem.1 ha j k (by omega) hk hjk
      simpa [List.getD, hk, show j < es.length by omega] using this

/-- A row that can be read whatever becomes of block g. -/
def GoodE (w : World) (g : Nat) (e : El) : Prop := e.xs.length ≤ 1048576 ∧ (0 < e.xs.length → ∃ b off, e.A = some ⟨b, off, none⟩ ∧ b < w.heap.size ∧ b ≠ g ∧ ∀ k, k < e.xs.length → w.cell? ⟨b, off + k, none⟩ = some (.int .i64 (e.xs.getD k 0)))
theorem GoodE.zero (w : World) (g : Nat) : GoodE w g E0 := ⟨Nat.zero_le _, fun h => absurd h (Nat.lt_irrefl _)⟩
theorem GoodE.ir {w w' : World} {g : Nat} {e : El} (h : GoodE w g e) (hg : w.grownBy w' (some g)) : IR w' w'.heap.size e.A e.xs := fun h0 => by
  obtain ⟨b, off, e1, hb, hne, hc⟩ := h.2 h0
  exact ⟨b, off, e1, Nat.lt_of_lt_of_le hb hg.size, fun k hk => hg.cell (hc k hk) (fun e => hne (by simpa using e))⟩
theorem OwnE.good {w : World} {base g n cap : Nat} {es : List El} (h : OwnE w base (.slice (some ⟨g, 0, none⟩) n cap) es) (hr : ∀ e ∈ es, e.xs.length ≤ 1048576) : ∀ e ∈ es, GoodE w g e := fun e he => ⟨hr e he, fun h0 => by
  obtain ⟨_, h2, h3⟩ := h.2.1 e he
  obtain ⟨b, off, t, cs, e1, hl, hh, hb, hc⟩ := h2 h0
  refine ⟨b, off, e1, hh, fun e2 => h3 b off e1 h0 (by rw [e2]; rfl), fun k hk => (hb.cell _).trans (hc k hk)⟩⟩
theorem OwnE.moved {w w' : World} {base g n cap : Nat} {es es' : List El} {n' : Nat} (h : OwnE w base (.slice (some ⟨g, 0, none⟩) n cap) es) (hg : w.grownBy w' (some g)) (ho : w'.ownsRow base 49 1 (.slice (some ⟨g, 0, none⟩) n' cap) es'.length (es'.map El.v)) (hm : ∀ e ∈ es', e ∈ es) (ha : es'.Pairwise fun a b => Apart a.A a.xs.length b.A b.xs.length) :
    OwnE w' base (.slice (some ⟨g, 0, none⟩) n' cap) es' := by
  refine ⟨ho, fun e he => ?_, ha⟩
  obtain ⟨h1, h2, h3⟩ := h.2.1 e (hm e he)
  refine ⟨h1, fun h0 => ?_, fun c u e1 h0 => h3 c u e1 h0⟩
  obtain ⟨b, off, t, cs, e1, hl, hh, hb, hc⟩ := h2 h0
  exact ⟨b, off, t, cs, e1, hl, Nat.lt_of_lt_of_le hh hg.size, (hg.block b hh (fun e2 => h3 b off e1 h0 (by rw [e2]; rfl))).trans hb, hc⟩

theorem own_of_sortR {α : Type} [Inhabited α] (encV : α → Value) {w : World} {base g n cap : Nat} {xs : List Value} (h : w.ownsRow base 49 1 (.slice (some ⟨g, 0, none⟩) n cap) n xs) (d' : Array α) (hd : d'.size = n) (m : Nat) (os : Array Obj) :
    (sortWorld encV w g 0 m d' os).ownsRow base 49 1 (.slice (some ⟨g, 0, none⟩) n cap) n (d'.toList.map encV) ∧ w.grownBy (sortWorld encV w g 0 m d' os) (some g) := by
  have hlt := h.lt g rfl
  rcases h.2 with ⟨hv, _⟩ | ⟨g', cap', cur, hv, hb, hh, hn, hm, hs, ht⟩
  · cases hv
  · cases hv
    have hnew : (sortWorld encV w g 0 m d' os).heap[g]? = some (.cells (putCells encV 0 d' cur) 49 (0, 0)) := by
      unfold sortWorld putRow
      rw [heap_grow_old _ _ (by simp [mapBlock, ahead]; exact hlt.2)]
      simp [mapBlock, ahead, Array.getElem?_modify, hh, onCells]
    refine ⟨⟨by simp [hd], .inr ⟨g, cap, _, rfl, hb, hnew, hn, hm, by simp [putCells, hs], ?_⟩⟩, ?_⟩
    · apply List.ext_getElem?
      intro j
      rw [List.getElem?_take]
      by_cases hj : j < n * 1
      · rw [if_pos hj]
        have hjc : j < cur.size := by rw [hs]; exact Nat.lt_of_lt_of_le hj (Nat.mul_le_mul_right 1 hn)
        have hjf : j < d'.size := by rw [hd]; omega
        simp [putCells, hjc, hjf]
      · rw [if_neg hj, List.getElem?_eq_none (by simp [hd]; omega)]
    · refine ⟨rfl, rfl, rfl, by simp [sortWorld, putRow, mapBlock, ahead], fun k hk hne => ?_⟩
      unfold sortWorld putRow
      rw [heap_grow_old _ _ (by simp [mapBlock, ahead]; omega)]
      have : g ≠ k := fun e => hne (by rw [e])
      simp [mapBlock, ahead, Array.getElem?_modify, this]

theorem swoL {α : Type} (f : α → List Int) : SWO (ltOf fun (x y : α) => cmpL (f x) (f y)) where
  irrefl x := by simp only [ltOf, lt_cmpL]; exact ltL_irrefl _
  trans x y z h1 h2 := by simp only [ltOf, lt_cmpL] at *; exact ltL_trans _ _ _ h1 h2
  ntrans x y z h1 h2 := by
    simp only [ltOf, lt_cmpL] at *
    cases h : ltL (f x) (f z) with
    | false => rfl
    | true =>
      exfalso
      cases hyx : ltL (f y) (f x) with
      | true => have := ltL_trans _ _ _ hyx h; rw [h2] at this; cases this
      | false => have := ltL_tri _ _ h1 hyx; rw [this, h2] at h; cases h

set_option maxHeartbeats 1000000 in
theorem sortR_any (base : Nat) (v : Value) (es : List El) (w : World) (hn : es.length ≤ 1048576) (hr : ∀ e ∈ es, e.xs.length ≤ 1048576) (h : OwnE w base v es) :
    Calls Try.prog 82 #[v, .func (.func 83) #[] #[]] w fun e w' => e = .returned (.tuple #[]) ∧ ∃ es' : List El, es'.Perm es ∧ (∀ i j, i < j → j < es'.length → ltL (es'.getD j E0).xs (es'.getD i E0).xs = false) ∧ OwnE w' base v es' ∧ w.grownBy w' v.ownBlock := by
  by_cases h0 : es.length = 0
  · obtain rfl := List.eq_nil_of_length_eq_zero h0
    obtain ⟨A, cap, rfl, -⟩ := h.done
    have hcon := AnyF.slices_SortFunc_none { Try.sortR with } A cap (.func (.func 83) #[] #[]) w
    change Calls Try.prog 82 _ _ _ at hcon
    refine hcon.mono ?_
    rintro e w' ⟨rfl, rfl⟩
    exact ⟨rfl, [], List.Perm.refl _, fun i j _ hj => absurd hj (Nat.not_lt_zero _), h, World.grownBy.refl _ _⟩
  · obtain ⟨g, cap, hv, hbg, hlt⟩ := h.1.form (by omega)
    subst hv
    have hgood := h.good hr
    let α := { e : El // GoodE w g e }
    letI : Inhabited α := ⟨⟨E0, GoodE.zero w g⟩⟩
    let d : Array α := (es.attach.map fun e => (⟨e.1, hgood e.1 e.2⟩ : α)).toArray
    have hds : d.size = es.length := by simp [d]
    have hdv : d.toList.map Subtype.val = es := by simp [d, List.map_map, Function.comp_def]
    let encV : α → Value := fun e => e.1.v
    have hdm : d.toList.map encV = es.map El.v := by
      have e9 := congrArg (List.map El.v) hdv
      rw [List.map_map] at e9
      exact e9
    have eg : ∀ args w, (callFunc 83 args).run Try.prog w = .ok (.enter 83 args) w := enters_of Try.func83 (by kernel_rfl) rfl
    have hcmp : CmpLays1 Try.prog 83 #[] encV (fun x y => cmpL x.1.xs y.1.xs) g 0 d.size w := fun m os dk hk x y => by
      have hgr := (own_of_sortR encV (h.1) dk (by rw [hk, hds]) m os).2
      refine (compareR_any x.1.A y.1.A _ _ x.1.q y.1.q x.1.xs y.1.xs _ (by have := x.2.1; omega) (by have := y.2.1; omega) rfl rfl (x.2.ir hgr) (y.2.ir hgr)).mono ?_
      rintro e w' ⟨rfl, rfl⟩
      exact ⟨rfl, 0, #[], by simp [World.drewN]⟩
    have hH : Holds encV w g 0 d := by
      intro j hj
      refine ⟨?_, h.1.frozenAt _⟩
      rw [Nat.zero_add, h.1.cellAt j (by omega), ← hdm]
      simp [hj]
    have hcon := Any.slices_SortFunc Try.sortR encV (fun _ => rfl) _ (swoL fun x : α => x.1.xs) 83 #[] g 0 cap d w eg hcmp hH hlt (by omega)
    rw [hds] at hcon
    change Calls Try.prog 82 _ _ _ at hcon
    refine hcon.mono ?_
    rintro e w' ⟨rfl, d', m, os, hp, hsd, rfl⟩
    have hs' : d'.size = es.length := by rw [hp.1, hds]
    have hpm : d'.toList.Perm d.toList := by
      have := hp.2.2
      rwa [show d'.extract 0 es.length = d' by rw [← hs']; exact Array.extract_size .., show d.extract 0 es.length = d by rw [← hds]; exact Array.extract_size ..] at this
    have hpe : (d'.toList.map Subtype.val).Perm es := by
      have := hpm.map Subtype.val
      rwa [hdv] at this
    have hl' : (d'.toList.map Subtype.val).length = es.length := hpe.length_eq
    have hoo := own_of_sortR encV h.1 d' hs' m os
    refine ⟨rfl, d'.toList.map Subtype.val, hpe, fun i j hij hj => ?_, ?_, hoo.2⟩
    · have h3 := hsd i j (Nat.zero_le _) hij (by omega)
      simp only [ltOf, lt_cmpL] at h3
      have hj2 : j < d'.size := by omega
      have hi2 : i < d'.size := by omega
      have e1 : ∀ k, k < d'.size → (d'.toList.map Subtype.val).getD k E0 = (d'[k]!).1 := by
        intro k hk
        simp [List.getD, hk]
      rw [e1 j hj2, e1 i hi2]
      exact h3
    · refine h.moved hoo.2 ?_ (fun e he => hpe.mem_iff.1 he) ?_
      · rw [hl', List.map_map]
        exact hoo.1
      · exact (hpe.pairwise_iff (fun {a b} hab => apart_symm hab)).2 h.2.2
end Go.Proofs.Ytcakbnfpmpdljaa
