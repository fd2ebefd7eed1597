/- Rows of numbers that the call owns, two put behind them at a time. -/
import Derived.Test.YtnmgkchkbchfaaaAppR
import Derived.Lib.Hide
namespace Go.Proofs.Ytnmgkchkbchfaaa
set_option linter.unusedVariables false
set_option linter.unusedSimpArgs false
open Go.RowKit Go.Sort

structure RowE where
  A : Option Addr
  q : Nat
  xs : List Int
def RowE.v (e : RowE) : Value := .slice e.A e.xs.length e.q
def RowE0 : RowE := ⟨none, 0, []⟩
/-- The rows es are held by a list v that the call owns, each row in cells of its own. -/
def OwnF (w : World) (base : Nat) (v : Value) (es : List RowE) : Prop :=
  w.ownsRow base 44 1 v es.length (es.map RowE.v) ∧
    (∀ e ∈ es, e.xs.length ≤ e.q ∧ IWr w base w.heap.size e.A e.xs ∧ (∀ c u, e.A = some ⟨c, u, none⟩ → 0 < e.xs.length → some c ≠ v.ownBlock)) ∧
    es.Pairwise fun a b => Apart a.A a.xs.length b.A b.xs.length
theorem OwnF.nil (w : World) (base : Nat) : OwnF w base (.slice none 0 0) [] := ⟨World.ownsRow_nil _ _ _ _, fun e he => by simp at he, List.Pairwise.nil⟩
theorem OwnF.below {w w' : World} {base : Nat} {v : Value} {es : List RowE} (h : OwnF w base v es) (hx : Below w.heap.size w w') : OwnF w' base v es :=
  ⟨own_belowA h.1 hx, fun e he => ⟨(h.2.1 e he).1, ((h.2.1 e he).2.1.below hx).up hx.size, (h.2.1 e he).2.2⟩, h.2.2⟩
theorem OwnF.low {w : World} {base base' : Nat} {v : Value} {es : List RowE} (h : OwnF w base v es) (hb : base' ≤ base) : OwnF w base' v es := by
  refine ⟨⟨h.1.1, ?_⟩, fun e he => ⟨(h.2.1 e he).1, (h.2.1 e he).2.1.low hb, (h.2.1 e he).2.2⟩, h.2.2⟩
  rcases h.1.2 with hn | ⟨g, cap, cur, hv, hbg, rest⟩
  · exact .inl hn
  · exact .inr ⟨g, cap, cur, hv, Nat.le_trans hb hbg, rest⟩
theorem apart_symmF {p q : Option Addr} {n m : Nat} (h : Apart p n q m) : Apart q m p n := fun b o c u e1 e2 h1 h2 => by
  rcases h c u b o e2 e1 h2 h1 with h | h | h
  · exact .inl fun e => h e.symm
  · exact .inr (.inr h)
  · exact .inr (.inl h)
theorem el_mapF {es : List RowE} {k : Nat} (hk : k < es.length) : (es.map RowE.v)[k]? = some (es.getD k RowE0).v := by simp [List.getD, hk]
theorem el_xsF {es : List RowE} {k : Nat} (hk : k < es.length) : (es.map RowE.xs).getD k [] = (es.getD k RowE0).xs := by simp [List.getD, hk]
theorem el_memF {es : List RowE} {k : Nat} (hk : k < es.length) : es.getD k RowE0 ∈ es := by simp [List.getD, hk]
/-- What such a list reads as. -/
theorem OwnF.done {w : World} {base : Nat} {v : Value} {es : List RowE} (h : OwnF w base v es) : ∃ A cap, v = .slice A es.length cap ∧ IWW w base w.heap.size A (es.map RowE.xs) := by
  obtain ⟨ho, hr, ha⟩ := h
  rcases ho.2 with ⟨rfl, h0⟩ | ⟨g, cap, cur, rfl, hb, hg, hn, hm, hs, ht⟩
  · rw [h0]
    exact ⟨none, 0, rfl, fun h1 => absurd h1 (by rw [List.length_map, h0]; exact Nat.lt_irrefl _)⟩
  · refine ⟨_, cap, rfl, fun _ => ⟨g, 0, _, cur, fun j => (es.getD j RowE0).A, fun j => (es.getD j RowE0).q, rfl, hb, ?_, hg, fun k hk => ?_, fun j k hjk hk => ?_⟩⟩
    · rcases Nat.lt_or_ge g w.heap.size with hlt | hge
      · exact hlt
      · rw [Array.getElem?_eq_none hge] at hg; cases hg
    · rw [List.length_map] at hk
      rw [el_xsF hk]
      obtain ⟨h1, h2, h3⟩ := hr _ (el_memF hk)
      refine ⟨?_, h1, h2, fun c u e h0 => by have := h3 c u e h0; simpa [Value.ownBlock] using this⟩
      have h5 : (some (es.getD k RowE0).v) = cur[0 + k]? := by
        rw [Nat.zero_add, ← el_mapF hk, ← ht, List.getElem?_take, if_pos (by omega)]
        simp
      rw [← h5]
      rfl
    · rw [List.length_map] at hk
      rw [el_xsF hk, el_xsF (show j < es.length by omega)]
      have := List.pairwise_iff_getElem.1 ha j k (by omega) hk hjk
      simpa [List.getD, hk, show j < es.length by omega] using this

theorem OwnF.pushed {w0 w w' : World} {base : Nat} {v v' : Value} {es news : List RowE} (h : OwnF w0 base v es) (hb : Below w0.heap.size w0 w)
    (hrow : ∀ e ∈ news, e.xs.length ≤ e.q ∧ IWr w w0.heap.size w.heap.size e.A e.xs) (hap : news.Pairwise fun a b => Apart a.A a.xs.length b.A b.xs.length) (hbase : base ≤ w0.heap.size)
    (hown : w'.ownsRow base 44 1 v' (es.length + news.length) (es.map RowE.v ++ news.map RowE.v)) (hgrow : w.grownBy w' v.ownBlock) (hat : v'.ownBlock = v.ownBlock ∨ v'.ownBlock = some w.heap.size) :
    OwnF w' base v' (es ++ news) := by
  have hsz := hb.size
  obtain ⟨ho, hr, ha⟩ := h
  have hob : ∀ c, some c = v.ownBlock → c < w0.heap.size := fun c e => (ho.lt c e.symm).2
  have near : ∀ e ∈ es, ∀ c u, e.A = some ⟨c, u, none⟩ → 0 < e.xs.length → c < w0.heap.size := by
    intro e he c u e1 h0
    obtain ⟨b', off', _, _, e', hl', hh', _⟩ := (hr e he).2.1 h0
    rw [e1] at e'
    cases e'
    exact hh'
  have far : ∀ e ∈ news, ∀ c u, e.A = some ⟨c, u, none⟩ → 0 < e.xs.length → w0.heap.size ≤ c ∧ c < w.heap.size := by
    intro e he c u e1 h0
    obtain ⟨b', off', _, _, e', hl', hh', _⟩ := (hrow e he).2 h0
    rw [e1] at e'
    cases e'
    exact ⟨hl', hh'⟩
  refine ⟨?_, fun e he => ?_, List.pairwise_append.2 ⟨ha, hap, fun a haa b hbb => ?_⟩⟩
  · rw [List.length_append, List.map_append]
    exact hown
  · rcases List.mem_append.1 he with he | he
    · obtain ⟨h1, h2, h3⟩ := hr e he
      refine ⟨h1, fun h0 => ?_, fun c u e1 h0 => ?_⟩
      · obtain ⟨b, off, t, cs, e1, hl, hh, hbk, hc⟩ := (h2.below hb) h0
        exact ⟨b, off, t, cs, e1, hl, by have := hgrow.size; omega, (hgrow.block b (by omega) (fun e2 => h3 b off e1 h0 e2)).trans hbk, hc⟩
      · have h4 := near e he c u e1 h0
        rcases hat with h5 | h5
        · rw [h5]; exact h3 c u e1 h0
        · rw [h5]; intro e2; cases e2; omega
    · obtain ⟨h1, h2⟩ := hrow e he
      refine ⟨h1, fun h0 => ?_, fun c u e1 h0 => ?_⟩
      · obtain ⟨b, off, t, cs, e1, hl, hh, hbk, hc⟩ := h2 h0
        exact ⟨b, off, t, cs, e1, by omega, by have := hgrow.size; omega, (hgrow.block b hh (fun e2 => by have := hob b e2; omega)).trans hbk, hc⟩
      · have h4 := far e he c u e1 h0
        rcases hat with h5 | h5
        · rw [h5]; intro e2; have := hob c e2; omega
        · rw [h5]; intro e2; cases e2; omega
  · intro b1 o1 c1 u1 e1 e2 h1 h2
    have := near a haa b1 o1 e1 h1
    have := far b hbb c1 u1 e2 h2
    exact .inl (by omega)

/-- What both pushes of two rows come to. -/
theorem two_rows {w w0 w' : World} {base : Nat} {v v' : Value} {es : List RowE} {A1 A2 : Option Addr} {q1 q2 : Nat} {xs1 xs2 : List Int} (h : OwnF w0 base v es) (hb : Below w0.heap.size w0 w)
    (hr1 : IWr w w0.heap.size w.heap.size A1 xs1) (hr2 : IWr w w0.heap.size w.heap.size A2 xs2) (hq1 : xs1.length ≤ q1) (hq2 : xs2.length ≤ q2) (hap : Apart A1 xs1.length A2 xs2.length) (hbase : base ≤ w0.heap.size)
    (h2 : w'.ownsRow base 44 1 v' (es.length + 2) (es.map RowE.v ++ [.slice A1 xs1.length q1, .slice A2 xs2.length q2])) (h3 : w.grownBy w' v.ownBlock) (h4 : v'.ownBlock = v.ownBlock ∨ v'.ownBlock = some w.heap.size) :
    OwnF w' base v' (es ++ [⟨A1, q1, xs1⟩, ⟨A2, q2, xs2⟩]) ∧ Below base w w' := by
  have hsz := hb.size
  refine ⟨h.pushed hb (news := [⟨A1, q1, xs1⟩, ⟨A2, q2, xs2⟩]) (fun e he => ?_) (by simp; exact hap) hbase h2 h3 h4, (Below.refl base w).grown h3 (by omega) (fun j hj => (h.1.lt j hj).1)⟩
  simp only [List.mem_cons, List.not_mem_nil, or_false] at he
  rcases he with rfl | rfl
  · exact ⟨hq1, hr1⟩
  · exact ⟨hq2, hr2⟩
theorem reads_rows2 {w : World} {g : Nat} {x y : Value} (hbk : Blk w g 44 #[x, y]) : Reads w w.heap.size 1 (some ⟨g, 0, none⟩) 2 [x, y] := ⟨rfl, fun _ => ⟨_, rfl, hbk.lt, fun j u hu => by
  have := hbk.cell j
  rw [Go.WideShapes.add_plain, Nat.zero_add]
  rw [this]
  rw [← hu]
  simp⟩⟩

theorem step_pushRows2 {w : World} {ops : Array Oper} {o : Oper} {a : Act} {K : Act → World → Prop} {Q : Exit → Act → World → Prop} {E : Prop} (hgd : o.guard = none) (s x : Operand)
    (ho : o.op = .call { callee := .builtin .append, args := #[s, x], argTypes := #[25, 25] })
    (base : Nat) (v : Value) (es : List RowE) (hs : a.eval s = v) (w0 : World) (h : OwnF w0 base v es) (hb : Below w0.heap.size w0 w)
    (g n1 q1 n2 q2 : Nat) (A1 A2 : Option Addr) (xs1 xs2 : List Int) (hx : a.eval x = .slice (some ⟨g, 0, none⟩) 2 2) (hbk : Blk w g 44 #[.slice A1 n1 q1, .slice A2 n2 q2])
    (hr1 : IWr w w0.heap.size w.heap.size A1 xs1) (hr2 : IWr w w0.heap.size w.heap.size A2 xs2) (hl1 : xs1.length = n1) (hl2 : xs2.length = n2) (hq1 : n1 ≤ q1) (hq2 : n2 ≤ q2) (hap : Apart A1 n1 A2 n2) (h63 : es.length + 2 ≤ 1048576) (hbase : base ≤ w0.heap.size)
    (hK : ∀ v' w', OwnF w' base v' (es ++ [⟨A1, q1, xs1⟩, ⟨A2, q2, xs2⟩]) → Below base w w' → w.grownBy w' v.ownBlock → K (a.put o.dst v') w') :
    if Region.wanted o (yielded ops a.tmps) = true then Oper.wp Try.prog o a w K Q else E := by
  obtain ⟨i0, hi, hz0, hz1, hz2⟩ := info_parts info_row
  have hsz := hb.size
  refine step_append_any w hgd s x _ ho base 44 i0 _ 1 24 Try.underlying25 hi hz0 hz1 hz2 rfl (by decide) v es.length (es.map RowE.v) hs (own_belowA h.1 hb) w.heap.size _ 2 _ [.slice A1 n1 q1, .slice A2 n2 q2] hx (reads_rows2 hbk) (by intro u hu; simp at hu; rcases hu with rfl | rfl <;> rfl) (by unfold maxLen; omega) (by omega) (by omega) fun v' w' h2 h3 h4 => ?_
  subst hl1 hl2
  obtain ⟨h5, h6⟩ := two_rows h hb hr1 hr2 hq1 hq2 hap hbase h2 h3 h4
  exact hK v' w' h5 h6 h3

theorem wpList_pushRows2 {w : World} {ops : Array Oper} {rest : List Oper} {o : Oper} {a : Act} {K : Exit → Act → World → Prop} (hgd : o.guard = none) (s x : Operand)
    (ho : o.op = .call { callee := .builtin .append, args := #[s, x], argTypes := #[25, 25] })
    (base : Nat) (v : Value) (es : List RowE) (hs : a.eval s = v) (w0 : World) (h : OwnF w0 base v es) (hb : Below w0.heap.size w0 w)
    (g n1 q1 n2 q2 : Nat) (A1 A2 : Option Addr) (xs1 xs2 : List Int) (hx : a.eval x = .slice (some ⟨g, 0, none⟩) 2 2) (hbk : Blk w g 44 #[.slice A1 n1 q1, .slice A2 n2 q2])
    (hr1 : IWr w w0.heap.size w.heap.size A1 xs1) (hr2 : IWr w w0.heap.size w.heap.size A2 xs2) (hl1 : xs1.length = n1) (hl2 : xs2.length = n2) (hq1 : n1 ≤ q1) (hq2 : n2 ≤ q2) (hap : Apart A1 n1 A2 n2) (h63 : es.length + 2 ≤ 1048576) (hbase : base ≤ w0.heap.size)
    (hK : ∀ v' w', OwnF w' base v' (es ++ [⟨A1, q1, xs1⟩, ⟨A2, q2, xs2⟩]) → Below base w w' → w.grownBy w' v.ownBlock → wpList Try.prog ops K rest (a.put o.dst v') w') :
    wpList Try.prog ops K (o :: rest) a w := by
  obtain ⟨i0, hi, hz0, hz1, hz2⟩ := info_parts info_row
  have hsz := hb.size
  refine wpList_append_any w hgd s x _ ho base 44 i0 _ 1 24 Try.underlying25 hi hz0 hz1 hz2 rfl (by decide) v es.length (es.map RowE.v) hs (own_belowA h.1 hb) w.heap.size _ 2 _ [.slice A1 n1 q1, .slice A2 n2 q2] hx (reads_rows2 hbk) (by intro u hu; simp at hu; rcases hu with rfl | rfl <;> rfl) (by unfold maxLen; omega) (by omega) (by omega) fun v' w' h2 h3 h4 => ?_
  subst hl1 hl2
  obtain ⟨h5, h6⟩ := two_rows h hb hr1 hr2 hq1 hq2 hap hbase h2 h3 h4
  exact hK v' w' h5 h6 h3
end Go.Proofs.Ytnmgkchkbchfaaa
