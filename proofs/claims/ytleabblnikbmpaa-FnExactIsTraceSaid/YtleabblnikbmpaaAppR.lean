/- Lists of rows of numbers that the call owns and that grow by append. -/
import Derived.Test.YtleabblnikbmpaaRs
import Derived.Test.YtleabblnikbmpaaAppI
namespace Go.Proofs.Ytleabblnikbmpaa
set_option linter.unusedVariables false
set_option linter.unusedSimpArgs false
open Go.RowKit Go.Sort

def rvs (Q : Nat → Option Addr) (q : Nat → Nat) (rs : List (List Int)) : List Value := (List.range rs.length).map fun j => .slice (Q j) (rs.getD j []).length (q j)
theorem rvs_len (Q : Nat → Option Addr) (q : Nat → Nat) (rs : List (List Int)) : (rvs Q q rs).length = rs.length := by simp [rvs]
theorem rvs_at {Q : Nat → Option Addr} {q : Nat → Nat} {rs : List (List Int)} {j : Nat} (h : j < rs.length) : (rvs Q q rs)[j]? = some (.slice (Q j) (rs.getD j []).length (q j)) := by simp [rvs, h]
theorem getD_snoc {rs : List (List Int)} {xs : List Int} {j : Nat} (h : j < rs.length) : (rs ++ [xs]).getD j [] = rs.getD j [] := by simp only [List.getD]; rw [List.getElem?_append_left h]
theorem getD_last (rs : List (List Int)) (xs : List Int) : (rs ++ [xs]).getD rs.length [] = xs := by simp [List.getD]
theorem rvs_snoc (Q : Nat → Option Addr) (q : Nat → Nat) (rs : List (List Int)) (A : Option Addr) (c : Nat) (xs : List Int) :
    rvs (fun j => if j = rs.length then A else Q j) (fun j => if j = rs.length then c else q j) (rs ++ [xs]) = rvs Q q rs ++ [.slice A xs.length c] := by
  unfold rvs
  rw [show (rs ++ [xs]).length = rs.length + 1 by simp, List.range_succ, List.map_append]
  congr 1
  · refine List.map_congr_left fun j hj => ?_
    have := List.mem_range.1 hj
    show Value.slice (if j = rs.length then A else Q j) ((rs ++ [xs]).getD j []).length (if j = rs.length then c else q j) = _
    rw [if_neg (by omega), if_neg (by omega), getD_snoc this]
  · simp [List.getD]

/-- The rows rs are held by a list v that the call owns, each row in cells of its own. -/
def OwnRR (w : World) (base : Nat) (v : Value) (rs : List (List Int)) : Prop :=
  ∃ (Q : Nat → Option Addr) (q : Nat → Nat), w.ownsRow base 42 1 v rs.length (rvs Q q rs) ∧
    (∀ j, j < rs.length → (rs.getD j []).length ≤ q j ∧ IWr w base w.heap.size (Q j) (rs.getD j []) ∧ (∀ c u, Q j = some ⟨c, u, none⟩ → 0 < (rs.getD j []).length → some c ≠ v.ownBlock)) ∧
    (∀ i j, i < j → j < rs.length → Apart (Q i) (rs.getD i []).length (Q j) (rs.getD j []).length)
theorem own_belowA {w w' : World} {base n size : Nat} {e : TypeId} {v : Value} {xs : List Value} (h : w.ownsRow base e size v n xs) (hx : Below w.heap.size w w') : w'.ownsRow base e size v n xs := by
  refine ⟨h.1, ?_⟩
  rcases h.2 with h0 | ⟨g, cap, cur, hv, hb, hg, r⟩
  · exact .inl h0
  · have hlt : g < w.heap.size := by
      rcases Nat.lt_or_ge g w.heap.size with hlt | hge
      · exact hlt
      · rw [Array.getElem?_eq_none hge] at hg; cases hg
    exact .inr ⟨g, cap, cur, hv, hb, (hx.block g hlt).trans hg, r⟩
theorem OwnRR.below {w w' : World} {base : Nat} {v : Value} {rs : List (List Int)} (h : OwnRR w base v rs) (hx : Below w.heap.size w w') : OwnRR w' base v rs := by
  obtain ⟨Q, q, ho, hr, ha⟩ := h
  refine ⟨Q, q, own_belowA ho hx, fun j hj => ?_, ha⟩
  obtain ⟨h1, h2, h3⟩ := hr j hj
  exact ⟨h1, (h2.below hx).up hx.size, h3⟩
theorem OwnRR.ext {w w' : World} {base : Nat} {v : Value} {rs : List (List Int)} (h : OwnRR w base v rs) (hx : Ext w w') : OwnRR w' base v rs := h.below (hx.below (Nat.le_refl _))
theorem OwnRR.nil (w : World) (base : Nat) : OwnRR w base (.slice none 0 0) [] :=
  ⟨fun _ => none, fun _ => 0, World.ownsRow_nil _ _ _ _, fun j hj => absurd hj (Nat.not_lt_zero _), fun i j _ hj => absurd hj (Nat.not_lt_zero _)⟩
theorem OwnRR.made (w : World) (base : Nat) (hb : base ≤ w.heap.size) : OwnRR (w.alloc (.cells #[] 42)) base (.slice (some ⟨w.heap.size, 0, none⟩) 0 0) [] :=
  ⟨fun _ => none, fun _ => 0, World.ownsRow_made (base := base) (e := 42) (size := 1) w #[] 0 hb (by unfold maxLen; omega) rfl, fun j hj => absurd hj (Nat.not_lt_zero _), fun i j _ hj => absurd hj (Nat.not_lt_zero _)⟩
/-- What a list of rows that the call owns reads as. -/
theorem OwnRR.done {w : World} {base : Nat} {v : Value} {rs : List (List Int)} (h : OwnRR w base v rs) : ∃ A cap, v = .slice A rs.length cap ∧ rs.length ≤ cap ∧ IWW w base w.heap.size A rs := by
  obtain ⟨Q, q, ho, hr, ha⟩ := h
  rcases ho.2 with ⟨rfl, h0⟩ | ⟨g, cap, cur, rfl, hb, hg, hn, hm, hs, ht⟩
  · rw [h0]
    exact ⟨none, 0, rfl, Nat.le_refl _, fun h1 => absurd h1 (by omega)⟩
  · refine ⟨_, cap, rfl, hn, fun _ => ⟨g, 0, _, cur, Q, q, rfl, hb, ?_, hg, fun k hk => ?_, ha⟩⟩
    · rcases Nat.lt_or_ge g w.heap.size with hlt | hge
      · exact hlt
      · rw [Array.getElem?_eq_none hge] at hg; cases hg
    · obtain ⟨h1, h2, h3⟩ := hr k hk
      refine ⟨?_, h1, h2, fun c u e h0 => by have := h3 c u e h0; simpa [Value.ownBlock] using this⟩
      rw [Nat.zero_add, ← rvs_at hk, ← ht, List.getElem?_take, if_pos (by omega)]
      simp
theorem OwnRR.pushed {w0 w w' : World} {base n cap : Nat} {v v' : Value} {rs : List (List Int)} {xs : List Int} {A : Option Addr} {Q : Nat → Option Addr} {q : Nat → Nat}
    (hr : ∀ j, j < rs.length → (rs.getD j []).length ≤ q j ∧ IWr w0 base w0.heap.size (Q j) (rs.getD j []) ∧ (∀ c u, Q j = some ⟨c, u, none⟩ → 0 < (rs.getD j []).length → some c ≠ v.ownBlock))
    (ha : ∀ i j, i < j → j < rs.length → Apart (Q i) (rs.getD i []).length (Q j) (rs.getD j []).length)
    (ho : w0.ownsRow base 42 1 v rs.length (rvs Q q rs)) (hb : Below w0.heap.size w0 w) (hrow : IWr w w0.heap.size w.heap.size A xs) (hn : xs.length = n) (hcap : n ≤ cap) (hbase : base ≤ w0.heap.size)
    (hown : w'.ownsRow base 42 1 v' (rs.length + 1) (rvs Q q rs ++ [.slice A n cap])) (hgrow : w.grownBy w' v.ownBlock) (hat : v'.ownBlock = v.ownBlock ∨ v'.ownBlock = some w.heap.size) :
    OwnRR w' base v' (rs ++ [xs]) := by
  have hsz := hb.size
  have far : ∀ c u, A = some ⟨c, u, none⟩ → 0 < xs.length → w0.heap.size ≤ c ∧ c < w.heap.size := by
    intro c u e h0
    obtain ⟨b', off', _, _, e', hl', hh', _⟩ := hrow h0
    rw [e] at e'
    cases e'
    exact ⟨hl', hh'⟩
  have near : ∀ j, j < rs.length → ∀ c u, Q j = some ⟨c, u, none⟩ → 0 < (rs.getD j []).length → c < w0.heap.size := by
    intro j hj c u e h0
    obtain ⟨b', off', _, _, e', hl', hh', _⟩ := (hr j hj).2.1 h0
    rw [e] at e'
    cases e'
    exact hh'
  have hob : ∀ c, some c = v.ownBlock → c < w0.heap.size := fun c e => (ho.lt c e.symm).2
  refine ⟨fun j => if j = rs.length then A else Q j, fun j => if j = rs.length then cap else q j, ?_, fun j hj => ?_, fun i j hij hj => ?_⟩
  · rw [rvs_snoc, hn]
    simpa using hown
  · by_cases hjk : j = rs.length
    · subst hjk
      simp only [if_true]
      rw [getD_last]
      refine ⟨by omega, ?_, fun c u e h0 => ?_⟩
      · intro h0
        obtain ⟨b, off, t, cs, e, hl', hh', hbb, hc⟩ := hrow h0
        refine ⟨b, off, t, cs, e, by omega, Nat.lt_of_lt_of_le hh' hgrow.size, ?_, hc⟩
        exact (hgrow.block b hh' (fun e2 => by have := hob b e2; omega)).trans hbb
      · have h1 := far c u e h0
        rcases hat with e1 | e1
        · rw [e1]
          intro e2
          have := hob c e2
          omega
        · rw [e1]
          intro e2
          cases e2
          omega
    · have hj' : j < rs.length := by simp at hj; omega
      simp only [if_neg hjk]
      rw [getD_snoc hj']
      obtain ⟨h1, h2, h3⟩ := hr j hj'
      refine ⟨h1, ?_, fun c u e h0 => ?_⟩
      · intro h0
        obtain ⟨b, off, t, cs, e, hl', hh', hbb, hc⟩ := (h2.below hb) h0
        refine ⟨b, off, t, cs, e, hl', by have := hgrow.size; omega, ?_, hc⟩
        exact (hgrow.block b (by omega) (fun e2 => h3 b off e h0 e2)).trans hbb
      · have h4 := near j hj' c u e h0
        rcases hat with e1 | e1
        · rw [e1]
          exact h3 c u e h0
        · rw [e1]
          intro e2
          cases e2
          omega
  · by_cases hjk : j = rs.length
    · subst hjk
      simp only [if_true, if_neg (show ¬ i = rs.length by omega)]
      rw [getD_last, getD_snoc (by omega)]
      intro b o c u e1 e2 h1 h2
      have := near i (by omega) b o e1 h1
      have := far c u e2 h2
      exact .inl (by omega)
    · have hj' : j < rs.length := by simp at hj; omega
      simp only [if_neg hjk, if_neg (show ¬ i = rs.length by omega)]
      rw [getD_snoc hj', getD_snoc (by omega)]
      exact ha i j hij hj'

/-- 'append(rows, row)' onto a list of rows that the call owns, the row made since. -/
theorem wpList_pushR {w : World} {ops : Array Oper} {rest : List Oper} {o : Oper} {a : Act} {K : Exit → Act → World → Prop} (hgd : o.guard = none) (s x : Operand)
    (ho : o.op = .call { callee := .builtin .append, args := #[s, x], argTypes := #[34, 34] })
    (base : Nat) (v : Value) (rs : List (List Int)) (hs : a.eval s = v) (w0 : World) (h : OwnRR w0 base v rs) (hb : Below w0.heap.size w0 w)
    (g : Nat) (A : Option Addr) (n cap : Nat) (xs : List Int) (hx : a.eval x = .slice (some ⟨g, 0, none⟩) 1 1) (hbk : w.heap[g]? = some (.cells #[.slice A n cap] 42 (0, 0)))
    (hrow : IWr w w0.heap.size w.heap.size A xs) (hn : xs.length = n) (hcap : n ≤ cap) (h63 : rs.length + 1 ≤ 65536) (hbase : base ≤ w0.heap.size)
    (hK : ∀ v' w', OwnRR w' base v' (rs ++ [xs]) → w.grownBy w' v.ownBlock → (∀ k, v.ownBlock = some k → base ≤ k ∧ k < w0.heap.size) → Below base w w' → wpList Try.prog ops K rest (a.put o.dst v') w') :
    wpList Try.prog ops K (o :: rest) a w := by
  obtain ⟨Q, q, hown, hr, ha⟩ := h
  obtain ⟨i0, hi, hz0, hz1, hz2⟩ := info_parts info_row
  have hlt : g < w.heap.size := by
    rcases Nat.lt_or_ge g w.heap.size with hlt | hge
    · exact hlt
    · rw [Array.getElem?_eq_none hge] at hbk; cases hbk
  refine wpList_append_any w hgd s x _ ho base 42 i0 _ 1 24 Try.underlying34 hi hz0 hz1 hz2 rfl (by decide) v rs.length (rvs Q q rs) hs (own_belowA hown hb) w.heap.size _ 1 _ [.slice A n cap] hx ⟨rfl, fun _ => ⟨_, rfl, hlt, fun j u hu => ?_⟩⟩ (by simp [Value.oneCell']) (by unfold maxLen; omega) (by omega) (Nat.le_trans hbase hb.size) ?_
  · rcases j with _ | j
    · simp at hu
      subst hu
      have := cell_of_row w g 0 #[.slice A n cap] 42 (0, 0) hbk
      rw [Go.WideShapes.add_plain]
      exact this
    · simp at hu
  · intro v' w' h1 h2 h3
    exact hK v' w' (OwnRR.pushed hr ha hown hb hrow hn hcap hbase h1 h2 h3) h2 (fun k hk => hown.lt k hk) ((Below.refl base w).grown h2 (Nat.le_trans hbase hb.size) (fun j hj => (hown.lt j hj).1))
end Go.Proofs.Ytleabblnikbmpaa
