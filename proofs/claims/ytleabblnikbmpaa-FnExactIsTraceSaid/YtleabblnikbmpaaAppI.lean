/- Rows of numbers that the call owns and that grow by append. -/
import Derived.Test.YtleabblnikbmpaaReads
import Derived.Test.YtleabblnikbmpaaInts
import Derived.StillTailTactics
namespace Go.Proofs.Ytleabblnikbmpaa
set_option linter.unusedVariables false
set_option linter.unusedSimpArgs false
open Go.RowKit Go.Sort

def vi (x : Int) : Value := .int .i64 x
def vis (xs : List Int) : List Value := xs.map vi
theorem vis_len (xs : List Int) : (vis xs).length = xs.length := by simp [vis]
theorem vis_snoc (xs : List Int) (x : Int) : vis (xs ++ [x]) = vis xs ++ [vi x] := by simp [vis]
theorem itake_snoc (xs : List Int) {k : Nat} (hk : k < xs.length) : xs.take (k + 1) = xs.take k ++ [xs.getD k 0] := by
  rw [List.take_succ_eq_append_getElem hk]
  simp [List.getD, hk]

/-- What a row of numbers that the call owns reads as. -/
theorem own_iwr {w : World} {base n : Nat} {v : Value} {xs : List Int} (h : w.ownsRow base 2 1 v n (vis xs)) (hl : xs.length = n) :
    ∃ A cap, v = .slice A n cap ∧ n ≤ cap ∧ IWr w base w.heap.size A xs := by
  rcases h.2 with ⟨rfl, h0⟩ | ⟨g, cap, cur, rfl, hb, hg, hn, hm, hs, ht⟩
  · obtain rfl : xs = [] := List.eq_nil_of_length_eq_zero (by omega)
    subst h0
    exact ⟨none, 0, rfl, Nat.le_refl _, fun h1 => absurd h1 (by simp)⟩
  · refine ⟨_, cap, rfl, hn, fun _ => ⟨g, 0, _, cur, rfl, hb, ?_, hg, fun k hk => ?_⟩⟩
    · rcases Nat.lt_or_ge g w.heap.size with hlt | hge
      · exact hlt
      · rw [Array.getElem?_eq_none hge] at hg; cases hg
    · have : (vis xs)[k]? = some (.int .i64 (xs.getD k 0)) := by simp [vis, vi, List.getD, hk]
      rw [Nat.zero_add, ← this, ← ht, List.getElem?_take, if_pos (by omega)]
      simp
theorem iown_ext {w w' : World} {base n : Nat} {v : Value} {xs : List Value} (h : w.ownsRow base 2 1 v n xs) (hx : Ext w w') : w'.ownsRow base 2 1 v n xs := by
  refine ⟨h.1, ?_⟩
  rcases h.2 with h0 | ⟨g, cap, cur, hv, hb, hg, r⟩
  · exact .inl h0
  · have hlt : g < w.heap.size := by
      rcases Nat.lt_or_ge g w.heap.size with hlt | hge
      · exact hlt
      · rw [Array.getElem?_eq_none hge] at hg; cases hg
    exact .inr ⟨g, cap, cur, hv, hb, ((hx.below (Nat.le_refl _)).block g hlt).trans hg, r⟩
theorem istep {w' : World} {base k : Nat} {v' : Value} {us : List Int} {y : Int} (hk : k < us.length) (hy : y = us.getD k 0)
    (h : w'.ownsRow base 2 1 v' (k + 1) (vis (us.take k) ++ [vi y])) : w'.ownsRow base 2 1 v' (k + 1) (vis (us.take (k + 1))) := by
  rw [itake_snoc us hk, ← hy, vis_snoc]
  exact h

/-- 'append(s, y)' onto a row of numbers that the call owns: y lies in a new block of its own. -/
theorem wpList_push {w : World} {ops : Array Oper} {rest : List Oper} {o : Oper} {a : Act} {Q : Exit → Act → World → Prop} (hgd : o.guard = none) (s x : Operand)
    (ho : o.op = .call { callee := .builtin .append, args := #[s, x], argTypes := #[42, 42] })
    (base : Nat) (v : Value) (n : Nat) (xs : List Value) (hs : a.eval s = v) (hown : w.ownsRow base 2 1 v n xs)
    (g : Nat) (y : Int) (hx : a.eval x = .slice (some ⟨g, 0, none⟩) 1 1) (hb : w.heap[g]? = some (.cells #[.int .i64 y] 2 (0, 0)))
    (h63 : n + 1 ≤ maxLen) (hbytes : (n + 1) * 8 ≤ 140737488355328) (hbase : base ≤ w.heap.size)
    (h : ∀ v' w', w'.ownsRow base 2 1 v' (n + 1) (xs ++ [vi y]) → w.grownBy w' v.ownBlock → (v'.ownBlock = v.ownBlock ∨ v'.ownBlock = some w.heap.size) → wpList Try.prog ops Q rest (a.put o.dst v') w') :
    wpList Try.prog ops Q (o :: rest) a w := by
  obtain ⟨i0, hi, hz0, hz1, hz2⟩ := info_parts info_int
  have hlt : g < w.heap.size := by
    rcases Nat.lt_or_ge g w.heap.size with hlt | hge
    · exact hlt
    · rw [Array.getElem?_eq_none hge] at hb; cases hb
  refine wpList_append_any w hgd s x _ ho base 2 i0 _ 1 8 Try.underlying42 hi hz0 hz1 hz2 rfl (by decide) v n xs hs hown w.heap.size _ 1 _ [vi y] hx ⟨rfl, fun _ => ⟨_, rfl, hlt, fun j u hu => ?_⟩⟩ (by simp [vi, Value.oneCell']) h63 hbytes hbase h
  rcases j with _ | j
  · simp at hu
    subst hu
    have := cell_of_row w g 0 #[.int .i64 y] 2 (0, 0) hb
    rw [Go.WideShapes.add_plain]
    exact this
  · simp at hu
/-- The same inside a region that draws its order. -/
theorem step_push {w : World} {ops : Array Oper} {o : Oper} {a : Act} {K : Act → World → Prop} {Q : Exit → Act → World → Prop} {E : Prop} (hgd : o.guard = none) (s x : Operand)
    (ho : o.op = .call { callee := .builtin .append, args := #[s, x], argTypes := #[42, 42] })
    (base : Nat) (v : Value) (n : Nat) (xs : List Value) (hs : a.eval s = v) (hown : w.ownsRow base 2 1 v n xs)
    (g : Nat) (y : Int) (hx : a.eval x = .slice (some ⟨g, 0, none⟩) 1 1) (hb : w.heap[g]? = some (.cells #[.int .i64 y] 2 (0, 0)))
    (h63 : n + 1 ≤ maxLen) (hbytes : (n + 1) * 8 ≤ 140737488355328) (hbase : base ≤ w.heap.size)
    (h : ∀ v' w', w'.ownsRow base 2 1 v' (n + 1) (xs ++ [vi y]) → w.grownBy w' v.ownBlock → (v'.ownBlock = v.ownBlock ∨ v'.ownBlock = some w.heap.size) → K (a.put o.dst v') w') :
    if Region.wanted o (yielded ops a.tmps) = true then Oper.wp Try.prog o a w K Q else E := by
  obtain ⟨i0, hi, hz0, hz1, hz2⟩ := info_parts info_int
  have hlt : g < w.heap.size := by
    rcases Nat.lt_or_ge g w.heap.size with hlt | hge
    · exact hlt
    · rw [Array.getElem?_eq_none hge] at hb; cases hb
  refine step_append_any w hgd s x _ ho base 2 i0 _ 1 8 Try.underlying42 hi hz0 hz1 hz2 rfl (by decide) v n xs hs hown w.heap.size _ 1 _ [vi y] hx ⟨rfl, fun _ => ⟨_, rfl, hlt, fun j u hu => ?_⟩⟩ (by simp [vi, Value.oneCell']) h63 hbytes hbase h
  rcases j with _ | j
  · simp at hu
    subst hu
    have := cell_of_row w g 0 #[.int .i64 y] 2 (0, 0) hb
    rw [Go.WideShapes.add_plain]
    exact this
  · simp at hu
end Go.Proofs.Ytleabblnikbmpaa
