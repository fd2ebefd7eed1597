/- A tile put behind a row of tiles that the call owns; tiles picked by their numbers. -/
import Derived.Test.YtleabblnikbmpaaReads
import Derived.Test.YtleabblnikbmpaaLastA
import Derived.Test.YtleabblnikbmpaaSort
namespace Go.Proofs.Ytleabblnikbmpaa
set_option linter.unusedVariables false
set_option linter.unusedSimpArgs false
open Go.RowKit Go.Sort

def encA (t : Tl) : Array Value := #[.int .i64 t.1, .int .i64 t.2.1, .int .i64 t.2.2.1, .int .i64 t.2.2.2]
theorem reads_new {w : World} {g : Nat} {t : Tl} (hb : w.heap[g]? = some (.cells (encA t) 69 (0, 0))) : Reads w w.heap.size 4 (some ⟨g, 0, none⟩) 1 (enc t) := by
  have hlt : g < w.heap.size := by
    rcases Nat.lt_or_ge g w.heap.size with hlt | hge
    · exact hlt
    · rw [Array.getElem?_eq_none hge] at hb; cases hb
  refine ⟨rfl, fun _ => ⟨_, rfl, hlt, fun j u hu => ?_⟩⟩
  have := cell_of_row w g j (encA t) 69 (0, 0) hb
  rw [Go.WideShapes.add_plain]
  simp only [Nat.zero_add]
  rw [this]
  rw [← hu]
  simp [encA, enc]
/-- 'append(s, t)' onto a row of tiles that the call owns: t lies in a new block of its own. -/
theorem wpList_pushT {w : World} {ops : Array Oper} {rest : List Oper} {o : Oper} {a : Act} {Q : Exit → Act → World → Prop} (hgd : o.guard = none) (s x : Operand)
    (ho : o.op = .call { callee := .builtin .append, args := #[s, x], argTypes := #[28, 28] })
    (base : Nat) (v : Value) (n : Nat) (xs : List Value) (hs : a.eval s = v) (hown : w.ownsRow base 69 4 v n xs)
    (g : Nat) (t : Tl) (hx : a.eval x = .slice (some ⟨g, 0, none⟩) 1 1) (hb : w.heap[g]? = some (.cells (encA t) 69 (0, 0)))
    (h63 : n + 1 ≤ maxLen) (hbytes : (n + 1) * 32 ≤ 140737488355328) (hbase : base ≤ w.heap.size)
    (h : ∀ v' w', w'.ownsRow base 69 4 v' (n + 1) (xs ++ enc t) → w.grownBy w' v.ownBlock → (v'.ownBlock = v.ownBlock ∨ v'.ownBlock = some w.heap.size) → wpList Try.prog ops Q rest (a.put o.dst v') w') :
    wpList Try.prog ops Q (o :: rest) a w := by
  obtain ⟨i0, hi, hz0, hz1, hz2⟩ := info_parts info_tile
  exact wpList_append_any w hgd s x _ ho base 69 i0 _ 4 32 Try.underlying28 hi hz0 hz1 hz2 rfl (by decide) v n xs hs hown w.heap.size _ 1 _ (enc t) hx (reads_new hb) (enc_one t) h63 hbytes hbase h
/-- The same inside a region that draws its order. -/
theorem step_pushT {w : World} {ops : Array Oper} {o : Oper} {a : Act} {K : Act → World → Prop} {Q : Exit → Act → World → Prop} {E : Prop} (hgd : o.guard = none) (s x : Operand)
    (ho : o.op = .call { callee := .builtin .append, args := #[s, x], argTypes := #[28, 28] })
    (base : Nat) (v : Value) (n : Nat) (xs : List Value) (hs : a.eval s = v) (hown : w.ownsRow base 69 4 v n xs)
    (g : Nat) (t : Tl) (hx : a.eval x = .slice (some ⟨g, 0, none⟩) 1 1) (hb : w.heap[g]? = some (.cells (encA t) 69 (0, 0)))
    (h63 : n + 1 ≤ maxLen) (hbytes : (n + 1) * 32 ≤ 140737488355328) (hbase : base ≤ w.heap.size)
    (h : ∀ v' w', w'.ownsRow base 69 4 v' (n + 1) (xs ++ enc t) → w.grownBy w' v.ownBlock → (v'.ownBlock = v.ownBlock ∨ v'.ownBlock = some w.heap.size) → K (a.put o.dst v') w') :
    if Region.wanted o (yielded ops a.tmps) = true then Oper.wp Try.prog o a w K Q else E := by
  obtain ⟨i0, hi, hz0, hz1, hz2⟩ := info_parts info_tile
  exact step_append_any w hgd s x _ ho base 69 i0 _ 4 32 Try.underlying28 hi hz0 hz1 hz2 rfl (by decide) v n xs hs hown w.heap.size _ 1 _ (enc t) hx (reads_new hb) (enc_one t) h63 hbytes hbase h

/-- The tiles of a list of numbers. -/
def pick (ts : List Tl) (xs : List Int) : List Tl := xs.map fun v => ts.getD v.toNat T0
theorem pick_len (ts : List Tl) (xs : List Int) : (pick ts xs).length = xs.length := by simp [pick]
theorem pick_snoc (ts : List Tl) (xs : List Int) (x : Int) : pick ts (xs ++ [x]) = pick ts xs ++ [ts.getD x.toNat T0] := by simp [pick]
theorem range_tiles (ts : List Tl) : (List.range ts.length).map (fun k => ts.getD k T0) = ts := by
  apply List.ext_getElem
  · simp
  · intro i h1 h2
    simp [List.getD, h2]
theorem pick_nums (ts : List Tl) (p : Nat → Bool) : (pick ts (numsOf ts.length p)).Sublist ts := by
  have e : pick ts (numsOf ts.length p) = ((List.range ts.length).filter p).map (fun k => ts.getD k T0) := by
    unfold pick numsOf
    rw [List.map_map]
    rfl
  rw [e]
  have h := (List.filter_sublist (l := List.range ts.length) (p := p)).map (fun k => ts.getD k T0)
  rw [range_tiles] at h
  exact h
open Classical in
/-- The lasting tiles. -/
noncomputable def lastingT (ts : List Tl) : List Tl := pick ts (lastL ts)
theorem lastingT_sub (ts : List Tl) : (lastingT ts).Sublist ts := by
  classical
  have := pick_nums ts fun k => decide (lastT ts k)
  exact this
theorem lastingT_len (ts : List Tl) : (lastingT ts).length ≤ ts.length := (lastingT_sub ts).length_le
theorem lastingT_asc {ts : List Tl} (h : Asc ts) : Asc (lastingT ts) := h.sublist (lastingT_sub ts)
end Go.Proofs.Ytleabblnikbmpaa
