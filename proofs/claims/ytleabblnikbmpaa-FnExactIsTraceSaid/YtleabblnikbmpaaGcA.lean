/- Rows of a list that the call owns; the rows themselves may share memory. -/
import Derived.Test.YtleabblnikbmpaaAppR
import Derived.Test.YtleabblnikbmpaaSpA
import Derived.Lib.Hide
import Derived.Test.YtleabblnikbmpaaRow2
import Derived.Test.YtleabblnikbmpaaLastA
import Derived.Outline
namespace Go.Proofs.Ytleabblnikbmpaa
section
set_option linter.unusedVariables false
set_option linter.unusedSimpArgs false
open Go.RowKit Go.Sort

def OwnS (w : World) (base lo : Nat) (v : Value) (rs : List (List Int)) : Prop :=
  ∃ (Q : Nat → Option Addr) (q : Nat → Nat), w.ownsRow base 42 1 v rs.length (rvs Q q rs) ∧ ∀ j, j < rs.length → (rs.getD j []).length ≤ q j ∧ RdI w v (Q j) (rs.getD j []) ∧ (∀ c u, Q j = some ⟨c, u, none⟩ → 0 < (rs.getD j []).length → lo ≤ c)
/-- Rows to be read, all their cells in blocks from lo on. -/
def IRL (w : World) (lo : Nat) (A : Option Addr) (rs : List (List Int)) : Prop :=
  0 < rs.length → ∃ b off, A = some ⟨b, off, none⟩ ∧ lo ≤ b ∧ b < w.heap.size ∧ ∀ k, k < rs.length → ∃ Q q, w.cell? ⟨b, off + k, none⟩ = some (.slice Q (rs.getD k []).length q) ∧ (rs.getD k []).length ≤ q ∧ IR w w.heap.size Q (rs.getD k []) ∧ (∀ c u, Q = some ⟨c, u, none⟩ → 0 < (rs.getD k []).length → lo ≤ c)
theorem IRL.irr {w : World} {lo : Nat} {A : Option Addr} {rs : List (List Int)} (h : IRL w lo A rs) : IRR w w.heap.size A rs := fun h0 => by
  obtain ⟨b, off, e, -, h1, h2⟩ := h h0
  refine ⟨b, off, e, h1, fun k hk => ?_⟩
  obtain ⟨Q, q, k1, k2, k3, -⟩ := h2 k hk
  exact ⟨Q, q, k1, k2, k3⟩
theorem IRL.keep {w w' : World} {lo : Nat} {A : Option Addr} {rs : List (List Int)} (h : IRL w lo A rs) (hz : w.heap.size ≤ w'.heap.size) (hk : ∀ b i, lo ≤ b → b < w.heap.size → w'.cell? ⟨b, i, none⟩ = w.cell? ⟨b, i, none⟩) : IRL w' lo A rs := fun h0 => by
  obtain ⟨b, off, e, hl, h1, h2⟩ := h h0
  refine ⟨b, off, e, hl, by omega, fun k hk' => ?_⟩
  obtain ⟨Q, q, k1, k2, k3, k4⟩ := h2 k hk'
  refine ⟨Q, q, (hk b _ hl h1).trans k1, k2, fun h5 => ?_, k4⟩
  obtain ⟨b', o', e', hb', hc'⟩ := k3 h5
  exact ⟨b', o', e', by omega, fun j hj => (hk b' _ (k4 b' o' e' h5) hb').trans (hc' j hj)⟩
theorem IRL.below {w w' : World} {lo : Nat} {A : Option Addr} {rs : List (List Int)} (h : IRL w lo A rs) (hx : Below w.heap.size w w') : IRL w' lo A rs := h.keep hx.size fun b i _ hb => hx.cell (p := ⟨b, i, none⟩) hb
theorem IRL.low {w : World} {lo lo' : Nat} {A : Option Addr} {rs : List (List Int)} (h : IRL w lo A rs) (hl : lo' ≤ lo) : IRL w lo' A rs := fun h0 => by
  obtain ⟨b, off, e, h3, h1, h2⟩ := h h0
  refine ⟨b, off, e, by omega, h1, fun k hk => ?_⟩
  obtain ⟨Q, q, k1, k2, k3, k4⟩ := h2 k hk
  exact ⟨Q, q, k1, k2, k3, fun c u e5 h5 => by have := k4 c u e5 h5; omega⟩
theorem OwnS.nil (w : World) (base lo : Nat) : OwnS w base lo (.slice none 0 0) [] :=
  ⟨fun _ => none, fun _ => 0, World.ownsRow_nil _ _ _ _, fun j hj => absurd hj (Nat.not_lt_zero _)⟩
theorem OwnS.made {w : World} {g base lo : Nat} (hb : base ≤ g) (h : Blk w g 42 #[]) : OwnS w base lo (.slice (some ⟨g, 0, none⟩) 0 0) [] :=
  ⟨fun _ => none, fun _ => 0, ⟨by simp [rvs], .inr ⟨g, 0, #[], rfl, hb, h, by simp, by simp, by simp, by simp [rvs]⟩⟩, fun j hj => absurd hj (Nat.not_lt_zero _)⟩
theorem RdI.below {w w' : World} {v : Value} {A : Option Addr} {xs : List Int} (h : RdI w v A xs) (hx : Below w.heap.size w w') : RdI w' v A xs := fun h0 => by
  obtain ⟨b, off, e, hb, hn, hc⟩ := h h0
  exact ⟨b, off, e, by have := hx.size; omega, hn, fun k hk => (hx.cell (p := ⟨b, off + k, none⟩) hb).trans (hc k hk)⟩
theorem OwnS.below {w w' : World} {base lo : Nat} {v : Value} {rs : List (List Int)} (h : OwnS w base lo v rs) (hx : Below w.heap.size w w') : OwnS w' base lo v rs := by
  obtain ⟨Q, q, ho, hr⟩ := h
  exact ⟨Q, q, own_belowA ho hx, fun j hj => ⟨(hr j hj).1, (hr j hj).2.1.below hx, (hr j hj).2.2⟩⟩
theorem OwnS.ext {w w' : World} {base lo : Nat} {v : Value} {rs : List (List Int)} (h : OwnS w base lo v rs) (hx : Ext w w') : OwnS w' base lo v rs := h.below (hx.below (Nat.le_refl _))
theorem OwnS.low {w : World} {base base' lo : Nat} {v : Value} {rs : List (List Int)} (h : OwnS w base lo v rs) (hb : base' ≤ base) : OwnS w base' lo v rs := by
  obtain ⟨Q, q, ho, hr⟩ := h
  exact ⟨Q, q, own_low ho hb, hr⟩
theorem OwnS.lt {w : World} {base lo : Nat} {v : Value} {rs : List (List Int)} (h : OwnS w base lo v rs) {g : Nat} (e : v.ownBlock = some g) : base ≤ g ∧ g < w.heap.size := by
  obtain ⟨Q, q, ho, hr⟩ := h
  exact ho.lt g e
theorem OwnS.len {w : World} {base lo : Nat} {v : Value} {rs : List (List Int)} (h : OwnS w base lo v rs) : ∃ A cap, v = .slice A rs.length cap ∧ rs.length ≤ cap := by
  obtain ⟨Q, q, ho, hr⟩ := h
  rcases ho.2 with ⟨rfl, h0⟩ | ⟨g, cap, cur, rfl, hb, hg, hn, hm, hs, ht⟩
  · rw [h0]; exact ⟨none, 0, rfl, Nat.le_refl _⟩
  · exact ⟨_, cap, rfl, hn⟩
theorem OwnS.done {w : World} {base lo : Nat} {v : Value} {rs : List (List Int)} (h : OwnS w base lo v rs) (hlo : lo ≤ base) : ∃ A cap, v = .slice A rs.length cap ∧ rs.length ≤ cap ∧ IRL w lo A rs := by
  obtain ⟨Q, q, ho, hr⟩ := h
  rcases ho.2 with ⟨rfl, h0⟩ | ⟨g, cap, cur, rfl, hb, hg, hn, hm, hs, ht⟩
  · rw [h0]
    exact ⟨none, 0, rfl, Nat.le_refl _, fun h1 => absurd h1 (by omega)⟩
  · refine ⟨_, cap, rfl, hn, fun _ => ⟨g, 0, rfl, by omega, ?_, fun k hk => ?_⟩⟩
    · rcases Nat.lt_or_ge g w.heap.size with hlt | hge
      · exact hlt
      · rw [Array.getElem?_eq_none hge] at hg; cases hg
    · obtain ⟨h1, h2, h3⟩ := hr k hk
      refine ⟨Q k, q k, ?_, h1, fun h0 => ?_, h3⟩
      · rw [cell_of_row w g (0 + k) cur _ (0, 0) hg, Nat.zero_add, ← rvs_at hk, ← ht, List.getElem?_take, if_pos (by omega)]
        simp
      · obtain ⟨b, off, e, hlt, -, hc⟩ := h2 h0
        exact ⟨b, off, e, hlt, hc⟩
theorem OwnS.pushed {w0 w w' : World} {base lo n cap : Nat} {v v' : Value} {rs : List (List Int)} {xs : List Int} {A : Option Addr} {Q : Nat → Option Addr} {q : Nat → Nat}
    (hr : ∀ j, j < rs.length → (rs.getD j []).length ≤ q j ∧ RdI w0 v (Q j) (rs.getD j []) ∧ (∀ c u, Q j = some ⟨c, u, none⟩ → 0 < (rs.getD j []).length → lo ≤ c)) (hb : Below w0.heap.size w0 w) (hrow : RdI w v A xs) (hlo : ∀ c u, A = some ⟨c, u, none⟩ → 0 < xs.length → lo ≤ c) (hn : xs.length = n) (hcap : n ≤ cap)
    (hown : w'.ownsRow base 42 1 v' (rs.length + 1) (rvs Q q rs ++ [.slice A n cap])) (hgrow : w.grownBy w' v.ownBlock) (hat : v'.ownBlock = v.ownBlock ∨ v'.ownBlock = some w.heap.size) :
    OwnS w' base lo v' (rs ++ [xs]) := by
  refine ⟨fun j => if j = rs.length then A else Q j, fun j => if j = rs.length then cap else q j, ?_, fun j hj => ?_⟩
  · rw [rvs_snoc, hn]
    simpa using hown
  · by_cases hjk : j = rs.length
    · subst hjk
      simp only [if_true]
      rw [getD_last]
      exact ⟨by omega, hrow.grown hgrow hat, hlo⟩
    · have hj' : j < rs.length := by simp at hj; omega
      simp only [if_neg hjk]
      rw [getD_snoc hj']
      exact ⟨(hr j hj').1, ((hr j hj').2.1.below hb).grown hgrow hat, (hr j hj').2.2⟩
theorem reads_box {w : World} {g n cap : Nat} {A : Option Addr} (hbk : Blk w g 42 #[.slice A n cap]) : Reads w w.heap.size 1 (some ⟨g, 0, none⟩) 1 [.slice A n cap] :=
  ⟨rfl, fun _ => ⟨_, rfl, hbk.lt, fun j u hu => by
    rcases j with _ | j
    · simp at hu
      subst hu
      rw [Go.WideShapes.add_plain]
      exact hbk.cell 0
    · simp at hu⟩⟩
/-- 'append(rows, row)', the row anywhere but in the rows' own block. -/
theorem wpList_pushS {w : World} {ops : Array Oper} {rest : List Oper} {o : Oper} {a : Act} {K : Exit → Act → World → Prop} (hgd : o.guard = none) (s x : Operand)
    (ho : o.op = .call { callee := .builtin .append, args := #[s, x], argTypes := #[34, 34] })
    (base lo : Nat) (v : Value) (rs : List (List Int)) (hs : a.eval s = v) (w0 : World) (h : OwnS w0 base lo v rs) (hb : Below w0.heap.size w0 w)
    (g : Nat) (A : Option Addr) (n cap : Nat) (xs : List Int) (hx : a.eval x = .slice (some ⟨g, 0, none⟩) 1 1) (hbk : Blk w g 42 #[.slice A n cap])
    (hrow : RdI w v A xs) (hlo : ∀ c u, A = some ⟨c, u, none⟩ → 0 < xs.length → lo ≤ c) (hn : xs.length = n) (hcap : n ≤ cap) (h63 : rs.length + 1 ≤ 1048576) (hbase : base ≤ w0.heap.size)
    (hK : ∀ v' w', OwnS w' base lo v' (rs ++ [xs]) → w.grownBy w' v.ownBlock → Below base w w' → wpList Try.prog ops K rest (a.put o.dst v') w') :
    wpList Try.prog ops K (o :: rest) a w := by
  obtain ⟨Q, q, hown, hr⟩ := h
  obtain ⟨i0, hi, hz0, hz1, hz2⟩ := info_parts info_row
  refine wpList_append_any w hgd s x _ ho base 42 i0 _ 1 24 Try.underlying34 hi hz0 hz1 hz2 rfl (by decide) v rs.length (rvs Q q rs) hs (own_belowA hown hb) w.heap.size _ 1 _ [.slice A n cap] hx (reads_box hbk) (by simp [Value.oneCell']) (by unfold maxLen; omega) (by omega) (Nat.le_trans hbase hb.size) ?_
  intro v' w' h1 h2 h3
  exact hK v' w' (OwnS.pushed hr hb hrow hlo hn hcap h1 h2 h3) h2 ((Below.refl base w).grown h2 (Nat.le_trans hbase hb.size) (fun j hj => (hown.lt j hj).1))
/-- The same within a region. -/
theorem step_pushS {w : World} {ops : Array Oper} {o : Oper} {a : Act} {K : Act → World → Prop} {Q' : Exit → Act → World → Prop} {E : Prop} (hgd : o.guard = none) (s x : Operand)
    (ho : o.op = .call { callee := .builtin .append, args := #[s, x], argTypes := #[34, 34] })
    (base lo : Nat) (v : Value) (rs : List (List Int)) (hs : a.eval s = v) (w0 : World) (h : OwnS w0 base lo v rs) (hb : Below w0.heap.size w0 w)
    (g : Nat) (A : Option Addr) (n cap : Nat) (xs : List Int) (hx : a.eval x = .slice (some ⟨g, 0, none⟩) 1 1) (hbk : Blk w g 42 #[.slice A n cap])
    (hrow : RdI w v A xs) (hlo : ∀ c u, A = some ⟨c, u, none⟩ → 0 < xs.length → lo ≤ c) (hn : xs.length = n) (hcap : n ≤ cap) (h63 : rs.length + 1 ≤ 1048576) (hbase : base ≤ w0.heap.size)
    (hK : ∀ v' w', OwnS w' base lo v' (rs ++ [xs]) → w.grownBy w' v.ownBlock → Below base w w' → K (a.put o.dst v') w') :
    if Region.wanted o (yielded ops a.tmps) = true then Oper.wp Try.prog o a w K Q' else E := by
  obtain ⟨Q, q, hown, hr⟩ := h
  obtain ⟨i0, hi, hz0, hz1, hz2⟩ := info_parts info_row
  refine step_append_any w hgd s x _ ho base 42 i0 _ 1 24 Try.underlying34 hi hz0 hz1 hz2 rfl (by decide) v rs.length (rvs Q q rs) hs (own_belowA hown hb) w.heap.size _ 1 _ [.slice A n cap] hx (reads_box hbk) (by simp [Value.oneCell']) (by unfold maxLen; omega) (by omega) (Nat.le_trans hbase hb.size) fun v' w' h1 h2 h3 => ?_
  exact hK v' w' (OwnS.pushed hr hb hrow hlo hn hcap h1 h2 h3) h2 ((Below.refl base w).grown h2 (Nat.le_trans hbase hb.size) (fun j hj => (hown.lt j hj).1))
theorem reads_ints {w : World} {B n : Nat} {A : Option Addr} {xs : List Int} (h : IR w B A xs) (hl : xs.length = n) : Reads w B 1 A n (vis xs) := by
  refine ⟨by rw [vis_len, hl, Nat.mul_one], fun h0 => ?_⟩
  obtain ⟨b, off, rfl, hb, hc⟩ := h (by omega)
  refine ⟨_, rfl, hb, fun j u hu => ?_⟩
  have hj : j < xs.length := by
    rcases Nat.lt_or_ge j xs.length with h | h
    · exact h
    · rw [List.getElem?_eq_none (by rw [vis_len]; exact h)] at hu; cases hu
  rw [Go.WideShapes.add_plain, hc j hj]
  simp only [vis, List.getElem?_map, List.getElem?_eq_getElem hj, Option.map_some, vi] at hu
  simpa [List.getD, hj] using hu
theorem visOne (xs : List Int) : ∀ u ∈ vis xs, u.oneCell' = true := by
  intro u hu
  simp only [vis, List.mem_map] at hu
  obtain ⟨x, -, rfl⟩ := hu
  rfl
theorem visApp (xs ys : List Int) : vis (xs ++ ys) = vis xs ++ vis ys := by simp [vis]
/-- 'append(list, numbers...)'. -/
theorem wpList_appI {w : World} {ops : Array Oper} {rest : List Oper} {o : Oper} {a : Act} {K : Exit → Act → World → Prop} (hgd : o.guard = none) (s x : Operand)
    (ho : o.op = .call { callee := .builtin .append, args := #[s, x], argTypes := #[42, 42] })
    (base : Nat) (v : Value) (xs : List Int) (hs : a.eval s = v) (hown : w.ownsRow base 2 1 v xs.length (vis xs))
    (A : Option Addr) (m c : Nat) (ys : List Int) (hx : a.eval x = .slice A m c) (hr : IR w w.heap.size A ys) (hl : ys.length = m) (h63 : xs.length + m ≤ 1048576) (hbase : base ≤ w.heap.size)
    (hK : ∀ v' w', w'.ownsRow base 2 1 v' (xs ++ ys).length (vis (xs ++ ys)) → w.grownBy w' v.ownBlock → (v'.ownBlock = v.ownBlock ∨ v'.ownBlock = some w.heap.size) → wpList Try.prog ops K rest (a.put o.dst v') w') :
    wpList Try.prog ops K (o :: rest) a w := by
  obtain ⟨i0, hi, hz0, hz1, hz2⟩ := info_parts info_int
  refine wpList_append_any w hgd s x _ ho base 2 i0 _ 1 8 Try.underlying42 hi hz0 hz1 hz2 rfl (by decide) v xs.length (vis xs) hs hown w.heap.size A m c (vis ys) hx (reads_ints hr hl) (visOne ys) (by unfold maxLen; omega) (by omega) hbase fun v' w' h1 h2 h3 => hK v' w' ?_ h2 h3
  rw [visApp, List.length_append, hl]
  exact h1
/-- 'append(list, y)', by the list. -/
theorem wpList_push1 {w : World} {ops : Array Oper} {rest : List Oper} {o : Oper} {a : Act} {K : Exit → Act → World → Prop} (hgd : o.guard = none) (s x : Operand)
    (ho : o.op = .call { callee := .builtin .append, args := #[s, x], argTypes := #[42, 42] })
    (base : Nat) (v : Value) (xs : List Int) (hs : a.eval s = v) (hown : w.ownsRow base 2 1 v xs.length (vis xs))
    (g : Nat) (y : Int) (hx : a.eval x = .slice (some ⟨g, 0, none⟩) 1 1) (hb : Blk w g 2 #[.int .i64 y]) (h63 : xs.length + 1 ≤ 1048577) (hbase : base ≤ w.heap.size)
    (hK : ∀ v' w', w'.ownsRow base 2 1 v' (xs ++ [y]).length (vis (xs ++ [y])) → w.grownBy w' v.ownBlock → (v'.ownBlock = v.ownBlock ∨ v'.ownBlock = some w.heap.size) → wpList Try.prog ops K rest (a.put o.dst v') w') :
    wpList Try.prog ops K (o :: rest) a w := by
  refine wpList_push hgd s x ho base v xs.length (vis xs) hs hown g y hx hb (by unfold maxLen; omega) (by omega) hbase fun v' w' h1 h2 h3 => hK v' w' ?_ h2 h3
  rw [vis_snoc, List.length_append]
  exact h1
theorem rdi_of_iwr {w : World} {lo hi : Nat} {v : Value} {A : Option Addr} {xs : List Int} (h : IWr w lo hi A xs) (hv : ∀ g, v.ownBlock = some g → g < lo) : RdI w v A xs := fun h0 => by
  obtain ⟨b, off, t, cs, e, h1, h2, hb, hc⟩ := h h0
  exact ⟨b, off, e, hb.lt, fun e2 => by have := hv b e2; omega, fun k hk => (hb.cell _).trans (hc k hk)⟩
theorem RdI.ir {w : World} {v : Value} {A : Option Addr} {xs : List Int} (h : RdI w v A xs) : IR w w.heap.size A xs := fun h0 => by
  obtain ⟨b, off, e, hb, -, hc⟩ := h h0
  exact ⟨b, off, e, hb, hc⟩
theorem rdi_of_ir {w : World} {B : Nat} {v : Value} {A : Option Addr} {xs : List Int} (h : IR w B A xs) (hB : B ≤ w.heap.size) (hv : ∀ g, v.ownBlock = some g → B ≤ g) : RdI w v A xs := fun h0 => by
  obtain ⟨b, off, e, hb, hc⟩ := h h0
  exact ⟨b, off, e, by omega, fun e2 => by have := hv b e2; omega, hc⟩
end

section
set_option linter.unusedVariables false
set_option linter.unusedSimpArgs false
open Go.RowKit Go.Sort

theorem IWr.set_in {w : World} {lo hi X x j : Nat} {xs : List Int} {v : Int} (h : IWr w lo hi (some ⟨X, x, none⟩) xs) (hj : j < xs.length) : IWr (w.setCell ⟨X, x + j, none⟩ (.int .i64 v)) lo hi (some ⟨X, x, none⟩) (xs.set j v) := fun h0 => by
  obtain ⟨b, off, t, cs, e, h1, h2, hb, hc⟩ := h (by omega)
  cases e
  refine ⟨X, x, t, _, rfl, h1, h2, hb.set_ (x + j) _, fun k hk => ?_⟩
  rw [List.length_set] at hk
  have hsz : x + j < cs.size := by
    rcases Nat.lt_or_ge (x + j) cs.size with h | h
    · exact h
    · have := hc j hj; rw [Array.getElem?_eq_none h] at this; cases this
  by_cases e : k = j
  · subst e
    rw [Array.getElem?_setIfInBounds_self_of_lt hsz]
    simp [List.getD, hk]
  · rw [Array.getElem?_setIfInBounds_ne (by omega), hc k hk]
    simp [List.getD, List.getElem?_set_ne (show j ≠ k by omega)]
theorem IWr.set_apart {w : World} {lo hi X y : Nat} {A : Option Addr} {xs : List Int} {u : Value} (h : IWr w lo hi A xs) (hap : ∀ b o, A = some ⟨b, o, none⟩ → 0 < xs.length → b ≠ X ∨ y < o ∨ o + xs.length ≤ y) : IWr (w.setCell ⟨X, y, none⟩ u) lo hi A xs := fun h0 => by
  obtain ⟨b, off, t, cs, e, h1, h2, hb, hc⟩ := h h0
  by_cases e2 : b = X
  · subst e2
    refine ⟨b, off, t, _, e, h1, h2, hb.set_ y _, fun k hk => ?_⟩
    rw [Array.getElem?_setIfInBounds_ne (by have := hap b off e h0; omega), hc k hk]
  · exact ⟨b, off, t, cs, e, h1, h2, hb.far (p := ⟨X, y, none⟩) e2 u, hc⟩
theorem IWW.row_at {w : World} {lo hi : Nat} {A : Option Addr} {rs : List (List Int)} (h : IWW w lo hi A rs) {i : Nat} (hi' : i < rs.length) (hp : 0 < (rs.getD i []).length) :
    ∃ b off X x q, A = some ⟨b, off, none⟩ ∧ lo ≤ b ∧ b < hi ∧ w.cell? ⟨b, off + i, none⟩ = some (.slice (some ⟨X, x, none⟩) (rs.getD i []).length q) ∧ lo ≤ X ∧ X < hi ∧ (rs.getD i []).length ≤ q ∧ X < w.heap.size ∧ b < w.heap.size ∧
      ∀ j, j < (rs.getD i []).length → w.cell? ⟨X, x + j, none⟩ = some (.int .i64 ((rs.getD i []).getD j 0)) ∧ w.frozen? ⟨X, x + j, none⟩ = false ∧
        ∀ v, IWW (w.setCell ⟨X, x + j, none⟩ (.int .i64 v)) lo hi A (rs.set i ((rs.getD i []).set j v)) := by
  obtain ⟨b, off, t, cs, Q, q, rfl, h1, h2, hb, hr, ha⟩ := h (by omega)
  obtain ⟨k1, k2, k3, k4⟩ := hr i hi'
  obtain ⟨X, x, t', cs', eQ, g1, g2, hb', hc'⟩ := k3 hp
  refine ⟨b, off, X, x, q i, rfl, h1, h2, (hb.cell _).trans (by rw [k1, eQ]), g1, g2, k2, hb'.lt, hb.lt, fun j hj => ⟨(hb'.cell _).trans (hc' j hj), hb'.frozen _, fun v h0 => ?_⟩⟩
  have hXb : X ≠ b := k4 X x eQ hp
  rw [List.length_set] at h0
  have hlen : ∀ k, k < rs.length → ((rs.set i ((rs.getD i []).set j v)).getD k []).length = (rs.getD k []).length := by
    intro k hk
    by_cases e : k = i
    · subst e; simp [List.getD, hk]
    · simp [List.getD, List.getElem?_set_ne (show i ≠ k by omega)]
  refine ⟨b, off, t, cs, Q, q, rfl, h1, h2, hb.far (p := ⟨X, x + j, none⟩) (fun e => hXb e.symm) _, fun k hk => ?_, fun k l hkl hl => ?_⟩
  · rw [List.length_set] at hk
    obtain ⟨m1, m2, m3, m4⟩ := hr k hk
    rw [hlen k hk]
    refine ⟨m1, m2, ?_, m4⟩
    by_cases e : k = i
    · subst e
      rw [show (rs.set k ((rs.getD k []).set j v)).getD k [] = (rs.getD k []).set j v by simp [List.getD, hk]]
      rw [eQ] at m3 ⊢
      exact m3.set_in hj
    · rw [show (rs.set i ((rs.getD i []).set j v)).getD k [] = rs.getD k [] by simp [List.getD, List.getElem?_set_ne (show i ≠ k by omega)]]
      refine m3.set_apart fun b' o' e' hp' => ?_
      rcases Nat.lt_or_gt_of_ne e with hlt | hlt
      · have := ha k i hlt hi' b' o' X x e' eQ hp' hp
        omega
      · have := ha i k hlt hk X x b' o' eQ e' hp hp'
        omega
  · rw [List.length_set] at hl
    rw [hlen k (by omega), hlen l hl]
    exact ha k l hkl hl
/-- A table: f at each two numbers. -/
def matL (n : Nat) (f : Nat → Nat → Int) : List (List Int) := (List.range n).map fun i => (List.range n).map fun j => f i j
theorem matL_len (n : Nat) (f : Nat → Nat → Int) : (matL n f).length = n := by simp [matL]
theorem matL_row {n i : Nat} {f : Nat → Nat → Int} (hi : i < n) : (matL n f).getD i [] = (List.range n).map fun j => f i j := by simp [matL, List.getD, hi]
theorem matL_rlen {n i : Nat} {f : Nat → Nat → Int} (hi : i < n) : ((matL n f).getD i []).length = n := by rw [matL_row hi]; simp
theorem matL_at {n i j : Nat} {f : Nat → Nat → Int} (hi : i < n) (hj : j < n) : ((matL n f).getD i []).getD j 0 = f i j := by rw [matL_row hi]; simp [List.getD, hj]
theorem matL_set {n i j : Nat} {f : Nat → Nat → Int} {v : Int} (hi : i < n) (hj : j < n) : (matL n f).set i (((matL n f).getD i []).set j v) = matL n fun a b => if a = i ∧ b = j then v else f a b := by
  rw [matL_row hi]
  apply List.ext_getElem
  · simp [matL]
  · intro a h1 h2
    simp only [matL, List.length_map, List.length_range] at h2
    simp only [matL, List.getElem_set, List.getElem_map, List.getElem_range]
    by_cases e : i = a
    · subst e
      rw [if_pos rfl]
      apply List.ext_getElem
      · simp
      · intro b h3 h4
        simp only [List.length_map, List.length_range] at h4
        simp only [List.getElem_set, List.getElem_map, List.getElem_range]
        by_cases e2 : j = b
        · subst e2; simp
        · rw [if_neg e2, if_neg (by omega)]
    · rw [if_neg e]
      apply List.map_congr_left
      intro b _
      rw [if_neg (by omega)]
end

section
set_option linter.unusedVariables false
set_option linter.unusedSimpArgs false
open Go.RowKit Go.Sort

/-- Whether the tile k may stand below a column. -/
def okBelow (ts : List Tl) (col : List Int) (k : Nat) : Bool := decide (col.length = 0) || decide ((tnum ts col (col.length - 1)).2.2.2 = (ts.getD k T0).2.1)
/-- The columns that a column grows into, by the first k tiles. -/
def extC (ts : List Tl) (col : List Int) (k : Nat) : List (List Int) := ((List.range k).filter (okBelow ts col)).map fun j : Nat => col ++ [(j : Int)]
/-- The columns that are a tile longer. -/
def longerL (ts : List Tl) (cols : List (List Int)) : List (List Int) := cols.flatMap fun col => extC ts col ts.length
/-- All columns of a height. -/
def colsL (ts : List Tl) : Nat → List (List Int)
  | 0 => [[]]
  | h + 1 => longerL ts (colsL ts h)
theorem extC_zero (ts : List Tl) (col : List Int) : extC ts col 0 = [] := rfl
theorem extC_yes {ts : List Tl} {col : List Int} {k : Nat} (h : okBelow ts col k = true) : extC ts col (k + 1) = extC ts col k ++ [col ++ [(k : Int)]] := by
  simp [extC, List.range_succ, List.filter_append, h]
theorem extC_no {ts : List Tl} {col : List Int} {k : Nat} (h : okBelow ts col k = false) : extC ts col (k + 1) = extC ts col k := by
  simp [extC, List.range_succ, List.filter_append, h]
theorem extC_len (ts : List Tl) (col : List Int) (k : Nat) : (extC ts col k).length ≤ k := by
  unfold extC
  rw [List.length_map]
  exact Nat.le_trans (List.length_filter_le _ _) (by rw [List.length_range]; omega)
theorem rtake_snoc (l : List (List Int)) {k : Nat} (hk : k < l.length) : l.take (k + 1) = l.take k ++ [l.getD k []] := by
  rw [List.take_add_one]; simp [List.getD, hk]
theorem longerL_succ (ts : List Tl) (l : List (List Int)) {i : Nat} (hi : i < l.length) : longerL ts (l.take (i + 1)) = longerL ts (l.take i) ++ extC ts (l.getD i []) ts.length := by
  rw [rtake_snoc l hi]; simp [longerL]
theorem longerL_len (ts : List Tl) (l : List (List Int)) : (longerL ts l).length ≤ l.length * ts.length := by
  induction l with
  | nil => simp [longerL]
  | cons c l ih =>
    have := extC_len ts c ts.length
    simp only [longerL, List.flatMap_cons, List.length_append, List.length_cons] at ih ⊢
    rw [Nat.add_mul]
    omega
theorem longerL_pre_len (ts : List Tl) (l : List (List Int)) (i : Nat) : (longerL ts (l.take i)).length ≤ i * ts.length := by
  refine Nat.le_trans (longerL_len ts _) (Nat.mul_le_mul_right _ ?_)
  rw [List.length_take]; omega
theorem colsL_len (ts : List Tl) (h : Nat) : (colsL ts h).length ≤ ts.length ^ h := by
  induction h with
  | zero => simp [colsL]
  | succ h ih => exact Nat.le_trans (longerL_len ts _) (Nat.mul_le_mul_right _ ih)
theorem colsL_16 {ts : List Tl} (h16 : ts.length ≤ 16) (h : Nat) : (colsL ts h).length ≤ 16 ^ h :=
  Nat.le_trans (colsL_len ts h) (Nat.pow_le_pow_left h16 h)
theorem mem_extC {ts : List Tl} {col r : List Int} {k : Nat} : r ∈ extC ts col k ↔ ∃ j : Nat, j < k ∧ okBelow ts col j = true ∧ r = col ++ [(j : Int)] := by
  simp only [extC, List.mem_map, List.mem_filter, List.mem_range]
  constructor
  · rintro ⟨j, ⟨h1, h2⟩, rfl⟩; exact ⟨j, h1, h2, rfl⟩
  · rintro ⟨j, h1, h2, rfl⟩; exact ⟨j, ⟨h1, h2⟩, rfl⟩
/-- What is true of each column of a height: its length, and that it has numbers of tiles. -/
theorem colsL_all (ts : List Tl) : ∀ (h : Nat), ∀ r ∈ colsL ts h, r.length = h ∧ ∀ k, k < r.length → inT ts (r.getD k 0) = true := by
  intro h
  induction h with
  | zero => intro r hr; simp [colsL] at hr; subst hr; exact ⟨rfl, fun k hk => by simp at hk⟩
  | succ h ih =>
    intro r hr
    simp only [colsL, longerL, List.mem_flatMap] at hr
    obtain ⟨col, hc, hr⟩ := hr
    obtain ⟨j, hj, -, rfl⟩ := mem_extC.1 hr
    obtain ⟨hl, hin⟩ := ih col hc
    refine ⟨by simp [hl], fun k hk => ?_⟩
    by_cases hk2 : k < col.length
    · rw [show (col ++ [(j : Int)]).getD k 0 = col.getD k 0 by simp [List.getD, List.getElem?_append_left hk2]]
      exact hin k hk2
    · have : k = col.length := by simp at hk; omega
      subst this
      simp [inT]; omega
theorem colsL_at (ts : List Tl) (h : Nat) {k : Nat} (hk : k < (colsL ts h).length) : ((colsL ts h).getD k []).length = h ∧ allT ts ((colsL ts h).getD k []) = true := by
  have hm : (colsL ts h).getD k [] ∈ colsL ts h := by simp [List.getD, hk]
  obtain ⟨h1, h2⟩ := colsL_all ts h _ hm
  exact ⟨h1, allT_all h2⟩

/-- The number whose digits, to the base c, are those of a word. -/
def wnum (c : Int) (xs : List Int) : Int := xs.foldl (fun a x => a * c + x) 0
theorem wnum_nil (c : Int) : wnum c [] = 0 := rfl
theorem wnum_snoc (c : Int) (xs : List Int) (x : Int) : wnum c (xs ++ [x]) = wnum c xs * c + x := by simp [wnum]
theorem wnum_take (c : Int) (xs : List Int) {k : Nat} (hk : k < xs.length) : wnum c (xs.take (k + 1)) = wnum c (xs.take k) * c + xs.getD k 0 := by
  rw [itake_snoc xs hk, wnum_snoc]
theorem wfold {c : Nat} (hc : 0 < c) : ∀ (xs : List Int) (a : Nat), (∀ x ∈ xs, 0 ≤ x ∧ x < (c : Int)) → ∃ m : Nat, xs.foldl (fun a x => a * (c : Int) + x) (a : Int) = (m : Int) ∧ m < (a + 1) * c ^ xs.length
  | [], a, _ => ⟨a, rfl, by simp⟩
  | x :: xs, a, h => by
    obtain ⟨h0, h1⟩ := h x (by simp)
    obtain ⟨y, rfl⟩ : ∃ y : Nat, x = (y : Int) := ⟨x.toNat, by omega⟩
    obtain ⟨m, e, hm⟩ := wfold hc xs (a * c + y) fun z hz => h z (by simp [hz])
    refine ⟨m, by rw [List.foldl_cons, ← e]; congr 1, Nat.lt_of_lt_of_le hm ?_⟩
    rw [List.length_cons, Nat.pow_succ, Nat.mul_comm (c ^ xs.length) c, ← Nat.mul_assoc]
    refine Nat.mul_le_mul_right _ ?_
    rw [Nat.add_mul]
    omega
/-- Words of colours are less than the number of all words. -/
theorem wnum_lt {c : Nat} (hc : 0 < c) {xs : List Int} (h : ∀ x ∈ xs, 0 ≤ x ∧ x < (c : Int)) : ∃ m : Nat, wnum (c : Int) xs = (m : Int) ∧ m < c ^ xs.length := by
  obtain ⟨m, e, hm⟩ := wfold hc xs 0 h
  exact ⟨m, e, by simpa using hm⟩
end

section
set_option linter.unusedVariables false
set_option linter.unusedSimpArgs false
open Go.RowKit Go.Sort

/-- The west colours of the tiles with these numbers. -/
def colW (ts : List Tl) (xs : List Int) : List Int := xs.map fun x => (ts.getD x.toNat T0).1
theorem colW_len (ts : List Tl) (xs : List Int) : (colW ts xs).length = xs.length := by simp [colW]
theorem colW_at (ts : List Tl) {xs : List Int} {k : Nat} (hk : k < xs.length) : (colW ts xs).getD k 0 = (ts.getD (xs.getD k 0).toNat T0).1 := by simp [colW, List.getD, hk]
set_option maxRecDepth 100000 in
set_option maxHeartbeats 1000000 in
theorem coloursAt_W (c0 : Int) (A : Option Addr) (n c : Nat) (ts : List Tl) (B : Option Addr) (m d : Nat) (xs : List Int) (w : World) (hn : n ≤ 1048576) (hl : ts.length = n) (hA : TR w w.heap.size A ts) (hm : m ≤ 1048576) (hlx : xs.length = m) (hB : IR w w.heap.size B xs) (hal : allT ts xs = true) :
    Calls Try.prog 142 #[.agg #[.int .i64 c0, .slice A n c], .slice B m d, .int .i64 0] w fun e w' => ∃ A' cap, e = .returned (.slice A' (colW ts xs).length cap) ∧ Below w.heap.size w w' ∧ IWr w' w.heap.size w'.heap.size A' (colW ts xs) := by
  go_enter Try.func142, Try.ntmps142
  go_wp2_with fail
  obtain ⟨W0, hW0⟩ : ∃ W0, w.alloc (Obj.cells #[.int .i64 c0, .slice A n c] 30) = W0 := ⟨_, rfl⟩
  have hs0 : W0.heap.size = w.heap.size + 1 := by rw [← hW0]; simp
  have hE : Ext w W0 := by rw [← hW0]; exact (Ext.refl w).alloc _
  have hB0 : Blk W0 w.heap.size 30 #[.int .i64 c0, .slice A n c] := by rw [← hW0]; exact Blk.new w _ _
  have HH := Lib.hid (And.intro hs0 (And.intro hE hB0))
  rw [hW0]
  clear hW0 hs0 hE hB0
  go_loopw [7, 12] (fun v i wr => ∃ k : Nat, k ≤ m ∧ i = .int .i64 k ∧ wr.ownsRow W0.heap.size 2 1 v k (vis ((colW ts xs).take k)) ∧ Below W0.heap.size W0 wr) (fun _ i _ => m - (intOf i).toNat)
  case atStart => exact ⟨0, Nat.zero_le _, rfl, World.ownsRow_nil _ _ _ _, Below.refl _ _⟩
  case round =>
    obtain ⟨k, hk, rfl, hown, hb⟩ := hrel
    have HO := Lib.hid hown
    have HB := Lib.hid hb
    have hE := HH.out.2.1.below (Nat.le_refl _)
    have hE2 := hE.trans (hb.mono (by have := HH.out.1; omega))
    by_cases hlt : k < m
    · obtain ⟨bx, ox, rfl, -, hcx⟩ := (hB.below hE2 (Nat.le_refl _)) (by omega)
      have q1 := hcx k (by omega)
      have hx := allT_in hal (k := k) (by omega)
      have EY := Lib.hid (colW_at ts (xs := xs) (k := k) (by omega))
      generalize xs.getD k 0 = x at q1 hx EY
      simp only [inT, decide_eq_true_eq, hl] at hx
      obtain ⟨j, rfl⟩ : ∃ j : Nat, x = (j : Int) := ⟨x.toNat, by omega⟩
      have hj3 : (j : Int) < (n : Int) := by omega
      obtain ⟨b, o, rfl, -, ht⟩ := (hA.below hE2 (Nat.le_refl _)) (by omega)
      have tj := (ht j (by omega)).1
      simp only [Int.toNat_natCast] at EY
      generalize (ts.getD j T0).1 = y at tj EY
      have r1 := (HH.out.2.2.below hb HH.out.2.2.lt).rd 1 rfl
      clear hown hb hA hB hcx ht hE hE2 hx
      go_wp2_with (at_builtin; refine wpList_push rfl _ _ rfl W0.heap.size _ k _ rfl (HO.out.alloc _) wr.heap.size y rfl (heap_alloc_new wr _) ?c1 ?c2 ?c3 ?_)
      case c1 => unfold maxLen; omega
      case c2 => omega
      case c3 => have := HB.out.size; simp; omega
      intro v' w3 hown' hgrow _
      have O3 := Lib.hid (istep (us := colW ts xs) (k := k) (y := y) (by rw [colW_len]; omega) EY.out.symm hown')
      have B3 := Lib.hid ((HB.out.alloc HB.out.size _).grown hgrow (by have := HB.out.size; simp; omega) (fun j hj => (HO.out.lt j hj).1))
      clear hown' hgrow HO HB q1 tj r1
      go_wp2_with fail
      go_roundw
      case rel => exact ⟨k + 1, by omega, by go_num, O3.out, B3.out⟩
      case measure => simp [intOf]; omega
    · clear hown hb hA hB hE hE2
      have hmk := HO.out
      obtain rfl : k = m := by omega
      rw [List.take_of_length_le (by rw [colW_len]; omega)] at hmk
      obtain ⟨A2, cap2, rfl, hcap, htw⟩ := own_iwr hmk (by rw [colW_len]; omega)
      have HT := Lib.hid htw
      clear hmk htw HO
      go_wp2_with fail
      go_ret
      exact ⟨A2, cap2, by rw [colW_len, hlx]; rfl, (HH.out.2.1.below (Nat.le_refl _)).trans (HB.out.mono (by have := HH.out.1; omega)), HT.out.low (by have := HH.out.1; omega)⟩

/-- The east colours of the tiles with these numbers. -/
def colE (ts : List Tl) (xs : List Int) : List Int := xs.map fun x => (ts.getD x.toNat T0).2.2.1
theorem colE_len (ts : List Tl) (xs : List Int) : (colE ts xs).length = xs.length := by simp [colE]
theorem colE_at (ts : List Tl) {xs : List Int} {k : Nat} (hk : k < xs.length) : (colE ts xs).getD k 0 = (ts.getD (xs.getD k 0).toNat T0).2.2.1 := by simp [colE, List.getD, hk]
set_option maxRecDepth 100000 in
set_option maxHeartbeats 1000000 in
theorem coloursAt_E (c0 : Int) (A : Option Addr) (n c : Nat) (ts : List Tl) (B : Option Addr) (m d : Nat) (xs : List Int) (w : World) (hn : n ≤ 1048576) (hl : ts.length = n) (hA : TR w w.heap.size A ts) (hm : m ≤ 1048576) (hlx : xs.length = m) (hB : IR w w.heap.size B xs) (hal : allT ts xs = true) :
    Calls Try.prog 142 #[.agg #[.int .i64 c0, .slice A n c], .slice B m d, .int .i64 2] w fun e w' => ∃ A' cap, e = .returned (.slice A' (colE ts xs).length cap) ∧ Below w.heap.size w w' ∧ IWr w' w.heap.size w'.heap.size A' (colE ts xs) := by
  go_enter Try.func142, Try.ntmps142
  go_wp2_with fail
  obtain ⟨W0, hW0⟩ : ∃ W0, w.alloc (Obj.cells #[.int .i64 c0, .slice A n c] 30) = W0 := ⟨_, rfl⟩
  have hs0 : W0.heap.size = w.heap.size + 1 := by rw [← hW0]; simp
  have hE : Ext w W0 := by rw [← hW0]; exact (Ext.refl w).alloc _
  have hB0 : Blk W0 w.heap.size 30 #[.int .i64 c0, .slice A n c] := by rw [← hW0]; exact Blk.new w _ _
  have HH := Lib.hid (And.intro hs0 (And.intro hE hB0))
  rw [hW0]
  clear hW0 hs0 hE hB0
  go_loopw [7, 12] (fun v i wr => ∃ k : Nat, k ≤ m ∧ i = .int .i64 k ∧ wr.ownsRow W0.heap.size 2 1 v k (vis ((colE ts xs).take k)) ∧ Below W0.heap.size W0 wr) (fun _ i _ => m - (intOf i).toNat)
  case atStart => exact ⟨0, Nat.zero_le _, rfl, World.ownsRow_nil _ _ _ _, Below.refl _ _⟩
  case round =>
    obtain ⟨k, hk, rfl, hown, hb⟩ := hrel
    have HO := Lib.hid hown
    have HB := Lib.hid hb
    have hE := HH.out.2.1.below (Nat.le_refl _)
    have hE2 := hE.trans (hb.mono (by have := HH.out.1; omega))
    by_cases hlt : k < m
    · obtain ⟨bx, ox, rfl, -, hcx⟩ := (hB.below hE2 (Nat.le_refl _)) (by omega)
      have q1 := hcx k (by omega)
      have hx := allT_in hal (k := k) (by omega)
      have EY := Lib.hid (colE_at ts (xs := xs) (k := k) (by omega))
      generalize xs.getD k 0 = x at q1 hx EY
      simp only [inT, decide_eq_true_eq, hl] at hx
      obtain ⟨j, rfl⟩ : ∃ j : Nat, x = (j : Int) := ⟨x.toNat, by omega⟩
      have hj3 : (j : Int) < (n : Int) := by omega
      obtain ⟨b, o, rfl, -, ht⟩ := (hA.below hE2 (Nat.le_refl _)) (by omega)
      have tj := (ht j (by omega)).2.2.1
      simp only [Int.toNat_natCast] at EY
      generalize (ts.getD j T0).2.2.1 = y at tj EY
      have r1 := (HH.out.2.2.below hb HH.out.2.2.lt).rd 1 rfl
      clear hown hb hA hB hcx ht hE hE2 hx
      go_wp2_with (at_builtin; refine wpList_push rfl _ _ rfl W0.heap.size _ k _ rfl (HO.out.alloc _) wr.heap.size y rfl (heap_alloc_new wr _) ?c1 ?c2 ?c3 ?_)
      case c1 => unfold maxLen; omega
      case c2 => omega
      case c3 => have := HB.out.size; simp; omega
      intro v' w3 hown' hgrow _
      have O3 := Lib.hid (istep (us := colE ts xs) (k := k) (y := y) (by rw [colE_len]; omega) EY.out.symm hown')
      have B3 := Lib.hid ((HB.out.alloc HB.out.size _).grown hgrow (by have := HB.out.size; simp; omega) (fun j hj => (HO.out.lt j hj).1))
      clear hown' hgrow HO HB q1 tj r1
      go_wp2_with fail
      go_roundw
      case rel => exact ⟨k + 1, by omega, by go_num, O3.out, B3.out⟩
      case measure => simp [intOf]; omega
    · clear hown hb hA hB hE hE2
      have hmk := HO.out
      obtain rfl : k = m := by omega
      rw [List.take_of_length_le (by rw [colE_len]; omega)] at hmk
      obtain ⟨A2, cap2, rfl, hcap, htw⟩ := own_iwr hmk (by rw [colE_len]; omega)
      have HT := Lib.hid htw
      clear hmk htw HO
      go_wp2_with fail
      go_ret
      exact ⟨A2, cap2, by rw [colE_len, hlx]; rfl, (HH.out.2.1.below (Nat.le_refl _)).trans (HB.out.mono (by have := HH.out.1; omega)), HT.out.low (by have := HH.out.1; omega)⟩

set_option maxRecDepth 100000 in
set_option maxHeartbeats 1000000 in
theorem fits_below (c0 : Int) (A : Option Addr) (n c : Nat) (ts : List Tl) (i k : Nat) (w : World) (hn : n ≤ 1048576) (hl : ts.length = n) (hi : i < n) (hk : k < n) (hA : TR w w.heap.size A ts) :
    Calls Try.prog 155 #[.agg #[.int .i64 c0, .slice A n c], .int .i64 i, .int .i64 3, .int .i64 k] w fun e w' => e = .returned (.bool (decide ((ts.getD i T0).2.2.2 = (ts.getD k T0).2.1))) ∧ Ext w w' := by
  have hi3 : (i : Int) < (n : Int) := by omega
  have hk3 : (k : Int) < (n : Int) := by omega
  obtain ⟨b, o, rfl, -, ht⟩ := hA (by omega)
  have hx : Ext w (w.alloc (.cells #[.int .i64 c0, .slice (some ⟨b, o, none⟩) n c] 30)) := (Ext.refl w).alloc _
  have hlt : b < w.heap.size := by
    obtain ⟨b', o', e, h, _⟩ := hA (by omega)
    cases e
    exact h
  have ti : (w.alloc (.cells #[.int .i64 c0, .slice (some ⟨b, o, none⟩) n c] 30)).cell? ⟨b, o + i * 4 + 3, none⟩ = _ := (World.cell?_alloc_lt w _ _ hlt).trans (ht i (by omega)).2.2.2
  have tk : (w.alloc (.cells #[.int .i64 c0, .slice (some ⟨b, o, none⟩) n c] 30)).cell? ⟨b, o + k * 4 + 1, none⟩ = _ := (World.cell?_alloc_lt w _ _ hlt).trans (ht k (by omega)).2.1
  generalize (ts.getD i T0).2.2.2 = e at ti ⊢
  generalize (ts.getD k T0).2.1 = f at tk ⊢
  have r1 := (Blk.new w 30 #[.int .i64 c0, .slice (some ⟨b, o, none⟩) n c]).rd 1 rfl
  clear hA ht hx
  go_enter Try.func155, Try.ntmps155
  go_wp2_with fail
  go_quiet (fail)
  clear ti tk r1
  go_wp2_with fail
  go_ret
  exact ⟨ret_b (by rw [Bool.eq_iff_iff]; simp; exact eq_comm), by repeat (first | exact Ext.refl _ | refine Ext.drewN ?_ _ | refine Ext.alloc ?_ _)⟩

theorem pow_le4 {C k : Nat} (hC : C ≤ 6) (hk : k ≤ 4) : C ^ k ≤ 1296 := by
  rcases Nat.eq_zero_or_pos C with h | h
  · subst h; rcases Nat.eq_zero_or_pos k with h | h
    · subst h; simp
    · rw [Nat.zero_pow h]; omega
  · exact Nat.le_trans (Nat.pow_le_pow_left hC k) (Nat.le_trans (Nat.pow_le_pow_right (by omega) hk) (by decide))
theorem wnum_small {C : Nat} (h1 : 1 ≤ C) (h6 : C ≤ 6) {xs : List Int} (hl : xs.length ≤ 4) (h : ∀ x ∈ xs, 0 ≤ x ∧ x < (C : Int)) (k : Nat) : ∃ m : Nat, wnum (C : Int) (xs.take k) = (m : Int) ∧ m < 1296 := by
  obtain ⟨m, e, hm⟩ := wnum_lt (c := C) (by omega) (xs := xs.take k) fun x hx => h x (List.mem_of_mem_take hx)
  exact ⟨m, e, Nat.lt_of_lt_of_le hm (pow_le4 h6 (by rw [List.length_take]; omega))⟩

set_option maxRecDepth 100000 in
set_option maxHeartbeats 1000000 in
theorem wordNumber_any (C : Nat) (A : Option Addr) (n c : Nat) (B : Option Addr) (m d : Nat) (xs : List Int) (w : World) (hc1 : 1 ≤ C) (hc6 : C ≤ 6) (hm : m ≤ 4) (hlx : xs.length = m) (hB : IR w w.heap.size B xs) (hcol : ∀ x ∈ xs, 0 ≤ x ∧ x < (C : Int)) :
    Calls Try.prog 141 #[.agg #[.int .i64 (C : Int), .slice A n c], .slice B m d] w fun e w' => e = .returned (.int .i64 (wnum (C : Int) xs)) ∧ Ext w w' := by
  have HB := Lib.hid hB
  have hsm := fun k => wnum_small hc1 hc6 (xs := xs) (by omega) hcol k
  have HS := Lib.hid hsm
  have HCO := Lib.hid hcol
  clear hB hsm hcol
  go_enter Try.func141, Try.ntmps141
  go_wp2_with fail
  have HX0 := Lib.hid ((Ext.refl w).alloc (Obj.cells #[.int .i64 (C : Int), .slice A n c] 30))
  have HS0 := Lib.hid (Blk.new w 30 #[.int .i64 (C : Int), .slice A n c])
  generalize w.alloc (Obj.cells #[.int .i64 (C : Int), .slice A n c] 30) = W0 at *
  go_loopw [5, 10] (fun v i wr => ∃ k : Nat, k ≤ m ∧ i = .int .i64 k ∧ v = .int .i64 (wnum (C : Int) (xs.take k)) ∧ Ext W0 wr) (fun _ i _ => m - (intOf i).toNat)
  case atStart => exact ⟨0, Nat.zero_le _, rfl, rfl, Ext.refl _⟩
  case round =>
    obtain ⟨k, hk, rfl, rfl, hx⟩ := hrel
    have HX := Lib.hid hx
    by_cases hlt : k < m
    · obtain ⟨bx, ox, rfl, -, hcx⟩ := (HB.out.ext (HX0.out.trans hx) (Nat.le_refl _)) (by omega)
      have q1 := hcx k (by omega)
      have hin := HCO.out (xs.getD k 0) (by simp [List.getD, show k < xs.length by omega])
      have EW := Lib.hid (wnum_take (C : Int) xs (k := k) (by omega))
      obtain ⟨p, ep, hp⟩ := HS.out k
      have r1 := (HS0.out.ext hx).rd 0 rfl
      generalize xs.getD k 0 = y at q1 hin EW
      obtain ⟨y', rfl⟩ : ∃ y' : Nat, y = (y' : Int) := ⟨y.toNat, by omega⟩
      have hpc : p * C ≤ 1296 * 6 := Nat.mul_le_mul (by omega) hc6
      have hcast : ((p * C : Nat) : Int) = (p : Int) * (C : Int) := by push_cast; rfl
      rw [ep] at EW ⊢
      have hw1 : IntKind.i64.wrap ((p : Int) * (C : Int)) = (p : Int) * (C : Int) := IntWalk.i64_in _ (by omega)
      have hw2 : IntKind.i64.wrap ((p : Int) * (C : Int) + (y' : Int)) = (p : Int) * (C : Int) + (y' : Int) := IntWalk.i64_in _ (by omega)
      have hlt3 : (k : Int) < (m : Int) := by omega
      clear hx hcx
      go_wp2_with fail
      go_roundw
      case rel => exact ⟨k + 1, by omega, by go_num, by rw [EW.out], HX.out⟩
      case measure => simp [intOf]; omega
    · obtain rfl : k = m := by omega
      have e1 : xs.take k = xs := List.take_of_length_le (by omega)
      clear hx
      go_wp2_with fail
      go_ret
      exact ⟨by rw [e1]; rfl, HX0.out.trans HX.out⟩

/-- A column as an edge: a tile with its words, as numbers, at the west and the east. -/
def edgeT (C : Int) (ts : List Tl) (xs : List Int) : Tl := (wnum C (colW ts xs), 0, wnum C (colE ts xs), 0)
theorem mem_colW {C : Nat} {ts : List Tl} {xs : List Int} (hs : colOk C ts) (hal : allT ts xs = true) : ∀ x ∈ colW ts xs, 0 ≤ x ∧ x < (C : Int) := by
  intro x hx
  simp only [colW, List.mem_map] at hx
  obtain ⟨y, hy, rfl⟩ := hx
  obtain ⟨k, hk, rfl⟩ := List.getElem_of_mem hy
  have := allT_in hal hk
  rw [show xs.getD k 0 = xs[k] by simp [List.getD, hk]] at this
  simp only [inT, decide_eq_true_eq] at this
  obtain ⟨a, b, e1, h1, e2, h2⟩ := hs (xs[k]).toNat (by omega)
  omega
theorem mem_colE {C : Nat} {ts : List Tl} {xs : List Int} (hs : colOk C ts) (hal : allT ts xs = true) : ∀ x ∈ colE ts xs, 0 ≤ x ∧ x < (C : Int) := by
  intro x hx
  simp only [colE, List.mem_map] at hx
  obtain ⟨y, hy, rfl⟩ := hx
  obtain ⟨k, hk, rfl⟩ := List.getElem_of_mem hy
  have := allT_in hal hk
  rw [show xs.getD k 0 = xs[k] by simp [List.getD, hk]] at this
  simp only [inT, decide_eq_true_eq] at this
  obtain ⟨a, b, e1, h1, e2, h2⟩ := hs (xs[k]).toNat (by omega)
  omega
end
end Go.Proofs.Ytleabblnikbmpaa
