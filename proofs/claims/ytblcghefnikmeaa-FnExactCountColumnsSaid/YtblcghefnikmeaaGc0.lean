/- Rows of a list that the call owns; the rows themselves may share memory. -/
import Derived.Test.YtblcghefnikmeaaAppR
import Derived.Test.YtblcghefnikmeaaSpA
import Derived.Lib.Hide
namespace Go.Proofs.Ytblcghefnikmeaa
set_option linter.unusedVariables false
set_option linter.unusedSimpArgs false
open Go.RowKit Go.Sort

def OwnS (w : World) (base lo : Nat) (v : Value) (rs : List (List Int)) : Prop :=
  ∃ (Q : Nat → Option Addr) (q : Nat → Nat), w.ownsRow base 48 1 v rs.length (rvs Q q rs) ∧ ∀ j, j < rs.length → (rs.getD j []).length ≤ q j ∧ RdI w v (Q j) (rs.getD j []) ∧ (∀ c u, Q j = some ⟨c, u, none⟩ → 0 < (rs.getD j []).length → lo ≤ c)
/-- Rows to be read, all their cells in blocks from lo on. -/
def IRL (w : World) (lo : Nat) (A : Option Addr) (rs : List (List Int)) : Prop :=
  0 < rs.length → ∃ b off, A = some ⟨b, off, none⟩ ∧ lo ≤ b ∧ b < w.heap.size ∧ ∀ k, k < rs.length → ∃ Q q, w.cell? ⟨b, off + k, none⟩ = some (.slice Q (rs.getD k []).length q) ∧ (rs.getD k []).length ≤ q ∧ IR w w.heap.size Q (rs.getD k []) ∧ (∀ c u, Q = some ⟨c, u, none⟩ → 0 < (rs.getD k []).length → lo ≤ c)
theorem IRL.irr {w : World} {lo : Nat} {A : Option Addr} {rs : List (List Int)} (h : IRL w lo A rs) : IRR w w.heap.size A rs := fun h0 => by
  obtain ⟨b, off, e, -, h1, h2⟩ := h h0
  refine ⟨b, off, e, h1, fun k hk => ?_⟩
  obtain ⟨Q, q, k1, k2, k3, -⟩ := h2 k hk
  exact ⟨Q, q, k1, k2, k3⟩
theorem IRL.keep {w w' : World} {lo : Nat} {A : Option Addr} {rs : List (List Int)} (h : IRL w lo A rs) (hz : w.heap.size ≤ w'.heap.size) (hk : ∀ b i, lo ≤ b → b < w.heap.size → w'.cell? ⟨b, i, none⟩ = w.cell? ⟨b, i, none⟩) : IRL w' lo A rs := fun h0 => by
  obtain ⟨b, off, e, hl, h1, h2⟩ := h h0
  refine ⟨b, off, e, hl, by omega, fun k hk' => ?_⟩
  obtain ⟨Q, q, k1, k2, k3, k4⟩ := h2 k hk'
  refine ⟨Q, q, (hk b _ hl h1).trans k1, k2, fun h5 => ?_, k4⟩
  obtain ⟨b', o', e', hb', hc'⟩ := k3 h5
  exact ⟨b', o', e', by omega, fun j hj => (hk b' _ (k4 b' o' e' h5) hb').trans (hc' j hj)⟩
theorem IRL.below {w w' : World} {lo : Nat} {A : Option Addr} {rs : List (List Int)} (h : IRL w lo A rs) (hx : Below w.heap.size w w') : IRL w' lo A rs := h.keep hx.size fun b i _ hb => hx.cell (p := ⟨b, i, none⟩) hb
theorem IRL.low {w : World} {lo lo' : Nat} {A : Option Addr} {rs : List (List Int)} (h : IRL w lo A rs) (hl : lo' ≤ lo) : IRL w lo' A rs := fun h0 => by
  obtain ⟨b, off, e, h3, h1, h2⟩ := h h0
  refine ⟨b, off, e, by omega, h1, fun k hk => ?_⟩
  obtain ⟨Q, q, k1, k2, k3, k4⟩ := h2 k hk
  exact ⟨Q, q, k1, k2, k3, fun c u e5 h5 => by have := k4 c u e5 h5; omega⟩
theorem OwnS.nil (w : World) (base lo : Nat) : OwnS w base lo (.slice none 0 0) [] :=
  ⟨fun _ => none, fun _ => 0, World.ownsRow_nil _ _ _ _, fun j hj => absurd hj (Nat.not_lt_zero _)⟩
theorem OwnS.made {w : World} {g base lo : Nat} (hb : base ≤ g) (h : Blk w g 48 #[]) : OwnS w base lo (.slice (some ⟨g, 0, none⟩) 0 0) [] :=
  ⟨fun _ => none, fun _ => 0, ⟨by simp [rvs], .inr ⟨g, 0, #[], rfl, hb, h, by simp, by simp, by simp, by simp [rvs]⟩⟩, fun j hj => absurd hj (Nat.not_lt_zero _)⟩
theorem RdI.below {w w' : World} {v : Value} {A : Option Addr} {xs : List Int} (h : RdI w v A xs) (hx : Below w.heap.size w w') : RdI w' v A xs := fun h0 => by
  obtain ⟨b, off, e, hb, hn, hc⟩ := h h0
  exact ⟨b, off, e, by have := hx.size; omega, hn, fun k hk => (hx.cell (p := ⟨b, off + k, none⟩) hb).trans (hc k hk)⟩
theorem OwnS.below {w w' : World} {base lo : Nat} {v : Value} {rs : List (List Int)} (h : OwnS w base lo v rs) (hx : Below w.heap.size w w') : OwnS w' base lo v rs := by
  obtain ⟨Q, q, ho, hr⟩ := h
  exact ⟨Q, q, own_belowA ho hx, fun j hj => ⟨(hr j hj).1, (hr j hj).2.1.below hx, (hr j hj).2.2⟩⟩
theorem OwnS.ext {w w' : World} {base lo : Nat} {v : Value} {rs : List (List Int)} (h : OwnS w base lo v rs) (hx : Ext w w') : OwnS w' base lo v rs := h.below (hx.below (Nat.le_refl _))
theorem OwnS.low {w : World} {base base' lo : Nat} {v : Value} {rs : List (List Int)} (h : OwnS w base lo v rs) (hb : base' ≤ base) : OwnS w base' lo v rs := by
  obtain ⟨Q, q, ho, hr⟩ := h
  exact ⟨Q, q, own_low ho hb, hr⟩
theorem OwnS.lt {w : World} {base lo : Nat} {v : Value} {rs : List (List Int)} (h : OwnS w base lo v rs) {g : Nat} (e : v.ownBlock = some g) : base ≤ g ∧ g < w.heap.size := by
  obtain ⟨Q, q, ho, hr⟩ := h
  exact ho.lt g e
theorem OwnS.len {w : World} {base lo : Nat} {v : Value} {rs : List (List Int)} (h : OwnS w base lo v rs) : ∃ A cap, v = .slice A rs.length cap ∧ rs.length ≤ cap := by
  obtain ⟨Q, q, ho, hr⟩ := h
  rcases ho.2 with ⟨rfl, h0⟩ | ⟨g, cap, cur, rfl, hb, hg, hn, hm, hs, ht⟩
  · rw [h0]; exact ⟨none, 0, rfl, Nat.le_refl _⟩
  · exact ⟨_, cap, rfl, hn⟩
theorem OwnS.done {w : World} {base lo : Nat} {v : Value} {rs : List (List Int)} (h : OwnS w base lo v rs) (hlo : lo ≤ base) : ∃ A cap, v = .slice A rs.length cap ∧ rs.length ≤ cap ∧ IRL w lo A rs := by
  obtain ⟨Q, q, ho, hr⟩ := h
  rcases ho.2 with ⟨rfl, h0⟩ | ⟨g, cap, cur, rfl, hb, hg, hn, hm, hs, ht⟩
  · rw [h0]
    exact ⟨none, 0, rfl, Nat.le_refl _, fun h1 => absurd h1 (by omega)⟩
  · refine ⟨_, cap, rfl, hn, fun _ => ⟨g, 0, rfl, by omega, ?_, fun k hk => ?_⟩⟩
    · rcases Nat.lt_or_ge g w.heap.size with hlt | hge
      · exact hlt
      · rw [Array.getElem?_eq_none hge] at hg; cases hg
    · obtain ⟨h1, h2, h3⟩ := hr k hk
      refine ⟨Q k, q k, ?_, h1, fun h0 => ?_, h3⟩
      · rw [cell_of_row w g (0 + k) cur _ (0, 0) hg, Nat.zero_add, ← rvs_at hk, ← ht, List.getElem?_take, if_pos (by omega)]
        simp
      · obtain ⟨b, off, e, hlt, -, hc⟩ := h2 h0
        exact ⟨b, off, e, hlt, hc⟩
theorem OwnS.pushed {w0 w w' : World} {base lo n cap : Nat} {v v' : Value} {rs : List (List Int)} {xs : List Int} {A : Option Addr} {Q : Nat → Option Addr} {q : Nat → Nat}
    (hr : ∀ j, j < rs.length → (rs.getD j []).length ≤ q j ∧ RdI w0 v (Q j) (rs.getD j []) ∧ (∀ c u, Q j = some ⟨c, u, none⟩ → 0 < (rs.getD j []).length → lo ≤ c)) (hb : Below w0.heap.size w0 w) (hrow : RdI w v A xs) (hlo : ∀ c u, A = some ⟨c, u, none⟩ → 0 < xs.length → lo ≤ c) (hn : xs.length = n) (hcap : n ≤ cap)
    (hown : w'.ownsRow base 48 1 v' (rs.length + 1) (rvs Q q rs ++ [.slice A n cap])) (hgrow : w.grownBy w' v.ownBlock) (hat : v'.ownBlock = v.ownBlock ∨ v'.ownBlock = some w.heap.size) :
    OwnS w' base lo v' (rs ++ [xs]) := by
  refine ⟨fun j => if j = rs.length then A else Q j, fun j => if j = rs.length then cap else q j, ?_, fun j hj => ?_⟩
  · rw [rvs_snoc, hn]
    simpa using hown
  · by_cases hjk : j = rs.length
    · subst hjk
      simp only [if_true]
      rw [getD_last]
      exact ⟨by omega, hrow.grown hgrow hat, hlo⟩
    · have hj' : j < rs.length := by simp at hj; omega
      simp only [if_neg hjk]
      rw [getD_snoc hj']
      exact ⟨(hr j hj').1, ((hr j hj').2.1.below hb).grown hgrow hat, (hr j hj').2.2⟩
theorem reads_box {w : World} {g n cap : Nat} {A : Option Addr} (hbk : Blk w g 48 #[.slice A n cap]) : Reads w w.heap.size 1 (some ⟨g, 0, none⟩) 1 [.slice A n cap] :=
  ⟨rfl, fun _ => ⟨_, rfl, hbk.lt, fun j u hu => by
    rcases j with _ | j
    · simp at hu
      subst hu
      rw [Go.WideShapes.add_plain]
      exact hbk.cell 0
    · simp at hu⟩⟩
/-- 'append(rows, row)', the row anywhere but in the rows' own block. -/
theorem wpList_pushS {w : World} {ops : Array Oper} {rest : List Oper} {o : Oper} {a : Act} {K : Exit → Act → World → Prop} (hgd : o.guard = none) (s x : Operand)
    (ho : o.op = .call { callee := .builtin .append, args := #[s, x], argTypes := #[34, 34] })
    (base lo : Nat) (v : Value) (rs : List (List Int)) (hs : a.eval s = v) (w0 : World) (h : OwnS w0 base lo v rs) (hb : Below w0.heap.size w0 w)
    (g : Nat) (A : Option Addr) (n cap : Nat) (xs : List Int) (hx : a.eval x = .slice (some ⟨g, 0, none⟩) 1 1) (hbk : Blk w g 48 #[.slice A n cap])
    (hrow : RdI w v A xs) (hlo : ∀ c u, A = some ⟨c, u, none⟩ → 0 < xs.length → lo ≤ c) (hn : xs.length = n) (hcap : n ≤ cap) (h63 : rs.length + 1 ≤ 1048576) (hbase : base ≤ w0.heap.size)
    (hK : ∀ v' w', OwnS w' base lo v' (rs ++ [xs]) → w.grownBy w' v.ownBlock → Below base w w' → wpList Try.prog ops K rest (a.put o.dst v') w') :
    wpList Try.prog ops K (o :: rest) a w := by
  obtain ⟨Q, q, hown, hr⟩ := h
  obtain ⟨i0, hi, hz0, hz1, hz2⟩ := info_parts info_row
  refine wpList_append_any w hgd s x _ ho base 48 i0 _ 1 24 Try.underlying34 hi hz0 hz1 hz2 rfl (by decide) v rs.length (rvs Q q rs) hs (own_belowA hown hb) w.heap.size _ 1 _ [.slice A n cap] hx (reads_box hbk) (by simp [Value.oneCell']) (by unfold maxLen; omega) (by omega) (Nat.le_trans hbase hb.size) ?_
  intro v' w' h1 h2 h3
  exact hK v' w' (OwnS.pushed hr hb hrow hlo hn hcap h1 h2 h3) h2 ((Below.refl base w).grown h2 (Nat.le_trans hbase hb.size) (fun j hj => (hown.lt j hj).1))
/-- The same within a region. -/
theorem step_pushS {w : World} {ops : Array Oper} {o : Oper} {a : Act} {K : Act → World → Prop} {Q' : Exit → Act → World → Prop} {E : Prop} (hgd : o.guard = none) (s x : Operand)
    (ho : o.op = .call { callee := .builtin .append, args := #[s, x], argTypes := #[34, 34] })
    (base lo : Nat) (v : Value) (rs : List (List Int)) (hs : a.eval s = v) (w0 : World) (h : OwnS w0 base lo v rs) (hb : Below w0.heap.size w0 w)
    (g : Nat) (A : Option Addr) (n cap : Nat) (xs : List Int) (hx : a.eval x = .slice (some ⟨g, 0, none⟩) 1 1) (hbk : Blk w g 48 #[.slice A n cap])
    (hrow : RdI w v A xs) (hlo : ∀ c u, A = some ⟨c, u, none⟩ → 0 < xs.length → lo ≤ c) (hn : xs.length = n) (hcap : n ≤ cap) (h63 : rs.length + 1 ≤ 1048576) (hbase : base ≤ w0.heap.size)
    (hK : ∀ v' w', OwnS w' base lo v' (rs ++ [xs]) → w.grownBy w' v.ownBlock → Below base w w' → K (a.put o.dst v') w') :
    if Region.wanted o (yielded ops a.tmps) = true then Oper.wp Try.prog o a w K Q' else E := by
  obtain ⟨Q, q, hown, hr⟩ := h
  obtain ⟨i0, hi, hz0, hz1, hz2⟩ := info_parts info_row
  refine step_append_any w hgd s x _ ho base 48 i0 _ 1 24 Try.underlying34 hi hz0 hz1 hz2 rfl (by decide) v rs.length (rvs Q q rs) hs (own_belowA hown hb) w.heap.size _ 1 _ [.slice A n cap] hx (reads_box hbk) (by simp [Value.oneCell']) (by unfold maxLen; omega) (by omega) (Nat.le_trans hbase hb.size) fun v' w' h1 h2 h3 => ?_
  exact hK v' w' (OwnS.pushed hr hb hrow hlo hn hcap h1 h2 h3) h2 ((Below.refl base w).grown h2 (Nat.le_trans hbase hb.size) (fun j hj => (hown.lt j hj).1))
theorem reads_ints {w : World} {B n : Nat} {A : Option Addr} {xs : List Int} (h : IR w B A xs) (hl : xs.length = n) : Reads w B 1 A n (vis xs) := by
  refine ⟨by rw [vis_len, hl, Nat.mul_one], fun h0 => ?_⟩
  obtain ⟨b, off, rfl, hb, hc⟩ := h (by omega)
  refine ⟨_, rfl, hb, fun j u hu => ?_⟩
  have hj : j < xs.length := by
    rcases Nat.lt_or_ge j xs.length with h | h
    · exact h
    · rw [List.getElem?_eq_none (by rw [vis_len]; exact h)] at hu; cases hu
  rw [Go.WideShapes.add_plain, hc j hj]
  simp only [vis, List.getElem?_map, List.getElem?_eq_getElem hj, Option.map_some, vi] at hu
  simpa [List.getD, hj] using hu
theorem visOne (xs : List Int) : ∀ u ∈ vis xs, u.oneCell' = true := by
  intro u hu
  simp only [vis, List.mem_map] at hu
  obtain ⟨x, -, rfl⟩ := hu
  rfl
theorem visApp (xs ys : List Int) : vis (xs ++ ys) = vis xs ++ vis ys := by simp [vis]
/-- 'append(list, numbers...)'. -/
theorem wpList_appI {w : World} {ops : Array Oper} {rest : List Oper} {o : Oper} {a : Act} {K : Exit → Act → World → Prop} (hgd : o.guard = none) (s x : Operand)
    (ho : o.op = .call { callee := .builtin .append, args := #[s, x], argTypes := #[48, 48] })
    (base : Nat) (v : Value) (xs : List Int) (hs : a.eval s = v) (hown : w.ownsRow base 2 1 v xs.length (vis xs))
    (A : Option Addr) (m c : Nat) (ys : List Int) (hx : a.eval x = .slice A m c) (hr : IR w w.heap.size A ys) (hl : ys.length = m) (h63 : xs.length + m ≤ 1048576) (hbase : base ≤ w.heap.size)
    (hK : ∀ v' w', w'.ownsRow base 2 1 v' (xs ++ ys).length (vis (xs ++ ys)) → w.grownBy w' v.ownBlock → (v'.ownBlock = v.ownBlock ∨ v'.ownBlock = some w.heap.size) → wpList Try.prog ops K rest (a.put o.dst v') w') :
    wpList Try.prog ops K (o :: rest) a w := by
  obtain ⟨i0, hi, hz0, hz1, hz2⟩ := info_parts info_int
  refine wpList_append_any w hgd s x _ ho base 2 i0 _ 1 8 Try.underlying48 hi hz0 hz1 hz2 rfl (by decide) v xs.length (vis xs) hs hown w.heap.size A m c (vis ys) hx (reads_ints hr hl) (visOne ys) (by unfold maxLen; omega) (by omega) hbase fun v' w' h1 h2 h3 => hK v' w' ?_ h2 h3
  rw [visApp, List.length_append, hl]
  exact h1
/-- 'append(list, y)', by the list. -/
theorem wpList_push1 {w : World} {ops : Array Oper} {rest : List Oper} {o : Oper} {a : Act} {K : Exit → Act → World → Prop} (hgd : o.guard = none) (s x : Operand)
    (ho : o.op = .call { callee := .builtin .append, args := #[s, x], argTypes := #[48, 48] })
    (base : Nat) (v : Value) (xs : List Int) (hs : a.eval s = v) (hown : w.ownsRow base 2 1 v xs.length (vis xs))
    (g : Nat) (y : Int) (hx : a.eval x = .slice (some ⟨g, 0, none⟩) 1 1) (hb : Blk w g 2 #[.int .i64 y]) (h63 : xs.length + 1 ≤ 1048577) (hbase : base ≤ w.heap.size)
    (hK : ∀ v' w', w'.ownsRow base 2 1 v' (xs ++ [y]).length (vis (xs ++ [y])) → w.grownBy w' v.ownBlock → (v'.ownBlock = v.ownBlock ∨ v'.ownBlock = some w.heap.size) → wpList Try.prog ops K rest (a.put o.dst v') w') :
    wpList Try.prog ops K (o :: rest) a w := by
  refine wpList_push hgd s x ho base v xs.length (vis xs) hs hown g y hx hb (by unfold maxLen; omega) (by omega) hbase fun v' w' h1 h2 h3 => hK v' w' ?_ h2 h3
  rw [vis_snoc, List.length_append]
  exact h1
theorem rdi_of_iwr {w : World} {lo hi : Nat} {v : Value} {A : Option Addr} {xs : List Int} (h : IWr w lo hi A xs) (hv : ∀ g, v.ownBlock = some g → g < lo) : RdI w v A xs := fun h0 => by
  obtain ⟨b, off, t, cs, e, h1, h2, hb, hc⟩ := h h0
  exact ⟨b, off, e, hb.lt, fun e2 => by have := hv b e2; omega, fun k hk => (hb.cell _).trans (hc k hk)⟩
theorem RdI.ir {w : World} {v : Value} {A : Option Addr} {xs : List Int} (h : RdI w v A xs) : IR w w.heap.size A xs := fun h0 => by
  obtain ⟨b, off, e, hb, -, hc⟩ := h h0
  exact ⟨b, off, e, hb, hc⟩
theorem rdi_of_ir {w : World} {B : Nat} {v : Value} {A : Option Addr} {xs : List Int} (h : IR w B A xs) (hB : B ≤ w.heap.size) (hv : ∀ g, v.ownBlock = some g → B ≤ g) : RdI w v A xs := fun h0 => by
  obtain ⟨b, off, e, hb, hc⟩ := h h0
  exact ⟨b, off, e, by omega, fun e2 => by have := hv b e2; omega, hc⟩
end Go.Proofs.Ytblcghefnikmeaa
