/- The program's pairs of colours of stacked pairs, each in a row of its own. -/
import Derived.Test.YtcakbnfpmpdljaaSt2
import Derived.Test.YtcakbnfpmpdljaaSt5
import Derived.Test.YtcakbnfpmpdljaaCut2
import Derived.Deep.RegionHeld3
import Derived.Lib.Hide
namespace Go.Proofs.Ytcakbnfpmpdljaa
set_option linter.unusedVariables false
set_option linter.unusedSimpArgs false
open Go.RowKit Go.Sort

theorem OwnE.pushed {w0 w w' : World} {base : Nat} {v v' : Value} {es news : List El} (h : OwnE w0 base v es) (hb : Below w0.heap.size w0 w)
    (hrow : ∀ e ∈ news, e.xs.length ≤ e.q ∧ IWr w w0.heap.size w.heap.size e.A e.xs) (hap : news.Pairwise fun a b => Apart a.A a.xs.length b.A b.xs.length) (hbase : base ≤ w0.heap.size)
    (hown : w'.ownsRow base 49 1 v' (es.length + news.length) (es.map El.v ++ news.map El.v)) (hgrow : w.grownBy w' v.ownBlock) (hat : v'.ownBlock = v.ownBlock ∨ v'.ownBlock = some w.heap.size) :
    OwnE w' base v' (es ++ news) := by
  have hsz := hb.size
  obtain ⟨ho, hr, ha⟩ := h
  have hob : ∀ c, some c = v.ownBlock → c < w0.heap.size := fun c e => (ho.lt c e.symm).2
  have near : ∀ e ∈ es, ∀ c u, e.A = some ⟨c, u, none⟩ → 0 < e.xs.length → c < w0.heap.size := by
    intro e he c u e1 h0
    obtain ⟨b', off', _, _, e', hl', hh', _⟩ := (hr e he).2.1 h0
    rw [e1] at e'
    cases e'
    exact hh'
  have far : ∀ e ∈ news, ∀ c u, e.A = some ⟨c, u, none⟩ → 0 < e.xs.length → w0.heap.size ≤ c ∧ c < w.heap.size := by
    intro e he c u e1 h0
    obtain ⟨b', off', _, _, e', hl', hh', _⟩ := (hrow e he).2 h0
    rw [e1] at e'
    cases e'
    exact ⟨hl', hh'⟩
  refine ⟨?_, fun e he => ?_, List.pairwise_append.2 ⟨ha, hap, fun a haa b hbb => ?_⟩⟩
  · rw [List.length_append, List.map_append]
    exact hown
  · rcases List.mem_append.1 he with he | he
    · obtain ⟨h1, h2, h3⟩ := hr e he
      refine ⟨h1, fun h0 => ?_, fun c u e1 h0 => ?_⟩
      · obtain ⟨b, off, t, cs, e1, hl, hh, hbk, hc⟩ := (h2.below hb) h0
        exact ⟨b, off, t, cs, e1, hl, by have := hgrow.size; omega, (hgrow.block b (by omega) (fun e2 => h3 b off e1 h0 e2)).trans hbk, hc⟩
      · have h4 := near e he c u e1 h0
        rcases hat with h5 | h5
        · rw [h5]; exact h3 c u e1 h0
        · rw [h5]; intro e2; cases e2; omega
    · obtain ⟨h1, h2⟩ := hrow e he
      refine ⟨h1, fun h0 => ?_, fun c u e1 h0 => ?_⟩
      · obtain ⟨b, off, t, cs, e1, hl, hh, hbk, hc⟩ := h2 h0
        exact ⟨b, off, t, cs, e1, by omega, by have := hgrow.size; omega, (hgrow.block b hh (fun e2 => by have := hob b e2; omega)).trans hbk, hc⟩
      · have h4 := far e he c u e1 h0
        rcases hat with h5 | h5
        · rw [h5]; intro e2; have := hob c e2; omega
        · rw [h5]; intro e2; cases e2; omega
  · intro b1 o1 c1 u1 e1 e2 h1 h2
    have := near a haa b1 o1 e1 h1
    have := far b hbb c1 u1 e2 h2
    exact .inl (by omega)

/-- 'append(rows, row, row)' onto a list of rows that the call owns, inside a region that draws its order. -/
theorem step_pushE2 {w : World} {ops : Array Oper} {o : Oper} {a : Act} {K : Act → World → Prop} {Q : Exit → Act → World → Prop} {E : Prop} (hgd : o.guard = none) (s x : Operand)
    (ho : o.op = .call { callee := .builtin .append, args := #[s, x], argTypes := #[38, 38] })
    (base : Nat) (v : Value) (es : List El) (hs : a.eval s = v) (w0 : World) (h : OwnE w0 base v es) (hb : Below w0.heap.size w0 w)
    (g : Nat) (A1 A2 : Option Addr) (xs1 xs2 : List Int) (hx : a.eval x = .slice (some ⟨g, 0, none⟩) 2 2) (hbk : Blk w g 49 #[.slice A1 2 2, .slice A2 2 2])
    (hr1 : IWr w w0.heap.size w.heap.size A1 xs1) (hr2 : IWr w w0.heap.size w.heap.size A2 xs2) (hl1 : xs1.length = 2) (hl2 : xs2.length = 2) (hap : Apart A1 2 A2 2) (h63 : es.length + 2 ≤ 1048576) (hbase : base ≤ w0.heap.size)
    (hK : ∀ v' w', OwnE w' base v' (es ++ [⟨A1, 2, xs1⟩, ⟨A2, 2, xs2⟩]) → Below base w w' → w.grownBy w' v.ownBlock → K (a.put o.dst v') w') :
    if Region.wanted o (yielded ops a.tmps) = true then Oper.wp Try.prog o a w K Q else E := by
  obtain ⟨i0, hi, hz0, hz1, hz2⟩ := info_parts info_row
  have hsz := hb.size
  refine step_append_any w hgd s x _ ho base 49 i0 _ 1 24 Try.underlying38 hi hz0 hz1 hz2 rfl (by decide) v es.length (es.map El.v) hs (own_belowA h.1 hb) w.heap.size _ 2 _ [.slice A1 2 2, .slice A2 2 2] hx ⟨rfl, fun _ => ⟨_, rfl, hbk.lt, fun j u hu => ?_⟩⟩ (by intro u hu; simp at hu; rcases hu with rfl | rfl <;> rfl) (by unfold maxLen; omega) (by omega) (by omega) fun v' w' h2 h3 h4 => ?_
  · have := hbk.cell j
    rw [Go.WideShapes.add_plain, Nat.zero_add]
    rw [this]
    rw [← hu]
    simp
  · have hv1 : Value.slice A1 2 2 = El.v ⟨A1, 2, xs1⟩ := by simp [El.v, hl1]
    have hv2 : Value.slice A2 2 2 = El.v ⟨A2, 2, xs2⟩ := by simp [El.v, hl2]
    refine hK v' w' (h.pushed hb (news := [⟨A1, 2, xs1⟩, ⟨A2, 2, xs2⟩]) (fun e he => ?_) (by simp [hl1, hl2]; exact hap) hbase ?_ h3 h4) ((Below.refl base w).grown h3 (by omega) (fun j hj => (h.1.lt j hj).1)) h3
    · simp only [List.mem_cons, List.not_mem_nil, or_false] at he
      rcases he with rfl | rfl
      · exact ⟨by simp [hl1], hr1⟩
      · exact ⟨by simp [hl2], hr2⟩
    · simp only [List.map_cons, List.map_nil, List.length_cons, List.length_nil, Nat.zero_add, ← hv1, ← hv2]
      exact h2

theorem iwr_new {w w' : World} {x y : Int} (h : Blk w' w.heap.size 2 #[.int .i64 x, .int .i64 y]) (hs : w.heap.size < w'.heap.size) : IWr w' w.heap.size w'.heap.size (some ⟨w.heap.size, 0, none⟩) [x, y] := fun _ =>
  ⟨_, 0, _, _, rfl, Nat.le_refl _, hs, h, fun k hk => by
    simp only [List.length_cons, List.length_nil] at hk
    obtain rfl | rfl : k = 0 ∨ k = 1 := by omega
    all_goals simp⟩
theorem iwr_made (W : World) (x y : Int) : IWr ((W.alloc (Obj.cells #[.int .i64 x, .int .i64 y] 2)).drew) W.heap.size ((W.alloc (Obj.cells #[.int .i64 x, .int .i64 y] 2)).drew).heap.size (some ⟨W.heap.size, 0, none⟩) [x, y] :=
  iwr_new (w := W) ((Blk.new W 2 #[.int .i64 x, .int .i64 y]).ext (Ext.refl _).drew) (by simp)
set_option maxRecDepth 100000 in
set_option maxHeartbeats 1000000 in
theorem coloursW_any (p : Tl × Tl) (w : World) :
    Calls Try.prog 100 #[.agg (encA8 p), .int .i64 0] w fun e w' => ∃ A, e = .returned (.slice A 2 2) ∧ IWr w' w.heap.size w'.heap.size A [p.1.1, p.2.1] ∧ Below w.heap.size w w' := by
  obtain ⟨⟨a0, a1, a2, a3⟩, b0, b1, b2, b3⟩ := p
  simp only [encA8]
  go_enter Try.func100, Try.ntmps100
  go_wp2_with fail
  go_region
  all_goals
    go_wp2_with fail
    go_ret
    refine ⟨_, rfl, ?_, ?_⟩
    · have h9 := iwr_made (w.alloc (Obj.cells #[.int .i64 a0, .int .i64 a1, .int .i64 a2, .int .i64 a3, .int .i64 b0, .int .i64 b1, .int .i64 b2, .int .i64 b3] 85)) a0 b0
      rw [World.size_alloc] at h9
      exact h9.low (by omega)
    · exact ((((Ext.refl w).alloc _).alloc _).drew).below (Nat.le_refl _)
set_option maxRecDepth 100000 in
set_option maxHeartbeats 1000000 in
theorem coloursE_any (p : Tl × Tl) (w : World) :
    Calls Try.prog 100 #[.agg (encA8 p), .int .i64 2] w fun e w' => ∃ A, e = .returned (.slice A 2 2) ∧ IWr w' w.heap.size w'.heap.size A [p.1.2.2.1, p.2.2.2.1] ∧ Below w.heap.size w w' := by
  obtain ⟨⟨a0, a1, a2, a3⟩, b0, b1, b2, b3⟩ := p
  simp only [encA8]
  go_enter Try.func100, Try.ntmps100
  go_wp2_with fail
  go_region
  all_goals
    go_wp2_with fail
    go_ret
    refine ⟨_, rfl, ?_, ?_⟩
    · have h9 := iwr_made (w.alloc (Obj.cells #[.int .i64 a0, .int .i64 a1, .int .i64 a2, .int .i64 a3, .int .i64 b0, .int .i64 b1, .int .i64 b2, .int .i64 b3] 85)) a2 b2
      rw [World.size_alloc] at h9
      exact h9.low (by omega)
    · exact ((((Ext.refl w).alloc _).alloc _).drew).below (Nat.le_refl _)

/-- The slice at A reads as these stacked pairs, all of it below block B. -/
def SR (w : World) (B : Nat) (A : Option Addr) (l : List (Tl × Tl)) : Prop :=
  0 < l.length → ∃ b off, A = some ⟨b, off, none⟩ ∧ b < B ∧ ∀ k, k < l.length → ∀ j, j < 8 → w.cell? ⟨b, off + k * 8 + j, none⟩ = (enc8 (l.getD k P0))[j]?
theorem SR.keep {w w' : World} {B : Nat} {A : Option Addr} {l : List (Tl × Tl)} (h : SR w B A l) (hk : ∀ b, b < B → ∀ i, w'.cell? ⟨b, i, none⟩ = w.cell? ⟨b, i, none⟩) : SR w' B A l := fun h0 => by
  obtain ⟨b, off, e, hb, hc⟩ := h h0
  exact ⟨b, off, e, hb, fun k hk' j hj => (hk b hb _).trans (hc k hk' j hj)⟩
theorem SR.below {w w' : World} {B B' : Nat} {A : Option Addr} {l : List (Tl × Tl)} (h : SR w B A l) (hB : Below B' w w') (hle : B ≤ B') : SR w' B A l :=
  h.keep fun b hb i => hB.cell (p := ⟨b, i, none⟩) (by show b < B'; omega)
theorem SR.of_own {w : World} {base n : Nat} {v : Value} {l : List (Tl × Tl)} (h : w.ownsRow base 85 8 v n (flat8 l)) (hl : l.length = n) : ∃ A cap, v = .slice A n cap ∧ SR w w.heap.size A l := by
  rcases h.2 with ⟨rfl, h0⟩ | ⟨g, cap, cur, rfl, hb, hg, hn, hm, hs, ht⟩
  · subst h0
    exact ⟨none, 0, rfl, fun h1 => by omega⟩
  · refine ⟨_, cap, rfl, fun _ => ⟨g, 0, rfl, ?_, fun k hk j hj => ?_⟩⟩
    · rcases Nat.lt_or_ge g w.heap.size with hlt | hge
      · exact hlt
      · rw [Array.getElem?_eq_none hge] at hg; cases hg
    · rw [← flat8_get l hk hj, ← ht, List.getElem?_take, if_pos (by omega), Nat.zero_add]
      have := cell_of_row w g (k * 8 + j) cur 85 (0, 0) hg
      rw [this]
      simp
/-- The pairs of colours of stacked pairs, as rows. -/
def crow (l : List (Tl × Tl)) : List (List Int) := l.flatMap fun p => [[p.1.1, p.2.1], [p.1.2.2.1, p.2.2.2.1]]
theorem ptake_snoc (l : List (Tl × Tl)) {k : Nat} (hk : k < l.length) : l.take (k + 1) = l.take k ++ [l.getD k P0] := by
  rw [List.take_succ_eq_append_getElem hk]
  simp [List.getD, hk]
theorem crow_succ (l : List (Tl × Tl)) {k : Nat} (hk : k < l.length) : crow (l.take (k + 1)) = crow (l.take k) ++ [[(l.getD k P0).1.1, (l.getD k P0).2.1], [(l.getD k P0).1.2.2.1, (l.getD k P0).2.2.2.1]] := by
  unfold crow
  rw [ptake_snoc l hk, List.flatMap_append, List.flatMap_cons, List.flatMap_nil, List.append_nil]
theorem crow_len (l : List (Tl × Tl)) : (crow l).length = 2 * l.length := by
  induction l with
  | nil => rfl
  | cons p r ih => simp only [crow, List.flatMap_cons, List.length_append, List.length_cons, List.length_nil] at *; omega
theorem crow_codes {l : List (Tl × Tl)} (h : ∀ p ∈ l, (0 ≤ p.2.1 ∧ p.2.1 < 16) ∧ 0 ≤ p.2.2.2.1 ∧ p.2.2.2.1 < 16) : crow l = (codes l).map dec := by
  induction l with
  | nil => rfl
  | cons p r ih =>
    have h0 := h p (by simp)
    have ih := ih fun q hq => h q (by simp [hq])
    unfold crow codes at ih ⊢
    rw [List.flatMap_cons, List.flatMap_cons, List.map_append, ← ih]
    congr 1
    simp only [List.map_cons, List.map_nil, cw, ce, dec_of h0.1, dec_of h0.2]
theorem crow_two (l : List (Tl × Tl)) : ∀ r ∈ crow l, r.length = 2 := by
  intro r hr
  simp only [crow, List.mem_flatMap] at hr
  obtain ⟨p, _, hp⟩ := hr
  simp at hp
  rcases hp with rfl | rfl <;> rfl
/-- Sorted, and each once: the decoded codes in order. -/
theorem cpt_codes {l : List (Tl × Tl)} (h : ∀ p ∈ l, (0 ≤ p.2.1 ∧ p.2.1 < 16) ∧ 0 ≤ p.2.2.2.1 ∧ p.2.2.2.1 < 16) {es es' : List El} (he : es.map El.xs = crow l) (hp : es'.Perm es) (hs : ∀ i j, i < j → j < es'.length → ltL (es'.getD j E0).xs (es'.getD i E0).xs = false) :
    (cpt es' es'.length).map El.xs = (sortI (codes l)).map dec := by
  have ha := (cpt_asc hs (Nat.le_refl es'.length)).1
  have hsub := cpt_sub es' (Nat.le_refl es'.length)
  rw [List.take_length] at hsub
  refine rows_codes (by rw [List.pairwise_map]; exact ha) fun y => ?_
  have hmem : y ∈ es'.map El.xs ↔ ∃ c ∈ codes l, y = dec c := by
    rw [(hp.map El.xs).mem_iff, he, crow_codes h, List.mem_map]
    exact ⟨fun ⟨c, h1, h2⟩ => ⟨c, h1, h2.symm⟩, fun ⟨c, h1, h2⟩ => ⟨c, h1, h2.symm⟩⟩
  rw [← hmem]
  constructor
  · intro hy
    obtain ⟨e, h1, rfl⟩ := List.mem_map.1 hy
    exact List.mem_map_of_mem (hsub.subset h1)
  · intro hy
    obtain ⟨e, h1, rfl⟩ := List.mem_map.1 hy
    obtain ⟨i, hi, rfl⟩ := List.getElem_of_mem h1
    obtain ⟨e', h2, h3⟩ := cpt_mem (Nat.le_refl es'.length) i hi
    rw [el_get hi] at h3
    rw [← h3]
    exact List.mem_map_of_mem h2
end Go.Proofs.Ytcakbnfpmpdljaa
