/- The program's pairs of colours of stacked pairs, each in a row of its own. -/
import Derived.Test.YtjoaoimebdkpaaaStA
import Derived.Test.YtjoaoimebdkpaaaStB
import Derived.Test.YtjoaoimebdkpaaaCut2
import Derived.Deep.RegionHeld3
import Derived.Lib.Hide
namespace Go.Proofs.Ytjoaoimebdkpaaa
section
set_option linter.unusedVariables false
set_option linter.unusedSimpArgs false
open Go.RowKit Go.Sort

theorem OwnE.pushed {w0 w w' : World} {base : Nat} {v v' : Value} {es news : List El} (h : OwnE w0 base v es) (hb : Below w0.heap.size w0 w)
    (hrow : ∀ e ∈ news, e.xs.length ≤ e.q ∧ IWr w w0.heap.size w.heap.size e.A e.xs) (hap : news.Pairwise fun a b => Apart a.A a.xs.length b.A b.xs.length) (hbase : base ≤ w0.heap.size)
    (hown : w'.ownsRow base 51 1 v' (es.length + news.length) (es.map El.v ++ news.map El.v)) (hgrow : w.grownBy w' v.ownBlock) (hat : v'.ownBlock = v.ownBlock ∨ v'.ownBlock = some w.heap.size) :
    OwnE w' base v' (es ++ news) := by
  have hsz := hb.size
  obtain ⟨ho, hr, ha⟩ := h
  have hob : ∀ c, some c = v.ownBlock → c < w0.heap.size := fun c e => (ho.lt c e.symm).2
  have near : ∀ e ∈ es, ∀ c u, e.A = some ⟨c, u, none⟩ → 0 < e.xs.length → c < w0.heap.size := by
    intro e he c u e1 h0
    obtain ⟨b', off', _, _, e', hl', hh', _⟩ := (hr e he).2.1 h0
    rw [e1] at e'
    cases e'
    exact hh'
  have far : ∀ e ∈ news, ∀ c u, e.A = some ⟨c, u, none⟩ → 0 < e.xs.length → w0.heap.size ≤ c ∧ c < w.heap.size := by
    intro e he c u e1 h0
    obtain ⟨b', off', _, _, e', hl', hh', _⟩ := (hrow e he).2 h0
    rw [e1] at e'
    cases e'
    exact ⟨hl', hh'⟩
  refine ⟨?_, fun e he => ?_, List.pairwise_append.2 ⟨ha, hap, fun a haa b hbb => ?_⟩⟩
  · rw [List.length_append, List.map_append]
    exact hown
  · rcases List.mem_append.1 he with he | he
    · obtain ⟨h1, h2, h3⟩ := hr e he
      refine ⟨h1, fun h0 => ?_, fun c u e1 h0 => ?_⟩
      · obtain ⟨b, off, t, cs, e1, hl, hh, hbk, hc⟩ := (h2.below hb) h0
        exact ⟨b, off, t, cs, e1, hl, by have := hgrow.size; omega, (hgrow.block b (by omega) (fun e2 => h3 b off e1 h0 e2)).trans hbk, hc⟩
      · have h4 := near e he c u e1 h0
        rcases hat with h5 | h5
        · rw [h5]; exact h3 c u e1 h0
        · rw [h5]; intro e2; cases e2; omega
    · obtain ⟨h1, h2⟩ := hrow e he
      refine ⟨h1, fun h0 => ?_, fun c u e1 h0 => ?_⟩
      · obtain ⟨b, off, t, cs, e1, hl, hh, hbk, hc⟩ := h2 h0
        exact ⟨b, off, t, cs, e1, by omega, by have := hgrow.size; omega, (hgrow.block b hh (fun e2 => by have := hob b e2; omega)).trans hbk, hc⟩
      · have h4 := far e he c u e1 h0
        rcases hat with h5 | h5
        · rw [h5]; intro e2; have := hob c e2; omega
        · rw [h5]; intro e2; cases e2; omega
  · intro b1 o1 c1 u1 e1 e2 h1 h2
    have := near a haa b1 o1 e1 h1
    have := far b hbb c1 u1 e2 h2
    exact .inl (by omega)

/-- 'append(rows, row, row)' onto a list of rows that the call owns, inside a region that draws its order. -/
theorem step_pushE2 {w : World} {ops : Array Oper} {o : Oper} {a : Act} {K : Act → World → Prop} {Q : Exit → Act → World → Prop} {E : Prop} (hgd : o.guard = none) (s x : Operand)
    (ho : o.op = .call { callee := .builtin .append, args := #[s, x], argTypes := #[25, 25] })
    (base : Nat) (v : Value) (es : List El) (hs : a.eval s = v) (w0 : World) (h : OwnE w0 base v es) (hb : Below w0.heap.size w0 w)
    (g : Nat) (A1 A2 : Option Addr) (xs1 xs2 : List Int) (hx : a.eval x = .slice (some ⟨g, 0, none⟩) 2 2) (hbk : Blk w g 51 #[.slice A1 2 2, .slice A2 2 2])
    (hr1 : IWr w w0.heap.size w.heap.size A1 xs1) (hr2 : IWr w w0.heap.size w.heap.size A2 xs2) (hl1 : xs1.length = 2) (hl2 : xs2.length = 2) (hap : Apart A1 2 A2 2) (h63 : es.length + 2 ≤ 1048576) (hbase : base ≤ w0.heap.size)
    (hK : ∀ v' w', OwnE w' base v' (es ++ [⟨A1, 2, xs1⟩, ⟨A2, 2, xs2⟩]) → Below base w w' → w.grownBy w' v.ownBlock → K (a.put o.dst v') w') :
    if Region.wanted o (yielded ops a.tmps) = true then Oper.wp Try.prog o a w K Q else E := by
  obtain ⟨i0, hi, hz0, hz1, hz2⟩ := info_parts info_row
  have hsz := hb.size
  refine step_append_any w hgd s x _ ho base 51 i0 _ 1 24 Try.underlying25 hi hz0 hz1 hz2 rfl (by decide) v es.length (es.map El.v) hs (own_belowA h.1 hb) w.heap.size _ 2 _ [.slice A1 2 2, .slice A2 2 2] hx ⟨rfl, fun _ => ⟨_, rfl, hbk.lt, fun j u hu => ?_⟩⟩ (by intro u hu; simp at hu; rcases hu with rfl | rfl <;> rfl) (by unfold maxLen; omega) (by omega) (by omega) fun v' w' h2 h3 h4 => ?_
  · have := hbk.cell j
    rw [Go.WideShapes.add_plain, Nat.zero_add]
    rw [this]
    rw [← hu]
    simp
  · have hv1 : Value.slice A1 2 2 = El.v ⟨A1, 2, xs1⟩ := by simp [El.v, hl1]
    have hv2 : Value.slice A2 2 2 = El.v ⟨A2, 2, xs2⟩ := by simp [El.v, hl2]
    refine hK v' w' (h.pushed hb (news := [⟨A1, 2, xs1⟩, ⟨A2, 2, xs2⟩]) (fun e he => ?_) (by simp [hl1, hl2]; exact hap) hbase ?_ h3 h4) ((Below.refl base w).grown h3 (by omega) (fun j hj => (h.1.lt j hj).1)) h3
    · simp only [List.mem_cons, List.not_mem_nil, or_false] at he
      rcases he with rfl | rfl
      · exact ⟨by simp [hl1], hr1⟩
      · exact ⟨by simp [hl2], hr2⟩
    · simp only [List.map_cons, List.map_nil, List.length_cons, List.length_nil, Nat.zero_add, ← hv1, ← hv2]
      exact h2

theorem iwr_new {w w' : World} {x y : Int} (h : Blk w' w.heap.size 2 #[.int .i64 x, .int .i64 y]) (hs : w.heap.size < w'.heap.size) : IWr w' w.heap.size w'.heap.size (some ⟨w.heap.size, 0, none⟩) [x, y] := fun _ =>
  ⟨_, 0, _, _, rfl, Nat.le_refl _, hs, h, fun k hk => by
    simp only [List.length_cons, List.length_nil] at hk
    obtain rfl | rfl : k = 0 ∨ k = 1 := by omega
    all_goals simp⟩
theorem iwr_made (W : World) (x y : Int) : IWr ((W.alloc (Obj.cells #[.int .i64 x, .int .i64 y] 2)).drew) W.heap.size ((W.alloc (Obj.cells #[.int .i64 x, .int .i64 y] 2)).drew).heap.size (some ⟨W.heap.size, 0, none⟩) [x, y] :=
  iwr_new (w := W) ((Blk.new W 2 #[.int .i64 x, .int .i64 y]).ext (Ext.refl _).drew) (by simp)
set_option maxRecDepth 100000 in
set_option maxHeartbeats 1000000 in
theorem coloursW_any (p : Tl × Tl) (w : World) :
    Calls Try.prog 166 #[.agg (encA8 p), .int .i64 0] w fun e w' => ∃ A, e = .returned (.slice A 2 2) ∧ IWr w' w.heap.size w'.heap.size A [p.1.1, p.2.1] ∧ Below w.heap.size w w' := by
  obtain ⟨⟨a0, a1, a2, a3⟩, b0, b1, b2, b3⟩ := p
  simp only [encA8]
  go_enter Try.func166, Try.ntmps166
  go_wp2_with fail
  go_region
  all_goals
    go_wp2_with fail
    go_ret
    refine ⟨_, rfl, ?_, ?_⟩
    · have h9 := iwr_made (w.alloc (Obj.cells #[.int .i64 a0, .int .i64 a1, .int .i64 a2, .int .i64 a3, .int .i64 b0, .int .i64 b1, .int .i64 b2, .int .i64 b3] 90)) a0 b0
      rw [World.size_alloc] at h9
      exact h9.low (by omega)
    · exact ((((Ext.refl w).alloc _).alloc _).drew).below (Nat.le_refl _)
set_option maxRecDepth 100000 in
set_option maxHeartbeats 1000000 in
theorem coloursE_any (p : Tl × Tl) (w : World) :
    Calls Try.prog 166 #[.agg (encA8 p), .int .i64 2] w fun e w' => ∃ A, e = .returned (.slice A 2 2) ∧ IWr w' w.heap.size w'.heap.size A [p.1.2.2.1, p.2.2.2.1] ∧ Below w.heap.size w w' := by
  obtain ⟨⟨a0, a1, a2, a3⟩, b0, b1, b2, b3⟩ := p
  simp only [encA8]
  go_enter Try.func166, Try.ntmps166
  go_wp2_with fail
  go_region
  all_goals
    go_wp2_with fail
    go_ret
    refine ⟨_, rfl, ?_, ?_⟩
    · have h9 := iwr_made (w.alloc (Obj.cells #[.int .i64 a0, .int .i64 a1, .int .i64 a2, .int .i64 a3, .int .i64 b0, .int .i64 b1, .int .i64 b2, .int .i64 b3] 90)) a2 b2
      rw [World.size_alloc] at h9
      exact h9.low (by omega)
    · exact ((((Ext.refl w).alloc _).alloc _).drew).below (Nat.le_refl _)

/-- The slice at A reads as these stacked pairs, all of it below block B. -/
def SR (w : World) (B : Nat) (A : Option Addr) (l : List (Tl × Tl)) : Prop :=
  0 < l.length → ∃ b off, A = some ⟨b, off, none⟩ ∧ b < B ∧ ∀ k, k < l.length → ∀ j, j < 8 → w.cell? ⟨b, off + k * 8 + j, none⟩ = (enc8 (l.getD k P0))[j]?
theorem SR.keep {w w' : World} {B : Nat} {A : Option Addr} {l : List (Tl × Tl)} (h : SR w B A l) (hk : ∀ b, b < B → ∀ i, w'.cell? ⟨b, i, none⟩ = w.cell? ⟨b, i, none⟩) : SR w' B A l := fun h0 => by
  obtain ⟨b, off, e, hb, hc⟩ := h h0
  exact ⟨b, off, e, hb, fun k hk' j hj => (hk b hb _).trans (hc k hk' j hj)⟩
theorem SR.below {w w' : World} {B B' : Nat} {A : Option Addr} {l : List (Tl × Tl)} (h : SR w B A l) (hB : Below B' w w') (hle : B ≤ B') : SR w' B A l :=
  h.keep fun b hb i => hB.cell (p := ⟨b, i, none⟩) (by show b < B'; omega)
theorem SR.of_own {w : World} {base n : Nat} {v : Value} {l : List (Tl × Tl)} (h : w.ownsRow base 90 8 v n (flat8 l)) (hl : l.length = n) : ∃ A cap, v = .slice A n cap ∧ SR w w.heap.size A l := by
  rcases h.2 with ⟨rfl, h0⟩ | ⟨g, cap, cur, rfl, hb, hg, hn, hm, hs, ht⟩
  · subst h0
    exact ⟨none, 0, rfl, fun h1 => by omega⟩
  · refine ⟨_, cap, rfl, fun _ => ⟨g, 0, rfl, ?_, fun k hk j hj => ?_⟩⟩
    · rcases Nat.lt_or_ge g w.heap.size with hlt | hge
      · exact hlt
      · rw [Array.getElem?_eq_none hge] at hg; cases hg
    · rw [← flat8_get l hk hj, ← ht, List.getElem?_take, if_pos (by omega), Nat.zero_add]
      have := cell_of_row w g (k * 8 + j) cur 90 (0, 0) hg
      rw [this]
      simp
/-- The pairs of colours of stacked pairs, as rows. -/
def crow (l : List (Tl × Tl)) : List (List Int) := l.flatMap fun p => [[p.1.1, p.2.1], [p.1.2.2.1, p.2.2.2.1]]
theorem ptake_snoc (l : List (Tl × Tl)) {k : Nat} (hk : k < l.length) : l.take (k + 1) = l.take k ++ [l.getD k P0] := by
  rw [List.take_succ_eq_append_getElem hk]
  simp [List.getD, hk]
theorem crow_succ (l : List (Tl × Tl)) {k : Nat} (hk : k < l.length) : crow (l.take (k + 1)) = crow (l.take k) ++ [[(l.getD k P0).1.1, (l.getD k P0).2.1], [(l.getD k P0).1.2.2.1, (l.getD k P0).2.2.2.1]] := by
  unfold crow
  rw [ptake_snoc l hk, List.flatMap_append, List.flatMap_cons, List.flatMap_nil, List.append_nil]
theorem crow_len (l : List (Tl × Tl)) : (crow l).length = 2 * l.length := by
  induction l with
  | nil => rfl
  | cons p r ih => simp only [crow, List.flatMap_cons, List.length_append, List.length_cons, List.length_nil] at *; omega
theorem crow_codes {l : List (Tl × Tl)} (h : ∀ p ∈ l, (0 ≤ p.2.1 ∧ p.2.1 < 16) ∧ 0 ≤ p.2.2.2.1 ∧ p.2.2.2.1 < 16) : crow l = (codes l).map dec := by
  induction l with
  | nil => rfl
  | cons p r ih =>
    have h0 := h p (by simp)
    have ih := ih fun q hq => h q (by simp [hq])
    unfold crow codes at ih ⊢
    rw [List.flatMap_cons, List.flatMap_cons, List.map_append, ← ih]
    congr 1
    simp only [List.map_cons, List.map_nil, cw, ce, dec_of h0.1, dec_of h0.2]
theorem crow_two (l : List (Tl × Tl)) : ∀ r ∈ crow l, r.length = 2 := by
  intro r hr
  simp only [crow, List.mem_flatMap] at hr
  obtain ⟨p, _, hp⟩ := hr
  simp at hp
  rcases hp with rfl | rfl <;> rfl
/-- Sorted, and each once: the decoded codes in order. -/
theorem cpt_codes {l : List (Tl × Tl)} (h : ∀ p ∈ l, (0 ≤ p.2.1 ∧ p.2.1 < 16) ∧ 0 ≤ p.2.2.2.1 ∧ p.2.2.2.1 < 16) {es es' : List El} (he : es.map El.xs = crow l) (hp : es'.Perm es) (hs : ∀ i j, i < j → j < es'.length → ltL (es'.getD j E0).xs (es'.getD i E0).xs = false) :
    (cpt es' es'.length).map El.xs = (sortI (codes l)).map dec := by
  have ha := (cpt_asc hs (Nat.le_refl es'.length)).1
  have hsub := cpt_sub es' (Nat.le_refl es'.length)
  rw [List.take_length] at hsub
  refine rows_codes (by rw [List.pairwise_map]; exact ha) fun y => ?_
  have hmem : y ∈ es'.map El.xs ↔ ∃ c ∈ codes l, y = dec c := by
    rw [(hp.map El.xs).mem_iff, he, crow_codes h, List.mem_map]
    exact ⟨fun ⟨c, h1, h2⟩ => ⟨c, h1, h2.symm⟩, fun ⟨c, h1, h2⟩ => ⟨c, h1, h2.symm⟩⟩
  rw [← hmem]
  constructor
  · intro hy
    obtain ⟨e, h1, rfl⟩ := List.mem_map.1 hy
    exact List.mem_map_of_mem (hsub.subset h1)
  · intro hy
    obtain ⟨e, h1, rfl⟩ := List.mem_map.1 hy
    obtain ⟨i, hi, rfl⟩ := List.getElem_of_mem h1
    obtain ⟨e', h2, h3⟩ := cpt_mem (Nat.le_refl es'.length) i hi
    rw [el_get hi] at h3
    rw [← h3]
    exact List.mem_map_of_mem h2
end

section
set_option linter.unusedVariables false
set_option linter.unusedSimpArgs false
open Go.RowKit Go.Sort

theorem apart_12 {w5 w6 : World} {lo hi lo' hi' n m : Nat} {A B : Option Addr} {xs ys : List Int} (h : IWr w5 lo hi A xs) (h' : IWr w6 lo' hi' B ys) (hle : hi ≤ lo') (h1 : xs.length = n) (h2 : ys.length = m) : Apart A n B m := fun b o c u e1 e2 h3 h4 => by
  obtain ⟨b1, o1, _, _, e3, _, h5, _⟩ := h (by omega)
  obtain ⟨b2, o2, _, _, e4, h6, _, _⟩ := h' (by omega)
  rw [e1] at e3
  rw [e2] at e4
  cases e3
  cases e4
  exact .inl (by omega)
theorem apart_21 {w5 w6 : World} {lo hi lo' hi' n m : Nat} {A B : Option Addr} {xs ys : List Int} (h : IWr w5 lo hi A xs) (h' : IWr w6 lo' hi' B ys) (hle : hi ≤ lo') (h1 : xs.length = n) (h2 : ys.length = m) : Apart B m A n := apart_symm (apart_12 h h' hle h1 h2)
theorem blk_grown8 {w w' : World} {g : Nat} {t : TypeId} {cs : Array Value} {row : Option Nat} (h : Blk w g t cs) (hg : w.grownBy w' row) (hne : row ≠ some g) : Blk w' g t cs := (hg.block g h.lt (fun e => hne e.symm)).trans h
theorem enc8_cells {w : World} {b o : Nat} {p : Tl × Tl} (h : ∀ j, j < 8 → w.cell? ⟨b, o + j, none⟩ = (enc8 p)[j]?) : w.cell? ⟨b, o, none⟩ = some (.int .i64 p.1.1) ∧ w.cell? ⟨b, o + 1, none⟩ = some (.int .i64 p.1.2.1) ∧ w.cell? ⟨b, o + 2, none⟩ = some (.int .i64 p.1.2.2.1) ∧ w.cell? ⟨b, o + 3, none⟩ = some (.int .i64 p.1.2.2.2) ∧
    w.cell? ⟨b, o + 4, none⟩ = some (.int .i64 p.2.1) ∧ w.cell? ⟨b, o + 5, none⟩ = some (.int .i64 p.2.2.1) ∧ w.cell? ⟨b, o + 6, none⟩ = some (.int .i64 p.2.2.2.1) ∧ w.cell? ⟨b, o + 7, none⟩ = some (.int .i64 p.2.2.2.2) :=
  ⟨h 0 (by omega), h 1 (by omega), h 2 (by omega), h 3 (by omega), h 4 (by omega), h 5 (by omega), h 6 (by omega), h 7 (by omega)⟩

set_option maxRecDepth 100000 in
set_option maxHeartbeats 4000000 in
theorem colourPairs_any (A : Option Addr) (n c : Nat) (l : List (Tl × Tl)) (w : World) (hn : n ≤ 65536) (hl : l.length = n) (hA : SR w w.heap.size A l) (hok : ∀ p ∈ l, (0 ≤ p.2.1 ∧ p.2.1 < 16) ∧ 0 ≤ p.2.2.2.1 ∧ p.2.2.2.1 < 16) :
    Calls Try.prog 136 #[.slice A n c] w fun e w' => ∃ v es, e = .returned v ∧ OwnE w' w.heap.size v es ∧ es.map El.xs = (sortI (codes l)).map dec ∧ Below w.heap.size w w' := by
  have HA := Lib.hid hA
  have HOK := Lib.hid hok
  have HLN := Lib.hid hl
  clear hA hok
  obtain ⟨w2, hw2⟩ : ∃ w2, w2 = w := ⟨_, rfl⟩
  subst hw2
  go_enter Try.func136, Try.ntmps136
  go_wp2_with fail
  go_loopw [3, 8] (fun v ii wr => ∃ (i : Nat) (es : List El), i ≤ n ∧ ii = .int .i64 i ∧ OwnE wr w2.heap.size v es ∧ es.map El.xs = crow (l.take i) ∧ Below w2.heap.size w2 wr) (fun _ ii _ => n - (intOf ii).toNat)
  case atStart => exact ⟨0, [], Nat.zero_le _, rfl, OwnE.nil _ _, rfl, Below.refl _ _⟩
  case round =>
    obtain ⟨i, es, hi, rfl, hown, hes, hb⟩ := hrel
    have HO := Lib.hid hown
    have HES := Lib.hid hes
    have HBW := Lib.hid hb
    have hszw := hb.size
    have heslen : es.length ≤ 131072 := by
      have := congrArg List.length hes
      rw [List.length_map, crow_len, List.length_take] at this
      omega
    by_cases hlt : i < n
    · obtain ⟨b0, o, rfl, hbb, ht⟩ := (HA.out.below hb (Nat.le_refl _)) (by omega)
      replace ht := enc8_cells (ht i (by omega))
      have hcs := crow_succ l (k := i) (by omega)
      clear hown hes hb
      generalize l.getD i P0 = pp at *
      obtain ⟨⟨a0, a1, a2, a3⟩, b0', b1, b2, b3⟩ := pp
      obtain ⟨t0, t1, t2, t3, t4, t5, t6, t7⟩ := ht
      simp only at t0 t1 t2 t3 t4 t5 t6 t7 hcs
      have HCS := Lib.hid hcs
      have b9 : (i : Int) < (n : Int) := by omega
      clear hcs
      have hcw := fun W => coloursW_any ((a0, a1, a2, a3), b0', b1, b2, b3) W
      have hce := fun W => coloursE_any ((a0, a1, a2, a3), b0', b1, b2, b3) W
      simp only [encA8] at hcw hce
      have HCW := Lib.hid hcw
      have HCE := Lib.hid hce
      clear hcw hce
      go_wp2_with fail
      clear t0 t1 t2 t3 t4 t5 t6 t7
      have HBX := Lib.hid (Blk.new wr 90 #[.int .i64 a0, .int .i64 a1, .int .i64 a2, .int .i64 a3, .int .i64 b0', .int .i64 b1, .int .i64 b2, .int .i64 b3])
      have hx4 : Ext wr (wr.alloc (Obj.cells #[.int .i64 a0, .int .i64 a1, .int .i64 a2, .int .i64 a3, .int .i64 b0', .int .i64 b1, .int .i64 b2, .int .i64 b3] 90)) := (Ext.refl wr).alloc _
      have HO4 := Lib.hid (HO.out.below (hx4.below (Nat.le_refl _)))
      have HB4 := Lib.hid (HBW.out.trans (hx4.below (B := w2.heap.size) hszw))
      have hs4 : w2.heap.size ≤ (wr.alloc (Obj.cells #[.int .i64 a0, .int .i64 a1, .int .i64 a2, .int .i64 a3, .int .i64 b0', .int .i64 b1, .int .i64 b2, .int .i64 b3] 90)).heap.size := by simp; omega
      have hne8 : u3.ownBlock ≠ some wr.heap.size := fun e9 => Nat.lt_irrefl _ (HO.out.1.lt _ e9).2
      clear hx4
      generalize wr.alloc (Obj.cells #[.int .i64 a0, .int .i64 a1, .int .i64 a2, .int .i64 a3, .int .i64 b0', .int .i64 b1, .int .i64 b2, .int .i64 b3] 90) = w4 at *
      generalize wr.heap.size = gt at *
      have r0 := HBX.out.rd 0 rfl
      have r1 := HBX.out.rd 1 rfl
      have r2 := HBX.out.rd 2 rfl
      have r3 := HBX.out.rd 3 rfl
      have r4 := HBX.out.rd 4 rfl
      have r5 := HBX.out.rd 5 rfl
      have r6 := HBX.out.rd 6 rfl
      have r7 := HBX.out.rd 7 rfl

      go_region_held3 (fun w' => w'.cell? ⟨gt, 0, none⟩ = some (.int .i64 a0) ∧ w'.cell? ⟨gt, 1, none⟩ = some (.int .i64 a1) ∧ w'.cell? ⟨gt, 2, none⟩ = some (.int .i64 a2) ∧ w'.cell? ⟨gt, 3, none⟩ = some (.int .i64 a3) ∧ w'.cell? ⟨gt, 4, none⟩ = some (.int .i64 b0') ∧ w'.cell? ⟨gt, 5, none⟩ = some (.int .i64 b1) ∧ w'.cell? ⟨gt, 6, none⟩ = some (.int .i64 b2) ∧ w'.cell? ⟨gt, 7, none⟩ = some (.int .i64 b3))
        (first | exact ⟨r0, r1, r2, r3, r4, r5, r6, r7⟩ | exact ⟨(HBX.out.ext (by with_reducible first | exact Ext.refl _ | exact (Ext.refl _).drew | exact (Ext.refl _).alloc _ | exact ((Ext.refl _).alloc _).drew | exact ((Ext.refl _).drew).alloc _ | exact (((Ext.refl _).drew).alloc _).drew)).rd 0 rfl, (HBX.out.ext (by with_reducible first | exact Ext.refl _ | exact (Ext.refl _).drew | exact (Ext.refl _).alloc _ | exact ((Ext.refl _).alloc _).drew | exact ((Ext.refl _).drew).alloc _ | exact (((Ext.refl _).drew).alloc _).drew)).rd 1 rfl, (HBX.out.ext (by with_reducible first | exact Ext.refl _ | exact (Ext.refl _).drew | exact (Ext.refl _).alloc _ | exact ((Ext.refl _).alloc _).drew | exact ((Ext.refl _).drew).alloc _ | exact (((Ext.refl _).drew).alloc _).drew)).rd 2 rfl, (HBX.out.ext (by with_reducible first | exact Ext.refl _ | exact (Ext.refl _).drew | exact (Ext.refl _).alloc _ | exact ((Ext.refl _).alloc _).drew | exact ((Ext.refl _).drew).alloc _ | exact (((Ext.refl _).drew).alloc _).drew)).rd 3 rfl, (HBX.out.ext (by with_reducible first | exact Ext.refl _ | exact (Ext.refl _).drew | exact (Ext.refl _).alloc _ | exact ((Ext.refl _).alloc _).drew | exact ((Ext.refl _).drew).alloc _ | exact (((Ext.refl _).drew).alloc _).drew)).rd 4 rfl, (HBX.out.ext (by with_reducible first | exact Ext.refl _ | exact (Ext.refl _).drew | exact (Ext.refl _).alloc _ | exact ((Ext.refl _).alloc _).drew | exact ((Ext.refl _).drew).alloc _ | exact (((Ext.refl _).drew).alloc _).drew)).rd 5 rfl, (HBX.out.ext (by with_reducible first | exact Ext.refl _ | exact (Ext.refl _).drew | exact (Ext.refl _).alloc _ | exact ((Ext.refl _).alloc _).drew | exact ((Ext.refl _).drew).alloc _ | exact (((Ext.refl _).drew).alloc _).drew)).rd 6 rfl, (HBX.out.ext (by with_reducible first | exact Ext.refl _ | exact (Ext.refl _).drew | exact (Ext.refl _).alloc _ | exact ((Ext.refl _).alloc _).drew | exact ((Ext.refl _).drew).alloc _ | exact (((Ext.refl _).drew).alloc _).drew)).rd 7 rfl⟩ | exact ⟨(c5.ext (by with_reducible first | exact Ext.refl _ | exact (Ext.refl _).drew | exact (Ext.refl _).alloc _ | exact ((Ext.refl _).alloc _).drew | exact ((Ext.refl _).drew).alloc _ | exact (((Ext.refl _).drew).alloc _).drew)).rd 0 rfl, (c5.ext (by with_reducible first | exact Ext.refl _ | exact (Ext.refl _).drew | exact (Ext.refl _).alloc _ | exact ((Ext.refl _).alloc _).drew | exact ((Ext.refl _).drew).alloc _ | exact (((Ext.refl _).drew).alloc _).drew)).rd 1 rfl, (c5.ext (by with_reducible first | exact Ext.refl _ | exact (Ext.refl _).drew | exact (Ext.refl _).alloc _ | exact ((Ext.refl _).alloc _).drew | exact ((Ext.refl _).drew).alloc _ | exact (((Ext.refl _).drew).alloc _).drew)).rd 2 rfl, (c5.ext (by with_reducible first | exact Ext.refl _ | exact (Ext.refl _).drew | exact (Ext.refl _).alloc _ | exact ((Ext.refl _).alloc _).drew | exact ((Ext.refl _).drew).alloc _ | exact (((Ext.refl _).drew).alloc _).drew)).rd 3 rfl, (c5.ext (by with_reducible first | exact Ext.refl _ | exact (Ext.refl _).drew | exact (Ext.refl _).alloc _ | exact ((Ext.refl _).alloc _).drew | exact ((Ext.refl _).drew).alloc _ | exact (((Ext.refl _).drew).alloc _).drew)).rd 4 rfl, (c5.ext (by with_reducible first | exact Ext.refl _ | exact (Ext.refl _).drew | exact (Ext.refl _).alloc _ | exact ((Ext.refl _).alloc _).drew | exact ((Ext.refl _).drew).alloc _ | exact (((Ext.refl _).drew).alloc _).drew)).rd 5 rfl, (c5.ext (by with_reducible first | exact Ext.refl _ | exact (Ext.refl _).drew | exact (Ext.refl _).alloc _ | exact ((Ext.refl _).alloc _).drew | exact ((Ext.refl _).drew).alloc _ | exact (((Ext.refl _).drew).alloc _).drew)).rd 6 rfl, (c5.ext (by with_reducible first | exact Ext.refl _ | exact (Ext.refl _).drew | exact (Ext.refl _).alloc _ | exact ((Ext.refl _).alloc _).drew | exact ((Ext.refl _).drew).alloc _ | exact (((Ext.refl _).drew).alloc _).drew)).rd 7 rfl⟩ | exact ⟨(c6.ext (by with_reducible first | exact Ext.refl _ | exact (Ext.refl _).drew | exact (Ext.refl _).alloc _ | exact ((Ext.refl _).alloc _).drew | exact ((Ext.refl _).drew).alloc _ | exact (((Ext.refl _).drew).alloc _).drew)).rd 0 rfl, (c6.ext (by with_reducible first | exact Ext.refl _ | exact (Ext.refl _).drew | exact (Ext.refl _).alloc _ | exact ((Ext.refl _).alloc _).drew | exact ((Ext.refl _).drew).alloc _ | exact (((Ext.refl _).drew).alloc _).drew)).rd 1 rfl, (c6.ext (by with_reducible first | exact Ext.refl _ | exact (Ext.refl _).drew | exact (Ext.refl _).alloc _ | exact ((Ext.refl _).alloc _).drew | exact ((Ext.refl _).drew).alloc _ | exact (((Ext.refl _).drew).alloc _).drew)).rd 2 rfl, (c6.ext (by with_reducible first | exact Ext.refl _ | exact (Ext.refl _).drew | exact (Ext.refl _).alloc _ | exact ((Ext.refl _).alloc _).drew | exact ((Ext.refl _).drew).alloc _ | exact (((Ext.refl _).drew).alloc _).drew)).rd 3 rfl, (c6.ext (by with_reducible first | exact Ext.refl _ | exact (Ext.refl _).drew | exact (Ext.refl _).alloc _ | exact ((Ext.refl _).alloc _).drew | exact ((Ext.refl _).drew).alloc _ | exact (((Ext.refl _).drew).alloc _).drew)).rd 4 rfl, (c6.ext (by with_reducible first | exact Ext.refl _ | exact (Ext.refl _).drew | exact (Ext.refl _).alloc _ | exact ((Ext.refl _).alloc _).drew | exact ((Ext.refl _).drew).alloc _ | exact (((Ext.refl _).drew).alloc _).drew)).rd 5 rfl, (c6.ext (by with_reducible first | exact Ext.refl _ | exact (Ext.refl _).drew | exact (Ext.refl _).alloc _ | exact ((Ext.refl _).alloc _).drew | exact ((Ext.refl _).drew).alloc _ | exact (((Ext.refl _).drew).alloc _).drew)).rd 6 rfl, (c6.ext (by with_reducible first | exact Ext.refl _ | exact (Ext.refl _).drew | exact (Ext.refl _).alloc _ | exact ((Ext.refl _).alloc _).drew | exact ((Ext.refl _).drew).alloc _ | exact (((Ext.refl _).drew).alloc _).drew)).rd 7 rfl⟩ | exact ⟨(c7.ext (by with_reducible first | exact Ext.refl _ | exact (Ext.refl _).drew | exact (Ext.refl _).alloc _ | exact ((Ext.refl _).alloc _).drew | exact ((Ext.refl _).drew).alloc _ | exact (((Ext.refl _).drew).alloc _).drew)).rd 0 rfl, (c7.ext (by with_reducible first | exact Ext.refl _ | exact (Ext.refl _).drew | exact (Ext.refl _).alloc _ | exact ((Ext.refl _).alloc _).drew | exact ((Ext.refl _).drew).alloc _ | exact (((Ext.refl _).drew).alloc _).drew)).rd 1 rfl, (c7.ext (by with_reducible first | exact Ext.refl _ | exact (Ext.refl _).drew | exact (Ext.refl _).alloc _ | exact ((Ext.refl _).alloc _).drew | exact ((Ext.refl _).drew).alloc _ | exact (((Ext.refl _).drew).alloc _).drew)).rd 2 rfl, (c7.ext (by with_reducible first | exact Ext.refl _ | exact (Ext.refl _).drew | exact (Ext.refl _).alloc _ | exact ((Ext.refl _).alloc _).drew | exact ((Ext.refl _).drew).alloc _ | exact (((Ext.refl _).drew).alloc _).drew)).rd 3 rfl, (c7.ext (by with_reducible first | exact Ext.refl _ | exact (Ext.refl _).drew | exact (Ext.refl _).alloc _ | exact ((Ext.refl _).alloc _).drew | exact ((Ext.refl _).drew).alloc _ | exact (((Ext.refl _).drew).alloc _).drew)).rd 4 rfl, (c7.ext (by with_reducible first | exact Ext.refl _ | exact (Ext.refl _).drew | exact (Ext.refl _).alloc _ | exact ((Ext.refl _).alloc _).drew | exact ((Ext.refl _).drew).alloc _ | exact (((Ext.refl _).drew).alloc _).drew)).rd 5 rfl, (c7.ext (by with_reducible first | exact Ext.refl _ | exact (Ext.refl _).drew | exact (Ext.refl _).alloc _ | exact ((Ext.refl _).alloc _).drew | exact ((Ext.refl _).drew).alloc _ | exact (((Ext.refl _).drew).alloc _).drew)).rd 6 rfl, (c7.ext (by with_reducible first | exact Ext.refl _ | exact (Ext.refl _).drew | exact (Ext.refl _).alloc _ | exact ((Ext.refl _).alloc _).drew | exact ((Ext.refl _).drew).alloc _ | exact (((Ext.refl _).drew).alloc _).drew)).rd 7 rfl⟩ | go_keep)
        (first
        | (go_at_call 166; with_reducible refine (HCW.out _).mono ?_; rintro e w5 ⟨A1, rfl, hfW, hb5⟩; have k5W := below_next (Below.refl w4.heap.size w4) (by with_reducible first | exact Ext.refl _ | exact (Ext.refl _).drew | exact (Ext.refl _).alloc _ | exact ((Ext.refl _).alloc _).drew | exact ((Ext.refl _).drew).alloc _ | exact (((Ext.refl _).drew).alloc _).drew) hb5 (Nat.le_refl _); have c5 := blk_next HBX.out (by with_reducible first | exact Ext.refl _ | exact (Ext.refl _).drew | exact (Ext.refl _).alloc _ | exact ((Ext.refl _).alloc _).drew | exact ((Ext.refl _).drew).alloc _ | exact (((Ext.refl _).drew).alloc _).drew) hb5; have s5 := below_pair (Below.refl w4.heap.size w4) (by with_reducible first | exact Ext.refl _ | exact (Ext.refl _).drew | exact (Ext.refl _).alloc _ | exact ((Ext.refl _).alloc _).drew | exact ((Ext.refl _).drew).alloc _ | exact (((Ext.refl _).drew).alloc _).drew) hb5 (Nat.le_refl _); have z5 := s5.size; have y5 := k5W.size; replace hfW := hfW.low z5)
        | (go_at_call 166; with_reducible refine (HCE.out _).mono ?_; rintro e w6 ⟨A2, rfl, hsE, hb6⟩; have k6 := below_next k5W (by with_reducible first | exact Ext.refl _ | exact (Ext.refl _).drew | exact (Ext.refl _).alloc _ | exact ((Ext.refl _).alloc _).drew | exact ((Ext.refl _).drew).alloc _ | exact (((Ext.refl _).drew).alloc _).drew) hb6 (Nat.le_refl _); have c6 := blk_next c5 (by with_reducible first | exact Ext.refl _ | exact (Ext.refl _).drew | exact (Ext.refl _).alloc _ | exact ((Ext.refl _).alloc _).drew | exact ((Ext.refl _).drew).alloc _ | exact (((Ext.refl _).drew).alloc _).drew) hb6; have s6 := below_pair (Below.refl w5.heap.size w5) (by with_reducible first | exact Ext.refl _ | exact (Ext.refl _).drew | exact (Ext.refl _).alloc _ | exact ((Ext.refl _).alloc _).drew | exact ((Ext.refl _).drew).alloc _ | exact (((Ext.refl _).drew).alloc _).drew) hb6 (Nat.le_refl _); have z6 := s6.size; have y6 := k6.size; have hap : Apart A1 2 A2 2 := apart_12 (hfW) hsE z6 rfl rfl; have hr1 := (hfW.below (s6.trans (hb6.mono z6))).up (show w5.heap.size ≤ w6.heap.size by have := hb6.size; omega); have hr2 := hsE.low (show w4.heap.size ≤ _ by omega))
        | (go_at_call 166; with_reducible refine (HCE.out _).mono ?_; rintro e w5 ⟨A2, rfl, hfE, hb5⟩; have k5E := below_next (Below.refl w4.heap.size w4) (by with_reducible first | exact Ext.refl _ | exact (Ext.refl _).drew | exact (Ext.refl _).alloc _ | exact ((Ext.refl _).alloc _).drew | exact ((Ext.refl _).drew).alloc _ | exact (((Ext.refl _).drew).alloc _).drew) hb5 (Nat.le_refl _); have c5 := blk_next HBX.out (by with_reducible first | exact Ext.refl _ | exact (Ext.refl _).drew | exact (Ext.refl _).alloc _ | exact ((Ext.refl _).alloc _).drew | exact ((Ext.refl _).drew).alloc _ | exact (((Ext.refl _).drew).alloc _).drew) hb5; have s5 := below_pair (Below.refl w4.heap.size w4) (by with_reducible first | exact Ext.refl _ | exact (Ext.refl _).drew | exact (Ext.refl _).alloc _ | exact ((Ext.refl _).alloc _).drew | exact ((Ext.refl _).drew).alloc _ | exact (((Ext.refl _).drew).alloc _).drew) hb5 (Nat.le_refl _); have z5 := s5.size; have y5 := k5E.size; replace hfE := hfE.low z5)
        | (go_at_call 166; with_reducible refine (HCW.out _).mono ?_; rintro e w6 ⟨A1, rfl, hsW, hb6⟩; have k6 := below_next k5E (by with_reducible first | exact Ext.refl _ | exact (Ext.refl _).drew | exact (Ext.refl _).alloc _ | exact ((Ext.refl _).alloc _).drew | exact ((Ext.refl _).drew).alloc _ | exact (((Ext.refl _).drew).alloc _).drew) hb6 (Nat.le_refl _); have c6 := blk_next c5 (by with_reducible first | exact Ext.refl _ | exact (Ext.refl _).drew | exact (Ext.refl _).alloc _ | exact ((Ext.refl _).alloc _).drew | exact ((Ext.refl _).drew).alloc _ | exact (((Ext.refl _).drew).alloc _).drew) hb6; have s6 := below_pair (Below.refl w5.heap.size w5) (by with_reducible first | exact Ext.refl _ | exact (Ext.refl _).drew | exact (Ext.refl _).alloc _ | exact ((Ext.refl _).alloc _).drew | exact ((Ext.refl _).drew).alloc _ | exact (((Ext.refl _).drew).alloc _).drew) hb6 (Nat.le_refl _); have z6 := s6.size; have y6 := k6.size; have hap : Apart A1 2 A2 2 := apart_21 (hfE) hsW z6 rfl rfl; have hr2 := (hfE.below (s6.trans (hb6.mono z6))).up (show w5.heap.size ≤ w6.heap.size by have := hb6.size; omega); have hr1 := hsW.low (show w4.heap.size ≤ _ by omega))
        | (refine step_pushE2 rfl (.tmp 12) (.tmp 17) rfl w2.heap.size u3 es (by go_simp) w4 HO4.out (below_next0 k6 (by with_reducible first | exact Ext.refl _ | exact (Ext.refl _).drew | exact (Ext.refl _).alloc _ | exact ((Ext.refl _).alloc _).drew | exact ((Ext.refl _).drew).alloc _ | exact (((Ext.refl _).drew).alloc _).drew) (Nat.le_refl _)) w6.heap.size A1 A2 [a0, b0'] [a2, b2] (by go_simp) ((Blk.new w6 51 #[.slice A1 2 2, .slice A2 2 2]).ext (by with_reducible first | exact Ext.refl _ | exact (Ext.refl _).drew | exact (Ext.refl _).alloc _ | exact ((Ext.refl _).alloc _).drew | exact ((Ext.refl _).drew).alloc _ | exact (((Ext.refl _).drew).alloc _).drew)) ((hr1.ext (by with_reducible first | exact Ext.refl _ | exact (Ext.refl _).drew | exact (Ext.refl _).alloc _ | exact ((Ext.refl _).alloc _).drew | exact ((Ext.refl _).drew).alloc _ | exact (((Ext.refl _).drew).alloc _).drew)).up (by simp)) ((hr2.ext (by with_reducible first | exact Ext.refl _ | exact (Ext.refl _).drew | exact (Ext.refl _).alloc _ | exact ((Ext.refl _).alloc _).drew | exact ((Ext.refl _).drew).alloc _ | exact (((Ext.refl _).drew).alloc _).drew)).up (by simp)) rfl rfl hap (by omega) (by omega) ?_; intro v7 w7 hown7 hbel7 hgrow7; have hB7 := (HB4.out.trans ((below_next0 k6 (by with_reducible first | exact Ext.refl _ | exact (Ext.refl _).drew | exact (Ext.refl _).alloc _ | exact ((Ext.refl _).alloc _).drew | exact ((Ext.refl _).drew).alloc _ | exact (((Ext.refl _).drew).alloc _).drew) (Nat.le_refl _)).mono hs4)).trans hbel7; have c7 := blk_grown8 (c6.ext ((Ext.refl w6).alloc (Obj.cells #[.slice A1 2 2, .slice A2 2 2] 51))) hgrow7 hne8))
      all_goals
        have HN7 := Lib.hid (And.intro hown7 hB7)
        have HX7 := Lib.hid (show (es ++ [El.mk A1 2 [a0, b0'], El.mk A2 2 [a2, b2]]).map El.xs = crow (l.take (i + 1)) by rw [List.map_append, HES.out, HCS.out]; rfl)
        clear hown7 hbel7 hgrow7 hB7 c7 c6 c5 hap r0 r1 r2 r3 r4 r5 r6 r7
        go_wp2_with fail
        go_roundw
        case rel => first | exact ⟨i + 1, _, by omega, by go_num, HN7.out.1, HX7.out, HN7.out.2⟩ | ((repeat apply Exists.intro); exact ⟨⟨i + 1, _, by omega, by go_num, HN7.out.1, HX7.out, HN7.out.2⟩, rfl⟩)
        case measure => simp [intOf]; omega
    · obtain rfl : i = n := by omega
      have hes2 : es.map El.xs = crow l := by rw [hes, ← hl, List.take_length]
      have hlen2 : ∀ e ∈ es, e.xs.length ≤ 1048576 := fun e he => by
        have h9 := crow_two l e.xs (by rw [← hes2]; exact List.mem_map_of_mem he)
        omega
      have HS := Lib.hid (sortR_any w2.heap.size u3 es wr (by omega) hlen2 hown)
      have HES2 := Lib.hid hes2
      have HLEN2 := Lib.hid hlen2
      have hlt8 := hown.1.lt
      have HLT := Lib.hid hlt8
      clear hown hes hb hes2 hlen2 hlt8 HO HES
      go_wp2_with fail
      refine HS.out.mono ?_
      rintro e w5 ⟨rfl, es', hp, hs, hown5, hgr5⟩
      have HP := Lib.hid hp
      have HSO := Lib.hid hs
      have hbw5 := HBW.out.grown hgr5 hszw (fun j hj => (HLT.out j hj).1)
      have HBW5 := Lib.hid hbw5
      have HCM := Lib.hid (compactR_any w2.heap.size u3 es' w5 (by rw [hp.length_eq]; omega) (fun e he => HLEN2.out e (hp.mem_iff.1 he)) hown5)
      have HLT5 := Lib.hid hown5.1.lt
      have hsz5 := hbw5.size
      clear hp hs hown5 hgr5 hbw5
      go_wp2_with fail
      refine HCM.out.mono ?_
      rintro e w6 ⟨v6, rfl, hown6, hgr6⟩
      have HO6 := Lib.hid hown6
      have HB6 := Lib.hid (HBW5.out.grown hgr6 hsz5 (fun j hj => (HLT5.out j hj).1))
      clear hown6 hgr6
      go_wp2_with fail
      go_ret
      exact ⟨v6, _, rfl, HO6.out, cpt_codes HOK.out HES2.out HP.out HSO.out, HB6.out⟩
end
end Go.Proofs.Ytjoaoimebdkpaaa
