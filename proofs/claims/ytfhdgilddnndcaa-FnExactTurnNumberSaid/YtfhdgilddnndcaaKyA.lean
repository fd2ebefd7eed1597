/- Tiles out of a map: which they are, and how many. -/
import Derived.Test.YtfhdgilddnndcaaCom1
import Derived.Test.YtfhdgilddnndcaaSBridge
import Derived.Maps.Range
import Derived.Sort.KeysCollected
import Derived.Lib.Hide
import Derived.RangeFuncBox
import Derived.RangeFuncLeaves
import Derived.RangeFuncGives
import Derived.Shelf.Abstract
import Derived.WalkKit
import Derived.OwnWalkIn
import Derived.TacticsInMore
import Derived.LoopNIn
import Derived.LoopIn
import Derived.Maps.AppendAt
import Derived.Maps.OwnIn
import Derived.Sort.MapsRangeIn
import Derived.Test.YtfhdgilddnndcaaJn3
import Derived.RangeFuncNested
namespace Go.Proofs.Ytfhdgilddnndcaa
section
set_option linter.unusedVariables false
set_option linter.unusedSimpArgs false
open Go.RowKit Go.Sort

set_option maxRecDepth 100000 in
set_option maxHeartbeats 4000000 in
/-- What reads as a key of tiles is a tile. -/
theorem keyOf_tile {v : Value} {l : Lit} (h : keyOf Try.prog 38 v = some l) : ∃ t : Tl, v = tv t := by
  unfold keyOf at h
  rw [Try.underlying38] at h
  have hcl : Try.prog.cellsOf 38 = 4 := by kernel_rfl
  have h1c : Try.prog.cellsOf 2 = 1 := by kernel_rfl
  simp only at h
  split at h
  · rename_i hc
    rw [Bool.and_eq_true] at hc
    have hf := hc.2
    cases v with
    | agg cs =>
      simp only [Value.formed, Try.underlying38, hcl, beq_iff_eq] at hf
      obtain ⟨a, b, c, d, rfl⟩ : ∃ a b c d, cs = #[a, b, c, d] := by
        obtain ⟨L⟩ := cs
        match L, hf with
        | [a, b, c, d], _ => exact ⟨a, b, c, d, rfl⟩
      obtain ⟨u, hu⟩ : ∃ u, Try.prog.types.size = u + 1 := ⟨Try.prog.types.size - 1, by have : 0 < Try.prog.types.size := of_decide_eq_true (by kernel_rfl); omega⟩
      rw [hu] at h
      have key : ∀ x : Value, (∀ z, x ≠ .int .i64 z) → Program.keyLits Try.prog (u + 1) 2 [x] = none := by
        intro x hx
        simp only [Program.keyLits, Try.underlying2]
        cases x with
        | int q z =>
          simp only
          by_cases e : q = .i64
          · subst e; exact absurd rfl (hx z)
          · simp [e]
        | _ => rfl
      have hn : ∀ x : Value, (∃ z, x = .int .i64 z) ∨ Program.keyLits Try.prog (u + 1) 2 [x] = none := by
        intro x
        by_cases e : ∃ z, x = .int .i64 z
        · exact .inl e
        · exact .inr (key x fun z e2 => e ⟨z, e2⟩)
      unfold Program.keyLits at h
      simp only [Try.underlying38, hcl, h1c, Value.cells] at h
      have h4 : (Option.map List.flatten ((List.range 4).mapM fun i => Program.keyLits Try.prog (u + 1) 2 (([a, b, c, d].drop (i * 1)).take 1))).isSome = true := by
        simp only [List.length_cons, List.length_nil, Nat.reduceAdd, if_true] at h
        first | (cases h2 : Option.map List.flatten ((List.range 4).mapM fun i => Program.keyLits Try.prog (u + 1) 2 (([a, b, c, d].drop (i * 1)).take 1)) with
          | none => rw [h2] at h; cases h
          | some y => rfl)
      have e4 : ((List.range 4).mapM fun i => Program.keyLits Try.prog (u + 1) 2 (([a, b, c, d].drop (i * 1)).take 1)) = (do let x ← Program.keyLits Try.prog (u + 1) 2 [a]; let y ← Program.keyLits Try.prog (u + 1) 2 [b]; let z ← Program.keyLits Try.prog (u + 1) 2 [c]; let t ← Program.keyLits Try.prog (u + 1) 2 [d]; pure [x, y, z, t]) := by
        simp [List.range, List.range.loop, Option.bind_assoc]
      rw [e4] at h4
      rcases hn a with ⟨a', rfl⟩ | ha
      · rcases hn b with ⟨b', rfl⟩ | hb
        · rcases hn c with ⟨c', rfl⟩ | hc'
          · rcases hn d with ⟨d', rfl⟩ | hd
            · exact ⟨(a', b', c', d'), rfl⟩
            · rw [hd] at h4; simp at h4
          · rw [hc'] at h4; simp at h4
        · rw [hb] at h4; simp at h4
      · rw [ha] at h4; simp at h4
    | _ => simp [Value.formed, Try.underlying38] at hf
  · cases h

/-- The list has just the tiles that are keys of the map, each once. -/
def SetT {H : Type} (D0 : DataW H) (ss : List Tl) : Prop := ss.Nodup ∧ (∀ t ∈ ss, ∃ l, keyOf Try.prog 38 (tv t) = some l) ∧ ∀ t l, keyOf Try.prog 38 (tv t) = some l → (t ∈ ss ↔ Go.Maps.has D0 l = true)
/-- The same of those that are no longer to come. -/
def CollT {H : Type} (D0 : DataW H) (left : Lit → Bool) (ss : List Tl) : Prop := ss.Nodup ∧ (∀ t ∈ ss, ∃ l, keyOf Try.prog 38 (tv t) = some l) ∧ ∀ t l, keyOf Try.prog 38 (tv t) = some l → (t ∈ ss ↔ (Go.Maps.has D0 l = true ∧ left l = false))
theorem CollT.start {H : Type} (D0 : DataW H) : CollT D0 (Go.Maps.has D0) [] := ⟨List.nodup_nil, fun t h => by simp at h, fun t l _ => by cases Go.Maps.has D0 l <;> simp⟩
theorem CollT.step {H : Type} {D0 : DataW H} {left : Lit → Bool} {ss : List Tl} (h : CollT D0 left ss) {x : Tl} {kl : Lit} {y : DataW H} (hk : keyOf Try.prog 38 (tv x) = some kl) (hlk : left kl = true) (hat : ∀ zd, D0.atKey kl zd = y) :
    CollT D0 (fun z => left z && !z.sameKey kl) (ss ++ [x]) := by
  have hhas : Go.Maps.has D0 kl = true := Go.Maps.has_true_of_atKey hat
  have hnew : x ∉ ss := fun hx => by have := ((h.2.2 x kl hk).1 hx).2; rw [hlk] at this; cases this
  refine ⟨List.nodup_append.2 ⟨h.1, by simp, fun a ha b hb => by simp at hb; subst hb; exact fun e => hnew (e ▸ ha)⟩, fun t ht => ?_, fun t l ht => ?_⟩
  · rcases List.mem_append.1 ht with h1 | h1
    · exact h.2.1 t h1
    · simp at h1; subst h1; exact ⟨_, hk⟩
  · obtain ⟨s, hs⟩ := tile_law.str ht
    obtain ⟨s', hs'⟩ := tile_law.str hk
    by_cases hy : t = x
    · subst hy
      rw [ht] at hk
      cases hk
      rw [hs] at hhas
      simp [hhas, hs, Lit.sameKey]
    · have hne : l ≠ kl := fun e => hy (tv_inj (tile_law.inj ht (e ▸ hk)))
      have hne2 : s ≠ s' := fun e => hne (by rw [hs, hs', e])
      rw [List.mem_append, h.2.2 t l ht, hs, hs']
      simp [Lit.sameKey, hne2, hy]
theorem CollT.all {H : Type} {D0 : DataW H} {left : Lit → Bool} {ss : List Tl} (h : CollT D0 left ss) (hl : ∀ kl, left kl = false) : SetT D0 ss := ⟨h.1, h.2.1, fun t l ht => by rw [h.2.2 t l ht, hl]; simp⟩
theorem keys_list {H : Type} (es : List (Lit × H)) (h : ∀ p ∈ es, ∃ t : Tl, keyOf Try.prog 38 (tv t) = some p.1) : ∃ ks : List Tl, ks.map (fun t => keyOf Try.prog 38 (tv t)) = es.map (fun p => some p.1) := by
  induction es with
  | nil => exact ⟨[], rfl⟩
  | cons p es ih =>
    obtain ⟨ks, hks⟩ := ih fun q hq => h q (List.mem_cons_of_mem _ hq)
    obtain ⟨t, ht⟩ := h p (List.mem_cons_self ..)
    exact ⟨t :: ks, by simp [hks, ht]⟩
/-- As many as the map has entries. -/
theorem setT_size {H : Type} {R : Value → Option (DataW H × List MemPlace)} {w : World} {b n : Nat} {D0 : DataW H} (hown : w.ownsMap Try.prog 38 R b n D0) : ∃ ks : List Tl, SetT D0 ks ∧ ks.length = Go.Maps.size D0 := by
  obtain ⟨es, hD, hpw, _⟩ := hown.entries tile_keyed
  obtain ⟨es', hD', hko⟩ := hown.keysOf
  obtain rfl : es = es' := by rw [hD] at hD'; simpa using hD'
  subst hD
  obtain ⟨ks, hks⟩ := keys_list es fun p hp => by
    obtain ⟨v, hv⟩ := hko p hp
    obtain ⟨t, rfl⟩ := keyOf_tile hv
    exact ⟨t, hv⟩
  have hlen : ks.length = es.length := by have := congrArg List.length hks; simpa using this
  refine ⟨ks, ⟨?_, fun t ht => ?_, fun t l ht => ?_⟩, by rw [hlen]; rfl⟩
  · have hnd : (ks.map (fun t => keyOf Try.prog 38 (tv t))).Nodup := by
      rw [hks]
      exact List.pairwise_map.2 (hpw.imp fun {p q} hne e => hne (by simpa using e))
    exact (List.pairwise_map.1 hnd).imp fun {a b} hne e => hne (by rw [e])
  · have : keyOf Try.prog 38 (tv t) ∈ ks.map (fun t => keyOf Try.prog 38 (tv t)) := List.mem_map_of_mem ht
    rw [hks, List.mem_map] at this
    obtain ⟨p, _, e⟩ := this
    exact ⟨_, e.symm⟩
  · rw [Go.Maps.has_eq, List.any_eq_true]
    constructor
    · intro hm
      have : keyOf Try.prog 38 (tv t) ∈ ks.map (fun t => keyOf Try.prog 38 (tv t)) := List.mem_map_of_mem hm
      rw [hks, List.mem_map] at this
      obtain ⟨p, hp, e⟩ := this
      rw [ht] at e
      cases e
      obtain ⟨s, hs⟩ := tile_law.str ht
      exact ⟨p, hp, by rw [hs]; simp [Lit.sameKey]⟩
    · rintro ⟨p, hp, hs⟩
      have : (some p.1 : Option Lit) ∈ es.map (fun p => some p.1) := List.mem_map_of_mem (f := fun p => some p.1) hp
      rw [← hks, List.mem_map] at this
      obtain ⟨t', ht', e⟩ := this
      obtain ⟨s1, hs1⟩ := tile_law.str ht
      obtain ⟨s2, hs2⟩ := tile_law.str e
      rw [hs1, hs2] at hs
      have e2 : s2 = s1 := by simpa [Lit.sameKey] using hs
      have : tv t' = tv t := tile_law.inj e (by rw [ht, hs1, hs2, e2])
      rw [← tv_inj this]
      exact ht'
theorem SetT.perm {H : Type} {D0 : DataW H} {ks ss : List Tl} (h : SetT D0 ks) (h' : SetT D0 ss) : ks.Perm ss := by
  refine (List.perm_ext_iff_of_nodup h.1 h'.1).2 fun t => ?_
  constructor
  · intro ht
    obtain ⟨l, hl⟩ := h.2.1 t ht
    exact (h'.2.2 t l hl).2 ((h.2.2 t l hl).1 ht)
  · intro ht
    obtain ⟨l, hl⟩ := h'.2.1 t ht
    exact (h.2.2 t l hl).2 ((h'.2.2 t l hl).1 ht)
/-- The keys of a map that has just the tiles of a list. -/
theorem SetT.sorted {H : Type} {D0 : DataW H} {ss ts : List Tl} (h : SetT D0 ss) (hts : ∀ t ∈ ts, ∃ l, keyOf Try.prog 38 (tv t) = some l)
    (hhas : ∀ t l, keyOf Try.prog 38 (tv t) = some l → (Go.Maps.has D0 l = true ↔ ∃ x, x < ts.length ∧ ts.getD x T0 = t)) : sortT ss = sortT ts := by
  refine asc_eq (sortT_asc _) (sortT_asc _) fun y => ?_
  rw [sortT_mem, sortT_mem]
  have hmem : ∀ t, (∃ x, x < ts.length ∧ ts.getD x T0 = t) ↔ t ∈ ts := by
    intro t
    constructor
    · rintro ⟨x, hx, rfl⟩
      simp [List.getD, hx]
    · intro ht
      obtain ⟨x, hx, e⟩ := List.getElem_of_mem ht
      exact ⟨x, hx, by simp [List.getD, hx, e]⟩
  constructor
  · intro hy
    obtain ⟨l, hl⟩ := h.2.1 y hy
    exact (hmem y).1 ((hhas y l hl).1 ((h.2.2 y l hl).1 hy))
  · intro hy
    obtain ⟨l, hl⟩ := hts y hy
    exact (h.2.2 y l hl).2 ((hhas y l hl).2 ((hmem y).2 hy))
theorem sortT_nodup_len {ss : List Tl} (h : ss.Nodup) : (sortT ss).length = ss.length := by rw [← sortM_eq h, sortM_len]
end

section
set_option linter.unusedVariables false
set_option linter.unusedSimpArgs false
open Go.RowKit Go.Shelf Go.Maps

attribute [local go_sem] Oper.semAt_some

set_option maxRecDepth 100000 in
set_option maxHeartbeats 2000000 in
theorem keysT_in (n l Bm b nn : Nat) (D0 : DataW Unit) (hn : 1 ≤ n) (J Jx : List Tl → World → Prop)
    (hY : ∀ pre x W, J pre W → pre.length < Go.Maps.size D0 → YieldAt Fence.wide (n - 1) Try.prog l #[tv x] W fun e W' =>
      (e = .returned (.bool true) ∧ J (pre ++ [x]) W' ∧ KeepsWalks W W') ∨ (e = .returned (.bool false) ∧ Jx (pre ++ [x]) W'))
    (W : World) (hJ : AbidesFrom W.heap.size J) (hm : W.cell? ⟨Bm, 0, none⟩ = some (.map (some b))) (hown : W.ownsMap Try.prog 38 (plainElem Try.prog 4) b nn D0) (h0 : J [] W) :
    CallsIn Fence.wide n Try.prog 105 #[.func (.yield l) #[] #[], .pointer (some ⟨Bm, 0, none⟩)] W fun e W' => (∃ v, e = .returned v) ∧ ((∃ ss : List Tl, SetT D0 ss ∧ J ss W') ∨ (∃ pre, True ∧ Jx pre W')) := by
  refine callsIn_of_wp Try.func105 rfl trivial ?_ rfl
  simp only [Try.ntmps105, List.size_toArray, List.length_cons, List.length_nil, Nat.reduceAdd, Nat.reduceSub, Array.replicate_succ, Array.replicate_zero, List.push_toArray, List.append_toArray, List.nil_append, List.cons_append]
  gi_wp2_with (first
    | (gi_at_range; refine wpListIn_range_own _ rfl _ _ rfl 38 4 tile_keyed Try.underlying89 _ b nn _ rfl hown ?_; intro w0 hrg0 hg0 hs0)
    | gi_in)
  go_frame
  gi_loopw [3] (fun _ wr => ∃ (left : Lit → Bool) (cnt : Nat) (ss : List Tl), wr.ranges Try.prog 38 (plainElem Try.prog 4) b W.heap.size nn D0 left cnt ∧ ss.length + cnt ≤ Go.Maps.size D0 ∧ CollT D0 left ss ∧ J ss wr)
    (fun _ wr => wr.rangeLeft b W.heap.size)
  case atStart =>
    exact ⟨_, _, [], hrg0, by simp, CollT.start D0, hJ [] W w0 none h0 hg0 (fun r e => by cases e)⟩
  case round =>
    obtain ⟨left, cnt, ss, hrg, hcs, hC, hJs⟩ := hrel
    gi_wp2_with (first
      | (gi_at_next; refine wpListIn_next_ranges _ rfl _ rfl 38 tile_keyed (plainElem Try.prog 4) tv id (fun key kl hk => keyOf_tile hk) (fun v _ _ => ⟨v, rfl⟩) b W.heap.size nn _ _ _ rfl hrg ?_ ?_)
      | gi_in)
    · intro hc0 hl0
      gi_wp2
      go_end0
      exact ⟨⟨_, rfl⟩, .inl ⟨ss, hC.all hl0, hJs⟩⟩
    · intro x0 x1 x2 x3 c kl yd yp w2 cnt2 hkey hlk hv hat hrg2 hlt hg2 hs2 hen
      have hC2 := hC.step hkey hlk hat
      have hJ2a : J ss (w2.alloc (Obj.cells #[.int .i64 x0, .int .i64 x1, .int .i64 x2, .int .i64 x3] 38)) := hJ ss w2 _ none (hJ ss wr w2 (some W.heap.size) hJs hg2 (fun r e => by cases e; exact ⟨Nat.le_refl _, hrg.iter_walk⟩)) (World.grownBy_alloc w2 _ none) (fun r e => by cases e)
      obtain ⟨fn, tmps, assign, body, hy, hR⟩ := hY ss (x0, x1, x2, x3) _ hJ2a (by omega)
      have hrg2a := hrg2.of_walks (KeepsWalks.alloc w2 (Obj.cells #[.int .i64 x0, .int .i64 x1, .int .i64 x2, .int .i64 x3] 38))
      clear hs2 hJ2a
      simp only [tv] at hy hR hen
      gi_wp2
      refine hR.mono ?_
      rintro e W3 (⟨rfl, hJ3, hk3⟩ | ⟨rfl, hJx3⟩)
      · gi_wp2
        have hrg3 := hrg2a.of_walks hk3
        go_roundw
        case rel => exact ⟨_, cnt2, ss ++ [(x0, x1, x2, x3)], hrg3, by simp; omega, hC2, hJ3⟩
        case measure => rw [hrg3.left_eq, hrg.left_eq]; exact hlt
      · gi_wp2
        refine bodyPost_ret (results_none rfl _ _ _) rfl ?_
        exact ⟨⟨_, rfl⟩, .inr ⟨ss ++ [(x0, x1, x2, x3)], trivial, hJx3⟩⟩

theorem keysT_stops (n Bm b nn : Nat) (D0 : DataW Unit) (hn : 1 ≤ n) (w : World) (hBm : Bm < w.heap.size) (hm : w.cell? ⟨Bm, 0, none⟩ = some (.map (some b))) (hown : w.ownsMap Try.prog 38 (plainElem Try.prog 4) b nn D0) :
    SeqStopsK Fence.wide n Try.prog 105 #[.pointer (some ⟨Bm, 0, none⟩)] (fun x : Tl => #[tv x]) KeepsWalks (fun ss => SetT D0 ss) (fun _ => True) (Go.Maps.size D0) w := fun l J Jx W hW hJ _ hY h0 => by
  have hown' : W.ownsMap Try.prog 38 (plainElem Try.prog 4) b nn D0 := by
    have hbl := hown.lt
    obtain ⟨es, clock, hb, Ft, hs, hD⟩ := hown
    exact ⟨es, clock, (hW.block b hbl).trans hb, Ft, hs, hD⟩
  exact keysT_in n l Bm b nn D0 hn J Jx hY W hJ ((hW.cell (p := ⟨Bm, 0, none⟩) hBm).trans hm) hown' h0

theorem keys_any (mb : Option Nat) (w : World) :
    Calls Try.prog 73 #[.map mb] w fun e w' => e = .returned (.func (.func 105) #[] #[.pointer (some ⟨w.heap.size, 0, none⟩)]) ∧ w' = w.alloc (.cells #[.map mb] 89) := by
  go_enter Try.func73, Try.ntmps73
  go_wp2_with fail
  go_ret
  exact ⟨rfl, rfl⟩
end

section
set_option linter.unusedVariables false
set_option linter.unusedSimpArgs false
open Go.RowKit Go.Shelf

attribute [local go_sem] Oper.semAt_some

theorem own_base {W : World} {base base' : Nat} {e : TypeId} {size : Nat} {v : Value} {k : Nat} {xs : List Value} (h : W.ownsRow base e size v k xs) (hb : base' ≤ base) : W.ownsRow base' e size v k xs := by
  refine ⟨h.1, ?_⟩
  rcases h.2 with hn | ⟨g, cap, cur, hv, hbg, rest⟩
  · exact .inl hn
  · exact .inr ⟨g, cap, cur, hv, Nat.le_trans hb hbg, rest⟩
theorem enc_new (W : World) (x0 x1 x2 x3 : Int) : ∀ j u, (enc (x0, x1, x2, x3))[j]? = some u → (W.alloc (Obj.cells #[.int .i64 x0, .int .i64 x1, .int .i64 x2, .int .i64 x3] 38)).cell? ((⟨W.heap.size, 0, none⟩ : Addr).add j) = some u := by
  intro j u hj
  match j, hj with
  | 0, hj => simp [enc] at hj; subst hj; simp [Addr.add]
  | 1, hj => simp [enc] at hj; subst hj; simp [Addr.add]
  | 2, hj => simp [enc] at hj; subst hj; simp [Addr.add]
  | 3, hj => simp [enc] at hj; subst hj; simp [Addr.add]
  | n + 4, hj => simp [enc] at hj
set_option maxRecDepth 100000 in
set_option maxHeartbeats 4000000 in
theorem appendSeq_in (m : Nat) (hm : 3 ≤ m) (Bm b nn : Nat) (D0 : DataW Unit) (w : World) (hBm : Bm < w.heap.size) (hcell : w.cell? ⟨Bm, 0, none⟩ = some (.map (some b))) (hown : w.ownsMap Try.prog 38 (plainElem Try.prog 4) b nn D0) (hsz : Go.Maps.size D0 ≤ 65536) :
    CallsIn Fence.wide m Try.prog 104 #[.slice none 0 0, .func (.func 105) #[] #[.pointer (some ⟨Bm, 0, none⟩)]] w fun e W' => ∃ v ss, e = .returned v ∧ SetT D0 ss ∧ W'.ownsRow w.heap.size 38 4 v ss.length (flat ss) ∧ Below w.heap.size w W' := by
  obtain ⟨i0, hi0, hz0, hz1, hz2⟩ := info_parts info_tile
  have h1 : 1 ≤ m := by omega
  refine callsIn_of_wp_marks Try.func104 rfl trivial ?_ rfl
  simp only [Try.ntmps104, List.size_toArray, List.length_cons, List.length_nil, Nat.reduceAdd, Nat.reduceSub, Array.replicate_succ, Array.replicate_zero, List.push_toArray, List.append_toArray, List.nil_append, List.cons_append]
  gi_wp2
  obtain ⟨W3, hW3⟩ : ∃ W3, w.alloc (Obj.cells #[.slice none 0 0] 24) = W3 := ⟨_, rfl⟩
  have hs3 : W3.heap.size = w.heap.size + 1 := by rw [← hW3]; simp
  have hx3 : Ext w W3 := by rw [← hW3]; exact (Ext.refl w).alloc _
  have bO : Boxed W3 w.heap.size 24 (.slice none 0 0) := by rw [← hW3]; exact Boxed.new w _ _
  rw [hW3]
  clear hW3
  have hbel := hx3.below (Nat.le_refl _)
  have hown3 : W3.ownsMap Try.prog 38 (plainElem Try.prog 4) b nn D0 := ownsMap_ext hown hx3
  refine wpIn_rangeFunc_ownH rfl h1 (gf := 105) (lb := #[.pointer (some ⟨Bm, 0, none⟩)]) rfl trivial (enters_of Try.func105 (by kernel_rfl) rfl)
    (keysT_stops (m - 1) Bm b nn D0 (by omega) W3 (by omega) ((hbel.cell (p := ⟨Bm, 0, none⟩) hBm).trans hcell) hown3)
    walksK_t (fun W l o o' hl ho hc hw => KeepsWalks.putObj _ ho hw) (Below.refl _ _) (fun _ => rfl)
    (fun pre W => (∃ v, Boxed W w.heap.size 24 v ∧ W.ownsRow W3.heap.size 38 4 v pre.length (flat pre) ∧ True) ∧ Below w.heap.size W3 W)
    (fun _ _ _ => False)
    (OwnFrom.and (Own.from (holdsRow_own W3.heap.size w.heap.size 24 38 4 (fun pre => pre.length) (fun pre => flat pre) (fun _ _ => True)) _) (ownFrom_below (by omega) (by omega)))
    (fun _ _ _ _ _ hs _ _ => hs)
    ⟨⟨_, bO, World.ownsRow_nil _ _ _ _, trivial⟩, Below.refl _ _⟩
    (fun x a' W => ∃ Bx, W3.heap.size ≤ Bx ∧ Blk W Bx 38 (encA x) ∧ a' = { tmps := #[.slice none 0 0, (.func (.func 105) #[] #[.pointer (some ⟨Bm, 0, none⟩)]), .pointer (some ⟨w.heap.size, 0, none⟩), undef, .slice none 0 0, .pointer (some ⟨Bx, 0, none⟩), (.func (.func 105) #[] #[.pointer (some ⟨Bm, 0, none⟩)]), tv x, undef, undef, undef, undef, undef], defers := [] })
    (by rintro x a' _ W W' row ⟨Bx, e1, e2, e3⟩ hg hr; exact ⟨Bx, e1, (hg.block Bx e2.lt (fun e => by obtain ⟨_, o, ho, hc⟩ := hr Bx e.symm; rw [show W.heap[Bx]? = _ from e2] at ho; cases ho; cases hc)).trans e2, e3⟩) ?assign ?body ?done ?stop
  case assign =>
    rintro l pre ⟨x0, x1, x2, x3⟩ W K ⟨⟨v, hv, hrow, -⟩, hB⟩ hK
    simp only [tv]
    have hWs := hB.size
    gi_wp2
    exact hK _ _ ((KeepsOthers.alloc _ _).from _) (KeepsWalks.alloc _ _) ⟨⟨v, hv.alloc _, hrow.alloc _, trivial⟩, hB.alloc (by omega) _⟩ ⟨W.heap.size, by omega, Blk.new W _ _, rfl⟩
  case body =>
    rintro l pre x a' W hl ⟨r, hr⟩ ⟨⟨v, hv, hrow, -⟩, hB⟩ ⟨Bx, hBx, bX, rfl⟩ hlt
    have hc := hv.cell
    have hlow := own_base hrow (show w.heap.size ≤ W3.heap.size by omega)
    have hWs := hB.size
    have hW3 := (hrow.lt)
    obtain ⟨x0, x1, x2, x3⟩ := x
    simp only [tv]
    have y0 := bX.rd 0 (v := .int .i64 x0) rfl
    have y1 := bX.rd 1 (v := .int .i64 x1) rfl
    have y2 := bX.rd 2 (v := .int .i64 x2) rfl
    have y3 := bX.rd 3 (v := .int .i64 x3) rfl
    gi_wp2_with (gi_at_builtin; refine wpListIn_append_own _ rfl _ _ 24 rfl W3.heap.size 38 i0 _ 4 32 Try.underlying24 hi0 hz0 hz1 hz2 rfl (by decide) _ _ _ rfl (hrow.alloc _) ⟨W.heap.size, 0, none⟩ 1 1 (enc (x0, x1, x2, x3)) rfl rfl (enc_new _ _ _ _ _) (by simp [Value.oneCell', enc]) (by unfold maxLen; omega) (by omega) (by simp; omega) ?_; intro v' w1 hown' hgrow _; obtain ⟨g', cap', rfl⟩ := ownsRow_succ hown'; have hlow' := own_base hown' (show w.heap.size ≤ W3.heap.size by omega); obtain ⟨hv1, hv2, hr2, hk2, hb2⟩ := hv.appended (by decide) hlow (by omega) (Nat.le_refl _) hlow' hgrow; have hc1 := hv1.cell; have hf1 := hv1.frozen)
    refine ⟨hk2.from _, hk2.walks, ⟨_, hv2, ?_, trivial⟩, hB.trans hb2⟩
    have := hown'.kept (grownBy_setCell' w1 w.heap.size (.slice (some ⟨g', 0, none⟩) (pre.length + 1) cap')) (.inr (hv1.not_row (by decide) hown').symm)
    rw [flat_snoc]
    simpa using this
  case done =>
    rintro D ys W hD hset ⟨⟨v, hv, hrow, -⟩, hB⟩ hK
    have hc := hv.cell
    gi_wp2
    refine ⟨by simp, .inl ⟨_, _, rfl, run_takeDeferred hK, ?_⟩⟩
    have hb4 := belowK_b (w := w) (Nat.le_refl _) W D _ (.deferred none) (by omega) hK rfl rfl
    exact ⟨_, results_tmp rfl _ _ _, v, ys, rfl, hset, ownsRow_putObj (own_base hrow (by omega)) _ hK rfl, hbel.trans (hB.trans hb4)⟩
  case stop =>
    rintro D c pre W _ _ h _
    exact h.elim
set_option maxRecDepth 100000 in
/-- 'slices.Collect(maps.Keys(m))'. -/
theorem collect_any (Bm b nn : Nat) (D0 : DataW Unit) (w : World) (hBm : Bm < w.heap.size) (hcell : w.cell? ⟨Bm, 0, none⟩ = some (.map (some b))) (hown : w.ownsMap Try.prog 38 (plainElem Try.prog 4) b nn D0) (hsz : Go.Maps.size D0 ≤ 65536) :
    Calls Try.prog 72 #[.func (.func 105) #[] #[.pointer (some ⟨Bm, 0, none⟩)]] w fun e W' => ∃ v ss, e = .returned v ∧ SetT D0 ss ∧ W'.ownsRow w.heap.size 38 4 v ss.length (flat ss) ∧ Below w.heap.size w W' := by
  refine (callsIn_wide (n := 8)).1 ?_
  refine callsIn_of_wp Try.func72 rfl trivial ?_ rfl
  simp only [Try.ntmps72, List.size_toArray, List.length_cons, List.length_nil, Nat.reduceAdd, Nat.reduceSub, Array.replicate_succ, Array.replicate_zero, List.push_toArray, List.append_toArray, List.nil_append, List.cons_append]
  gi_wp2
  refine ⟨trivial, (appendSeq_in 7 (by omega) Bm b nn D0 w hBm hcell hown hsz).mono ?_⟩
  rintro e w' ⟨v, ss, rfl, hS, hrow, hb⟩
  gi_wp2
  go_ret
  exact ⟨v, ss, rfl, hS, hrow, hb⟩
end
end Go.Proofs.Ytfhdgilddnndcaa
