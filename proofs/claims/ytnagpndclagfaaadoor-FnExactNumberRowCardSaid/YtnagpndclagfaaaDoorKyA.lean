/- Tiles out of a map: which they are, and how many. -/
import Derived.Test.YtnagpndclagfaaaDoorCom1
import Derived.Test.YtnagpndclagfaaaDoorSBridge
import Derived.Maps.Range
import Derived.Sort.KeysCollected
import Derived.Lib.Hide
import Derived.RangeFuncBox
import Derived.RangeFuncLeaves
import Derived.RangeFuncGives
import Derived.Shelf.Abstract
import Derived.WalkKit
import Derived.OwnWalkIn
import Derived.TacticsInMore
import Derived.LoopNIn
import Derived.LoopIn
import Derived.Maps.AppendAt
import Derived.Maps.OwnIn
import Derived.Sort.MapsRangeIn
import Derived.Test.YtnagpndclagfaaaDoorJn3
import Derived.RangeFuncNested
namespace Go.Proofs.YtnagpndclagfaaaDoor
section
set_option linter.unusedVariables false
set_option linter.unusedSimpArgs false
open Go.RowKit Go.Sort

set_option maxRecDepth 100000 in
set_option maxHeartbeats 4000000 in
/-- What reads as a key of tiles is a tile. -/
theorem keyOf_tile {v : Value} {l : Lit} (h : keyOf Tryd.prog 56 v = some l) : ∃ t : Tl, v = tv t := by
  unfold keyOf at h
  rw [Tryd.underlying56] at h
  have hcl : Tryd.prog.cellsOf 56 = 4 := by kernel_rfl
  have h1c : Tryd.prog.cellsOf 2 = 1 := by kernel_rfl
  simp only at h
  split at h
  · rename_i hc
    rw [Bool.and_eq_true] at hc
    have hf := hc.2
    cases v with
    | agg cs =>
      simp only [Value.formed, Tryd.underlying56, hcl, beq_iff_eq] at hf
      obtain ⟨a, b, c, d, rfl⟩ : ∃ a b c d, cs = #[a, b, c, d] := by
        obtain ⟨L⟩ := cs
        match L, hf with
        | [a, b, c, d], _ => exact ⟨a, b, c, d, rfl⟩
      obtain ⟨u, hu⟩ : ∃ u, Tryd.prog.types.size = u + 1 := ⟨Tryd.prog.types.size - 1, by have : 0 < Tryd.prog.types.size := of_decide_eq_true (by kernel_rfl); omega⟩
      rw [hu] at h
      have key : ∀ x : Value, (∀ z, x ≠ .int .i64 z) → Program.keyLits Tryd.prog (u + 1) 2 [x] = none := by
        intro x hx
        simp only [Program.keyLits, Tryd.underlying2]
        cases x with
        | int q z =>
          simp only
          by_cases e : q = .i64
          · subst e; exact absurd rfl (hx z)
          · simp [e]
        | _ => rfl
      have hn : ∀ x : Value, (∃ z, x = .int .i64 z) ∨ Program.keyLits Tryd.prog (u + 1) 2 [x] = none := by
        intro x
        by_cases e : ∃ z, x = .int .i64 z
        · exact .inl e
        · exact .inr (key x fun z e2 => e ⟨z, e2⟩)
      unfold Program.keyLits at h
      simp only [Tryd.underlying56, hcl, h1c, Value.cells] at h
      have h4 : (Option.map List.flatten ((List.range 4).mapM fun i => Program.keyLits Tryd.prog (u + 1) 2 (([a, b, c, d].drop (i * 1)).take 1))).isSome = true := by
        simp only [List.length_cons, List.length_nil, Nat.reduceAdd, if_true] at h
        first | (cases h2 : Option.map List.flatten ((List.range 4).mapM fun i => Program.keyLits Tryd.prog (u + 1) 2 (([a, b, c, d].drop (i * 1)).take 1)) with
          | none => rw [h2] at h; cases h
          | some y => rfl)
      have e4 : ((List.range 4).mapM fun i => Program.keyLits Tryd.prog (u + 1) 2 (([a, b, c, d].drop (i * 1)).take 1)) = (do let x ← Program.keyLits Tryd.prog (u + 1) 2 [a]; let y ← Program.keyLits Tryd.prog (u + 1) 2 [b]; let z ← Program.keyLits Tryd.prog (u + 1) 2 [c]; let t ← Program.keyLits Tryd.prog (u + 1) 2 [d]; pure [x, y, z, t]) := by
        simp [List.range, List.range.loop, Option.bind_assoc]
      rw [e4] at h4
      rcases hn a with ⟨a', rfl⟩ | ha
      · rcases hn b with ⟨b', rfl⟩ | hb
        · rcases hn c with ⟨c', rfl⟩ | hc'
          · rcases hn d with ⟨d', rfl⟩ | hd
            · exact ⟨(a', b', c', d'), rfl⟩
            · rw [hd] at h4; simp at h4
          · rw [hc'] at h4; simp at h4
        · rw [hb] at h4; simp at h4
      · rw [ha] at h4; simp at h4
    | _ => simp [Value.formed, Tryd.underlying56] at hf
  · cases h

/-- The list has just the tiles that are keys of the map, each once. -/
def SetT {H : Type} (D0 : DataW H) (ss : List Tl) : Prop := ss.Nodup ∧ (∀ t ∈ ss, ∃ l, keyOf Tryd.prog 56 (tv t) = some l) ∧ ∀ t l, keyOf Tryd.prog 56 (tv t) = some l → (t ∈ ss ↔ Go.Maps.has D0 l = true)
/-- The same of those that are no longer to come. -/
def CollT {H : Type} (D0 : DataW H) (left : Lit → Bool) (ss : List Tl) : Prop := ss.Nodup ∧ (∀ t ∈ ss, ∃ l, keyOf Tryd.prog 56 (tv t) = some l) ∧ ∀ t l, keyOf Tryd.prog 56 (tv t) = some l → (t ∈ ss ↔ (Go.Maps.has D0 l = true ∧ left l = false))
theorem CollT.start {H : Type} (D0 : DataW H) : CollT D0 (Go.Maps.has D0) [] := ⟨List.nodup_nil, fun t h => by simp at h, fun t l _ => by cases Go.Maps.has D0 l <;> simp⟩
theorem CollT.step {H : Type} {D0 : DataW H} {left : Lit → Bool} {ss : List Tl} (h : CollT D0 left ss) {x : Tl} {kl : Lit} {y : DataW H} (hk : keyOf Tryd.prog 56 (tv x) = some kl) (hlk : left kl = true) (hat : ∀ zd, D0.atKey kl zd = y) :
    CollT D0 (fun z => left z && !z.sameKey kl) (ss ++ [x]) := by
  have hhas : Go.Maps.has D0 kl = true := Go.Maps.has_true_of_atKey hat
  have hnew : x ∉ ss := fun hx => by have := ((h.2.2 x kl hk).1 hx).2; rw [hlk] at this; cases this
  refine ⟨List.nodup_append.2 ⟨h.1, by simp, fun a ha b hb => by simp at hb; subst hb; exact fun e => hnew (e ▸ ha)⟩, fun t ht => ?_, fun t l ht => ?_⟩
  · rcases List.mem_append.1 ht with h1 | h1
    · exact h.2.1 t h1
    · simp at h1; subst h1; exact ⟨_, hk⟩
  · obtain ⟨s, hs⟩ := tile_law.str ht
    obtain ⟨s', hs'⟩ := tile_law.str hk
    by_cases hy : t = x
    · subst hy
      rw [ht] at hk
      cases hk
      rw [hs] at hhas
      simp [hhas, hs, Lit.sameKey]
    · have hne : l ≠ kl := fun e => hy (tv_inj (tile_law.inj ht (e ▸ hk)))
      have hne2 : s ≠ s' := fun e => hne (by rw [hs, hs', e])
      rw [List.mem_append, h.2.2 t l ht, hs, hs']
      simp [Lit.sameKey, hne2, hy]
theorem CollT.all {H : Type} {D0 : DataW H} {left : Lit → Bool} {ss : List Tl} (h : CollT D0 left ss) (hl : ∀ kl, left kl = false) : SetT D0 ss := ⟨h.1, h.2.1, fun t l ht => by rw [h.2.2 t l ht, hl]; simp⟩
theorem keys_list {H : Type} (es : List (Lit × H)) (h : ∀ p ∈ es, ∃ t : Tl, keyOf Tryd.prog 56 (tv t) = some p.1) : ∃ ks : List Tl, ks.map (fun t => keyOf Tryd.prog 56 (tv t)) = es.map (fun p => some p.1) := by
  induction es with
  | nil => exact ⟨[], rfl⟩
  | cons p es ih =>
    obtain ⟨ks, hks⟩ := ih fun q hq => h q (List.mem_cons_of_mem _ hq)
    obtain ⟨t, ht⟩ := h p (List.mem_cons_self ..)
    exact ⟨t :: ks, by simp [hks, ht]⟩
/-- As many as the map has entries. -/
theorem setT_size {H : Type} {R : Value → Option (DataW H × List MemPlace)} {w : World} {b n : Nat} {D0 : DataW H} (hown : w.ownsMap Tryd.prog 56 R b n D0) : ∃ ks : List Tl, SetT D0 ks ∧ ks.length = Go.Maps.size D0 := by
  obtain ⟨es, hD, hpw, _⟩ := hown.entries tile_keyed
  obtain ⟨es', hD', hko⟩ := hown.keysOf
  obtain rfl : es = es' := by rw [hD] at hD'; simpa using hD'
  subst hD
  obtain ⟨ks, hks⟩ := keys_list es fun p hp => by
    obtain ⟨v, hv⟩ := hko p hp
    obtain ⟨t, rfl⟩ := keyOf_tile hv
    exact ⟨t, hv⟩
  have hlen : ks.length = es.length := by have := congrArg List.length hks; simpa using this
  refine ⟨ks, ⟨?_, fun t ht => ?_, fun t l ht => ?_⟩, by rw [hlen]; rfl⟩
  · have hnd : (ks.map (fun t => keyOf Tryd.prog 56 (tv t))).Nodup := by
      rw [hks]
      exact List.pairwise_map.2 (hpw.imp fun {p q} hne e => hne (by simpa using e))
    exact (List.pairwise_map.1 hnd).imp fun {a b} hne e => hne (by rw [e])
  · have : keyOf Tryd.prog 56 (tv t) ∈ ks.map (fun t => keyOf Tryd.prog 56 (tv t)) := List.mem_map_of_mem ht
    rw [hks, List.mem_map] at this
    obtain ⟨p, _, e⟩ := this
    exact ⟨_, e.symm⟩
  · rw [Go.Maps.has_eq, List.any_eq_true]
    constructor
    · intro hm
      have : keyOf Tryd.prog 56 (tv t) ∈ ks.map (fun t => keyOf Tryd.prog 56 (tv t)) := List.mem_map_of_mem hm
      rw [hks, List.mem_map] at this
      obtain ⟨p, hp, e⟩ := this
      rw [ht] at e
      cases e
      obtain ⟨s, hs⟩ := tile_law.str ht
      exact ⟨p, hp, by rw [hs]; simp [Lit.sameKey]⟩
    · rintro ⟨p, hp, hs⟩
      have : (some p.1 : Option Lit) ∈ es.map (fun p => some p.1) := List.mem_map_of_mem (f := fun p => some p.1) hp
      rw [← hks, List.mem_map] at this
      obtain ⟨t', ht', e⟩ := this
      obtain ⟨s1, hs1⟩ := tile_law.str ht
      obtain ⟨s2, hs2⟩ := tile_law.str e
      rw [hs1, hs2] at hs
      have e2 : s2 = s1 := by simpa [Lit.sameKey] using hs
      have : tv t' = tv t := tile_law.inj e (by rw [ht, hs1, hs2, e2])
      rw [← tv_inj this]
      exact ht'
theorem SetT.perm {H : Type} {D0 : DataW H} {ks ss : List Tl} (h : SetT D0 ks) (h' : SetT D0 ss) : ks.Perm ss := by
  refine (List.perm_ext_iff_of_nodup h.1 h'.1).2 fun t => ?_
  constructor
  · intro ht
    obtain ⟨l, hl⟩ := h.2.1 t ht
    exact (h'.2.2 t l hl).2 ((h.2.2 t l hl).1 ht)
  · intro ht
    obtain ⟨l, hl⟩ := h'.2.1 t ht
    exact (h.2.2 t l hl).2 ((h'.2.2 t l hl).1 ht)
/-- The keys of a map that has just the tiles of a list. -/
theorem SetT.sorted {H : Type} {D0 : DataW H} {ss ts : List Tl} (h : SetT D0 ss) (hts : ∀ t ∈ ts, ∃ l, keyOf Tryd.prog 56 (tv t) = some l)
    (hhas : ∀ t l, keyOf Tryd.prog 56 (tv t) = some l → (Go.Maps.has D0 l = true ↔ ∃ x, x < ts.length ∧ ts.getD x T0 = t)) : sortT ss = sortT ts := by
  refine asc_eq (sortT_asc _) (sortT_asc _) fun y => ?_
  rw [sortT_mem, sortT_mem]
  have hmem : ∀ t, (∃ x, x < ts.length ∧ ts.getD x T0 = t) ↔ t ∈ ts := by
    intro t
    constructor
    · rintro ⟨x, hx, rfl⟩
      simp [List.getD, hx]
    · intro ht
      obtain ⟨x, hx, e⟩ := List.getElem_of_mem ht
      exact ⟨x, hx, by simp [List.getD, hx, e]⟩
  constructor
  · intro hy
    obtain ⟨l, hl⟩ := h.2.1 y hy
    exact (hmem y).1 ((hhas y l hl).1 ((h.2.2 y l hl).1 hy))
  · intro hy
    obtain ⟨l, hl⟩ := hts y hy
    exact (h.2.2 y l hl).2 ((hhas y l hl).2 ((hmem y).2 hy))
theorem sortT_nodup_len {ss : List Tl} (h : ss.Nodup) : (sortT ss).length = ss.length := by rw [← sortM_eq h, sortM_len]
end

section
set_option linter.unusedVariables false
set_option linter.unusedSimpArgs false
open Go.RowKit Go.Shelf Go.Maps

attribute [local go_sem] Oper.semAt_some

end

section
set_option linter.unusedVariables false
set_option linter.unusedSimpArgs false
open Go.RowKit Go.Shelf

attribute [local go_sem] Oper.semAt_some

theorem own_base {W : World} {base base' : Nat} {e : TypeId} {size : Nat} {v : Value} {k : Nat} {xs : List Value} (h : W.ownsRow base e size v k xs) (hb : base' ≤ base) : W.ownsRow base' e size v k xs := by
  refine ⟨h.1, ?_⟩
  rcases h.2 with hn | ⟨g, cap, cur, hv, hbg, rest⟩
  · exact .inl hn
  · exact .inr ⟨g, cap, cur, hv, Nat.le_trans hb hbg, rest⟩
theorem enc_new (W : World) (x0 x1 x2 x3 : Int) : ∀ j u, (enc (x0, x1, x2, x3))[j]? = some u → (W.alloc (Obj.cells #[.int .i64 x0, .int .i64 x1, .int .i64 x2, .int .i64 x3] 56)).cell? ((⟨W.heap.size, 0, none⟩ : Addr).add j) = some u := by
  intro j u hj
  match j, hj with
  | 0, hj => simp [enc] at hj; subst hj; simp [Addr.add]
  | 1, hj => simp [enc] at hj; subst hj; simp [Addr.add]
  | 2, hj => simp [enc] at hj; subst hj; simp [Addr.add]
  | 3, hj => simp [enc] at hj; subst hj; simp [Addr.add]
  | n + 4, hj => simp [enc] at hj
end
end Go.Proofs.YtnagpndclagfaaaDoor
