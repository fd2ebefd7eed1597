/- The arguments of the laws, opened: a set, a tile; and the end of a row whose call leaves all that was there. -/
import Derived.Test.YtleabblnikbmpaaTA
import Derived.Test.YtleabblnikbmpaaRows
import Derived.ProofKit
import Derived.OpenShut
import Derived.Lib.SmallJoins
import Derived.Deep.Slices
import Derived.Laws.IdiomArrays
namespace Go.Proofs.Ytleabblnikbmpaa
set_option linter.unusedVariables false
set_option linter.unusedSimpArgs false
open Go.RowKit Go.Sort Go.ChangeShapes Go.WideShapes Go.ChangeAt Go.Joins Go.Deep

theorem own : ownKnob Try.prog.godebug = none := by kernel_rfl
theorem laidOut : laidOutB Try.prog = true := by kernel_rfl
theorem cells2 : Try.prog.cellsOf 2 = 1 := by kernel_rfl
theorem cells4 : Try.prog.cellsOf 68 = 4 := by kernel_rfl
theorem cellsS : Try.prog.cellsOf 24 = 2 := by kernel_rfl
theorem list4 {α : Type} (l : List α) (h : l.length = 4) : ∃ a b c d, l = [a, b, c, d] := by
  match l, h with
  | [a, b, c, d], _ => exact ⟨a, b, c, d, rfl⟩

section
variable {H : Type} {enc' : TypeId × Value → H} {W : World}

theorem open_tiles {fuel : Nat} {cs : List Value} {x : DataW H × List MemPlace} (h : DataW.trod enc' Try.prog W 0 (fun _ => true) true fuel 22 cs = some x) :
    ∃ (A : Option Addr) (n c : Nat) (ts : List Tl), cs = [.slice A n c] ∧ n ≤ maxLen ∧ ts.length = n ∧ TR W W.heap.size A ts := by
  rcases open_slice Try.underlying22 h with ⟨rfl, rfl⟩ | ⟨a, len, cap, m, k, D, Pl, rfl, hb, hl, hm, hmm, hx, hi⟩
  · exact ⟨none, 0, 0, [], rfl, Nat.zero_le _, rfl, fun h0 => absurd h0 (Nat.lt_irrefl _)⟩
  · simp only [if_true] at hmm
    subst hmm
    rw [cells4] at hi
    have key : ∀ i, i < m → ∃ t : Tl, (W.cell? (a.add (i * 4)) = some (.int .i64 t.1) ∧ W.cell? ((a.add (i * 4)).add 1) = some (.int .i64 t.2.1) ∧ W.cell? ((a.add (i * 4)).add 2) = some (.int .i64 t.2.2.1) ∧ W.cell? ((a.add (i * 4)).add 3) = some (.int .i64 t.2.2.2)) := by
      intro i him
      obtain ⟨cs', hc, ht⟩ := hi i him
      obtain ⟨_, hlen, hat⟩ := World.cells?_some hc
      obtain ⟨q0, q1, q2, q3, rfl⟩ := list4 cs' hlen
      obtain ⟨y0, y1, y2, y3, k', _, h0, h1, h2, h3⟩ := trod_array4 Try.underlying68 cells2 ht
      obtain ⟨x0, e0, _, _⟩ := DataW.trod_int Try.underlying2 h0
      obtain ⟨x1, e1, _, _⟩ := DataW.trod_int Try.underlying2 h1
      obtain ⟨x2, e2, _, _⟩ := DataW.trod_int Try.underlying2 h2
      obtain ⟨x3, e3, _, _⟩ := DataW.trod_int Try.underlying2 h3
      simp at e0 e1 e2 e3
      subst e0 e1 e2 e3
      refine ⟨(x0, x1, x2, x3), ?_, ?_, ?_, ?_⟩
      · simpa [Addr.add] using hat 0 (by omega)
      · simpa using hat 1 (by omega)
      · simpa using hat 2 (by omega)
      · simpa using hat 3 (by omega)
    obtain ⟨f, hf⟩ := choose_lt (α := Tl) key
    refine ⟨some a, len, m, (List.range len).map f, rfl, by omega, by simp, fun h0 => ?_⟩
    have hpos : 0 < len := by simpa using h0
    obtain ⟨b, off, spot⟩ := a
    have hspot : spot = none := by simpa [Addr.add] using World.cell?_spot (hf 0 (by omega)).1
    subst hspot
    refine ⟨b, off, rfl, by have := World.block_lt_of_cell? W _ (hf 0 (by omega)).1; simpa [Addr.add] using this, fun k hk => ?_⟩
    have hk' : k < len := by simpa using hk
    have hg : ((List.range len).map f).getD k T0 = f k := by simp [List.getD, hk']
    rw [hg]
    have := hf k (by omega)
    simp only [Go.WideShapes.add_plain] at this
    exact this

set_option maxRecDepth 100000 in
theorem open_set {v : Value} {d : DataW H} {p : List MemPlace} {r : Reach} {b0 : Nat} (hv : Value.okWide Try.prog W r b0 24 v) (h : DataW.Trod enc' Try.prog W 0 (fun _ => true) true 24 v d p) :
    ∃ (c0 : Int) (A : Option Addr) (n c : Nat) (ts : List Tl), v = .agg #[.int .i64 c0, .slice A n c] ∧ n ≤ maxLen ∧ ts.length = n ∧ TR W W.heap.size A ts := by
  obtain ⟨v0, v1, y0, y1, m, rfl, rfl, rfl, h0, h1⟩ := open_agg2 Try.underlying24 (by kernel_rfl) cellsS hv h
  obtain ⟨x, e0, _, _⟩ := DataW.trod_int Try.underlying2 h0
  obtain ⟨A, n, c, ts, e1, hn, hl, hA⟩ := open_tiles h1
  simp at e0 e1
  subst e0 e1
  exact ⟨x, A, n, c, ts, rfl, hn, hl, hA⟩
end

section
variable {H : Type} {enc : TypeId × Value → H} {P : Program}
/-- The end of a row whose call leaves all that was there ('Below'). -/
theorem post_of_below {f : Func} {s : ChangeSpec} {apart fresh handsOn again : Bool} {W W' : World} {args : Array Value} {v : Value} {ds gs : List (DataW H)} {before pa pv : List MemPlace}
    (hW : DataW.Whole enc P f.params.toList s.vars apart W args.toList ds gs before)
    (hres : ∀ (b : Nat) (sp : Nat → Bool) (hd : Bool), DataW.TrodAll enc P W' b sp hd f.resultTypes.toList (v.resultList f.resultTypes.size) (s.fn H (ds ++ gs)).results [])
    (hargs : ∀ sp : Nat → Bool, (∀ p ∈ before, sp p.block = true) → DataW.TrodAll enc P W' 0 sp true f.params.toList args.toList (s.fn H (ds ++ gs)).args pa)
    (hvars : ∀ sp : Nat → Bool, (∀ p ∈ before, sp p.block = true) → DataW.TrodVars enc P W' sp s.vars (s.fn H (ds ++ gs)).vars pv)
    (hps : before = pa ++ pv) (hb : Below W.heap.size W W')
    (hok : ∀ (j : Nat) (t : TypeId) (r : Value), f.resultTypes[j]? = some t → (v.resultList f.resultTypes.size)[j]? = some r → Value.okWide P W' .any 0 t r) :
    s.post enc P f apart fresh handsOn again W args v W' := by
  have hlt : ∀ p ∈ before, p.block < W.heap.size := fun p hp => hW.lt p hp
  have hold : ∀ p ∈ before, (fun b => decide (b < W.heap.size)) p.block = true := fun p hp => by simpa using hlt p hp
  refine ⟨ds, gs, before, [], pa, pv, hW, hres _ _ _, hargs _ hold, hvars _ hold, World.keptBut_mono (fun p hp => ⟨hp, ?_⟩) (hb.frame (· ∈ before)), fun _ => ?_⟩
  · rw [hps, List.mem_append] at hp
    exact Or.inr hp
  · obtain ⟨_, _, _, _, _, hz, hn⟩ := hW
    refine ⟨hok, _, _, ([] ++ pa) ++ pv, ⟨[] ++ pa, pv, trodAll_append (hargs _ (fun _ _ => rfl)) (hres _ _ _), hvars _ (fun _ _ => rfl), rfl, ?_, ?_⟩, ?_⟩
    · intro b off hp
      have hin : MemPlace.cell b off ∈ before := by rw [hps]; simpa using hp
      rw [hb.frozen (hlt _ hin)]
      exact hz b off hin
    · intro ha
      have := hn ha
      rw [hps] at this
      simpa using this
    · intro p hp _
      rw [hps]
      simpa using hp
end
end Go.Proofs.Ytleabblnikbmpaa
