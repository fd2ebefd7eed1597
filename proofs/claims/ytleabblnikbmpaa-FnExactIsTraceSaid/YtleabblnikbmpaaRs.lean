/- Lists of lists of numbers in memory: sized, copied, compared. -/
import Derived.Test.YtleabblnikbmpaaInts
namespace Go.Proofs.Ytleabblnikbmpaa
set_option linter.unusedVariables false
set_option linter.unusedSimpArgs false
open Go.RowKit Go.Sort

/-- The slice at A reads as these rows, all of it below block B. -/
def IRR (w : World) (B : Nat) (A : Option Addr) (rs : List (List Int)) : Prop :=
  0 < rs.length → ∃ b off, A = some ⟨b, off, none⟩ ∧ b < B ∧ ∀ k, k < rs.length → ∃ Q q, w.cell? ⟨b, off + k, none⟩ = some (.slice Q (rs.getD k []).length q) ∧ (rs.getD k []).length ≤ q ∧ IR w B Q (rs.getD k [])
theorem IRR.keep {w w' : World} {B : Nat} {A : Option Addr} {rs : List (List Int)} (h : IRR w B A rs) (hk : ∀ b, b < B → ∀ i, w'.cell? ⟨b, i, none⟩ = w.cell? ⟨b, i, none⟩) : IRR w' B A rs := fun h0 => by
  obtain ⟨b, off, e, hb, hc⟩ := h h0
  refine ⟨b, off, e, hb, fun k hk' => ?_⟩
  obtain ⟨Q, q, h1, h2, h3⟩ := hc k hk'
  exact ⟨Q, q, (hk b hb _).trans h1, h2, h3.keep hk⟩
theorem IRR.below {w w' : World} {B B' : Nat} {A : Option Addr} {rs : List (List Int)} (h : IRR w B A rs) (hB : Below B' w w') (hle : B ≤ B') : IRR w' B A rs :=
  h.keep fun b hb i => hB.cell (p := ⟨b, i, none⟩) (by show b < B'; omega)
theorem IRR.more {w : World} {B B' : Nat} {A : Option Addr} {rs : List (List Int)} (h : IRR w B A rs) (hle : B ≤ B') : IRR w B' A rs := fun h0 => by
  obtain ⟨b, off, e, hb, hc⟩ := h h0
  refine ⟨b, off, e, by omega, fun k hk' => ?_⟩
  obtain ⟨Q, q, h1, h2, h3⟩ := hc k hk'
  exact ⟨Q, q, h1, h2, h3.more hle⟩
theorem IRR.ext {w w' : World} {B : Nat} {A : Option Addr} {rs : List (List Int)} (h : IRR w B A rs) (hx : Ext w w') (hB : B ≤ w.heap.size) : IRR w' B A rs := h.below (hx.below (Nat.le_refl _)) hB

/-- Two stretches of cells lie apart. -/
def Apart (p : Option Addr) (n : Nat) (q : Option Addr) (m : Nat) : Prop := ∀ b o c u, p = some ⟨b, o, none⟩ → q = some ⟨c, u, none⟩ → 0 < n → 0 < m → b ≠ c ∨ o + n ≤ u ∨ u + m ≤ o
/-- The slice at A holds these rows, each in cells of its own, in blocks from lo on and below hi that can be written. -/
def IWW (w : World) (lo hi : Nat) (A : Option Addr) (rs : List (List Int)) : Prop :=
  0 < rs.length → ∃ b off t cs, ∃ (Q : Nat → Option Addr) (q : Nat → Nat), A = some ⟨b, off, none⟩ ∧ lo ≤ b ∧ b < hi ∧ Blk w b t cs ∧
    (∀ k, k < rs.length → cs[off + k]? = some (.slice (Q k) (rs.getD k []).length (q k)) ∧ (rs.getD k []).length ≤ q k ∧ IWr w lo hi (Q k) (rs.getD k []) ∧ (∀ c u, Q k = some ⟨c, u, none⟩ → 0 < (rs.getD k []).length → c ≠ b)) ∧
    (∀ j k, j < k → k < rs.length → Apart (Q j) (rs.getD j []).length (Q k) (rs.getD k []).length)
theorem IWW.irr {w : World} {lo hi : Nat} {A : Option Addr} {rs : List (List Int)} (h : IWW w lo hi A rs) : IRR w w.heap.size A rs := fun h0 => by
  obtain ⟨b, off, t, cs, Q, q, e, _, _, hb, hc, _⟩ := h h0
  refine ⟨b, off, e, hb.lt, fun k hk => ?_⟩
  obtain ⟨h1, h2, h3, _⟩ := hc k hk
  exact ⟨Q k, q k, (hb.cell _).trans h1, h2, h3.ir⟩
theorem IWW.below {w w' : World} {lo hi : Nat} {A : Option Addr} {rs : List (List Int)} (h : IWW w lo hi A rs) (hx : Below w.heap.size w w') : IWW w' lo hi A rs := fun h0 => by
  obtain ⟨b, off, t, cs, Q, q, e, hl, hh, hb, hc, ha⟩ := h h0
  refine ⟨b, off, t, cs, Q, q, e, hl, hh, hb.below hx hb.lt, fun k hk => ?_, ha⟩
  obtain ⟨h1, h2, h3, h4⟩ := hc k hk
  exact ⟨h1, h2, h3.below hx, h4⟩
theorem IWW.ext {w w' : World} {lo hi : Nat} {A : Option Addr} {rs : List (List Int)} (h : IWW w lo hi A rs) (hx : Ext w w') : IWW w' lo hi A rs := h.below (hx.below (Nat.le_refl _))
theorem IWW.only {w w' : World} {lo hi lo' hi' : Nat} {A : Option Addr} {rs : List (List Int)} (h : IWW w lo' hi' A rs) (hx : OnlyR lo hi w w') (hd : hi' ≤ lo ∨ hi ≤ lo') : IWW w' lo' hi' A rs := fun h0 => by
  obtain ⟨b, off, t, cs, Q, q, e, hl, hh, hb, hc, ha⟩ := h h0
  refine ⟨b, off, t, cs, Q, q, e, hl, hh, hb.only hx (by omega), fun k hk => ?_, ha⟩
  obtain ⟨h1, h2, h3, h4⟩ := hc k hk
  exact ⟨h1, h2, h3.only hx hd, h4⟩

/-- How many numbers the first k rows have. -/
def pre (rs : List (List Int)) (k : Nat) : Nat := ((rs.take k).map List.length).sum
theorem pre_succ {rs : List (List Int)} {k : Nat} (hk : k < rs.length) : pre rs (k + 1) = pre rs k + (rs.getD k []).length := by
  have e : (rs.getD k []) = rs[k] := by simp [List.getD, hk]
  unfold pre
  rw [List.take_succ_eq_append_getElem hk, List.map_append, List.sum_append_nat, e]
  simp only [List.map_cons, List.map_nil, List.sum_cons, List.sum_nil, Nat.add_zero]
theorem pre_mono (rs : List (List Int)) {k : Nat} : ∀ d, k + d ≤ rs.length → pre rs k ≤ pre rs (k + d)
  | 0, _ => Nat.le_refl _
  | d + 1, h => by
    have h1 := pre_mono rs d (k := k) (by omega)
    have h2 := pre_succ (rs := rs) (k := k + d) (by omega)
    rw [show k + (d + 1) = k + d + 1 by omega]
    omega
/-- How many rows and numbers there are. -/
def need (rs : List (List Int)) : Nat := rs.length + pre rs rs.length
theorem need_row {rs : List (List Int)} {k : Nat} (hk : k < rs.length) : (rs.getD k []).length ≤ need rs := by
  have h1 := pre_succ hk
  have h2 := pre_mono rs (k := k + 1) (rs.length - (k + 1)) (by omega)
  rw [show k + 1 + (rs.length - (k + 1)) = rs.length by omega] at h2
  unfold need
  omega

theorem info_row : (Try.prog.info? 42).map (fun i => (i.zero, i.size, i.bytes)) = some (some (.slice none 0 0), 1, 24) := by kernel_rfl

/-- What the loop of rows that are copied knows: of the call's own block g the first k rows are done. -/
def RCopied (w0 wr : World) (g n k : Nat) (rs : List (List Int)) : Prop :=
  ∃ cs t, ∃ (Q : Nat → Option Addr) (q : Nat → Nat), Blk wr g t cs ∧ cs.size = n ∧ w0.heap.size ≤ g ∧ Below w0.heap.size w0 wr ∧
    (∀ j, j < k → cs[j]? = some (.slice (Q j) (rs.getD j []).length (q j)) ∧ (rs.getD j []).length ≤ q j ∧ IWr wr w0.heap.size wr.heap.size (Q j) (rs.getD j []) ∧ (∀ c u, Q j = some ⟨c, u, none⟩ → 0 < (rs.getD j []).length → c ≠ g)) ∧
    (∀ i j, i < j → j < k → Apart (Q i) (rs.getD i []).length (Q j) (rs.getD j []).length)
theorem RCopied.start (w : World) (n : Nat) (t : TypeId) (cs : Array Value) (h : cs.size = n) (rs : List (List Int)) : RCopied w (w.alloc (.cells cs t)) w.heap.size n 0 rs :=
  ⟨cs, t, fun _ => none, fun _ => 0, Blk.new _ _ _, h, Nat.le_refl _, (Below.refl _ _).alloc (Nat.le_refl _) _, fun j hj => absurd hj (Nat.not_lt_zero _), fun i j _ hj => absurd hj (Nat.not_lt_zero _)⟩
theorem RCopied.below {w0 wr : World} {g n k : Nat} {rs : List (List Int)} (h : RCopied w0 wr g n k rs) : Below w0.heap.size w0 wr := by
  obtain ⟨cs, t, Q, q, hb, hs, hg, hbe, hc, ha⟩ := h
  exact hbe
theorem IWr.up {w : World} {lo hi hi' : Nat} {A : Option Addr} {xs : List Int} (h : IWr w lo hi A xs) (hh : hi ≤ hi') : IWr w lo hi' A xs := fun h0 => by
  obtain ⟨b, off, t, cs, e, hl', hb, hb2, hc⟩ := h h0
  exact ⟨b, off, t, cs, e, hl', by omega, hb2, hc⟩
theorem IWr.set_far {w : World} {lo hi : Nat} {A : Option Addr} {xs : List Int} (h : IWr w lo hi A xs) {p : Addr} (hp : ∀ c u, A = some ⟨c, u, none⟩ → 0 < xs.length → c ≠ p.block) (v : Value) : IWr (w.setCell p v) lo hi A xs := fun h0 => by
  obtain ⟨b, off, t, cs, e, hl', hh, hb, hc⟩ := h h0
  exact ⟨b, off, t, cs, e, hl', hh, hb.far (hp b off e h0) v, hc⟩
/-- A row's copy is made and stored at place k. -/
theorem RCopied.step {w0 wr w1 : World} {g n k m cap : Nat} {rs : List (List Int)} {A : Option Addr} (h : RCopied w0 wr g n k rs) (hk : k < n) (hm : (rs.getD k []).length = m) (hcap : m ≤ cap) (hb1 : Below wr.heap.size wr w1) (hw1 : IWr w1 wr.heap.size w1.heap.size A (rs.getD k [])) :
    RCopied w0 (w1.setCell ⟨g, k, none⟩ (.slice A m cap)) g n (k + 1) rs := by
  obtain ⟨cs, t, Q, q, hb, hs, hg, hbe, hc, ha⟩ := h
  have hglt := hb.lt
  have hsz := hb1.size
  have hszc : (w1.setCell ⟨g, k, none⟩ (.slice A m cap)).heap.size = w1.heap.size := by simp [World.setCell]
  have far : ∀ c u, A = some ⟨c, u, none⟩ → 0 < (rs.getD k []).length → wr.heap.size ≤ c := by
    intro c u e h0
    obtain ⟨b', off', _, _, e', hl', _⟩ := hw1 h0
    rw [e] at e'
    cases e'
    exact hl'
  refine ⟨cs.setIfInBounds k (.slice A m cap), t, fun j => if j = k then A else Q j, fun j => if j = k then cap else q j, (hb.below hb1 hglt).set_ _ _, by simp [hs], hg, (hbe.trans (hb1.mono hbe.size)).setCell hg _, fun j hj => ?_, fun i j hij hj => ?_⟩
  · by_cases hjk : j = k
    · subst hjk
      simp only [if_true]
      refine ⟨by rw [Array.getElem?_setIfInBounds, if_pos rfl, if_pos (by omega), hm], by omega, ?_, fun c u e h0 => by have := far c u e h0; omega⟩
      rw [hszc]
      exact (hw1.low hbe.size).set_far (fun c u e h0 => by have := far c u e h0; show c ≠ g; omega) _
    · simp only [if_neg hjk]
      obtain ⟨h1, h2, h3, h4⟩ := hc j (by omega)
      refine ⟨by rw [Array.getElem?_setIfInBounds, if_neg (fun e => hjk e.symm)]; exact h1, h2, ?_, h4⟩
      rw [hszc]
      exact ((h3.below hb1).up hsz).set_far (fun c u e h0 => h4 c u e h0) _
  · by_cases hjk : j = k
    · subst hjk
      simp only [if_true, if_neg (show ¬ i = j by omega)]
      intro b o c u e1 e2 h1 h2
      obtain ⟨_, _, h3, _⟩ := hc i (by omega)
      obtain ⟨b', off', _, _, e', _, hh', _⟩ := h3 h1
      rw [e1] at e'
      cases e'
      have := far c u e2 h2
      exact .inl (by omega)
    · simp only [if_neg hjk, if_neg (show ¬ i = k by omega)]
      exact ha i j hij (by omega)
theorem RCopied.room {w0 wr w1 : World} {g n k : Nat} {rs : List (List Int)} (h : RCopied w0 wr g n k rs) (hk : k < n) (hb1 : Below wr.heap.size wr w1) :
    ∃ v0, w1.cell? ⟨g, k, none⟩ = some v0 ∧ w1.frozen? ⟨g, k, none⟩ = false := by
  obtain ⟨cs, t, Q, q, hb, hs, hg, hbe, hc, ha⟩ := h
  have hb' := hb.below hb1 hb.lt
  exact ⟨cs[k]'(by omega), by rw [hb'.cell]; simp [hs, hk], hb'.frozen _⟩
theorem RCopied.done {w0 wr : World} {g n : Nat} {rs : List (List Int)} (h : RCopied w0 wr g n n rs) (hl : rs.length = n) : Below w0.heap.size w0 wr ∧ IWW wr w0.heap.size wr.heap.size (some ⟨g, 0, none⟩) rs := by
  obtain ⟨cs, t, Q, q, hb, hs, hg, hbe, hc, ha⟩ := h
  exact ⟨hbe, fun _ => ⟨g, 0, t, cs, Q, q, rfl, hg, hb.lt, hb, fun k hk => by simpa using hc k (by omega), fun j k hjk hk => ha j k hjk (by omega)⟩⟩

theorem rows_eq_of {rs qs : List (List Int)} (hl : rs.length = qs.length) (h : ∀ j, j < rs.length → rs.getD j [] = qs.getD j []) : rs = qs := by
  apply List.ext_getElem hl
  intro i h1 h2
  have := h i h1
  simpa [List.getD, h1, h2] using this
theorem mixedR : Try.prog.follows .mixedOrders = true := by kernel_rfl
end Go.Proofs.Ytleabblnikbmpaa
