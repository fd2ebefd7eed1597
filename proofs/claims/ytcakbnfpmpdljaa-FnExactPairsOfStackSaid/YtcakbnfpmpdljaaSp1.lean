/- The model's sort of numbers: two halves merged. -/
import Derived.Test.YtcakbnfpmpdljaaSt0
import Derived.Test.YtcakbnfpmpdljaaCut2
import Derived.Lib.BufferOwn
import Derived.Deep.RegionHeld3
import Derived.Deep.RegionLaw
import Derived.Deep.DeepCutAuto
import Derived.Lib.Hide
namespace Go.Proofs.Ytcakbnfpmpdljaa
set_option linter.unusedVariables false
set_option linter.unusedSimpArgs false
open Go.RowKit Go.Sort

/-- What has been merged of two ascending lists: the first i numbers of one and the first k of the other. -/
def Mrg (one two : List Int) (i k : Nat) (out : List Int) : Prop :=
  AscI out ∧ (∀ y, (y ∈ out ∨ y ∈ one.drop i ∨ y ∈ two.drop k) ↔ (y ∈ one ∨ y ∈ two)) ∧ (∀ y ∈ out, ∀ z ∈ one.drop i, y < z) ∧ (∀ y ∈ out, ∀ z ∈ two.drop k, y < z) ∧ out.length ≤ i + k
theorem Mrg.start (one two : List Int) : Mrg one two 0 0 [] := ⟨List.Pairwise.nil, fun y => by simp, fun y h => by simp at h, fun y h => by simp at h, by simp⟩
theorem idrop {xs : List Int} {k : Nat} (h : k < xs.length) : xs.drop k = xs.getD k 0 :: xs.drop (k + 1) := by
  rw [List.drop_eq_getElem_cons h]
  simp [List.getD, h]
theorem asc_head {xs : List Int} (h : AscI xs) {k : Nat} (hk : k < xs.length) : ∀ z ∈ xs.drop (k + 1), xs.getD k 0 < z := by
  have h1 : AscI (xs.drop k) := h.sublist (List.drop_sublist _ _)
  rw [idrop hk] at h1
  exact (List.pairwise_cons.1 h1).1
theorem Mrg.one_ {one two out : List Int} {i k : Nat} (h : Mrg one two i k out) (h1 : AscI one) (hi : i < one.length) (hlt : ∀ z ∈ two.drop k, one.getD i 0 < z) : Mrg one two (i + 1) k (out ++ [one.getD i 0]) := by
  obtain ⟨a, b, c, d, e⟩ := h
  rw [idrop hi] at b c
  refine ⟨List.pairwise_append.2 ⟨a, by simp, fun y hy z hz => ?_⟩, fun y => ?_, fun y hy z hz => ?_, fun y hy z hz => ?_, by simp; omega⟩
  · simp at hz; subst hz; exact c y hy _ (by simp)
  · rw [← b y]
    simp only [List.mem_append, List.mem_cons, List.not_mem_nil, or_false]
    constructor
    · rintro ((h | h) | h | h) <;> simp [h]
    · rintro (h | (h | h) | h) <;> simp [h]
  · rcases List.mem_append.1 hy with hy | hy
    · exact c y hy z (by simp [hz])
    · simp at hy; subst hy; exact asc_head h1 hi z hz
  · rcases List.mem_append.1 hy with hy | hy
    · exact d y hy z hz
    · simp at hy; subst hy; exact hlt z hz
theorem Mrg.two_ {one two out : List Int} {i k : Nat} (h : Mrg one two i k out) (h2 : AscI two) (hk : k < two.length) (hlt : ∀ z ∈ one.drop i, two.getD k 0 < z) : Mrg one two i (k + 1) (out ++ [two.getD k 0]) := by
  obtain ⟨a, b, c, d, e⟩ := h
  rw [idrop hk] at b d
  refine ⟨List.pairwise_append.2 ⟨a, by simp, fun y hy z hz => ?_⟩, fun y => ?_, fun y hy z hz => ?_, fun y hy z hz => ?_, by simp; omega⟩
  · simp at hz; subst hz; exact d y hy _ (by simp)
  · rw [← b y]
    simp only [List.mem_append, List.mem_cons, List.not_mem_nil, or_false]
    constructor
    · rintro ((h | h) | h | h) <;> simp [h]
    · rintro (h | h | (h | h)) <;> simp [h]
  · rcases List.mem_append.1 hy with hy | hy
    · exact c y hy z hz
    · simp at hy; subst hy; exact hlt z hz
  · rcases List.mem_append.1 hy with hy | hy
    · exact d y hy z (by simp [hz])
    · simp at hy; subst hy; exact asc_head h2 hk z hz
theorem Mrg.same {one two out : List Int} {i k : Nat} (h : Mrg one two i k out) (hi : i < one.length) (hk : k < two.length) (he : one.getD i 0 = two.getD k 0) : Mrg one two (i + 1) k out := by
  obtain ⟨a, b, c, d, e⟩ := h
  rw [idrop hi] at b c
  refine ⟨a, fun y => ?_, fun y hy z hz => c y hy z (by simp [hz]), d, by omega⟩
  rw [← b y]
  have hm : two.getD k 0 ∈ two.drop k := by rw [idrop hk]; simp
  constructor
  · rintro (h | h | h) <;> simp [h]
  · rintro (h | h | h)
    · simp [h]
    · rcases List.mem_cons.1 h with rfl | h
      · rw [he]; exact .inr (.inr hm)
      · simp [h]
    · simp [h]
theorem lt_drop {xs : List Int} (h : AscI xs) {k : Nat} (hk : k < xs.length) {x : Int} (hx : x < xs.getD k 0) : ∀ z ∈ xs.drop k, x < z := fun z hz => by
  rw [idrop hk] at hz
  rcases List.mem_cons.1 hz with rfl | hz
  · exact hx
  · have := asc_head h hk z hz; omega
theorem Mrg.done {xs one two out : List Int} {m : Nat} (h : Mrg one two one.length two.length out) (h1 : one = sortI (xs.take m)) (h2 : two = sortI (xs.drop m)) : out = sortI xs := by
  obtain ⟨a, b, -⟩ := h
  refine sortI_eq a fun y => ?_
  have := b y
  rw [List.drop_length, List.drop_length] at this
  simp only [List.not_mem_nil, or_false] at this
  rw [this, h1, h2, sortI_mem, sortI_mem, ← List.mem_append, List.take_append_drop]

/-- The slice at A reads as the numbers xs, in a block other than v's. -/
def RdI (w : World) (v : Value) (A : Option Addr) (xs : List Int) : Prop :=
  0 < xs.length → ∃ b off, A = some ⟨b, off, none⟩ ∧ b < w.heap.size ∧ v.ownBlock ≠ some b ∧ ∀ k, k < xs.length → w.cell? ⟨b, off + k, none⟩ = some (.int .i64 (xs.getD k 0))
theorem RdI.ext {w w' : World} {v : Value} {A : Option Addr} {xs : List Int} (h : RdI w v A xs) (hx : Ext w w') : RdI w' v A xs := fun h0 => by
  obtain ⟨b, off, e, hb, hn, hc⟩ := h h0
  have hbe := hx.below (Nat.le_refl _)
  exact ⟨b, off, e, Nat.lt_of_lt_of_le hb hbe.size, hn, fun k hk => (hbe.cell (p := ⟨b, off + k, none⟩) hb).trans (hc k hk)⟩
theorem RdI.grown {w w' : World} {v v' : Value} {A : Option Addr} {xs : List Int} (h : RdI w v A xs) (hg : w.grownBy w' v.ownBlock) (hat : v'.ownBlock = v.ownBlock ∨ v'.ownBlock = some w.heap.size) : RdI w' v' A xs := fun h0 => by
  obtain ⟨b, off, e, hb, hn, hc⟩ := h h0
  refine ⟨b, off, e, Nat.lt_of_lt_of_le hb hg.size, ?_, fun k hk => hg.cell (hc k hk) (fun e => hn e.symm)⟩
  rcases hat with h1 | h1
  · rw [h1]; exact hn
  · rw [h1]; intro e2; cases e2; exact Nat.lt_irrefl _ hb
theorem RdI.start {w : World} {g : Nat} {A : Option Addr} {xs : List Int} (h : IR w w.heap.size A xs) (hb : Blk w g 2 #[]) : RdI w (.slice (some ⟨g, 0, none⟩) 0 0) A xs := fun h0 => by
  obtain ⟨b, off, e, hlt, hc⟩ := h h0
  refine ⟨b, off, e, hlt, fun e2 => ?_, hc⟩
  have e3 : g = b := by simpa [Value.ownBlock] using e2
  subst e3
  have := hc 0 h0
  rw [hb.cell] at this
  simp at this
theorem own_emptyI {X : World} {B g : Nat} (h : Blk X g 2 #[]) (hB : B ≤ g) : X.ownsRow B 2 1 (.slice (some ⟨g, 0, none⟩) 0 0) 0 (vis []) :=
  ⟨rfl, .inr ⟨g, 0, #[], rfl, hB, h, Nat.le_refl _, by unfold maxLen; omega, rfl, rfl⟩⟩
theorem ir_take {w : World} {B : Nat} {A : Option Addr} {xs : List Int} {m : Nat} (h : IR w B A xs) (hm : m ≤ xs.length) : IR w B A (xs.take m) := fun h0 => by
  rw [List.length_take] at h0
  obtain ⟨b, off, e, hb, hc⟩ := h (by omega)
  refine ⟨b, off, e, hb, fun k hk => ?_⟩
  rw [List.length_take] at hk
  rw [hc k (by omega)]
  simp only [List.getD]
  rw [List.getElem?_take_of_lt (by omega)]
theorem ir_drop {w : World} {B b off : Nat} {xs : List Int} {m : Nat} (h : IR w B (some ⟨b, off, none⟩) xs) (hm : m < xs.length) : IR w B (some ⟨b, off + m, none⟩) (xs.drop m) := fun h0 => by
  rw [List.length_drop] at h0
  obtain ⟨b', off', e, hb, hc⟩ := h (by omega)
  cases e
  refine ⟨b, off + m, rfl, hb, fun k hk => ?_⟩
  rw [List.length_drop] at hk
  rw [Nat.add_assoc, hc (m + k) (by omega)]
  simp only [List.getD]
  rw [List.getElem?_drop]
/-- What the model's sort hands back. -/
def SrtRes (w : World) (xs : List Int) (e : Ending) (w' : World) : Prop :=
  ∃ A c, e = .returned (.slice A (sortI xs).length c) ∧ (sortI xs).length ≤ c ∧ IR w' w'.heap.size A (sortI xs) ∧ Below w.heap.size w w'
end Go.Proofs.Ytcakbnfpmpdljaa
