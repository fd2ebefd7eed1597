/- The model's sort of numbers: two halves merged. -/
import Derived.Test.YtleabblnikbmpaaStA
import Derived.Test.YtleabblnikbmpaaCut2
import Derived.Lib.BufferOwn
import Derived.Deep.RegionHeld3
import Derived.Deep.RegionLaw
import Derived.Deep.DeepCutAuto
import Derived.Lib.Hide
namespace Go.Proofs.Ytleabblnikbmpaa
section
set_option linter.unusedVariables false
set_option linter.unusedSimpArgs false
open Go.RowKit Go.Sort

/-- What has been merged of two ascending lists: the first i numbers of one and the first k of the other. -/
def Mrg (one two : List Int) (i k : Nat) (out : List Int) : Prop :=
  AscI out ∧ (∀ y, (y ∈ out ∨ y ∈ one.drop i ∨ y ∈ two.drop k) ↔ (y ∈ one ∨ y ∈ two)) ∧ (∀ y ∈ out, ∀ z ∈ one.drop i, y < z) ∧ (∀ y ∈ out, ∀ z ∈ two.drop k, y < z) ∧ out.length ≤ i + k
theorem Mrg.start (one two : List Int) : Mrg one two 0 0 [] := ⟨List.Pairwise.nil, fun y => by simp, fun y h => by simp at h, fun y h => by simp at h, by simp⟩
theorem idrop {xs : List Int} {k : Nat} (h : k < xs.length) : xs.drop k = xs.getD k 0 :: xs.drop (k + 1) := by
  rw [List.drop_eq_getElem_cons h]
  simp [List.getD, h]
theorem asc_head {xs : List Int} (h : AscI xs) {k : Nat} (hk : k < xs.length) : ∀ z ∈ xs.drop (k + 1), xs.getD k 0 < z := by
  have h1 : AscI (xs.drop k) := h.sublist (List.drop_sublist _ _)
  rw [idrop hk] at h1
  exact (List.pairwise_cons.1 h1).1
theorem Mrg.one_ {one two out : List Int} {i k : Nat} (h : Mrg one two i k out) (h1 : AscI one) (hi : i < one.length) (hlt : ∀ z ∈ two.drop k, one.getD i 0 < z) : Mrg one two (i + 1) k (out ++ [one.getD i 0]) := by
  obtain ⟨a, b, c, d, e⟩ := h
  rw [idrop hi] at b c
  refine ⟨List.pairwise_append.2 ⟨a, by simp, fun y hy z hz => ?_⟩, fun y => ?_, fun y hy z hz => ?_, fun y hy z hz => ?_, by simp; omega⟩
  · simp at hz; subst hz; exact c y hy _ (by simp)
  · rw [← b y]
    simp only [List.mem_append, List.mem_cons, List.not_mem_nil, or_false]
    constructor
    · rintro ((h | h) | h | h) <;> simp [h]
    · rintro (h | (h | h) | h) <;> simp [h]
  · rcases List.mem_append.1 hy with hy | hy
    · exact c y hy z (by simp [hz])
    · simp at hy; subst hy; exact asc_head h1 hi z hz
  · rcases List.mem_append.1 hy with hy | hy
    · exact d y hy z hz
    · simp at hy; subst hy; exact hlt z hz
theorem Mrg.two_ {one two out : List Int} {i k : Nat} (h : Mrg one two i k out) (h2 : AscI two) (hk : k < two.length) (hlt : ∀ z ∈ one.drop i, two.getD k 0 < z) : Mrg one two i (k + 1) (out ++ [two.getD k 0]) := by
  obtain ⟨a, b, c, d, e⟩ := h
  rw [idrop hk] at b d
  refine ⟨List.pairwise_append.2 ⟨a, by simp, fun y hy z hz => ?_⟩, fun y => ?_, fun y hy z hz => ?_, fun y hy z hz => ?_, by simp; omega⟩
  · simp at hz; subst hz; exact d y hy _ (by simp)
  · rw [← b y]
    simp only [List.mem_append, List.mem_cons, List.not_mem_nil, or_false]
    constructor
    · rintro ((h | h) | h | h) <;> simp [h]
    · rintro (h | h | (h | h)) <;> simp [h]
  · rcases List.mem_append.1 hy with hy | hy
    · exact c y hy z hz
    · simp at hy; subst hy; exact hlt z hz
  · rcases List.mem_append.1 hy with hy | hy
    · exact d y hy z (by simp [hz])
    · simp at hy; subst hy; exact asc_head h2 hk z hz
theorem Mrg.same {one two out : List Int} {i k : Nat} (h : Mrg one two i k out) (hi : i < one.length) (hk : k < two.length) (he : one.getD i 0 = two.getD k 0) : Mrg one two (i + 1) k out := by
  obtain ⟨a, b, c, d, e⟩ := h
  rw [idrop hi] at b c
  refine ⟨a, fun y => ?_, fun y hy z hz => c y hy z (by simp [hz]), d, by omega⟩
  rw [← b y]
  have hm : two.getD k 0 ∈ two.drop k := by rw [idrop hk]; simp
  constructor
  · rintro (h | h | h) <;> simp [h]
  · rintro (h | h | h)
    · simp [h]
    · rcases List.mem_cons.1 h with rfl | h
      · rw [he]; exact .inr (.inr hm)
      · simp [h]
    · simp [h]
theorem lt_drop {xs : List Int} (h : AscI xs) {k : Nat} (hk : k < xs.length) {x : Int} (hx : x < xs.getD k 0) : ∀ z ∈ xs.drop k, x < z := fun z hz => by
  rw [idrop hk] at hz
  rcases List.mem_cons.1 hz with rfl | hz
  · exact hx
  · have := asc_head h hk z hz; omega
theorem Mrg.done {xs one two out : List Int} {m : Nat} (h : Mrg one two one.length two.length out) (h1 : one = sortI (xs.take m)) (h2 : two = sortI (xs.drop m)) : out = sortI xs := by
  obtain ⟨a, b, -⟩ := h
  refine sortI_eq a fun y => ?_
  have := b y
  rw [List.drop_length, List.drop_length] at this
  simp only [List.not_mem_nil, or_false] at this
  rw [this, h1, h2, sortI_mem, sortI_mem, ← List.mem_append, List.take_append_drop]

/-- The slice at A reads as the numbers xs, in a block other than v's. -/
def RdI (w : World) (v : Value) (A : Option Addr) (xs : List Int) : Prop :=
  0 < xs.length → ∃ b off, A = some ⟨b, off, none⟩ ∧ b < w.heap.size ∧ v.ownBlock ≠ some b ∧ ∀ k, k < xs.length → w.cell? ⟨b, off + k, none⟩ = some (.int .i64 (xs.getD k 0))
theorem RdI.ext {w w' : World} {v : Value} {A : Option Addr} {xs : List Int} (h : RdI w v A xs) (hx : Ext w w') : RdI w' v A xs := fun h0 => by
  obtain ⟨b, off, e, hb, hn, hc⟩ := h h0
  have hbe := hx.below (Nat.le_refl _)
  exact ⟨b, off, e, Nat.lt_of_lt_of_le hb hbe.size, hn, fun k hk => (hbe.cell (p := ⟨b, off + k, none⟩) hb).trans (hc k hk)⟩
theorem RdI.grown {w w' : World} {v v' : Value} {A : Option Addr} {xs : List Int} (h : RdI w v A xs) (hg : w.grownBy w' v.ownBlock) (hat : v'.ownBlock = v.ownBlock ∨ v'.ownBlock = some w.heap.size) : RdI w' v' A xs := fun h0 => by
  obtain ⟨b, off, e, hb, hn, hc⟩ := h h0
  refine ⟨b, off, e, Nat.lt_of_lt_of_le hb hg.size, ?_, fun k hk => hg.cell (hc k hk) (fun e => hn e.symm)⟩
  rcases hat with h1 | h1
  · rw [h1]; exact hn
  · rw [h1]; intro e2; cases e2; exact Nat.lt_irrefl _ hb
theorem RdI.start {w : World} {g : Nat} {A : Option Addr} {xs : List Int} (h : IR w w.heap.size A xs) (hb : Blk w g 2 #[]) : RdI w (.slice (some ⟨g, 0, none⟩) 0 0) A xs := fun h0 => by
  obtain ⟨b, off, e, hlt, hc⟩ := h h0
  refine ⟨b, off, e, hlt, fun e2 => ?_, hc⟩
  have e3 : g = b := by simpa [Value.ownBlock] using e2
  subst e3
  have := hc 0 h0
  rw [hb.cell] at this
  simp at this
theorem own_emptyI {X : World} {B g : Nat} (h : Blk X g 2 #[]) (hB : B ≤ g) : X.ownsRow B 2 1 (.slice (some ⟨g, 0, none⟩) 0 0) 0 (vis []) :=
  ⟨rfl, .inr ⟨g, 0, #[], rfl, hB, h, Nat.le_refl _, by unfold maxLen; omega, rfl, rfl⟩⟩
theorem ir_take {w : World} {B : Nat} {A : Option Addr} {xs : List Int} {m : Nat} (h : IR w B A xs) (hm : m ≤ xs.length) : IR w B A (xs.take m) := fun h0 => by
  rw [List.length_take] at h0
  obtain ⟨b, off, e, hb, hc⟩ := h (by omega)
  refine ⟨b, off, e, hb, fun k hk => ?_⟩
  rw [List.length_take] at hk
  rw [hc k (by omega)]
  simp only [List.getD]
  rw [List.getElem?_take_of_lt (by omega)]
theorem ir_drop {w : World} {B b off : Nat} {xs : List Int} {m : Nat} (h : IR w B (some ⟨b, off, none⟩) xs) (hm : m < xs.length) : IR w B (some ⟨b, off + m, none⟩) (xs.drop m) := fun h0 => by
  rw [List.length_drop] at h0
  obtain ⟨b', off', e, hb, hc⟩ := h (by omega)
  cases e
  refine ⟨b, off + m, rfl, hb, fun k hk => ?_⟩
  rw [List.length_drop] at hk
  rw [Nat.add_assoc, hc (m + k) (by omega)]
  simp only [List.getD]
  rw [List.getElem?_drop]
/-- What the model's sort hands back. -/
def SrtRes (w : World) (xs : List Int) (e : Ending) (w' : World) : Prop :=
  ∃ A c, e = .returned (.slice A (sortI xs).length c) ∧ (sortI xs).length ≤ c ∧ IR w' w'.heap.size A (sortI xs) ∧ Below w.heap.size w w'
end

section
set_option linter.unusedVariables false
set_option linter.unusedSimpArgs false
open Go.RowKit Go.Sort

theorem size_ext {a b : World} (h : Ext a b) : a.heap.size ≤ b.heap.size := (h.below (Nat.le_refl _)).size
set_option maxRecDepth 100000 in
set_option maxHeartbeats 4000000 in
theorem sorted_big (A : Option Addr) (n c : Nat) (xs : List Int) (w : World) (hn : n ≤ 1048576) (h2 : ¬ n < 2) (hl : xs.length = n) (hc : n ≤ c) (hA : IR w w.heap.size A xs)
    (ih : ∀ (m : Nat), m < n → ∀ (A : Option Addr) (c : Nat) (xs : List Int) (w : World), xs.length = m → m ≤ c → IR w w.heap.size A xs → Calls Try.prog 102 #[.slice A m c] w (SrtRes w xs)) :
    Calls Try.prog 102 #[.slice A n c] w (SrtRes w xs) := by
  obtain ⟨b0, o0, rfl, hb0, -⟩ := hA (by omega)
  have hq2 : (n : Int) / 2 = ((n / 2 : Nat) : Int) := by omega
  have h2' : ¬ (n : Int) < 2 := by omega
  have hh1 : n / 2 < n := by omega
  have hh2 : n / 2 ≤ c := by omega
  have hh3 : ¬ c = n / 2 := by omega
  have hh4 : 0 < n / 2 := by omega
  have hh5 : n / 2 ≤ n := by omega
  have ih1 := fun W (hW : Below w.heap.size w W) => ih (n / 2) hh1 (some ⟨b0, o0, none⟩) c (xs.take (n / 2)) W (by rw [List.length_take]; omega) (by omega) (ir_take ((hA.below hW (Nat.le_refl _)).more hW.size) (by omega))
  have ih2 := fun W (hW : Below w.heap.size w W) => ih (n - n / 2) (by omega) (some ⟨b0, o0 + n / 2, none⟩) (c - n / 2) (xs.drop (n / 2)) W (by rw [List.length_drop]; omega) (by omega) (ir_drop ((hA.below hW (Nat.le_refl _)).more hW.size) (by omega))
  unfold SrtRes at ih1 ih2
  have h1a := sortI_asc (xs.take (n / 2))
  have h2a := sortI_asc (xs.drop (n / 2))
  have h1l := sortI_len (xs.take (n / 2))
  have h2l := sortI_len (xs.drop (n / 2))
  rw [List.length_take] at h1l
  rw [List.length_drop] at h2l
  obtain ⟨one, hone⟩ : ∃ one, one = sortI (xs.take (n / 2)) := ⟨_, rfl⟩
  obtain ⟨two, htwo⟩ : ∃ two, two = sortI (xs.drop (n / 2)) := ⟨_, rfl⟩
  rw [← hone] at ih1 h1a h1l
  rw [← htwo] at ih2 h2a h2l
  have hdone := fun out h => Mrg.done (xs := xs) (one := one) (two := two) (out := out) (m := n / 2) h hone htwo
  have HDONE := Lib.hid hdone
  have HC1 := Lib.hid ih1
  have HC2 := Lib.hid ih2
  have HA1 := Lib.hid h1a
  have HA2 := Lib.hid h2a
  obtain ⟨m1, hm1⟩ : ∃ m1, m1 = one.length := ⟨_, rfl⟩
  obtain ⟨m2, hm2⟩ : ∃ m2, m2 = two.length := ⟨_, rfl⟩
  rw [← hm1] at HC1 HDONE h1l
  rw [← hm2] at HC2 HDONE h2l
  have HM1 := Lib.hid hm1
  have HM2 := Lib.hid hm2
  have hb1 : m1 ≤ 1048576 := by omega
  have hb2 : m2 ≤ 1048576 := by omega
  clear ih ih1 ih2 h1a h2a hone htwo hdone hm1 hm2 hA hl h1l h2l
  generalize n / 2 = hf at *
  go_enter Try.func102, Try.ntmps102
  go_wp2_with fail
  go_upto_region 4 with (fail)
  go_cut [4, 5, 6] (fun v4 v5 v6 wx => ∃ A1 c1 A2 c2 g, v4 = .slice A1 m1 c1 ∧ v5 = .slice A2 m2 c2 ∧ v6 = .slice (some ⟨g, 0, none⟩) 0 0 ∧ m1 ≤ c1 ∧ m2 ≤ c2 ∧ w.heap.size ≤ g ∧ Blk wx g 2 #[] ∧ IR wx wx.heap.size A1 one ∧ IR wx wx.heap.size A2 two ∧ Below w.heap.size w wx)
  case first =>
    go_region_law (first
      | (go_simp; go_at_call 102; with_reducible refine (HC1.out _ (below_next0 (Below.refl w.heap.size w) (by with_reducible first | exact Ext.refl _ | exact (Ext.refl _).drew | exact (Ext.refl _).alloc _ | exact ((Ext.refl _).alloc _).drew | exact ((Ext.refl _).drew).alloc _ | exact (((Ext.refl _).drew).alloc _).drew) (Nat.le_refl _))).mono ?_; rintro e w5 ⟨A1, c1, rfl, hm1, hf1, hb5⟩; have k51 := below_next (Below.refl w.heap.size w) (by with_reducible first | exact Ext.refl _ | exact (Ext.refl _).drew | exact (Ext.refl _).alloc _ | exact ((Ext.refl _).alloc _).drew | exact ((Ext.refl _).drew).alloc _ | exact (((Ext.refl _).drew).alloc _).drew) hb5 (Nat.le_refl _); (try have nb0 := blk_next (Blk.new w 2 #[]) (by with_reducible first | exact Ext.refl _ | exact (Ext.refl _).drew | exact (Ext.refl _).alloc _ | exact ((Ext.refl _).alloc _).drew | exact ((Ext.refl _).drew).alloc _ | exact (((Ext.refl _).drew).alloc _).drew) hb5); have z5 := k51.size)
      | (go_simp; go_at_call 102; with_reducible refine (HC2.out _ (below_next0 k51 (by with_reducible first | exact Ext.refl _ | exact (Ext.refl _).drew | exact (Ext.refl _).alloc _ | exact ((Ext.refl _).alloc _).drew | exact ((Ext.refl _).drew).alloc _ | exact (((Ext.refl _).drew).alloc _).drew) (Nat.le_refl _))).mono ?_; rintro e w6 ⟨A2, c2, rfl, hm2, hs2, hb6⟩; have k6 := below_next k51 (by with_reducible first | exact Ext.refl _ | exact (Ext.refl _).drew | exact (Ext.refl _).alloc _ | exact ((Ext.refl _).alloc _).drew | exact ((Ext.refl _).drew).alloc _ | exact (((Ext.refl _).drew).alloc _).drew) hb6 (Nat.le_refl _); have s6 := below_next (Below.refl w5.heap.size w5) (by with_reducible first | exact Ext.refl _ | exact (Ext.refl _).drew | exact (Ext.refl _).alloc _ | exact ((Ext.refl _).alloc _).drew | exact ((Ext.refl _).drew).alloc _ | exact (((Ext.refl _).drew).alloc _).drew) hb6 (Nat.le_refl _); have hi1 := (hf1.below s6 (Nat.le_refl _)).more s6.size; (try replace nb0 := blk_next nb0 (by with_reducible first | exact Ext.refl _ | exact (Ext.refl _).drew | exact (Ext.refl _).alloc _ | exact ((Ext.refl _).alloc _).drew | exact ((Ext.refl _).drew).alloc _ | exact (((Ext.refl _).drew).alloc _).drew) hb6); (try have nb1 := blk_next (Blk.new w5 2 #[]) (by with_reducible first | exact Ext.refl _ | exact (Ext.refl _).drew | exact (Ext.refl _).alloc _ | exact ((Ext.refl _).alloc _).drew | exact ((Ext.refl _).drew).alloc _ | exact (((Ext.refl _).drew).alloc _).drew) hb6); have hi2 := hs2; have z6 := k6.size)
      | (go_simp; go_at_call 102; with_reducible refine (HC2.out _ (below_next0 (Below.refl w.heap.size w) (by with_reducible first | exact Ext.refl _ | exact (Ext.refl _).drew | exact (Ext.refl _).alloc _ | exact ((Ext.refl _).alloc _).drew | exact ((Ext.refl _).drew).alloc _ | exact (((Ext.refl _).drew).alloc _).drew) (Nat.le_refl _))).mono ?_; rintro e w5 ⟨A2, c2, rfl, hm2, hf2, hb5⟩; have k52 := below_next (Below.refl w.heap.size w) (by with_reducible first | exact Ext.refl _ | exact (Ext.refl _).drew | exact (Ext.refl _).alloc _ | exact ((Ext.refl _).alloc _).drew | exact ((Ext.refl _).drew).alloc _ | exact (((Ext.refl _).drew).alloc _).drew) hb5 (Nat.le_refl _); (try have nb0 := blk_next (Blk.new w 2 #[]) (by with_reducible first | exact Ext.refl _ | exact (Ext.refl _).drew | exact (Ext.refl _).alloc _ | exact ((Ext.refl _).alloc _).drew | exact ((Ext.refl _).drew).alloc _ | exact (((Ext.refl _).drew).alloc _).drew) hb5); have z5 := k52.size)
      | (go_simp; go_at_call 102; with_reducible refine (HC1.out _ (below_next0 k52 (by with_reducible first | exact Ext.refl _ | exact (Ext.refl _).drew | exact (Ext.refl _).alloc _ | exact ((Ext.refl _).alloc _).drew | exact ((Ext.refl _).drew).alloc _ | exact (((Ext.refl _).drew).alloc _).drew) (Nat.le_refl _))).mono ?_; rintro e w6 ⟨A1, c1, rfl, hm1, hs1, hb6⟩; have k6 := below_next k52 (by with_reducible first | exact Ext.refl _ | exact (Ext.refl _).drew | exact (Ext.refl _).alloc _ | exact ((Ext.refl _).alloc _).drew | exact ((Ext.refl _).drew).alloc _ | exact (((Ext.refl _).drew).alloc _).drew) hb6 (Nat.le_refl _); have s6 := below_next (Below.refl w5.heap.size w5) (by with_reducible first | exact Ext.refl _ | exact (Ext.refl _).drew | exact (Ext.refl _).alloc _ | exact ((Ext.refl _).alloc _).drew | exact ((Ext.refl _).drew).alloc _ | exact (((Ext.refl _).drew).alloc _).drew) hb6 (Nat.le_refl _); have hi2 := (hf2.below s6 (Nat.le_refl _)).more s6.size; (try replace nb0 := blk_next nb0 (by with_reducible first | exact Ext.refl _ | exact (Ext.refl _).drew | exact (Ext.refl _).alloc _ | exact ((Ext.refl _).alloc _).drew | exact ((Ext.refl _).drew).alloc _ | exact (((Ext.refl _).drew).alloc _).drew) hb6); (try have nb1 := blk_next (Blk.new w5 2 #[]) (by with_reducible first | exact Ext.refl _ | exact (Ext.refl _).drew | exact (Ext.refl _).alloc _ | exact ((Ext.refl _).alloc _).drew | exact ((Ext.refl _).drew).alloc _ | exact (((Ext.refl _).drew).alloc _).drew) hb6); have hi1 := hs1; have z6 := k6.size))
    all_goals
      go_wp2_with fail
      go_meet
      first
        | exact ⟨A1, c1, A2, c2, _, rfl, rfl, rfl, hm1, hm2, (Nat.le_refl _), nb0.ext (by with_reducible first | exact Ext.refl _ | exact (Ext.refl _).drew | exact (Ext.refl _).alloc _ | exact ((Ext.refl _).alloc _).drew | exact ((Ext.refl _).drew).alloc _ | exact (((Ext.refl _).drew).alloc _).drew), (hi1.ext (by with_reducible first | exact Ext.refl _ | exact (Ext.refl _).drew | exact (Ext.refl _).alloc _ | exact ((Ext.refl _).alloc _).drew | exact ((Ext.refl _).drew).alloc _ | exact (((Ext.refl _).drew).alloc _).drew) (Nat.le_refl _)).more (size_ext (by with_reducible first | exact Ext.refl _ | exact (Ext.refl _).drew | exact (Ext.refl _).alloc _ | exact ((Ext.refl _).alloc _).drew | exact ((Ext.refl _).drew).alloc _ | exact (((Ext.refl _).drew).alloc _).drew)), (hi2.ext (by with_reducible first | exact Ext.refl _ | exact (Ext.refl _).drew | exact (Ext.refl _).alloc _ | exact ((Ext.refl _).alloc _).drew | exact ((Ext.refl _).drew).alloc _ | exact (((Ext.refl _).drew).alloc _).drew) (Nat.le_refl _)).more (size_ext (by with_reducible first | exact Ext.refl _ | exact (Ext.refl _).drew | exact (Ext.refl _).alloc _ | exact ((Ext.refl _).alloc _).drew | exact ((Ext.refl _).drew).alloc _ | exact (((Ext.refl _).drew).alloc _).drew)), below_next0 k6 (by with_reducible first | exact Ext.refl _ | exact (Ext.refl _).drew | exact (Ext.refl _).alloc _ | exact ((Ext.refl _).alloc _).drew | exact ((Ext.refl _).drew).alloc _ | exact (((Ext.refl _).drew).alloc _).drew) (Nat.le_refl _)⟩
        | exact ⟨A1, c1, A2, c2, _, rfl, rfl, rfl, hm1, hm2, z5, nb1.ext (by with_reducible first | exact Ext.refl _ | exact (Ext.refl _).drew | exact (Ext.refl _).alloc _ | exact ((Ext.refl _).alloc _).drew | exact ((Ext.refl _).drew).alloc _ | exact (((Ext.refl _).drew).alloc _).drew), (hi1.ext (by with_reducible first | exact Ext.refl _ | exact (Ext.refl _).drew | exact (Ext.refl _).alloc _ | exact ((Ext.refl _).alloc _).drew | exact ((Ext.refl _).drew).alloc _ | exact (((Ext.refl _).drew).alloc _).drew) (Nat.le_refl _)).more (size_ext (by with_reducible first | exact Ext.refl _ | exact (Ext.refl _).drew | exact (Ext.refl _).alloc _ | exact ((Ext.refl _).alloc _).drew | exact ((Ext.refl _).drew).alloc _ | exact (((Ext.refl _).drew).alloc _).drew)), (hi2.ext (by with_reducible first | exact Ext.refl _ | exact (Ext.refl _).drew | exact (Ext.refl _).alloc _ | exact ((Ext.refl _).alloc _).drew | exact ((Ext.refl _).drew).alloc _ | exact (((Ext.refl _).drew).alloc _).drew) (Nat.le_refl _)).more (size_ext (by with_reducible first | exact Ext.refl _ | exact (Ext.refl _).drew | exact (Ext.refl _).alloc _ | exact ((Ext.refl _).alloc _).drew | exact ((Ext.refl _).drew).alloc _ | exact (((Ext.refl _).drew).alloc _).drew)), below_next0 k6 (by with_reducible first | exact Ext.refl _ | exact (Ext.refl _).drew | exact (Ext.refl _).alloc _ | exact ((Ext.refl _).alloc _).drew | exact ((Ext.refl _).drew).alloc _ | exact (((Ext.refl _).drew).alloc _).drew) (Nat.le_refl _)⟩
        | exact ⟨A1, c1, A2, c2, _, rfl, rfl, rfl, hm1, hm2, z6, (Blk.new w6 2 #[]).ext (by with_reducible first | exact Ext.refl _ | exact (Ext.refl _).drew | exact (Ext.refl _).alloc _ | exact ((Ext.refl _).alloc _).drew | exact ((Ext.refl _).drew).alloc _ | exact (((Ext.refl _).drew).alloc _).drew), (hi1.ext (by with_reducible first | exact Ext.refl _ | exact (Ext.refl _).drew | exact (Ext.refl _).alloc _ | exact ((Ext.refl _).alloc _).drew | exact ((Ext.refl _).drew).alloc _ | exact (((Ext.refl _).drew).alloc _).drew) (Nat.le_refl _)).more (size_ext (by with_reducible first | exact Ext.refl _ | exact (Ext.refl _).drew | exact (Ext.refl _).alloc _ | exact ((Ext.refl _).alloc _).drew | exact ((Ext.refl _).drew).alloc _ | exact (((Ext.refl _).drew).alloc _).drew)), (hi2.ext (by with_reducible first | exact Ext.refl _ | exact (Ext.refl _).drew | exact (Ext.refl _).alloc _ | exact ((Ext.refl _).alloc _).drew | exact ((Ext.refl _).drew).alloc _ | exact (((Ext.refl _).drew).alloc _).drew) (Nat.le_refl _)).more (size_ext (by with_reducible first | exact Ext.refl _ | exact (Ext.refl _).drew | exact (Ext.refl _).alloc _ | exact ((Ext.refl _).alloc _).drew | exact ((Ext.refl _).drew).alloc _ | exact (((Ext.refl _).drew).alloc _).drew)), below_next0 k6 (by with_reducible first | exact Ext.refl _ | exact (Ext.refl _).drew | exact (Ext.refl _).alloc _ | exact ((Ext.refl _).alloc _).drew | exact ((Ext.refl _).drew).alloc _ | exact (((Ext.refl _).drew).alloc _).drew) (Nat.le_refl _)⟩
  case rest =>
    obtain ⟨A1, c1, A2, c2, g, rfl, rfl, rfl, hmc1, hmc2, hg, hbk, hi1, hi2, hbw⟩ := hcut
    obtain ⟨W5, hW5⟩ : ∃ W5, W5 = wc := ⟨_, rfl⟩
    subst hW5
    have HO0 := Lib.hid (own_emptyI hbk hg)
    have HR1 := Lib.hid (RdI.start hi1 hbk)
    have HR2 := Lib.hid (RdI.start hi2 hbk)
    have HB0 := Lib.hid hbw
    clear hbk hi1 hi2 hbw
    go_wp2_with fail
    go_loopw [6, 7, 8] (fun v i k wr => ∃ (p q : Nat) (out : List Int), p ≤ m1 ∧ q ≤ m2 ∧ i = .int .i64 p ∧ k = .int .i64 q ∧ wr.ownsRow w.heap.size 2 1 v out.length (vis out) ∧ RdI wr v A1 one ∧ RdI wr v A2 two ∧ Mrg one two p q out ∧ Below w.heap.size w wr) (fun _ i k _ => (m1 - (intOf i).toNat) + (m2 - (intOf k).toNat))
    case atStart => exact ⟨0, 0, [], Nat.zero_le _, Nat.zero_le _, rfl, rfl, HO0.out, HR1.out, HR2.out, Mrg.start _ _, HB0.out⟩
    case round =>
      clear HO0 HR1 HR2 HB0
      obtain ⟨p, q, out, hp, hq, rfl, rfl, hown, hr1, hr2, hmg, hbw⟩ := hrel
      have HO := Lib.hid hown
      have HR1 := Lib.hid hr1
      have HR2 := Lib.hid hr2
      have HMG := Lib.hid hmg
      have HBW := Lib.hid hbw
      have hszw := hbw.size
      have hol : out.length ≤ 2097152 := by have := hmg.2.2.2.2; omega
      clear hown hr1 hr2 hmg hbw
      by_cases hp1 : p < m1
      · obtain ⟨ba, oa, hA1, hba, -, hca⟩ := HR1.out (by have := HM1.out; omega)
        subst hA1
        have ca := hca p (by have := HM1.out; omega)
        obtain ⟨x, hX⟩ : ∃ x, x = one.getD p 0 := ⟨_, rfl⟩
        rw [← hX] at ca
        have EX := Lib.hid hX
        clear hX hca
        have d1 : (p : Int) < (m1 : Int) := by omega
        have d1n : decide (p < m1) = true := by simp [hp1]
        have d1e : ((p : Int) == (m1 : Int)) = false := by simp; omega
        by_cases hq1 : q < m2
        · obtain ⟨bb, ob, hA2, hbb, -, hcb⟩ := HR2.out (by have := HM2.out; omega)
          subst hA2
          have cb := hcb q (by have := HM2.out; omega)
          obtain ⟨y, hY⟩ : ∃ y, y = two.getD q 0 := ⟨_, rfl⟩
          rw [← hY] at cb
          have EY := Lib.hid hY
          clear hY hcb
          have d2 : (q : Int) < (m2 : Int) := by omega
          have d2e : ((q : Int) == (m2 : Int)) = false := by simp; omega
          by_cases hxy : x < y
          · have dxy : decide (x < y) = true := by simp [hxy]
            have gca := fun dn os => (cell?_grow (wr.drewN dn) os ⟨ba, oa + p, none⟩ (by have := World.block_lt_of_cell? wr _ ca; exact this)).trans ca
            have gcb := fun dn os => (cell?_grow (wr.drewN dn) os ⟨bb, ob + q, none⟩ (by have := World.block_lt_of_cell? wr _ cb; exact this)).trans cb
            go_wp2_with fail
            refine wp_region_quiet_grown mixed (by kernel_rfl) ?_
            repeat (go_big_quiet_step ((fail)))
            refine wpQuiet_nil ?_
            intro _ hw'
            obtain ⟨⟨nq, osq⟩, hw''⟩ := hw'
            subst hw''
            clear gca gcb
            have hx6 : Ext wr (grow (wr.drewN nq) osq) := ⟨nq, osq, rfl⟩
            replace ca := (hx6.below (Nat.le_refl _)).cell (p := ⟨ba, oa + p, none⟩) (by have := World.block_lt_of_cell? wr _ ca; exact this) |>.trans ca
            replace cb := (hx6.below (Nat.le_refl _)).cell (p := ⟨bb, ob + q, none⟩) (by have := World.block_lt_of_cell? wr _ cb; exact this) |>.trans cb
            have HX6 := Lib.hid hx6
            clear hx6
            generalize grow (wr.drewN nq) osq = w6 at *
            have hxx : Ext wr w6 := HX6.out
            have HXX := Lib.hid hxx
            have HOX := Lib.hid (iown_ext HO.out hxx)
            have HRX1 := Lib.hid (HR1.out.ext hxx)
            have HRX2 := Lib.hid (HR2.out.ext hxx)
            have HBX := Lib.hid (HBW.out.trans (hxx.below hszw))
            have hsx := (hxx.below (Nat.le_refl _)).size
            have HMN := Lib.hid (show Mrg one two (p + 1) q (out ++ [x]) from by rw [EX.out]; exact HMG.out.one_ HA1.out (by have := HM1.out; omega) (by rw [← EX.out]; exact lt_drop HA2.out (by have := HM2.out; omega) (by rw [← EY.out]; exact hxy)))
            clear hxx
            go_wp2_with (at_builtin; refine wpList_push rfl _ _ rfl w.heap.size _ out.length _ rfl (iown_ext HOX.out ((Ext.refl _).alloc _)) w6.heap.size x rfl (heap_alloc_new w6 _) ?c1 ?c2 ?c3 ?_)
            case c1 => unfold maxLen; omega
            case c2 => omega
            case c3 => simp; omega
            intro v' w9 hown' hgrow hat
            rw [← vis_snoc] at hown'
            have hlen9 : out.length + 1 = (out ++ [x]).length := by simp
            rw [hlen9] at hown'
            have N1 := Lib.hid hown'
            have N2 := Lib.hid ((HRX1.out.ext ((Ext.refl _).alloc _)).grown hgrow (by rw [World.size_alloc]; exact hat))
            have N3 := Lib.hid ((HRX2.out.ext ((Ext.refl _).alloc _)).grown hgrow (by rw [World.size_alloc]; exact hat))
            have N4 := Lib.hid ((HBX.out.trans (((Ext.refl w6).alloc _).below (by omega))).grown hgrow (by simp; omega) (fun j hj => (HOX.out.lt j hj).1))
            clear hown' hgrow hat hlen9 ca
            go_wp2_with fail
            go_roundw
            case rel => first | exact ⟨p + 1, q, _, by omega, by omega, by go_num, by go_num, N1.out, N2.out, N3.out, HMN.out, N4.out⟩ | ((repeat apply Exists.intro); exact ⟨⟨p + 1, q, _, by omega, by omega, by go_num, by go_num, N1.out, N2.out, N3.out, HMN.out, N4.out⟩, rfl⟩)
            case measure => simp [intOf]; omega
          · have dxy : decide (x < y) = false := by simp [hxy]
            by_cases hyx : y < x
            · have dyx : decide (y < x) = true := by simp [hyx]
              have gca := fun dn os => (cell?_grow (wr.drewN dn) os ⟨ba, oa + p, none⟩ (by have := World.block_lt_of_cell? wr _ ca; exact this)).trans ca
              have gcb := fun dn os => (cell?_grow (wr.drewN dn) os ⟨bb, ob + q, none⟩ (by have := World.block_lt_of_cell? wr _ cb; exact this)).trans cb
              go_wp2_with fail
              refine wp_region_quiet_grown mixed (by kernel_rfl) ?_
              repeat (go_big_quiet_step ((fail)))
              refine wpQuiet_nil ?_
              intro _ hw'
              obtain ⟨⟨nq, osq⟩, hw''⟩ := hw'
              subst hw''
              clear gca gcb
              have hx6 : Ext wr (grow (wr.drewN nq) osq) := ⟨nq, osq, rfl⟩
              replace ca := (hx6.below (Nat.le_refl _)).cell (p := ⟨ba, oa + p, none⟩) (by have := World.block_lt_of_cell? wr _ ca; exact this) |>.trans ca
              replace cb := (hx6.below (Nat.le_refl _)).cell (p := ⟨bb, ob + q, none⟩) (by have := World.block_lt_of_cell? wr _ cb; exact this) |>.trans cb
              have HX6 := Lib.hid hx6
              clear hx6
              generalize grow (wr.drewN nq) osq = w6 at *
              have gca := fun dn os => (cell?_grow (w6.drewN dn) os ⟨ba, oa + p, none⟩ (by have := World.block_lt_of_cell? w6 _ ca; exact this)).trans ca
              have gcb := fun dn os => (cell?_grow (w6.drewN dn) os ⟨bb, ob + q, none⟩ (by have := World.block_lt_of_cell? w6 _ cb; exact this)).trans cb
              go_wp2_with fail
              refine wp_region_quiet_grown mixed (by kernel_rfl) ?_
              repeat (go_big_quiet_step ((fail)))
              refine wpQuiet_nil ?_
              intro _ hw'
              obtain ⟨⟨nq, osq⟩, hw''⟩ := hw'
              subst hw''
              clear gca gcb
              have hx7 : Ext w6 (grow (w6.drewN nq) osq) := ⟨nq, osq, rfl⟩
              replace ca := (hx7.below (Nat.le_refl _)).cell (p := ⟨ba, oa + p, none⟩) (by have := World.block_lt_of_cell? w6 _ ca; exact this) |>.trans ca
              replace cb := (hx7.below (Nat.le_refl _)).cell (p := ⟨bb, ob + q, none⟩) (by have := World.block_lt_of_cell? w6 _ cb; exact this) |>.trans cb
              have HX7 := Lib.hid hx7
              clear hx7
              generalize grow (w6.drewN nq) osq = w7 at *
              have hxx : Ext wr w7 := HX6.out.trans HX7.out
              have HXX := Lib.hid hxx
              have HOX := Lib.hid (iown_ext HO.out hxx)
              have HRX1 := Lib.hid (HR1.out.ext hxx)
              have HRX2 := Lib.hid (HR2.out.ext hxx)
              have HBX := Lib.hid (HBW.out.trans (hxx.below hszw))
              have hsx := (hxx.below (Nat.le_refl _)).size
              have HMN := Lib.hid (show Mrg one two p (q + 1) (out ++ [y]) from by rw [EY.out]; exact HMG.out.two_ HA2.out (by have := HM2.out; omega) (by rw [← EY.out]; exact lt_drop HA1.out (by have := HM1.out; omega) (by rw [← EX.out]; exact hyx)))
              clear hxx
              go_wp2_with (at_builtin; refine wpList_push rfl _ _ rfl w.heap.size _ out.length _ rfl (iown_ext HOX.out ((Ext.refl _).alloc _)) w7.heap.size y rfl (heap_alloc_new w7 _) ?c1 ?c2 ?c3 ?_)
              case c1 => unfold maxLen; omega
              case c2 => omega
              case c3 => simp; omega
              intro v' w9 hown' hgrow hat
              rw [← vis_snoc] at hown'
              have hlen9 : out.length + 1 = (out ++ [y]).length := by simp
              rw [hlen9] at hown'
              have N1 := Lib.hid hown'
              have N2 := Lib.hid ((HRX1.out.ext ((Ext.refl _).alloc _)).grown hgrow (by rw [World.size_alloc]; exact hat))
              have N3 := Lib.hid ((HRX2.out.ext ((Ext.refl _).alloc _)).grown hgrow (by rw [World.size_alloc]; exact hat))
              have N4 := Lib.hid ((HBX.out.trans (((Ext.refl w7).alloc _).below (by omega))).grown hgrow (by simp; omega) (fun j hj => (HOX.out.lt j hj).1))
              clear hown' hgrow hat hlen9 ca
              go_wp2_with fail
              go_roundw
              case rel => first | exact ⟨p, q + 1, _, by omega, by omega, by go_num, by go_num, N1.out, N2.out, N3.out, HMN.out, N4.out⟩ | ((repeat apply Exists.intro); exact ⟨⟨p, q + 1, _, by omega, by omega, by go_num, by go_num, N1.out, N2.out, N3.out, HMN.out, N4.out⟩, rfl⟩)
              case measure => simp [intOf]; omega
            · have dyx : decide (y < x) = false := by simp [hyx]
              have gca := fun dn os => (cell?_grow (wr.drewN dn) os ⟨ba, oa + p, none⟩ (by have := World.block_lt_of_cell? wr _ ca; exact this)).trans ca
              have gcb := fun dn os => (cell?_grow (wr.drewN dn) os ⟨bb, ob + q, none⟩ (by have := World.block_lt_of_cell? wr _ cb; exact this)).trans cb
              go_wp2_with fail
              refine wp_region_quiet_grown mixed (by kernel_rfl) ?_
              repeat (go_big_quiet_step ((fail)))
              refine wpQuiet_nil ?_
              intro _ hw'
              obtain ⟨⟨nq, osq⟩, hw''⟩ := hw'
              subst hw''
              clear gca gcb
              have hx6 : Ext wr (grow (wr.drewN nq) osq) := ⟨nq, osq, rfl⟩
              replace ca := (hx6.below (Nat.le_refl _)).cell (p := ⟨ba, oa + p, none⟩) (by have := World.block_lt_of_cell? wr _ ca; exact this) |>.trans ca
              replace cb := (hx6.below (Nat.le_refl _)).cell (p := ⟨bb, ob + q, none⟩) (by have := World.block_lt_of_cell? wr _ cb; exact this) |>.trans cb
              have HX6 := Lib.hid hx6
              clear hx6
              generalize grow (wr.drewN nq) osq = w6 at *
              have gca := fun dn os => (cell?_grow (w6.drewN dn) os ⟨ba, oa + p, none⟩ (by have := World.block_lt_of_cell? w6 _ ca; exact this)).trans ca
              have gcb := fun dn os => (cell?_grow (w6.drewN dn) os ⟨bb, ob + q, none⟩ (by have := World.block_lt_of_cell? w6 _ cb; exact this)).trans cb
              go_wp2_with fail
              refine wp_region_quiet_grown mixed (by kernel_rfl) ?_
              repeat (go_big_quiet_step ((fail)))
              refine wpQuiet_nil ?_
              intro _ hw'
              obtain ⟨⟨nq, osq⟩, hw''⟩ := hw'
              subst hw''
              clear gca gcb
              have hx7 : Ext w6 (grow (w6.drewN nq) osq) := ⟨nq, osq, rfl⟩
              replace ca := (hx7.below (Nat.le_refl _)).cell (p := ⟨ba, oa + p, none⟩) (by have := World.block_lt_of_cell? w6 _ ca; exact this) |>.trans ca
              replace cb := (hx7.below (Nat.le_refl _)).cell (p := ⟨bb, ob + q, none⟩) (by have := World.block_lt_of_cell? w6 _ cb; exact this) |>.trans cb
              have HX7 := Lib.hid hx7
              clear hx7
              generalize grow (w6.drewN nq) osq = w7 at *
              have hxx : Ext wr w7 := HX6.out.trans HX7.out
              have N1 := Lib.hid (iown_ext HO.out hxx)
              have N2 := Lib.hid (HR1.out.ext hxx)
              have N3 := Lib.hid (HR2.out.ext hxx)
              have N4 := Lib.hid (HBW.out.trans (hxx.below hszw))
              have HMN := Lib.hid (HMG.out.same (by have := HM1.out; omega) (by have := HM2.out; omega) (by rw [← EX.out, ← EY.out]; omega))
              clear hxx ca cb
              go_wp2_with fail
              go_roundw
              case rel => first | exact ⟨p + 1, q, _, by omega, by omega, by go_num, rfl, N1.out, N2.out, N3.out, HMN.out, N4.out⟩ | ((repeat apply Exists.intro); exact ⟨⟨p + 1, q, _, by omega, by omega, by go_num, rfl, N1.out, N2.out, N3.out, HMN.out, N4.out⟩, rfl⟩)
              case measure => simp [intOf]; omega
        · have d2e : ((q : Int) == (m2 : Int)) = true := by simp; omega
          have d2n : ¬ (q : Int) < (m2 : Int) := by omega
          have gca := fun dn os => (cell?_grow (wr.drewN dn) os ⟨ba, oa + p, none⟩ (by have := World.block_lt_of_cell? wr _ ca; exact this)).trans ca
          go_wp2_with fail
          refine wp_region_quiet_grown mixed (by kernel_rfl) ?_
          repeat (go_big_quiet_step ((fail)))
          refine wpQuiet_nil ?_
          intro _ hw'
          obtain ⟨⟨nq, osq⟩, hw''⟩ := hw'
          subst hw''
          clear gca
          have hx6 : Ext wr (grow (wr.drewN nq) osq) := ⟨nq, osq, rfl⟩
          replace ca := (hx6.below (Nat.le_refl _)).cell (p := ⟨ba, oa + p, none⟩) (by have := World.block_lt_of_cell? wr _ ca; exact this) |>.trans ca
          have HX6 := Lib.hid hx6
          clear hx6
          generalize grow (wr.drewN nq) osq = w6 at *
          have hxx : Ext wr w6 := HX6.out
          have HXX := Lib.hid hxx
          have HOX := Lib.hid (iown_ext HO.out hxx)
          have HRX1 := Lib.hid (HR1.out.ext hxx)
          have HRX2 := Lib.hid (HR2.out.ext hxx)
          have HBX := Lib.hid (HBW.out.trans (hxx.below hszw))
          have hsx := (hxx.below (Nat.le_refl _)).size
          have HMN := Lib.hid (show Mrg one two (p + 1) q (out ++ [x]) from by rw [EX.out]; exact HMG.out.one_ HA1.out (by have := HM1.out; omega) (fun z hz => by rw [List.drop_eq_nil_of_le (by have := HM2.out; omega)] at hz; simp at hz))
          clear hxx
          go_wp2_with (at_builtin; refine wpList_push rfl _ _ rfl w.heap.size _ out.length _ rfl (iown_ext HOX.out ((Ext.refl _).alloc _)) w6.heap.size x rfl (heap_alloc_new w6 _) ?c1 ?c2 ?c3 ?_)
          case c1 => unfold maxLen; omega
          case c2 => omega
          case c3 => simp; omega
          intro v' w9 hown' hgrow hat
          rw [← vis_snoc] at hown'
          have hlen9 : out.length + 1 = (out ++ [x]).length := by simp
          rw [hlen9] at hown'
          have N1 := Lib.hid hown'
          have N2 := Lib.hid ((HRX1.out.ext ((Ext.refl _).alloc _)).grown hgrow (by rw [World.size_alloc]; exact hat))
          have N3 := Lib.hid ((HRX2.out.ext ((Ext.refl _).alloc _)).grown hgrow (by rw [World.size_alloc]; exact hat))
          have N4 := Lib.hid ((HBX.out.trans (((Ext.refl w6).alloc _).below (by omega))).grown hgrow (by simp; omega) (fun j hj => (HOX.out.lt j hj).1))
          clear hown' hgrow hat hlen9 ca
          go_wp2_with fail
          go_roundw
          case rel => first | exact ⟨p + 1, q, _, by omega, by omega, by go_num, by go_num, N1.out, N2.out, N3.out, HMN.out, N4.out⟩ | ((repeat apply Exists.intro); exact ⟨⟨p + 1, q, _, by omega, by omega, by go_num, by go_num, N1.out, N2.out, N3.out, HMN.out, N4.out⟩, rfl⟩)
          case measure => simp [intOf]; omega
      · have d1 : ¬ (p : Int) < (m1 : Int) := by omega
        have d1b : decide ((p : Int) < (m1 : Int)) = false := by simp; omega
        have d1n : decide (p < m1) = false := by simp; omega
        have d1e : ((p : Int) == (m1 : Int)) = true := by simp; omega
        by_cases hq1 : q < m2
        · obtain ⟨bb, ob, hA2, hbb, -, hcb⟩ := HR2.out (by have := HM2.out; omega)
          subst hA2
          have cb := hcb q (by have := HM2.out; omega)
          obtain ⟨y, hY⟩ : ∃ y, y = two.getD q 0 := ⟨_, rfl⟩
          rw [← hY] at cb
          have EY := Lib.hid hY
          clear hY hcb
          have d2 : (q : Int) < (m2 : Int) := by omega
          have d2e : ((q : Int) == (m2 : Int)) = false := by simp; omega
          have gcb := fun dn os => (cell?_grow (wr.drewN dn) os ⟨bb, ob + q, none⟩ (by have := World.block_lt_of_cell? wr _ cb; exact this)).trans cb
          go_wp2_with fail
          refine wp_region_quiet_grown mixed (by kernel_rfl) ?_
          repeat (go_big_quiet_step ((fail)))
          refine wpQuiet_nil ?_
          intro _ hw'
          obtain ⟨⟨nq, osq⟩, hw''⟩ := hw'
          subst hw''
          clear gcb
          have hx6 : Ext wr (grow (wr.drewN nq) osq) := ⟨nq, osq, rfl⟩
          replace cb := (hx6.below (Nat.le_refl _)).cell (p := ⟨bb, ob + q, none⟩) (by have := World.block_lt_of_cell? wr _ cb; exact this) |>.trans cb
          have HX6 := Lib.hid hx6
          clear hx6
          generalize grow (wr.drewN nq) osq = w6 at *
          have gcb := fun dn os => (cell?_grow (w6.drewN dn) os ⟨bb, ob + q, none⟩ (by have := World.block_lt_of_cell? w6 _ cb; exact this)).trans cb
          go_wp2_with fail
          refine wp_region_quiet_grown mixed (by kernel_rfl) ?_
          repeat (go_big_quiet_step ((fail)))
          refine wpQuiet_nil ?_
          intro _ hw'
          obtain ⟨⟨nq, osq⟩, hw''⟩ := hw'
          subst hw''
          clear gcb
          have hx7 : Ext w6 (grow (w6.drewN nq) osq) := ⟨nq, osq, rfl⟩
          replace cb := (hx7.below (Nat.le_refl _)).cell (p := ⟨bb, ob + q, none⟩) (by have := World.block_lt_of_cell? w6 _ cb; exact this) |>.trans cb
          have HX7 := Lib.hid hx7
          clear hx7
          generalize grow (w6.drewN nq) osq = w7 at *
          have hxx : Ext wr w7 := HX6.out.trans HX7.out
          have HXX := Lib.hid hxx
          have HOX := Lib.hid (iown_ext HO.out hxx)
          have HRX1 := Lib.hid (HR1.out.ext hxx)
          have HRX2 := Lib.hid (HR2.out.ext hxx)
          have HBX := Lib.hid (HBW.out.trans (hxx.below hszw))
          have hsx := (hxx.below (Nat.le_refl _)).size
          have HMN := Lib.hid (show Mrg one two p (q + 1) (out ++ [y]) from by rw [EY.out]; exact HMG.out.two_ HA2.out (by have := HM2.out; omega) (fun z hz => by rw [List.drop_eq_nil_of_le (by have := HM1.out; omega)] at hz; simp at hz))
          clear hxx
          go_wp2_with (at_builtin; refine wpList_push rfl _ _ rfl w.heap.size _ out.length _ rfl (iown_ext HOX.out ((Ext.refl _).alloc _)) w7.heap.size y rfl (heap_alloc_new w7 _) ?c1 ?c2 ?c3 ?_)
          case c1 => unfold maxLen; omega
          case c2 => omega
          case c3 => simp; omega
          intro v' w9 hown' hgrow hat
          rw [← vis_snoc] at hown'
          have hlen9 : out.length + 1 = (out ++ [y]).length := by simp
          rw [hlen9] at hown'
          have N1 := Lib.hid hown'
          have N2 := Lib.hid ((HRX1.out.ext ((Ext.refl _).alloc _)).grown hgrow (by rw [World.size_alloc]; exact hat))
          have N3 := Lib.hid ((HRX2.out.ext ((Ext.refl _).alloc _)).grown hgrow (by rw [World.size_alloc]; exact hat))
          have N4 := Lib.hid ((HBX.out.trans (((Ext.refl w7).alloc _).below (by omega))).grown hgrow (by simp; omega) (fun j hj => (HOX.out.lt j hj).1))
          clear hown' hgrow hat hlen9 cb
          go_wp2_with fail
          go_roundw
          case rel => first | exact ⟨p, q + 1, _, by omega, by omega, by go_num, by go_num, N1.out, N2.out, N3.out, HMN.out, N4.out⟩ | ((repeat apply Exists.intro); exact ⟨⟨p, q + 1, _, by omega, by omega, by go_num, by go_num, N1.out, N2.out, N3.out, HMN.out, N4.out⟩, rfl⟩)
          case measure => simp [intOf]; omega
        · have d2 : ¬ (q : Int) < (m2 : Int) := by omega
          have d2b : decide ((q : Int) < (m2 : Int)) = false := by simp; omega
          have HEND := Lib.hid (show out = sortI xs from HDONE.out out (by
            have h1 : p = m1 := by omega
            have h2 : q = m2 := by omega
            have h3 := HMG.out
            rw [h1, h2] at h3
            exact h3))
          go_wp2_with fail
          go_ret
          obtain ⟨A9, c9, hv9, hc9, hw9⟩ := own_iwr HO.out rfl
          exact ⟨A9, c9, by rw [← HEND.out]; exact congrArg Ending.returned hv9, by rw [← HEND.out]; exact hc9, by rw [← HEND.out]; exact hw9.ir, HBW.out⟩
set_option maxHeartbeats 1000000 in
theorem sorted_small (A : Option Addr) (n c : Nat) (xs : List Int) (w : World) (h2 : n < 2) (hl : xs.length = n) (hc : n ≤ c) (hA : IR w w.heap.size A xs) :
    Calls Try.prog 102 #[.slice A n c] w (SrtRes w xs) := by
  have hs := sortI_short (xs := xs) (by omega)
  have H := Lib.hid (And.intro hl (And.intro hA hs))
  clear hl hA hs
  have h2' : (n : Int) < 2 := by omega
  go_enter Try.func102, Try.ntmps102
  go_wp2_with fail
  go_ret
  obtain ⟨hl, hA, hs⟩ := H.out
  exact ⟨A, c, by rw [hs, hl]; rfl, by rw [hs, hl]; exact hc, by rw [hs]; exact hA, Below.refl _ _⟩
theorem l04Sorted_any : ∀ (n : Nat), n ≤ 1048576 → ∀ (A : Option Addr) (c : Nat) (xs : List Int) (w : World), xs.length = n → n ≤ c → IR w w.heap.size A xs → Calls Try.prog 102 #[.slice A n c] w (SrtRes w xs) := by
  intro n
  induction n using Nat.strongRecOn with
  | _ n ih =>
    intro hn A c xs w hl hc hA
    by_cases h2 : n < 2
    · exact sorted_small A n c xs w h2 hl hc hA
    · exact sorted_big A n c xs w hn h2 hl hc hA fun m hm => ih m hm (by omega)
end
end Go.Proofs.Ytleabblnikbmpaa
