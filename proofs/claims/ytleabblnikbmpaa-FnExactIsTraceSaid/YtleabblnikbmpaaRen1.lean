/- Lists that rename colours: whether a list is one, on both sides. -/
import Derived.Test.YtleabblnikbmpaaInts
import Derived.Test.YtleabblnikbmpaaGrow
import Derived.Lib.Hide
namespace Go.Proofs.Ytleabblnikbmpaa
set_option linter.unusedVariables false
set_option linter.unusedSimpArgs false
open Go.RowKit Go.Sort

/-- Has p each of the numbers 0 to c - 1 once? -/
def isRen (p : List Int) (c : Int) : Bool := decide ((p.length : Int) = c) && (p.all (fun x => decide (0 ≤ x ∧ x < c)) && decide p.Nodup)
theorem iren_len {p : List Int} {c : Int} (h : ¬ (p.length : Int) = c) : isRen p c = false := by simp [isRen, h]
theorem iren_bad {p : List Int} {c : Int} {k : Nat} (hk : k < p.length) (h : ¬ (0 ≤ p.getD k 0 ∧ p.getD k 0 < c)) : isRen p c = false := by
  have : p.all (fun x => decide (0 ≤ x ∧ x < c)) = false := by
    rw [List.all_eq_false]
    exact ⟨p.getD k 0, by simp [List.getD, hk], by simpa using h⟩
  unfold isRen
  rw [this]
  simp
theorem itake_nodup {p : List Int} {k : Nat} (hk : k < p.length) (h : p.Nodup) : p.getD k 0 ∉ p.take k := by
  intro hm
  have h2 : (p.take (k + 1)).Nodup := h.sublist (List.take_sublist _ _)
  rw [List.take_succ_eq_append_getElem hk, List.nodup_append] at h2
  exact h2.2.2 _ hm _ (List.mem_singleton.2 rfl) (by simp [List.getD, hk])
theorem iren_dup {p : List Int} {c : Int} {k : Nat} (hk : k < p.length) (h : p.getD k 0 ∈ p.take k) : isRen p c = false := by
  have : decide p.Nodup = false := decide_eq_false fun hn => itake_nodup hk hn h
  simp [isRen, this]
theorem iren_all {p : List Int} {c : Int} (hl : (p.length : Int) = c) (h1 : ∀ j, j < p.length → 0 ≤ p.getD j 0 ∧ p.getD j 0 < c) (h2 : p.Nodup) : isRen p c = true := by
  have : p.all (fun x => decide (0 ≤ x ∧ x < c)) = true := by
    rw [List.all_eq_true]
    intro x hx
    obtain ⟨i, hi, rfl⟩ := List.mem_iff_getElem.1 hx
    have := h1 i hi
    rw [decide_eq_true_eq]
    simpa [List.getD, hi] using this
  unfold isRen
  rw [this]
  simp [hl, h2]
theorem itake_snoc' (xs : List Int) {k : Nat} (hk : k < xs.length) : xs.take (k + 1) = xs.take k ++ [xs.getD k 0] := by
  rw [List.take_succ_eq_append_getElem hk]
  simp [List.getD, hk]
theorem inodup_snoc {p : List Int} {k : Nat} (hk : k < p.length) (h : (p.take k).Nodup) (hn : p.getD k 0 ∉ p.take k) : (p.take (k + 1)).Nodup := by
  rw [itake_snoc' p hk, List.nodup_append]
  refine ⟨h, by simp, fun a ha b hb => ?_⟩
  rw [List.mem_singleton] at hb
  subst hb
  exact fun e => hn (e ▸ ha)

/-- Block g tells, for each number below sz, whether it is in the list. -/
def SeenB (w : World) (g : Nat) (t : TypeId) (sz : Nat) (p : List Int) : Prop := ∃ cs, Blk w g t cs ∧ cs.size = sz ∧ ∀ x : Nat, x < sz → cs[x]? = some (.bool (decide ((x : Int) ∈ p)))
theorem SeenB.start {w : World} {g : Nat} {t : TypeId} {cs : Array Value} (hb : Blk w g t cs) (h : ∀ x : Nat, x < cs.size → cs[x]? = some (.bool false)) : SeenB w g t cs.size [] := ⟨cs, hb, rfl, fun x hx => by simpa using h x hx⟩
theorem SeenB.at_ {w : World} {g : Nat} {t : TypeId} {sz : Nat} {p : List Int} (h : SeenB w g t sz p) {x : Nat} (hx : x < sz) : w.cell? ⟨g, x, none⟩ = some (.bool (decide ((x : Int) ∈ p))) ∧ w.frozen? ⟨g, x, none⟩ = false := by
  obtain ⟨cs, hb, hs, hc⟩ := h
  exact ⟨(hb.cell x).trans (hc x hx), hb.frozen x⟩
theorem SeenB.below {w w' : World} {g : Nat} {t : TypeId} {sz : Nat} {p : List Int} (h : SeenB w g t sz p) (hx : Below w.heap.size w w') : SeenB w' g t sz p := by
  obtain ⟨cs, hb, hs, hc⟩ := h
  exact ⟨cs, hb.below hx hb.lt, hs, hc⟩
theorem SeenB.step {w : World} {g : Nat} {t : TypeId} {sz : Nat} {p : List Int} (h : SeenB w g t sz p) {x : Nat} (hx : x < sz) : SeenB (w.setCell ⟨g, x, none⟩ (.bool true)) g t sz (p ++ [(x : Int)]) := by
  obtain ⟨cs, hb, hs, hc⟩ := h
  refine ⟨cs.setIfInBounds x (.bool true), hb.set_ _ _, by simpa using hs, fun y hy => ?_⟩
  rw [Array.getElem?_setIfInBounds]
  by_cases e : x = y
  · subst e
    rw [if_pos rfl, if_pos (by omega)]
    simp
  · rw [if_neg e, hc y hy]
    have : ¬ ((y : Int) = (x : Int)) := by omega
    simp [this]

theorem info_bool : (Try.prog.info? 4).map (fun i => (i.zero, i.size, i.bytes)) = some (some (.bool false), 1, 1) := by kernel_rfl
theorem made_false {n : Nat} {cs : Array Value} (h : cs = madeCells (Value.cells (.bool false)) (n * 1)) : cs.size = n ∧ ∀ x : Nat, x < cs.size → cs[x]? = some (.bool false) := by
  have hs : cs.size = n := by rw [h, size_madeCells, Nat.mul_one]
  refine ⟨hs, fun x hx => ?_⟩
  subst h
  rw [Array.getElem?_eq_getElem hx]
  simp [madeCells, Value.cells, Nat.mod_one]
end Go.Proofs.Ytleabblnikbmpaa
