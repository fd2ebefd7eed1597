/- Numbers in a block of the call's own. -/
import Derived.Test.YtleabblnikbmpaaInts
import Derived.Test.YtleabblnikbmpaaGrow
namespace Go.Proofs.Ytleabblnikbmpaa
set_option linter.unusedVariables false
set_option linter.unusedSimpArgs false
open Go.RowKit Go.Sort

theorem made_ints (n : Nat) : ∀ j, j < n → (madeCells (Value.cells (.int .i64 0)) (n * 1))[j]? = some (.int .i64 0) := by
  intro j hj
  have h := toList_madeCells_one (.int .i64 0) (n * 1)
  rw [show Value.cells (.int .i64 0) = #[.int .i64 0] from rfl, ← Array.getElem?_toList, h]
  simp [hj]
/-- Distances in memory. -/
def DI (w : World) (g n : Nat) (d : Nat → Int) : Prop := ∃ cs, Blk w g 2 cs ∧ cs.size = n ∧ ∀ j, j < n → cs[j]? = some (.int .i64 (d j))
theorem DI.at_ {w : World} {g n : Nat} {d : Nat → Int} (h : DI w g n d) {j : Nat} (hj : j < n) : w.cell? ⟨g, j, none⟩ = some (.int .i64 (d j)) ∧ w.frozen? ⟨g, j, none⟩ = false := by
  obtain ⟨cs, hb, -, hc⟩ := h
  exact ⟨(hb.cell _).trans (hc j hj), hb.frozen _⟩
theorem DI.below {w w' : World} {g n : Nat} {d : Nat → Int} (h : DI w g n d) {B : Nat} (hx : Below B w w') (hg : g < B) : DI w' g n d := by
  obtain ⟨cs, hb, r⟩ := h
  exact ⟨cs, hb.below hx hg, r⟩
theorem DI.lt {w : World} {g n : Nat} {d : Nat → Int} (h : DI w g n d) : g < w.heap.size := by obtain ⟨cs, hb, -⟩ := h; exact hb.lt
theorem DI.set_ {w : World} {g n : Nat} {d : Nat → Int} (h : DI w g n d) {j : Nat} (hj : j < n) (v : Int) : DI (w.setCell ⟨g, j, none⟩ (.int .i64 v)) g n (fun x => if x = j then v else d x) := by
  obtain ⟨cs, hb, hs, hc⟩ := h
  refine ⟨_, hb.set_ j _, by simp [hs], fun k hk => ?_⟩
  by_cases e : k = j
  · subst e; rw [Array.getElem?_setIfInBounds_self_of_lt (by omega)]; simp
  · rw [Array.getElem?_setIfInBounds_ne (by omega), hc k hk]; simp [e]
theorem DI.congr {w : World} {g n : Nat} {d d' : Nat → Int} (h : DI w g n d) (he : ∀ j, j < n → d j = d' j) : DI w g n d' := by
  obtain ⟨cs, hb, hs, hc⟩ := h
  exact ⟨cs, hb, hs, fun k hk => by rw [← he k hk]; exact hc k hk⟩

theorem DI.ext {w w' : World} {g n : Nat} {d : Nat → Int} (h : DI w g n d) (hx : Ext w w') : DI w' g n d := h.below (hx.below (Nat.le_refl _)) h.lt
theorem DI.far {w : World} {g n : Nat} {d : Nat → Int} (h : DI w g n d) {p : Addr} (hp : g ≠ p.block) (v : Value) : DI (w.setCell p v) g n d := by
  obtain ⟨cs, hb, r⟩ := h
  exact ⟨cs, hb.far hp v, r⟩
/-- The numbers as a list. -/
def listD (n : Nat) (d : Nat → Int) : List Int := (List.range n).map d
theorem listD_len (n : Nat) (d : Nat → Int) : (listD n d).length = n := by simp [listD]
theorem listD_get (n : Nat) (d : Nat → Int) {k : Nat} (hk : k < n) : (listD n d).getD k 0 = d k := by simp [listD, List.getD, hk]
theorem DI.iwr {w : World} {g n : Nat} {d : Nat → Int} (h : DI w g n d) {lo hi : Nat} (h1 : lo ≤ g) (h2 : g < hi) : IWr w lo hi (some ⟨g, 0, none⟩) (listD n d) := fun _ => by
  obtain ⟨cs, hb, hs, hc⟩ := h
  refine ⟨g, 0, _, cs, rfl, h1, h2, hb, fun k hk => ?_⟩
  rw [listD_len] at hk
  rw [listD_get n d hk, Nat.zero_add]
  exact hc k hk
end Go.Proofs.Ytleabblnikbmpaa
