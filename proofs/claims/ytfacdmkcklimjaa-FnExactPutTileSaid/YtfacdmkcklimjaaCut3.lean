/- The box and the row that a call hands back lie apart. -/
import Derived.Test.YtfacdmkcklimjaaCut2
namespace Go.Proofs.Ytfacdmkcklimjaa
set_option linter.unusedVariables false
set_option linter.unusedSimpArgs false
open Go.RowKit Go.Sort

theorem TWr.far {w : World} {lo hi : Nat} {A : Option Addr} {ts : List Tl} (h : TWr w lo hi A ts) {p : Addr} (hp : p.block < lo ∨ hi ≤ p.block) (u : Value) : TWr (w.setCell p u) lo hi A ts := fun h0 => by
  obtain ⟨b, off, t, cs, e, hl, hh, hb, hc⟩ := h h0
  exact ⟨b, off, t, cs, e, hl, hh, hb.far (by omega) u, hc⟩
theorem close_rng {B g lo hi : Nat} {W wF : World} {t : TypeId} {A : Option Addr} {us : List Tl} (v0 v1 u0 u1 : Value) (hK : Below B W wF) (hw : TWr wF lo hi A us) (hg : Blk wF g t #[u0, u1]) (hout : g < lo ∨ hi ≤ g) (hBlo : B ≤ lo) (hhi : hi ≤ wF.heap.size) (hBg : B ≤ g) :
    B ≤ g ∧ g < ((wF.setCell ⟨g, 0, none⟩ v0).setCell ⟨g, 1, none⟩ v1).heap.size ∧ Blk ((wF.setCell ⟨g, 0, none⟩ v0).setCell ⟨g, 1, none⟩ v1) g t #[v0, v1] ∧
      (∃ lo hi, B ≤ lo ∧ hi ≤ ((wF.setCell ⟨g, 0, none⟩ v0).setCell ⟨g, 1, none⟩ v1).heap.size ∧ (g < lo ∨ hi ≤ g) ∧ TWr ((wF.setCell ⟨g, 0, none⟩ v0).setCell ⟨g, 1, none⟩ v1) lo hi A us) ∧ Below B W ((wF.setCell ⟨g, 0, none⟩ v0).setCell ⟨g, 1, none⟩ v1) := by
  have h1 : Blk ((wF.setCell ⟨g, 0, none⟩ v0).setCell ⟨g, 1, none⟩ v1) g t #[v0, v1] := (hg.set_ 0 v0).set_ 1 v1
  exact ⟨hBg, h1.lt, h1, ⟨lo, hi, hBlo, by simpa using hhi, hout, (hw.far hout _).far hout _⟩, (hK.setCell hBg _).setCell hBg _⟩
theorem close_set2 {B g : Nat} {W cur wF : World} {t : TypeId} {A : Option Addr} {us : List Tl} {cs : Array Value} (v0 v1 u0 u1 : Value) (hK : Below B W cur) (hb : Below cur.heap.size cur wF) (hw : TW wF cur.heap.size A us) (hg : Blk cur g t cs) (hcs : cs = #[u0, u1]) (hBg : B ≤ g) (hB : B ≤ W.heap.size) :
    B ≤ g ∧ g < ((wF.setCell ⟨g, 0, none⟩ v0).setCell ⟨g, 1, none⟩ v1).heap.size ∧ Blk ((wF.setCell ⟨g, 0, none⟩ v0).setCell ⟨g, 1, none⟩ v1) g t #[v0, v1] ∧
      (∃ lo hi, B ≤ lo ∧ hi ≤ ((wF.setCell ⟨g, 0, none⟩ v0).setCell ⟨g, 1, none⟩ v1).heap.size ∧ (g < lo ∨ hi ≤ g) ∧ TWr ((wF.setCell ⟨g, 0, none⟩ v0).setCell ⟨g, 1, none⟩ v1) lo hi A us) ∧ Below B W ((wF.setCell ⟨g, 0, none⟩ v0).setCell ⟨g, 1, none⟩ v1) := by
  subst hcs
  have hBc := Nat.le_trans hB hK.size
  exact close_rng v0 v1 u0 u1 (hK.trans (hb.mono hBc)) hw.r (hg.below hb hg.lt) (.inl hg.lt) hBc (Nat.le_refl _) hBg
theorem close_new2 {B : Nat} {W cur wF wy : World} (t : TypeId) {A : Option Addr} {us : List Tl} (v0 v1 : Value) (hK : Below B W cur) (hb : Below cur.heap.size cur wF) (hw : TW wF cur.heap.size A us) (hx : Ext wF wy) (hB : B ≤ W.heap.size) :
    B ≤ wy.heap.size ∧ wy.heap.size < (wy.alloc (Obj.cells #[v0, v1] t)).heap.size ∧ Blk (wy.alloc (Obj.cells #[v0, v1] t)) wy.heap.size t #[v0, v1] ∧
      (∃ lo hi, B ≤ lo ∧ hi ≤ (wy.alloc (Obj.cells #[v0, v1] t)).heap.size ∧ (wy.heap.size < lo ∨ hi ≤ wy.heap.size) ∧ TWr (wy.alloc (Obj.cells #[v0, v1] t)) lo hi A us) ∧ Below B W (wy.alloc (Obj.cells #[v0, v1] t)) := by
  have hBc := Nat.le_trans hB hK.size
  have hsz := (hx.below (Nat.le_refl _)).size
  have hy := (hK.trans (hb.mono hBc)).trans (hx.below (Nat.le_trans hBc hb.size))
  refine ⟨Nat.le_trans hB hy.size, by simp, Blk.new _ _ _, ⟨cur.heap.size, wF.heap.size, hBc, by simp; omega, .inr hsz, (hw.r.ext hx).ext ((Ext.refl _).alloc _)⟩, hy.alloc (Nat.le_trans hB hy.size) _⟩
end Go.Proofs.Ytfacdmkcklimjaa
