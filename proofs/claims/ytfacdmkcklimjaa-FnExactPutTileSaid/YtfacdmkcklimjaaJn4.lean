/- Joins of sets: the model's side. -/
import Derived.Test.YtfacdmkcklimjaaJn3
import Derived.Test.YtfacdmkcklimjaaTold
import Derived.Test.YtfacdmkcklimjaaCut2
import Derived.Deep.RegionHeld3
import Derived.Deep.RegionLaw
import Derived.Deep.DeepCutAuto
import Derived.Lib.Hide
namespace Go.Proofs.Ytfacdmkcklimjaa
set_option linter.unusedVariables false
set_option linter.unusedSimpArgs false
open Go.RowKit Go.Sort

theorem blk_grown {w w' : World} {g : Nat} {t : TypeId} {cs : Array Value} {row : Option Nat} (h : Blk w g t cs) (hg : w.grownBy w' row) (hne : row ≠ some g) : Blk w' g t cs := (hg.block g h.lt (fun e => hne e.symm)).trans h
theorem reads_ext {w w' : World} {B size n : Nat} {A : Option Addr} {xs : List Value} (h : Reads w B size A n xs) (hx : Ext w w') (hB : B ≤ w.heap.size) : Reads w' B size A n xs := h.below (hx.below hB)
/-- A row has grown, and goes into a box that was there. -/
theorem close_own_set {B g n : Nat} {W cur w3 wy : World} {t : TypeId} {v0 v' u0 u1 x : Value} {xs : List Value} (hK : Below B W cur) (hgrow : cur.grownBy w3 v0.ownBlock) (hat : v'.ownBlock = v0.ownBlock ∨ v'.ownBlock = some cur.heap.size)
    (hown : w3.ownsRow B 33 4 v' n xs) (hg : Blk cur g t #[u0, u1]) (hne : v0.ownBlock ≠ some g) (hBg : B ≤ g) (hrow : ∀ k, v0.ownBlock = some k → B ≤ k) (hB : B ≤ W.heap.size)
    (hx : Ext ((w3.setCell ⟨g, 0, none⟩ x).setCell ⟨g, 1, none⟩ v') wy) : B ≤ g ∧ Blk wy g t #[x, v'] ∧ wy.ownsRow B 33 4 v' n xs ∧ v'.ownBlock ≠ some g ∧ Below B W wy := by
  have hlt := hg.lt
  have hne' : v'.ownBlock ≠ some g := by
    rcases hat with h | h
    · rw [h]; exact hne
    · rw [h]; intro e; cases e; exact Nat.lt_irrefl _ hlt
  have hg3 := blk_grown hg hgrow hne
  have hBc := Nat.le_trans hB hK.size
  have hb3 := hK.grown hgrow hBc (fun k hk => hrow k hk)
  refine ⟨hBg, (show Blk ((w3.setCell ⟨g, 0, none⟩ x).setCell ⟨g, 1, none⟩ v') g t #[x, v'] from (hg3.set_ 0 x).set_ 1 v').ext hx, own_ext (own_far (own_far hown (fun e => hne' e.symm) _) (fun e => hne' e.symm) _) hx, hne', ?_⟩
  have hb4 := (hb3.setCell (p := ⟨g, 0, none⟩) hBg x).setCell (p := ⟨g, 1, none⟩) hBg v'
  exact hb4.trans (hx.below (Nat.le_trans hB hb4.size))
/-- The box is laid behind it. -/
theorem close_own_new {B n : Nat} {W cur w3 wy wz : World} (t : TypeId) {v0 v' : Value} (x : Value) {xs : List Value} (hK : Below B W cur) (hgrow : cur.grownBy w3 v0.ownBlock)
    (hown : w3.ownsRow B 33 4 v' n xs) (hrow : ∀ k, v0.ownBlock = some k → B ≤ k) (hB : B ≤ W.heap.size) (h3 : Ext w3 wy)
    (hx : Ext (wy.alloc (Obj.cells #[x, v'] t)) wz) : B ≤ wy.heap.size ∧ Blk wz wy.heap.size t #[x, v'] ∧ wz.ownsRow B 33 4 v' n xs ∧ v'.ownBlock ≠ some wy.heap.size ∧ Below B W wz := by
  have hBc := Nat.le_trans hB hK.size
  have hb3 := hK.grown hgrow hBc (fun k hk => hrow k hk)
  have hb4 := hb3.trans (h3.below (Nat.le_trans hB hb3.size))
  have hBy := Nat.le_trans hB hb4.size
  have hb5 := hb4.alloc hBy (Obj.cells #[x, v'] t)
  refine ⟨hBy, (Blk.new wy t #[x, v']).ext hx, own_ext hown ((h3.alloc _).trans hx), fun e => ?_, hb5.trans (hx.below (Nat.le_trans hB hb5.size))⟩
  have h6 := (own_ext hown h3).lt _ e
  omega

theorem cell_far2 {w : World} {p : Addr} {v : Option Value} (h : w.cell? p = v) {g : Nat} (hne : p.block ≠ g) (a b : Value) : ((w.setCell ⟨g, 0, none⟩ a).setCell ⟨g, 1, none⟩ b).cell? p = v := by
  rw [World.cell?_setCell_other _ _ _ _ (fun e => hne (by rw [← e])), World.cell?_setCell_other _ _ _ _ (fun e => hne (by rw [← e]))]
  exact h
theorem below_pair0 {B : Nat} {w cur w1 : World} {row : Option Nat} (hg : cur.grownBy w1 row) (h : Below B w cur) : Below B w cur := h
theorem blk_pair0 {g : Nat} {t : TypeId} {cs : Array Value} {a cur w1 : World} {row : Option Nat} (hg : cur.grownBy w1 row) (h : Blk a g t cs) (hx : Ext a cur) : Blk cur g t cs := h.ext hx

end Go.Proofs.Ytfacdmkcklimjaa
