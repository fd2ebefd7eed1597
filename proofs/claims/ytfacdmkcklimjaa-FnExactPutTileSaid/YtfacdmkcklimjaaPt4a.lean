/- PutTile: plain words for the model's side. -/
import Derived.Test.YtfacdmkcklimjaaPt3
import Derived.Deep.RegionHeld3
import Derived.Deep.RegionLaw
import Derived.Deep.DeepCutAuto
import Derived.Lib.Hide
namespace Go.Proofs.Ytfacdmkcklimjaa
set_option linter.unusedVariables false
set_option linter.unusedSimpArgs false
open Go.RowKit Go.Sort

theorem TWr.tw {w : World} {lo hi : Nat} {A : Option Addr} {ts : List Tl} (h : TWr w lo hi A ts) : TW w lo A ts := fun h0 => by
  obtain ⟨b, off, t, cs, e, hl, _, hb, hc⟩ := h h0
  exact ⟨b, off, t, cs, e, hl, hb, hc⟩
theorem blk_at1 (W : World) (o : Obj) (t : TypeId) (cs : Array Value) : Blk ((W.alloc o).alloc (.cells cs t)) (W.heap.size + 1) t cs := by have := Blk.new (W.alloc o) t cs; simpa using this
theorem blk_at2 (W : World) (o o' : Obj) (t : TypeId) (cs : Array Value) : Blk (((W.alloc o).alloc o').alloc (.cells cs t)) (W.heap.size + 1 + 1) t cs := by have := Blk.new ((W.alloc o).alloc o') t cs; simpa using this
theorem own_empty {X : World} {B g : Nat} (h : Blk X g 33 #[]) (hB : B ≤ g) : X.ownsRow B 33 4 (.slice (some ⟨g, 0, none⟩) 0 0) 0 [] :=
  ⟨rfl, .inr ⟨g, 0, #[], rfl, hB, h, Nat.le_refl _, by unfold maxLen; omega, rfl, rfl⟩⟩
theorem kept_blk {X w' : World} {g : Nat} {t : TypeId} {cs : Array Value} {v v' : Value} (h : Blk X g t cs) (hgrow : X.grownBy w' v.ownBlock) (hat : v'.ownBlock = v.ownBlock ∨ v'.ownBlock = some X.heap.size) (hne : v.ownBlock ≠ some g) : Blk w' g t cs ∧ v'.ownBlock ≠ some g := by
  have hlt := h.lt
  refine ⟨blk_grown h hgrow hne, ?_⟩
  rcases hat with e | e
  · rw [e]; exact hne
  · rw [e]; intro e2; cases e2; exact Nat.lt_irrefl _ hlt
theorem kept_other {X w' : World} {g0 g : Nat} {t0 t : TypeId} {cs : Array Value} {v' : Value} (h0 : Blk X g0 t0 #[]) (h : Blk X g t cs) (hcs : 0 < cs.size) (hgrow : X.grownBy w' (Value.slice (some ⟨g0, 0, none⟩) 0 0).ownBlock)
    (hat : v'.ownBlock = (Value.slice (some ⟨g0, 0, none⟩) 0 0).ownBlock ∨ v'.ownBlock = some X.heap.size) : Blk w' g t cs ∧ v'.ownBlock ≠ some g := by
  refine kept_blk h hgrow hat fun e => ?_
  have e2 : g0 = g := by simpa [Value.ownBlock] using e
  subst e2
  unfold Blk at h0 h
  rw [h0] at h
  have e3 : #[] = cs := by simpa using (Obj.cells.inj (Option.some.inj h)).1
  rw [← e3] at hcs
  exact Nat.lt_irrefl _ hcs
theorem own_ne0 {w : World} {B n : Nat} {v : Value} {xs : List Value} (h : w.ownsRow B 33 4 v n xs) : v.ownBlock ≠ some w.heap.size := fun e => Nat.lt_irrefl _ (h.lt _ e).2
theorem own_ne1 {w : World} {B n : Nat} {v : Value} {xs : List Value} (h : w.ownsRow B 33 4 v n xs) : v.ownBlock ≠ some (w.heap.size + 1) := fun e => by have := (h.lt _ e).2; omega
theorem far_low {wF : World} {B q g : Nat} {t : TypeId} {cs : Array Value} (h : Blk wF q t cs) (hq : q < B) (hg : B ≤ g) {a b : Value} : Blk ((wF.setCell ⟨g, 0, none⟩ a).setCell ⟨g, 1, none⟩ b) q t cs := (h.far (show q ≠ g by omega) a).far (show q ≠ g by omega) b
theorem ext_both {a cur b : World} (h : Ext a cur) (h2 : Ext cur b) : Ext a b := h.trans h2
theorem close_r {B g lo hi : Nat} {W wF wx : World} {t : TypeId} {A : Option Addr} {us : List Tl} {v0 v1 u0 u1 : Value} (hK : Below B W wF) (hw : TWr wF lo hi A us) (hg : Blk wF g t #[u0, u1]) (hout : g < lo ∨ hi ≤ g) (hBlo : B ≤ lo) (hBg : B ≤ g) (hB : B ≤ W.heap.size)
    (hx : Ext ((wF.setCell ⟨g, 0, none⟩ v0).setCell ⟨g, 1, none⟩ v1) wx) : B ≤ g ∧ Blk wx g t #[v0, v1] ∧ TW wx B A us ∧ Below B W wx := by
  have h1 : Blk ((wF.setCell ⟨g, 0, none⟩ v0).setCell ⟨g, 1, none⟩ v1) g t #[v0, v1] := (hg.set_ 0 v0).set_ 1 v1
  have h2 := (hK.setCell (p := ⟨g, 0, none⟩) hBg v0).setCell (p := ⟨g, 1, none⟩) hBg v1
  exact ⟨hBg, h1.ext hx, ((((hw.far hout v0).far hout v1).ext hx).tw).low hBlo, h2.trans (hx.below (Nat.le_trans hB h2.size))⟩
theorem close_n {B lo hi : Nat} {W wF wy wx : World} (t : TypeId) {A : Option Addr} {us : List Tl} {v0 v1 : Value} (hK : Below B W wF) (hw : TWr wF lo hi A us) (hBlo : B ≤ lo) (hB : B ≤ W.heap.size) (h3 : Ext wF wy)
    (hx : Ext (wy.alloc (.cells #[v0, v1] t)) wx) : B ≤ wy.heap.size ∧ Blk wx wy.heap.size t #[v0, v1] ∧ TW wx B A us ∧ Below B W wx := by
  have h4 := h3.alloc (.cells #[v0, v1] t)
  have h5 := h4.trans hx
  have hb := hK.trans (h5.below (Nat.le_trans hB hK.size))
  exact ⟨Nat.le_trans (Nat.le_trans hB hK.size) (h3.below (Nat.le_refl _)).size, (Blk.new wy t #[v0, v1]).ext hx, (hw.ext h5).tw.low hBlo, hb⟩

end Go.Proofs.Ytfacdmkcklimjaa
