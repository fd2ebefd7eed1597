/- A region that copies arguments, calls, and lays the result in a box whose place in the order is free. -/
import Derived.Test.YtleabblnikbmpaaMark
import Derived.Test.YtleabblnikbmpaaRs
namespace Go.Proofs.Ytleabblnikbmpaa
set_option linter.unusedVariables false
set_option linter.unusedSimpArgs false
open Go.RowKit Go.Sort

theorem below_next0 {B : Nat} {w a cur : World} (h : Below B w a) (hx : Ext a cur) (hB : B ≤ w.heap.size) : Below B w cur := h.trans (hx.below (Nat.le_trans hB h.size))
theorem below_pair {B : Nat} {w a cur w1 : World} (h : Below B w a) (hx : Ext a cur) (hb : Below cur.heap.size cur w1) (hB : B ≤ w.heap.size) : Below B w cur := below_next0 h hx hB
theorem below_next {B : Nat} {w a cur w1 : World} (h : Below B w a) (hx : Ext a cur) (hb : Below cur.heap.size cur w1) (hB : B ≤ w.heap.size) : Below B w w1 :=
  (below_next0 h hx hB).trans (hb.mono (Nat.le_trans hB (below_next0 h hx hB).size))
theorem blk_pair {g : Nat} {t : TypeId} {cs : Array Value} {a cur w1 : World} (h : Blk a g t cs) (hx : Ext a cur) (hb : Below cur.heap.size cur w1) : Blk cur g t cs := h.ext hx
theorem blk_next {g : Nat} {t : TypeId} {cs : Array Value} {a cur w1 : World} (h : Blk a g t cs) (hx : Ext a cur) (hb : Below cur.heap.size cur w1) : Blk w1 g t cs := (h.ext hx).below hb (h.ext hx).lt
theorem twr_next {a cur w1 : World} {lo hi : Nat} {A : Option Addr} {ts : List Tl} (h : TWr a lo hi A ts) (hx : Ext a cur) (hb : Below cur.heap.size cur w1) : TWr w1 lo hi A ts := (h.ext hx).below hb
theorem iwr_next {a cur w1 : World} {lo hi : Nat} {A : Option Addr} {xs : List Int} (h : IWr a lo hi A xs) (hx : Ext a cur) (hb : Below cur.heap.size cur w1) : IWr w1 lo hi A xs := (h.ext hx).below hb
theorem iww_next {a cur w1 : World} {lo hi : Nat} {A : Option Addr} {rs : List (List Int)} (h : IWW a lo hi A rs) (hx : Ext a cur) (hb : Below cur.heap.size cur w1) : IWW w1 lo hi A rs := (h.ext hx).below hb
theorem TWr.loose {w : World} {lo hi lo' hi' : Nat} {A : Option Addr} {ts : List Tl} (h : TWr w lo hi A ts) (h1 : lo' ≤ lo) (h2 : hi ≤ hi') : TWr w lo' hi' A ts := fun h0 => by
  obtain ⟨b, off, t, cs, e, hl, hh, r⟩ := h h0
  exact ⟨b, off, t, cs, e, by omega, by omega, r⟩
theorem IWr.loose {w : World} {lo hi lo' hi' : Nat} {A : Option Addr} {xs : List Int} (h : IWr w lo hi A xs) (h1 : lo' ≤ lo) (h2 : hi ≤ hi') : IWr w lo' hi' A xs := fun h0 => by
  obtain ⟨b, off, t, cs, e, hl, hh, r⟩ := h h0
  exact ⟨b, off, t, cs, e, by omega, by omega, r⟩

/-- The box was there ahead of the call: its two cells are stored behind it. -/
theorem close_set {B g : Nat} {W cur wF : World} {t : TypeId} {A : Option Addr} {us : List Tl} {cs : Array Value} (v0 v1 u0 u1 : Value) (hK : Below B W cur) (hb : Below cur.heap.size cur wF) (hw : TW wF cur.heap.size A us) (hg : Blk cur g t cs) (hcs : cs = #[u0, u1]) (hBg : B ≤ g) (hB : B ≤ W.heap.size) :
    B ≤ g ∧ g < ((wF.setCell ⟨g, 0, none⟩ v0).setCell ⟨g, 1, none⟩ v1).heap.size ∧ Blk ((wF.setCell ⟨g, 0, none⟩ v0).setCell ⟨g, 1, none⟩ v1) g t #[v0, v1] ∧
      TWr ((wF.setCell ⟨g, 0, none⟩ v0).setCell ⟨g, 1, none⟩ v1) B ((wF.setCell ⟨g, 0, none⟩ v0).setCell ⟨g, 1, none⟩ v1).heap.size A us ∧ Below B W ((wF.setCell ⟨g, 0, none⟩ v0).setCell ⟨g, 1, none⟩ v1) := by
  subst hcs
  have hlt := hg.lt
  have hgF := hg.below hb hlt
  have h1 : Blk ((wF.setCell ⟨g, 0, none⟩ v0).setCell ⟨g, 1, none⟩ v1) g t #[v0, v1] := (hgF.set_ 0 v0).set_ 1 v1
  have hBc := Nat.le_trans hB hK.size
  refine ⟨hBg, h1.lt, h1, ?_, ?_⟩
  · exact (((hw.far (show g < _ from hlt) _).far (show g < _ from hlt) _).low hBc).r
  · exact ((hK.trans (hb.mono hBc)).setCell hBg _).setCell hBg _
/-- The box is laid behind the call. -/
theorem close_new {B : Nat} {W cur wF wy : World} (t : TypeId) {A : Option Addr} {us : List Tl} (v0 v1 : Value) (hK : Below B W cur) (hb : Below cur.heap.size cur wF) (hw : TW wF cur.heap.size A us) (hx : Ext wF wy) (hB : B ≤ W.heap.size) :
    B ≤ wy.heap.size ∧ wy.heap.size < (wy.alloc (Obj.cells #[v0, v1] t)).heap.size ∧ Blk (wy.alloc (Obj.cells #[v0, v1] t)) wy.heap.size t #[v0, v1] ∧
      TWr (wy.alloc (Obj.cells #[v0, v1] t)) B (wy.alloc (Obj.cells #[v0, v1] t)).heap.size A us ∧ Below B W (wy.alloc (Obj.cells #[v0, v1] t)) := by
  have hBc := Nat.le_trans hB hK.size
  have hy := (hK.trans (hb.mono hBc)).trans (hx.below (Nat.le_trans hBc hb.size))
  refine ⟨Nat.le_trans hB hy.size, by simp, Blk.new _ _ _, ?_, hy.alloc (Nat.le_trans hB hy.size) _⟩
  exact (((hw.ext hx).ext ((Ext.refl _).alloc _)).low hBc).r
end Go.Proofs.Ytleabblnikbmpaa
