/- The model's sets that are made of tiles, and of changed tiles. -/
import Derived.Test.YtnagpndclagfaaaDoorLSort
import Derived.Deep.RegionHeld3
namespace Go.Proofs.YtnagpndclagfaaaDoor
set_option linter.unusedVariables false
set_option linter.unusedSimpArgs false
open Go.RowKit Go.Sort

theorem l01Made_any (c0 : Int) (A : Option Addr) (n c : Nat) (ts : List Tl) (w : World) (hn : n ≤ 65536) (hl : ts.length = n) (hA : TR w w.heap.size A ts) :
    Calls Tryd.prog 43 #[.int .i64 c0, .slice A n c] w fun e w' => ∃ A' cap, e = .returned (.agg #[.int .i64 c0, .slice A' (sortT ts).length cap]) ∧ Below w.heap.size w w' ∧ TW w' w.heap.size A' (sortT ts) := by
  have hcon : ∀ W, Ext w W → Calls Tryd.prog 51 #[.slice A n c] W _ := fun W hW => l01Sort_any A n c ts W hn hl ((hA.ext hW (Nat.le_refl _)).more (hW.below (Nat.le_refl _)).size)
  have HC := Lib.hid hcon
  clear hcon hA
  go_enter Tryd.func43, Tryd.ntmps43
  go_wp2_with fail
  refine (HC.out _ ((Ext.refl w).alloc _)).mono ?_
  rintro e w1 ⟨v, rfl, hown, hb⟩
  obtain ⟨A', cap, rfl, htw⟩ := own_tw hown rfl
  have HB := Lib.hid hb
  have HW := Lib.hid htw
  clear htw hown
  have hc : ∀ o, w1.cell? ⟨w.heap.size, o, none⟩ = (w.alloc (Obj.cells #[.int .i64 0, .slice none 0 0] 32)).cell? ⟨w.heap.size, o, none⟩ := fun o => hb.cell (p := ⟨w.heap.size, o, none⟩) (by simp)
  have hf : ∀ o, w1.frozen? ⟨w.heap.size, o, none⟩ = (w.alloc (Obj.cells #[.int .i64 0, .slice none 0 0] 32)).frozen? ⟨w.heap.size, o, none⟩ := fun o => hb.frozen (p := ⟨w.heap.size, o, none⟩) (by simp)
  have hz : w.heap.size < w1.heap.size := by have := hb.size; simp at this; omega
  clear hb
  go_wp2_with fail
  refine bodyPost_ret (v := .agg #[.int .i64 c0,   .slice A' (sortT ts).length cap]) (by simp [results, Tryd.results43, go_sem, hc, hz]) rfl ⟨A', cap, rfl, ?_, ?_⟩
  · have h0 : Below w.heap.size w w1 := ((Below.refl w.heap.size w).alloc (Nat.le_refl _) _).trans (HB.out.mono (by simp))
    exact (h0.setCell (by simp) _).setCell (by simp) _
  · have h0 : TW w1 (w.heap.size + 1) A' (sortT ts) := by simpa using HW.out
    exact ((h0.far (by simp) _).far (by simp) _).low (by omega)


def flippedT (t : Tl) : Tl := (t.1, t.2.2.2, t.2.2.1, t.2.1)
def mirroredT (t : Tl) : Tl := (t.2.2.1, t.2.1, t.1, t.2.2.2)
def turnedT (t : Tl) : Tl := (t.2.2.2, t.1, t.2.1, t.2.2.1)
def transposedT (t : Tl) : Tl := (t.2.1, t.1, t.2.2.2, t.2.2.1)
end Go.Proofs.YtnagpndclagfaaaDoor
