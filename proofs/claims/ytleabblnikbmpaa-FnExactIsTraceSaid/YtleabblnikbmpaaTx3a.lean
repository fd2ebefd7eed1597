/- The search for the traces of a height: memory. -/
import Derived.Test.YtleabblnikbmpaaTm2
import Derived.Test.YtleabblnikbmpaaGcC
import Derived.Deep.RegionLaw
import Derived.Deep.RegionHeld3
import Derived.Deep.DeepCutAuto
import Derived.Lib.Hide
namespace Go.Proofs.Ytleabblnikbmpaa
set_option linter.unusedVariables false
set_option linter.unusedSimpArgs false
open Go.RowKit Go.Sort

theorem info_tilerow : (Try.prog.info? 28).map (fun i => (i.zero, i.size, i.bytes)) = some (some (.slice none 0 0), 1, 24) := by kernel_rfl
theorem cells_none (n : Nat) : (madeCells (Value.cells (.slice none 0 0)) (n * 1)).size = n ∧ ∀ j, j < n → (madeCells (Value.cells (.slice none 0 0)) (n * 1))[j]? = some (.slice none 0 0) := by
  have hs : (madeCells (Value.cells (.slice none 0 0)) (n * 1)).size = n := by simp [size_madeCells]
  refine ⟨hs, fun j hj => ?_⟩
  rw [Array.getElem?_eq_getElem (by rw [hs]; exact hj)]
  simp [madeCells, Value.cells, Nat.mod_one]
theorem bcQ1 {k : Nat} (W : World) (hk : k = W.heap.size) : (W.alloc (.cells #[.bool true] 4)).drew.cell? ⟨k, 0, none⟩ = some (.bool true) := by
  subst hk
  exact ((Blk.new W _ _).ext ((Ext.refl _).drew)).cell 0
theorem bcQ2 {k : Nat} (W : World) (o : Obj) (hk : k = W.heap.size) : ((W.alloc (.cells #[.bool true] 4)).alloc o).drew.cell? ⟨k, 0, none⟩ = some (.bool true) := by
  subst hk
  exact ((Blk.new W _ _).ext ((Ext.refl _).alloc o).drew).cell 0
theorem bcQ3 {k : Nat} (W : World) (o o' : Obj) (hk : k = W.heap.size) : (((W.alloc (.cells #[.bool true] 4)).alloc o).alloc o').drew.cell? ⟨k, 0, none⟩ = some (.bool true) := by
  subst hk
  exact ((Blk.new W _ _).ext (((Ext.refl _).alloc o).alloc o').drew).cell 0
/-- What the composite of the search leaves. -/
def R4s (W2 : World) (C P : Nat) (cs0 : Array Value) (v8 : Value) (wx : World) : Prop :=
  ∃ gS gU gA : Nat, v8 = .pointer (some ⟨gS, 0, none⟩) ∧ gS ≠ gU ∧ gU < wx.heap.size ∧ W2.heap.size ≤ gS ∧ W2.heap.size ≤ gU ∧ W2.heap.size ≤ gA ∧ Blk wx gS 84 #[.slice (some ⟨gU, 0, none⟩) C C, .slice (some ⟨gA, 0, none⟩) P P] ∧ Blk wx gU 28 cs0 ∧ BQ wx gA P (fun _ => true) ∧ Below W2.heap.size W2 wx
theorem blk_ne {w : World} {g h : Nat} {t u : TypeId} {cs ds : Array Value} (hg : Blk w g t cs) (hh : Blk w h u ds) (hne : t ≠ u) : g ≠ h := by
  intro e
  subst e
  unfold Blk at hg hh
  rw [hg] at hh
  injection hh with hh
  injection hh with h1 h2 h3
  exact hne h2
theorem res_set {W2 w3 : World} {C P kZ kM gA : Nat} {cs0 : Array Value} (hz : Blk w3 kZ 84 #[.slice none 0 0, .slice none 0 0]) (hm : Blk w3 kM 28 cs0) (hq : BQ w3 gA P (fun _ => true)) (h1 : W2.heap.size ≤ kZ) (h2 : W2.heap.size ≤ kM) (h3 : W2.heap.size ≤ gA) (hb : Below W2.heap.size W2 w3) :
    R4s W2 C P cs0 (.pointer (some ⟨kZ, 0, none⟩)) ((w3.setCell ⟨kZ, 0, none⟩ (.slice (some ⟨kM, 0, none⟩) C C)).setCell ⟨kZ, 1, none⟩ (.slice (some ⟨gA, 0, none⟩) P P)) := by
  have n1 : kZ ≠ kM := blk_ne hz hm (by decide)
  obtain ⟨cs, hqb, hq2, hq3⟩ := hq
  have n2 : kZ ≠ gA := blk_ne hz hqb (by decide)
  refine ⟨kZ, kM, gA, rfl, n1, by simpa using hm.lt, h1, h2, h3, (hz.set_ 0 _).set_ 1 _, (hm.far (p := ⟨kZ, 0, none⟩) (Ne.symm n1) _).far (p := ⟨kZ, 1, none⟩) (Ne.symm n1) _, ?_, (hb.setCell (p := ⟨kZ, 0, none⟩) h1 _).setCell (p := ⟨kZ, 1, none⟩) h1 _⟩
  exact ⟨cs, (hqb.far (p := ⟨kZ, 0, none⟩) (Ne.symm n2) _).far (p := ⟨kZ, 1, none⟩) (Ne.symm n2) _, hq2, hq3⟩
theorem res_set3 {W2 w3 : World} {C P kZ gA : Nat} {cs0 : Array Value} (hz : Blk w3 kZ 84 #[.slice none 0 0, .slice none 0 0]) (hq : BQ w3 gA P (fun _ => true)) (h1 : W2.heap.size ≤ kZ) (h3 : W2.heap.size ≤ gA) (hb : Below W2.heap.size W2 w3) :
    R4s W2 C P cs0 (.pointer (some ⟨kZ, 0, none⟩)) (((w3.setCell ⟨kZ, 0, none⟩ (.slice (some ⟨w3.heap.size, 0, none⟩) C C)).setCell ⟨kZ, 1, none⟩ (.slice (some ⟨gA, 0, none⟩) P P)).alloc (.cells cs0 28)) := by
  obtain ⟨cs, hqb, hq2, hq3⟩ := hq
  have n2 : kZ ≠ gA := blk_ne hz hqb (by decide)
  have hl := hz.lt
  have hs := hb.size
  have hM := Blk.new ((w3.setCell ⟨kZ, 0, none⟩ (.slice (some ⟨w3.heap.size, 0, none⟩) C C)).setCell ⟨kZ, 1, none⟩ (.slice (some ⟨gA, 0, none⟩) P P)) 28 cs0
  have hsz : ((w3.setCell ⟨kZ, 0, none⟩ (.slice (some ⟨w3.heap.size, 0, none⟩) C C)).setCell ⟨kZ, 1, none⟩ (.slice (some ⟨gA, 0, none⟩) P P)).heap.size = w3.heap.size := by simp
  rw [hsz] at hM
  refine ⟨kZ, w3.heap.size, gA, rfl, by omega, hM.lt, h1, hs, h3, ((hz.set_ 0 _).set_ 1 _).ext ((Ext.refl _).alloc _), hM, ?_, ((hb.setCell (p := ⟨kZ, 0, none⟩) h1 _).setCell (p := ⟨kZ, 1, none⟩) h1 _).alloc (by rw [hsz]; exact hs) _⟩
  exact BQ.ext ⟨cs, (hqb.far (p := ⟨kZ, 0, none⟩) (Ne.symm n2) _).far (p := ⟨kZ, 1, none⟩) (Ne.symm n2) _, hq2, hq3⟩ ((Ext.refl _).alloc _)
theorem res_new {W2 w3 : World} {C P kM gA : Nat} {cs0 : Array Value} (hm : Blk w3 kM 28 cs0) (hq : BQ w3 gA P (fun _ => true)) (h2 : W2.heap.size ≤ kM) (h3 : W2.heap.size ≤ gA) (hb : Below W2.heap.size W2 w3) :
    R4s W2 C P cs0 (.pointer (some ⟨w3.heap.size, 0, none⟩)) (w3.alloc (.cells #[.slice (some ⟨kM, 0, none⟩) C C, .slice (some ⟨gA, 0, none⟩) P P] 84)) := by
  have hx := (Ext.refl w3).alloc (.cells #[.slice (some ⟨kM, 0, none⟩) C C, .slice (some ⟨gA, 0, none⟩) P P] 84)
  have hl := hm.lt
  exact ⟨w3.heap.size, kM, gA, rfl, by omega, by simp; omega, hb.size, h2, h3, Blk.new w3 _ _, hm.ext hx, hq.ext hx, hb.trans (hx.below hb.size)⟩
theorem res_new2 {W2 w3 : World} {C P gA : Nat} {cs0 : Array Value} (hq : BQ w3 gA P (fun _ => true)) (h3 : W2.heap.size ≤ gA) (hb : Below W2.heap.size W2 w3) :
    R4s W2 C P cs0 (.pointer (some ⟨w3.heap.size, 0, none⟩)) ((w3.alloc (.cells #[.slice (some ⟨w3.heap.size + 1, 0, none⟩) C C, .slice (some ⟨gA, 0, none⟩) P P] 84)).alloc (.cells cs0 28)) := by
  have hx := ((Ext.refl w3).alloc (.cells #[.slice (some ⟨w3.heap.size + 1, 0, none⟩) C C, .slice (some ⟨gA, 0, none⟩) P P] 84)).alloc (.cells cs0 28)
  have hm := Blk.new (w3.alloc (.cells #[.slice (some ⟨w3.heap.size + 1, 0, none⟩) C C, .slice (some ⟨gA, 0, none⟩) P P] 84)) 28 cs0
  rw [World.size_alloc] at hm
  have := hb.size
  exact ⟨w3.heap.size, w3.heap.size + 1, gA, rfl, by omega, hm.lt, hb.size, by omega, h3, (Blk.new w3 _ _).ext ((Ext.refl _).alloc _), hm, hq.ext hx, hb.trans (hx.below hb.size)⟩
theorem mb_at (W W' w3 : World) (cs0 : Array Value) (hx : Ext (W.alloc (.cells cs0 28)) W') (hb : Below W'.heap.size W' w3) : Blk w3 W.heap.size 28 cs0 := by
  have h1 := (Blk.new W 28 cs0).ext hx
  exact h1.below hb h1.lt
theorem zb_at (W W' w3 : World) (hx : Ext (W.alloc (.cells #[.slice none 0 0, .slice none 0 0] 84)) W') (hb : Below W'.heap.size W' w3) : Blk w3 W.heap.size 84 #[.slice none 0 0, .slice none 0 0] := by
  have h1 := (Blk.new W 84 #[.slice none 0 0, .slice none 0 0]).ext hx
  exact h1.below hb h1.lt
theorem cell_of_ext {W W' : World} {p : Addr} {v : Value} (hx : Ext W W') (h : W.cell? p = some v) : W'.cell? p = some v := ((hx.below (Nat.le_refl _)).cell (World.block_lt_of_cell? W p h)).trans h
theorem ge_of_both {W2 W w3 : World} {g : Nat} (hx : Ext W2 W) (hb : Below W.heap.size W w3) (hg : W.heap.size ≤ g) : W2.heap.size ≤ g := Nat.le_trans (hx.below (Nat.le_refl _)).size hg
theorem cell_far2u {w : World} {k b o : Nat} {x1 x2 v : Value} (h : w.cell? ⟨b, o, none⟩ = some v) (hne : b ≠ k) : (((w.setCell ⟨k, 0, none⟩ x1).setCell ⟨k, 1, none⟩ x2)).cell? ⟨b, o, none⟩ = some v := by
  rw [World.cell?_setCell_far _ _ _ _ (Ne.symm hne), World.cell?_setCell_far _ _ _ _ (Ne.symm hne)]
  exact h
theorem cell_far1u {w : World} {k j b o : Nat} {x1 v : Value} (h : w.cell? ⟨b, o, none⟩ = some v) (hne : b ≠ k) : (w.setCell ⟨k, j, none⟩ x1).cell? ⟨b, o, none⟩ = some v := by
  rw [World.cell?_setCell_far _ _ _ _ (Ne.symm hne)]
  exact h
theorem below_of_both {W2 W w3 : World} (hx : Ext W2 W) (hb : Below W.heap.size W w3) : Below W2.heap.size W2 w3 := (hx.below (Nat.le_refl _)).trans (hb.mono (hx.below (Nat.le_refl _)).size)
/-- Rows of tiles that grow: each in a block of its own. -/
def OwnUV (w : World) (base gU C : Nat) (f : Nat → List Tl) (V : Nat → Value) : Prop :=
  (∃ cs, Blk w gU 28 cs ∧ cs.size = C ∧ ∀ c, c < C → cs[c]? = some (V c)) ∧ gU < base ∧
    (∀ c, c < C → w.ownsRow base 69 4 (V c) (f c).length (flat (f c))) ∧
    ∀ c d, c < C → d < C → c ≠ d → (V c).ownBlock = none ∨ (V c).ownBlock ≠ (V d).ownBlock
def OwnU (w : World) (base gU C : Nat) (f : Nat → List Tl) : Prop := ∃ V, OwnUV w base gU C f V
theorem own_grownU {w w' : World} {base size n : Nat} {e : TypeId} {v : Value} {xs : List Value} {row : Option Nat} (h : w.ownsRow base e size v n xs) (hg : w.grownBy w' row) (hne : v.ownBlock = none ∨ v.ownBlock ≠ row) : w'.ownsRow base e size v n xs := by
  refine ⟨h.1, ?_⟩
  rcases h.2 with h0 | ⟨g, cap, cur, hv, hb, hh, r⟩
  · exact .inl h0
  · have hlt := (h.lt g (by rw [hv]; rfl)).2
    refine .inr ⟨g, cap, cur, hv, hb, (hg.block g hlt (fun e => ?_)).trans hh, r⟩
    rcases hne with h1 | h1
    · rw [hv] at h1; cases h1
    · exact h1 (by rw [hv, ← e]; rfl)
theorem OwnUV.ext {w w' : World} {base gU C : Nat} {f : Nat → List Tl} {V : Nat → Value} (h : OwnUV w base gU C f V) (hx : Ext w w') : OwnUV w' base gU C f V := by
  obtain ⟨⟨cs, hb, hs, hc⟩, h1, h2, h3⟩ := h
  exact ⟨⟨cs, hb.ext hx, hs, hc⟩, h1, fun c hcc => own_belowA (h2 c hcc) (hx.below (Nat.le_refl _)), h3⟩
theorem OwnU.start {w : World} {base gU C : Nat} {cs0 : Array Value} (hb : Blk w gU 28 cs0) (hs : cs0.size = C ∧ ∀ j, j < C → cs0[j]? = some (.slice none 0 0)) (hg : gU < base) : OwnU w base gU C (fun _ => []) :=
  ⟨fun _ => .slice none 0 0, ⟨cs0, hb, hs.1, hs.2⟩, hg, fun _ _ => World.ownsRow_nil _ _ _ _, fun _ _ _ _ _ => .inl rfl⟩
theorem OwnU.congr {w : World} {base gU C : Nat} {f f' : Nat → List Tl} (h : OwnU w base gU C f) (he : ∀ c, c < C → f c = f' c) : OwnU w base gU C f' := by
  obtain ⟨V, h0, h1, h2, h3⟩ := h
  exact ⟨V, h0, h1, fun c hc => by rw [← he c hc]; exact h2 c hc, h3⟩
theorem und_take (K : List Cq) {k : Nat} (hk : k < K.length) (c : Nat) : und (K.take (k + 1)) c = if (K.getD k K0).1 = c then und (K.take k) c ++ [tileK (K.getD k K0)] else und (K.take k) c := by
  have e : K.take (k + 1) = K.take k ++ [K.getD k K0] := by
    rw [List.take_succ_eq_append_getElem hk]
    simp [List.getD, hk]
  rw [e]
  unfold und
  rw [List.filter_append, List.map_append]
  by_cases h : (K.getD k K0).1 = c
  · rw [if_pos h, List.filter_cons, if_pos (by simpa using h)]; rfl
  · rw [if_neg h, List.filter_cons, if_neg (by simpa using h)]; simp
/-- A tile more in one of the rows. -/
theorem OwnU.push {w w' : World} {base gU C c0 : Nat} {f : Nat → List Tl} {t : Tl} {V : Nat → Value} {v' : Value} (hV : OwnUV w base gU C f V)
    (hc0 : c0 < C) (hown : w'.ownsRow base 69 4 v' ((f c0).length + 1) (flat (f c0) ++ enc t)) (hg : w.grownBy w' (V c0).ownBlock) (hat : v'.ownBlock = (V c0).ownBlock ∨ v'.ownBlock = some w.heap.size) :
    OwnU (w'.setCell ⟨gU, c0, none⟩ v') base gU C (fun c => if c = c0 then f c0 ++ [t] else f c) := by
  obtain ⟨⟨cs, hb, hs, hc⟩, h1, h2, h3⟩ := hV
  have hgU : some gU ≠ (V c0).ownBlock := fun e => by have := ((h2 c0 hc0).lt gU e.symm).1; omega
  have hfar : ∀ {v : Value} {n : Nat} {xs : List Value}, w'.ownsRow base 69 4 v n xs → (w'.setCell ⟨gU, c0, none⟩ v').ownsRow base 69 4 v n xs := fun h => by
    refine ⟨h.1, ?_⟩
    rcases h.2 with h0 | ⟨g, cap, cur, hv, hbg, hh, r⟩
    · exact .inl h0
    · exact .inr ⟨g, cap, cur, hv, hbg, (Below.heap_setCell w' ⟨gU, c0, none⟩ v' g (by show g ≠ gU; omega)).trans hh, r⟩
  have hb' : Blk w' gU 28 cs := (hg.block gU hb.lt hgU).trans hb
  refine ⟨fun c => if c = c0 then v' else V c, ⟨_, hb'.set_ c0 v', by simp [hs], fun c hcc => ?_⟩, h1, fun c hcc => ?_, fun c d hcc hd hne => ?_⟩
  · rw [Array.getElem?_setIfInBounds]
    by_cases e : c0 = c
    · subst e
      rw [if_pos rfl, if_pos (by omega)]
      simp
    · rw [if_neg e, hc c hcc]
      simp [Ne.symm e]
  · by_cases e : c = c0
    · subst e
      simp only [if_pos]
      rw [flat_snoc, List.length_append]
      exact hfar hown
    · simp only [if_neg e]
      exact hfar (own_grownU (h2 c hcc) hg (h3 c c0 hcc hc0 e))
  · have hlt : ∀ x, x < C → ∀ g, (V x).ownBlock = some g → g < w.heap.size := fun x hx g e => ((h2 x hx).lt g e).2
    by_cases e : c = c0
    · subst e
      have hd' : ¬ d = c := Ne.symm hne
      simp only [if_pos, if_neg hd']
      rcases hat with h4 | h4
      · rw [h4]; exact h3 c d hcc hd hne
      · rw [h4]
        exact .inr fun e2 => Nat.lt_irrefl _ (hlt d hd _ e2.symm)
    · by_cases e' : d = c0
      · subst e'
        simp only [if_neg e, if_pos]
        rcases hat with h4 | h4
        · rw [h4]; exact h3 c d hcc hd hne
        · rw [h4]
          exact .inr fun e2 => Nat.lt_irrefl _ (hlt c hcc _ e2)
      · simp only [if_neg e, if_neg e']
        exact h3 c d hcc hd hne
/-- What has grown can be read. -/
theorem OwnU.read {w : World} {base gU C : Nat} {f : Nat → List Tl} (h : OwnU w base gU C f) : gU < w.heap.size ∧ ∀ c, c < C → ∃ A q, w.cell? ⟨gU, c, none⟩ = some (.slice A (f c).length q) ∧ TW w base A (f c) := by
  obtain ⟨V, ⟨cs, hb, hs, hc⟩, h1, h2, h3⟩ := h
  refine ⟨hb.lt, fun c hcc => ?_⟩
  obtain ⟨A, cap, hv, htw⟩ := own_tw (h2 c hcc) rfl
  exact ⟨A, cap, by rw [hb.cell, hc c hcc, hv], htw⟩

end Go.Proofs.Ytleabblnikbmpaa
