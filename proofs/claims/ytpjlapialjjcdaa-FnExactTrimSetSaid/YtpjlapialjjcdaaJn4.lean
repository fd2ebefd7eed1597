/- Joins of sets: the model's side. -/
import Derived.Test.YtpjlapialjjcdaaJn3
import Derived.Test.YtpjlapialjjcdaaTold
import Derived.Test.YtpjlapialjjcdaaCut2
import Derived.Deep.RegionHeld3
import Derived.Deep.RegionLaw
import Derived.Deep.DeepCutAuto
import Derived.Lib.Hide
namespace Go.Proofs.Ytpjlapialjjcdaa
set_option linter.unusedVariables false
set_option linter.unusedSimpArgs false
open Go.RowKit Go.Sort

theorem blk_grown {w w' : World} {g : Nat} {t : TypeId} {cs : Array Value} {row : Option Nat} (h : Blk w g t cs) (hg : w.grownBy w' row) (hne : row ≠ some g) : Blk w' g t cs := (hg.block g h.lt (fun e => hne e.symm)).trans h
theorem reads_ext {w w' : World} {B size n : Nat} {A : Option Addr} {xs : List Value} (h : Reads w B size A n xs) (hx : Ext w w') (hB : B ≤ w.heap.size) : Reads w' B size A n xs := h.below (hx.below hB)
/-- A row has grown, and goes into a box that was there. -/
theorem close_own_set {B g n : Nat} {W cur w3 wy : World} {t : TypeId} {v0 v' u0 u1 x : Value} {xs : List Value} (hK : Below B W cur) (hgrow : cur.grownBy w3 v0.ownBlock) (hat : v'.ownBlock = v0.ownBlock ∨ v'.ownBlock = some cur.heap.size)
    (hown : w3.ownsRow B 51 4 v' n xs) (hg : Blk cur g t #[u0, u1]) (hne : v0.ownBlock ≠ some g) (hBg : B ≤ g) (hrow : ∀ k, v0.ownBlock = some k → B ≤ k) (hB : B ≤ W.heap.size)
    (hx : Ext ((w3.setCell ⟨g, 0, none⟩ x).setCell ⟨g, 1, none⟩ v') wy) : B ≤ g ∧ Blk wy g t #[x, v'] ∧ wy.ownsRow B 51 4 v' n xs ∧ v'.ownBlock ≠ some g ∧ Below B W wy := by
  have hlt := hg.lt
  have hne' : v'.ownBlock ≠ some g := by
    rcases hat with h | h
    · rw [h]; exact hne
    · rw [h]; intro e; cases e; exact Nat.lt_irrefl _ hlt
  have hg3 := blk_grown hg hgrow hne
  have hBc := Nat.le_trans hB hK.size
  have hb3 := hK.grown hgrow hBc (fun k hk => hrow k hk)
  refine ⟨hBg, (show Blk ((w3.setCell ⟨g, 0, none⟩ x).setCell ⟨g, 1, none⟩ v') g t #[x, v'] from (hg3.set_ 0 x).set_ 1 v').ext hx, own_ext (own_far (own_far hown (fun e => hne' e.symm) _) (fun e => hne' e.symm) _) hx, hne', ?_⟩
  have hb4 := (hb3.setCell (p := ⟨g, 0, none⟩) hBg x).setCell (p := ⟨g, 1, none⟩) hBg v'
  exact hb4.trans (hx.below (Nat.le_trans hB hb4.size))
/-- The box is laid behind it. -/
theorem close_own_new {B n : Nat} {W cur w3 wy wz : World} (t : TypeId) {v0 v' : Value} (x : Value) {xs : List Value} (hK : Below B W cur) (hgrow : cur.grownBy w3 v0.ownBlock)
    (hown : w3.ownsRow B 51 4 v' n xs) (hrow : ∀ k, v0.ownBlock = some k → B ≤ k) (hB : B ≤ W.heap.size) (h3 : Ext w3 wy)
    (hx : Ext (wy.alloc (Obj.cells #[x, v'] t)) wz) : B ≤ wy.heap.size ∧ Blk wz wy.heap.size t #[x, v'] ∧ wz.ownsRow B 51 4 v' n xs ∧ v'.ownBlock ≠ some wy.heap.size ∧ Below B W wz := by
  have hBc := Nat.le_trans hB hK.size
  have hb3 := hK.grown hgrow hBc (fun k hk => hrow k hk)
  have hb4 := hb3.trans (h3.below (Nat.le_trans hB hb3.size))
  have hBy := Nat.le_trans hB hb4.size
  have hb5 := hb4.alloc hBy (Obj.cells #[x, v'] t)
  refine ⟨hBy, (Blk.new wy t #[x, v']).ext hx, own_ext hown ((h3.alloc _).trans hx), fun e => ?_, hb5.trans (hx.below (Nat.le_trans hB hb5.size))⟩
  have h6 := (own_ext hown h3).lt _ e
  omega

theorem cell_far2 {w : World} {p : Addr} {v : Option Value} (h : w.cell? p = v) {g : Nat} (hne : p.block ≠ g) (a b : Value) : ((w.setCell ⟨g, 0, none⟩ a).setCell ⟨g, 1, none⟩ b).cell? p = v := by
  rw [World.cell?_setCell_other _ _ _ _ (fun e => hne (by rw [← e])), World.cell?_setCell_other _ _ _ _ (fun e => hne (by rw [← e]))]
  exact h
theorem below_pair0 {B : Nat} {w cur w1 : World} {row : Option Nat} (hg : cur.grownBy w1 row) (h : Below B w cur) : Below B w cur := h
theorem blk_pair0 {g : Nat} {t : TypeId} {cs : Array Value} {a cur w1 : World} {row : Option Nat} (hg : cur.grownBy w1 row) (h : Blk a g t cs) (hx : Ext a cur) : Blk cur g t cs := h.ext hx

set_option maxRecDepth 100000 in
set_option maxHeartbeats 4000000 in
theorem specJoinSets_0 (c0 : Int) (A0 : Option Addr) (n0 q0 : Nat) (ts : List Tl) (c1 : Int) (A1 : Option Addr) (n1 q1 : Nat) (us : List Tl) (w : World) (hn0 : n0 ≤ 1048576) (hl0 : ts.length = n0) (hA0 : TR w w.heap.size A0 ts) (hn1 : n1 ≤ 1048576) (hl1 : us.length = n1) (hA1 : TR w w.heap.size A1 us) (hs0 : isSet c0 ts = true) (hs1 : isSet c1 us = true) :
    Calls Try.prog 34 #[.agg #[.int .i64 c0, .slice A0 n0 q0], .agg #[.int .i64 c1, .slice A1 n1 q1]] w (if c0 + c1 ≤ 6 ∧ n0 + n1 ≤ 16 then SetRes w (c0 + c1) (ts ++ us.map (shT c0)) 0 else SetRes w 0 [] 3) := by
  obtain ⟨i0, hi, hz0, hz1, hz2⟩ := info_parts info_tile
  have HI := Lib.hid (And.intro hi (And.intro hz0 (And.intro hz1 hz2)))
  clear hi hz0 hz1 hz2
  have hcr0 := isSet_col hs0
  have hcr1 := isSet_col hs1
  have hwr : IntKind.i64.wrap (c0 + c1) = c0 + c1 := IntWalk.i64_in _ (by omega)
  have hle16 := isSet_len hs0
  have hle16' := isSet_len hs1
  rw [hl0] at hle16
  rw [hl1] at hle16'
  have HOK := Lib.hid (fun k (hk : k < n1) => ok_of_isSet hs1 (us.getD k T0) (by simp [List.getD, show k < us.length by omega]))
  have his0 : ∀ W, Below w.heap.size w W → Calls Try.prog 56 #[.agg #[.int .i64 c0, .slice A0 n0 q0]] W _ := fun W hW => l01Is_any c0 A0 n0 q0 ts W (by omega) hl0 ((hA0.below hW (Nat.le_refl _)).more hW.size)
  rw [hs0] at his0
  have HI0 := Lib.hid his0
  clear his0
  have his1 : ∀ W, Below w.heap.size w W → Calls Try.prog 56 #[.agg #[.int .i64 c1, .slice A1 n1 q1]] W _ := fun W hW => l01Is_any c1 A1 n1 q1 us W (by omega) hl1 ((hA1.below hW (Nat.le_refl _)).more hW.size)
  rw [hs1] at his1
  have HI1 := Lib.hid his1
  clear his1
  have HA0 := Lib.hid hA0
  have HA1 := Lib.hid hA1
  clear hA0 hA1 hs0 hs1
  go_enter Try.func34, Try.ntmps34
  go_wp2_with fail
  have hx0 : Ext w (((w.alloc (Obj.cells #[.int .i64 c0, .slice A0 n0 q0] 31)).alloc (Obj.cells #[.int .i64 c1, .slice A1 n1 q1] 31)).alloc (Obj.cells #[.int .i64 0, .slice none 0 0] 31)) := (((Ext.refl w).alloc _).alloc _).alloc _
  have hb0 : Blk (((w.alloc (Obj.cells #[.int .i64 c0, .slice A0 n0 q0] 31)).alloc (Obj.cells #[.int .i64 c1, .slice A1 n1 q1] 31)).alloc (Obj.cells #[.int .i64 0, .slice none 0 0] 31)) (w.heap.size) 31 #[.int .i64 c0, .slice A0 n0 q0] := by have := ((Blk.new w 31 #[.int .i64 c0, .slice A0 n0 q0]).ext (show Ext (w.alloc (Obj.cells #[.int .i64 c0, .slice A0 n0 q0] 31)) (((w.alloc (Obj.cells #[.int .i64 c0, .slice A0 n0 q0] 31)).alloc (Obj.cells #[.int .i64 c1, .slice A1 n1 q1] 31)).alloc (Obj.cells #[.int .i64 0, .slice none 0 0] 31)) from ((Ext.refl _).alloc _).alloc _)); simpa using this
  have hb1 : Blk (((w.alloc (Obj.cells #[.int .i64 c0, .slice A0 n0 q0] 31)).alloc (Obj.cells #[.int .i64 c1, .slice A1 n1 q1] 31)).alloc (Obj.cells #[.int .i64 0, .slice none 0 0] 31)) (w.heap.size + 1) 31 #[.int .i64 c1, .slice A1 n1 q1] := by have := ((Blk.new (w.alloc (Obj.cells #[.int .i64 c0, .slice A0 n0 q0] 31)) 31 #[.int .i64 c1, .slice A1 n1 q1]).ext (show Ext ((w.alloc (Obj.cells #[.int .i64 c0, .slice A0 n0 q0] 31)).alloc (Obj.cells #[.int .i64 c1, .slice A1 n1 q1] 31)) (((w.alloc (Obj.cells #[.int .i64 c0, .slice A0 n0 q0] 31)).alloc (Obj.cells #[.int .i64 c1, .slice A1 n1 q1] 31)).alloc (Obj.cells #[.int .i64 0, .slice none 0 0] 31)) from (Ext.refl _).alloc _)); simpa using this
  have hb2 : Blk (((w.alloc (Obj.cells #[.int .i64 c0, .slice A0 n0 q0] 31)).alloc (Obj.cells #[.int .i64 c1, .slice A1 n1 q1] 31)).alloc (Obj.cells #[.int .i64 0, .slice none 0 0] 31)) (w.heap.size + 2) 31 #[.int .i64 0, .slice none 0 0] := by have := (Blk.new ((w.alloc (Obj.cells #[.int .i64 c0, .slice A0 n0 q0] 31)).alloc (Obj.cells #[.int .i64 c1, .slice A1 n1 q1] 31)) 31 #[.int .i64 0, .slice none 0 0]); simpa using this
  have K0 := Lib.hid (hx0.below (Nat.le_refl _))
  have L0 := Lib.hid (show w.heap.size + 3 ≤ (((w.alloc (Obj.cells #[.int .i64 c0, .slice A0 n0 q0] 31)).alloc (Obj.cells #[.int .i64 c1, .slice A1 n1 q1] 31)).alloc (Obj.cells #[.int .i64 0, .slice none 0 0] 31)).heap.size by simp)
  have B0_0 := Lib.hid hb0
  have B1_0 := Lib.hid hb1
  have B2_0 := Lib.hid hb2
  clear hx0 hb0 hb1 hb2
  generalize (((w.alloc (Obj.cells #[.int .i64 c0, .slice A0 n0 q0] 31)).alloc (Obj.cells #[.int .i64 c1, .slice A1 n1 q1] 31)).alloc (Obj.cells #[.int .i64 0, .slice none 0 0] 31)) = w0 at *
  refine (HI0.out _ K0.out).mono ?_
  rintro e w1 ⟨rfl, hx⟩
  have K1 := Lib.hid (K0.out.trans ((hx.below (Nat.le_refl _)).mono K0.out.size))
  have L1 := Lib.hid (Nat.le_trans L0.out (hx.below (Nat.le_refl _)).size)
  have B0_1 := Lib.hid (B0_0.out.below (hx.below (Nat.le_refl _)) B0_0.out.lt)
  have B1_1 := Lib.hid (B1_0.out.below (hx.below (Nat.le_refl _)) B1_0.out.lt)
  have B2_1 := Lib.hid (B2_0.out.below (hx.below (Nat.le_refl _)) B2_0.out.lt)
  clear K0 B0_0 B1_0 B2_0 L0 hx
  have r0_0 := B0_1.out.rd 0 rfl
  have r0_1 := B0_1.out.rd 1 rfl
  have r1_0 := B1_1.out.rd 0 rfl
  have r1_1 := B1_1.out.rd 1 rfl
  have r2_0 := B2_1.out.rd 0 rfl
  have r2_1 := B2_1.out.rd 1 rfl
  go_wp2_with fail
  refine (HI1.out _ K1.out).mono ?_
  rintro e w2 ⟨rfl, hx⟩
  clear r0_0 r0_1 r1_0 r1_1 r2_0 r2_1
  have K2 := Lib.hid (K1.out.trans ((hx.below (Nat.le_refl _)).mono K1.out.size))
  have L2 := Lib.hid (Nat.le_trans L1.out (hx.below (Nat.le_refl _)).size)
  have B0_2 := Lib.hid (B0_1.out.below (hx.below (Nat.le_refl _)) B0_1.out.lt)
  have B1_2 := Lib.hid (B1_1.out.below (hx.below (Nat.le_refl _)) B1_1.out.lt)
  have B2_2 := Lib.hid (B2_1.out.below (hx.below (Nat.le_refl _)) B2_1.out.lt)
  clear K1 B0_1 B1_1 B2_1 L1 hx
  have r0_0 := B0_2.out.rd 0 rfl
  have r0_1 := B0_2.out.rd 1 rfl
  have r1_0 := B1_2.out.rd 0 rfl
  have r1_1 := B1_2.out.rd 1 rfl
  have r2_0 := B2_2.out.rd 0 rfl
  have r2_1 := B2_2.out.rd 1 rfl
  have HB0 := Lib.hid B0_2.out
  have HB1 := Lib.hid B1_2.out
  have HB2 := Lib.hid B2_2.out
  have HK := Lib.hid K2.out
  have HL := Lib.hid L2.out
  have hL2 := HL.out
  have hrd := reads_of_tr ((HA0.out.below HK.out (Nat.le_refl _)).more HK.out.size) hl0
  have HRD := Lib.hid hrd
  clear hrd
  have xa0 := (HB0.out.ext ((Ext.refl _).alloc (Obj.cells #[.int .i64 0, .slice none 0 0] 31))).rd 0 rfl
  have xa1 := (HB0.out.ext ((Ext.refl _).alloc (Obj.cells #[.int .i64 0, .slice none 0 0] 31))).rd 1 rfl
  have xa2 := (HB1.out.ext ((Ext.refl _).alloc (Obj.cells #[.int .i64 0, .slice none 0 0] 31))).rd 0 rfl
  have xb0 := (HB0.out.ext ((Ext.refl _).alloc (Obj.cells #[] 51))).rd 0 rfl
  have xb1 := (HB0.out.ext ((Ext.refl _).alloc (Obj.cells #[] 51))).rd 1 rfl
  have xb2 := (HB1.out.ext ((Ext.refl _).alloc (Obj.cells #[] 51))).rd 0 rfl
  have xc0 := (HB0.out.ext (((Ext.refl _).alloc (Obj.cells #[.int .i64 0, .slice none 0 0] 31)).alloc (Obj.cells #[] 51))).rd 0 rfl
  have xc1 := (HB0.out.ext (((Ext.refl _).alloc (Obj.cells #[.int .i64 0, .slice none 0 0] 31)).alloc (Obj.cells #[] 51))).rd 1 rfl
  have xc2 := (HB1.out.ext (((Ext.refl _).alloc (Obj.cells #[.int .i64 0, .slice none 0 0] 31)).alloc (Obj.cells #[] 51))).rd 0 rfl
  have xd0 := (HB0.out.ext (((Ext.refl _).alloc (Obj.cells #[] 51)).alloc (Obj.cells #[.int .i64 0, .slice none 0 0] 31))).rd 0 rfl
  have xd1 := (HB0.out.ext (((Ext.refl _).alloc (Obj.cells #[] 51)).alloc (Obj.cells #[.int .i64 0, .slice none 0 0] 31))).rd 1 rfl
  have xd2 := (HB1.out.ext (((Ext.refl _).alloc (Obj.cells #[] 51)).alloc (Obj.cells #[.int .i64 0, .slice none 0 0] 31))).rd 0 rfl
  go_upto_region 3 with (fail)
  go_cut [6] (fun v6 wx => ∃ (g6 : Nat) (v : Value), v6 = .pointer (some ⟨g6, 0, none⟩) ∧ w2.heap.size ≤ g6 ∧ Blk wx g6 31 #[.int .i64 (c0 + c1), v] ∧ wx.ownsRow w2.heap.size 51 4 v n0 (flat ts) ∧ v.ownBlock ≠ some g6 ∧ Below w2.heap.size w2 wx)
  case first =>
    go_region_held3 (fun w' => w'.cell? ⟨w.heap.size, 0, none⟩ = some (.int .i64 c0) ∧ w'.cell? ⟨w.heap.size, 1, none⟩ = some (.slice A0 n0 q0) ∧ w'.cell? ⟨w.heap.size + 1, 0, none⟩ = some (.int .i64 c1))
      (first | exact ⟨r0_0, r0_1, r1_0⟩ | exact ⟨xa0, xa1, xa2⟩ | exact ⟨xb0, xb1, xb2⟩ | exact ⟨xc0, xc1, xc2⟩ | exact ⟨xd0, xd1, xd2⟩ | exact ⟨u00, u01, u10⟩ | exact ⟨uz00, uz01, uz10⟩ | exact ⟨cell_far2 u00 (by simp; omega) _ _, cell_far2 u01 (by simp; omega) _ _, cell_far2 u10 (by simp; omega) _ _⟩ | go_keep)
      (first
      | (refine step_append_any _ rfl (.tmp 26) (.tmp 28) 29 rfl w2.heap.size 51 i0 _ 4 32 Try.underlying29 HI.out.1 HI.out.2.1 HI.out.2.2.1 HI.out.2.2.2 rfl (by decide) (.slice (some ⟨w2.heap.size, 0, none⟩) 0 0) 0 [] (by go_simp) (own_ext (World.ownsRow_made (base := w2.heap.size) (e := 51) (size := 4) w2 #[] 0 (Nat.le_refl _) (by unfold maxLen; omega) rfl) (by first | exact Ext.refl _ | exact (Ext.refl _).drew | exact (Ext.refl _).alloc _ | exact ((Ext.refl _).alloc _).drew | exact ((Ext.refl _).drew).alloc _ | exact (((Ext.refl _).drew).alloc _).drew | exact ((Ext.refl _).alloc _).alloc _ | exact (((Ext.refl _).alloc _).alloc _).drew)) w2.heap.size A0 n0 q0 (flat ts) (by go_simp) (reads_ext HRD.out (by first | exact Ext.refl _ | exact (Ext.refl _).drew | exact (Ext.refl _).alloc _ | exact ((Ext.refl _).alloc _).drew | exact ((Ext.refl _).drew).alloc _ | exact (((Ext.refl _).drew).alloc _).drew | exact ((Ext.refl _).alloc _).alloc _ | exact (((Ext.refl _).alloc _).alloc _).drew) (Nat.le_refl _)) (flat_one ts) (by unfold maxLen; omega) (by omega) (by simp <;> omega) ?_; intro v' w3 hown3 hgrow3 hat3; (simp only [Nat.zero_add, List.nil_append] at hown3); obtain ⟨A3, cap3, rfl, htw3⟩ := own_tw hown3 hl0; clear htw3; have hKc := below_pair0 hgrow3 (below_next0 (Below.refl w2.heap.size w2) (by first | exact Ext.refl _ | exact (Ext.refl _).drew | exact (Ext.refl _).alloc _ | exact ((Ext.refl _).alloc _).drew | exact ((Ext.refl _).drew).alloc _ | exact (((Ext.refl _).drew).alloc _).drew | exact ((Ext.refl _).alloc _).alloc _ | exact (((Ext.refl _).alloc _).alloc _).drew) (Nat.le_refl _)); (try have nz0 := blk_pair0 hgrow3 (Blk.new w2 31 #[.int .i64 0, .slice none 0 0]) (by first | exact Ext.refl _ | exact (Ext.refl _).drew | exact (Ext.refl _).alloc _ | exact ((Ext.refl _).alloc _).drew | exact ((Ext.refl _).drew).alloc _ | exact (((Ext.refl _).drew).alloc _).drew | exact ((Ext.refl _).alloc _).alloc _ | exact (((Ext.refl _).alloc _).alloc _).drew)); (try have nz1 := blk_pair0 hgrow3 (show Blk ((w2.alloc (Obj.cells #[] 51)).alloc (Obj.cells #[.int .i64 0, .slice none 0 0] 31)) (w2.heap.size + 1) 31 #[.int .i64 0, .slice none 0 0] by have h9 := Blk.new (w2.alloc (Obj.cells #[] 51)) 31 #[.int .i64 0, .slice none 0 0]; simpa using h9) (by first | exact Ext.refl _ | exact (Ext.refl _).drew | exact (Ext.refl _).alloc _ | exact ((Ext.refl _).alloc _).drew | exact ((Ext.refl _).drew).alloc _ | exact (((Ext.refl _).drew).alloc _).drew | exact ((Ext.refl _).alloc _).alloc _ | exact (((Ext.refl _).alloc _).alloc _).drew)); (try have y00 := (blk_grown nz0 hgrow3 (by simp [Value.ownBlock])).rd 0 rfl); (try have f00 := (blk_grown nz0 hgrow3 (by simp [Value.ownBlock])).frozen 0); (try have y01 := (blk_grown nz0 hgrow3 (by simp [Value.ownBlock])).rd 1 rfl); (try have f01 := (blk_grown nz0 hgrow3 (by simp [Value.ownBlock])).frozen 1); (try have y10 := (blk_grown nz1 hgrow3 (by simp [Value.ownBlock])).rd 0 rfl); (try have f10 := (blk_grown nz1 hgrow3 (by simp [Value.ownBlock])).frozen 0); (try have y11 := (blk_grown nz1 hgrow3 (by simp [Value.ownBlock])).rd 1 rfl); (try have f11 := (blk_grown nz1 hgrow3 (by simp [Value.ownBlock])).frozen 1); have hb3 := hKc.grown hgrow3 hKc.size (by intro k hk; simp [Value.ownBlock] at hk; omega); have u00 := (HB0.out.below hb3 (by omega)).rd 0 rfl; have uz00 := ((HB0.out.below hb3 (by omega)).ext ((Ext.refl _).alloc (Obj.cells #[.int .i64 0, .slice none 0 0] 31))).rd 0 rfl; have u01 := (HB0.out.below hb3 (by omega)).rd 1 rfl; have uz01 := ((HB0.out.below hb3 (by omega)).ext ((Ext.refl _).alloc (Obj.cells #[.int .i64 0, .slice none 0 0] 31))).rd 1 rfl; have u10 := (HB1.out.below hb3 (by omega)).rd 0 rfl; have uz10 := ((HB1.out.below hb3 (by omega)).ext ((Ext.refl _).alloc (Obj.cells #[.int .i64 0, .slice none 0 0] 31))).rd 0 rfl; skip)
      | (refine step_append_any _ rfl (.tmp 26) (.tmp 28) 29 rfl w2.heap.size 51 i0 _ 4 32 Try.underlying29 HI.out.1 HI.out.2.1 HI.out.2.2.1 HI.out.2.2.2 rfl (by decide) (.slice (some ⟨w2.heap.size + 1, 0, none⟩) 0 0) 0 [] (by go_simp) (own_ext (show World.ownsRow ((w2.alloc (Obj.cells #[.int .i64 0, .slice none 0 0] 31)).alloc (Obj.cells #[] 51)) w2.heap.size 51 4 (.slice (some ⟨w2.heap.size + 1, 0, none⟩) 0 0) 0 [] by have h9 := World.ownsRow_made (base := w2.heap.size) (e := 51) (size := 4) (w2.alloc (Obj.cells #[.int .i64 0, .slice none 0 0] 31)) #[] 0 (by simp) (by unfold maxLen; omega) rfl; simpa using h9) (by first | exact Ext.refl _ | exact (Ext.refl _).drew | exact (Ext.refl _).alloc _ | exact ((Ext.refl _).alloc _).drew | exact ((Ext.refl _).drew).alloc _ | exact (((Ext.refl _).drew).alloc _).drew | exact ((Ext.refl _).alloc _).alloc _ | exact (((Ext.refl _).alloc _).alloc _).drew)) w2.heap.size A0 n0 q0 (flat ts) (by go_simp) (reads_ext HRD.out (by first | exact Ext.refl _ | exact (Ext.refl _).drew | exact (Ext.refl _).alloc _ | exact ((Ext.refl _).alloc _).drew | exact ((Ext.refl _).drew).alloc _ | exact (((Ext.refl _).drew).alloc _).drew | exact ((Ext.refl _).alloc _).alloc _ | exact (((Ext.refl _).alloc _).alloc _).drew) (Nat.le_refl _)) (flat_one ts) (by unfold maxLen; omega) (by omega) (by simp <;> omega) ?_; intro v' w3 hown3 hgrow3 hat3; (simp only [Nat.zero_add, List.nil_append] at hown3); obtain ⟨A3, cap3, rfl, htw3⟩ := own_tw hown3 hl0; clear htw3; have hKc := below_pair0 hgrow3 (below_next0 (Below.refl w2.heap.size w2) (by first | exact Ext.refl _ | exact (Ext.refl _).drew | exact (Ext.refl _).alloc _ | exact ((Ext.refl _).alloc _).drew | exact ((Ext.refl _).drew).alloc _ | exact (((Ext.refl _).drew).alloc _).drew | exact ((Ext.refl _).alloc _).alloc _ | exact (((Ext.refl _).alloc _).alloc _).drew) (Nat.le_refl _)); (try have nz0 := blk_pair0 hgrow3 (Blk.new w2 31 #[.int .i64 0, .slice none 0 0]) (by first | exact Ext.refl _ | exact (Ext.refl _).drew | exact (Ext.refl _).alloc _ | exact ((Ext.refl _).alloc _).drew | exact ((Ext.refl _).drew).alloc _ | exact (((Ext.refl _).drew).alloc _).drew | exact ((Ext.refl _).alloc _).alloc _ | exact (((Ext.refl _).alloc _).alloc _).drew)); (try have nz1 := blk_pair0 hgrow3 (show Blk ((w2.alloc (Obj.cells #[] 51)).alloc (Obj.cells #[.int .i64 0, .slice none 0 0] 31)) (w2.heap.size + 1) 31 #[.int .i64 0, .slice none 0 0] by have h9 := Blk.new (w2.alloc (Obj.cells #[] 51)) 31 #[.int .i64 0, .slice none 0 0]; simpa using h9) (by first | exact Ext.refl _ | exact (Ext.refl _).drew | exact (Ext.refl _).alloc _ | exact ((Ext.refl _).alloc _).drew | exact ((Ext.refl _).drew).alloc _ | exact (((Ext.refl _).drew).alloc _).drew | exact ((Ext.refl _).alloc _).alloc _ | exact (((Ext.refl _).alloc _).alloc _).drew)); (try have y00 := (blk_grown nz0 hgrow3 (by simp [Value.ownBlock])).rd 0 rfl); (try have f00 := (blk_grown nz0 hgrow3 (by simp [Value.ownBlock])).frozen 0); (try have y01 := (blk_grown nz0 hgrow3 (by simp [Value.ownBlock])).rd 1 rfl); (try have f01 := (blk_grown nz0 hgrow3 (by simp [Value.ownBlock])).frozen 1); (try have y10 := (blk_grown nz1 hgrow3 (by simp [Value.ownBlock])).rd 0 rfl); (try have f10 := (blk_grown nz1 hgrow3 (by simp [Value.ownBlock])).frozen 0); (try have y11 := (blk_grown nz1 hgrow3 (by simp [Value.ownBlock])).rd 1 rfl); (try have f11 := (blk_grown nz1 hgrow3 (by simp [Value.ownBlock])).frozen 1); have hb3 := hKc.grown hgrow3 hKc.size (by intro k hk; simp [Value.ownBlock] at hk; omega); have u00 := (HB0.out.below hb3 (by omega)).rd 0 rfl; have uz00 := ((HB0.out.below hb3 (by omega)).ext ((Ext.refl _).alloc (Obj.cells #[.int .i64 0, .slice none 0 0] 31))).rd 0 rfl; have u01 := (HB0.out.below hb3 (by omega)).rd 1 rfl; have uz01 := ((HB0.out.below hb3 (by omega)).ext ((Ext.refl _).alloc (Obj.cells #[.int .i64 0, .slice none 0 0] 31))).rd 1 rfl; have u10 := (HB1.out.below hb3 (by omega)).rd 0 rfl; have uz10 := ((HB1.out.below hb3 (by omega)).ext ((Ext.refl _).alloc (Obj.cells #[.int .i64 0, .slice none 0 0] 31))).rd 0 rfl; skip))
    all_goals
      go_wp2_with fail
      go_meet
      first
        | (obtain ⟨h1, h2, h3, h4, h5⟩ := close_own_set (x := .int .i64 (c0 + c1)) hKc hgrow3 hat3 hown3 nz0 (by simp [Value.ownBlock]) (by omega) (by intro k hk; simp [Value.ownBlock] at hk; omega) (Nat.le_refl _) (by first | exact Ext.refl _ | exact (Ext.refl _).drew | exact (Ext.refl _).alloc _ | exact ((Ext.refl _).alloc _).drew | exact ((Ext.refl _).drew).alloc _ | exact (((Ext.refl _).drew).alloc _).drew | exact ((Ext.refl _).alloc _).alloc _ | exact (((Ext.refl _).alloc _).alloc _).drew); exact ⟨_, _, rfl, h1, h2, by simpa using h3, h4, h5⟩)
        | (obtain ⟨h1, h2, h3, h4, h5⟩ := close_own_set (x := .int .i64 (c0 + c1)) hKc hgrow3 hat3 hown3 nz1 (by simp [Value.ownBlock]) (by omega) (by intro k hk; simp [Value.ownBlock] at hk; omega) (Nat.le_refl _) (by first | exact Ext.refl _ | exact (Ext.refl _).drew | exact (Ext.refl _).alloc _ | exact ((Ext.refl _).alloc _).drew | exact ((Ext.refl _).drew).alloc _ | exact (((Ext.refl _).drew).alloc _).drew | exact ((Ext.refl _).alloc _).alloc _ | exact (((Ext.refl _).alloc _).alloc _).drew); exact ⟨_, _, rfl, h1, h2, by simpa using h3, h4, h5⟩)
        | (obtain ⟨h1, h2, h3, h4, h5⟩ := close_own_new (wy := w3) 31 (.int .i64 (c0 + c1)) hKc hgrow3 hown3 (by intro k hk; simp [Value.ownBlock] at hk; omega) (Nat.le_refl _) (Ext.refl _) (by first | exact Ext.refl _ | exact (Ext.refl _).drew | exact (Ext.refl _).alloc _ | exact ((Ext.refl _).alloc _).drew | exact ((Ext.refl _).drew).alloc _ | exact (((Ext.refl _).drew).alloc _).drew | exact ((Ext.refl _).alloc _).alloc _ | exact (((Ext.refl _).alloc _).alloc _).drew); exact ⟨_, _, rfl, h1, h2, by simpa using h3, h4, h5⟩)
  case rest =>
    obtain ⟨g6, v6, rfl, hg6, hbk6, hown6, hne6, hb6⟩ := hcut
    obtain ⟨W5, hW5⟩ : ∃ W5, W5 = wc := ⟨_, rfl⟩
    subst hW5
    clear xa0 xa1 xa2 xb0 xb1 xb2 xc0 xc1 xc2 xd0 xd1 xd2 r0_0 r0_1 r1_0 r1_1 r2_0 r2_1
    have HB6 := Lib.hid hb6
    have hsz6 := hb6.size
    have HS6 := Lib.hid (And.intro hbk6 (And.intro hown6 hne6))
    clear hb6 hbk6 hown6 hne6
    go_wp2_with fail
    go_loopw [7] (fun ii wr => ∃ (k : Nat) (v : Value), k ≤ n1 ∧ ii = .int .i64 k ∧ Blk wr g6 31 #[.int .i64 (c0 + c1), v] ∧ wr.ownsRow w2.heap.size 51 4 v (n0 + k) (flat (ts ++ shN c0 us k)) ∧ v.ownBlock ≠ some g6 ∧ Below w2.heap.size W5 wr) (fun ii _ => n1 - (intOf ii).toNat)
    case atStart => exact ⟨0, v6, Nat.zero_le _, rfl, HS6.out.1, by simpa [shN] using HS6.out.2.1, HS6.out.2.2, Below.refl _ _⟩
    case round =>
      obtain ⟨k, v, hk, rfl, hbk, hown, hne, hb⟩ := hrel
      have hlen : (ts ++ shN c0 us k).length = n0 + k := by rw [List.length_append, shN_len c0 us (by omega), hl0]
      obtain ⟨A5, cap5, rfl, htw5⟩ := own_tw hown hlen
      have HO := Lib.hid hown
      have HBK := Lib.hid hbk
      have HNE := Lib.hid hne
      have HTW := Lib.hid htw5
      have HBW := Lib.hid (HB6.out.trans hb)
      have hszw := (HB6.out.trans hb).size
      have hszw5 := hb.size
      have HB5 := Lib.hid hb
      have hglt := hbk.lt
      clear hown hbk hne hb htw5 hlen
      have hbw := HK.out.trans (HBW.out.mono HK.out.size)
      have r0 := (HB0.out.below HBW.out (by omega)).rd 0 rfl
      have r1 := (HB1.out.below HBW.out (by omega)).rd 1 rfl
      by_cases hlt : k < n1
      · obtain ⟨b0, o, rfl, hbb, ht⟩ := (HA1.out.below hbw (Nat.le_refl _)) (by omega)
        replace ht := ht k (by omega)
        have hsu := shN_succ c0 us (k := k) (by omega)
        have hok := HOK.out k hlt
        generalize us.getD k T0 = t at *
        have HSU := Lib.hid hsu
        have HOKT := Lib.hid hok
        obtain ⟨t0, t1, t2, t3⟩ := t
        obtain ⟨c0', c1', c2, c3⟩ := ht
        simp only at c0' c1' c2 c3
        have b3 : (k : Int) < (n1 : Int) := by omega
        clear hsu hok
        go_wp2_with fail
        obtain ⟨W4, hW4⟩ : ∃ W4, wr.alloc (Obj.cells #[.int .i64 t0, .int .i64 t1, .int .i64 t2, .int .i64 t3] 51) = W4 := ⟨_, rfl⟩
        have hb4 : Blk W4 wr.heap.size 51 (shA c0 (t0, t1, t2, t3) 0) := by rw [← hW4, shA_zero]; exact Blk.new wr _ _
        have hx4 : Ext wr W4 := by rw [← hW4]; exact (Ext.refl wr).alloc _
        have hsz4 : wr.heap.size + 1 ≤ W4.heap.size := by rw [← hW4]; simp
        rw [hW4]
        have HB4 := Lib.hid hb4
        have HX4 := Lib.hid hx4
        clear hb4 hx4 hW4 c0' c1' c2 c3 r0 r1
        obtain ⟨WR, hWR⟩ : ∃ WR, WR = wr := ⟨_, rfl⟩
        subst hWR
        go_loopw [9] (fun jj wr => ∃ j : Nat, j ≤ 4 ∧ jj = .int .i64 j ∧ Blk wr WR.heap.size 51 (shA c0 (t0, t1, t2, t3) j) ∧ Below WR.heap.size W4 wr) (fun jj _ => 4 - (intOf jj).toNat)
        case atStart => exact ⟨0, Nat.zero_le _, rfl, HB4.out, Below.refl _ _⟩
        case round =>
          obtain ⟨j, hj, rfl, hbj, hbl⟩ := hrel
          have HBJ := Lib.hid hbj
          have HBL := Lib.hid hbl
          clear hbj hbl
          have hall := (HX4.out.below (Nat.le_refl _)).trans HBL.out
          have hball := HBW.out.trans (hall.mono (by omega))
          have HALL := Lib.hid hall
          have HBALL := Lib.hid hball
          by_cases hj4 : j < 4
          · have q1 := HBJ.out.rd j (shA_at c0 (t0, t1, t2, t3) hj4)
            have z1 := HBJ.out.frozen j
            have r0 := (HB0.out.below hball (by omega)).rd 0 rfl
            have hx := colT_ok HOKT.out j
            have hst := HBJ.out.set_ j (.int .i64 (colT (t0, t1, t2, t3) j + c0))
            rw [shA_set c0 (t0, t1, t2, t3) hj4] at hst
            have HST := Lib.hid hst
            generalize colT (t0, t1, t2, t3) j = x at q1 hx HST
            have hwx : IntKind.i64.wrap (x + c0) = x + c0 := IntWalk.i64_in _ (by omega)
            have hj5 : (j : Int) < 4 := by omega
            clear hst hall hball
            go_wp2_with fail
            go_region
            all_goals
              clear q1 z1 r0
              go_wp2_with fail
              go_roundw
              have hbs := HBL.out.setCell (p := ⟨WR.heap.size, j, none⟩) (Nat.le_refl _) (.int .i64 (x + c0))
              case rel => first | exact ⟨j + 1, by omega, by go_num, HST.out.ext ((Ext.refl _).drew), hbs.trans (((Ext.refl _).drew).below (by have := hbs.size; omega))⟩ | ((repeat apply Exists.intro); exact ⟨⟨j + 1, by omega, by go_num, HST.out.ext ((Ext.refl _).drew), hbs.trans (((Ext.refl _).drew).below (by have := hbs.size; omega))⟩, rfl⟩)
              case measure => simp [intOf]; omega
          · obtain rfl : j = 4 := by omega
            have hb8 := HBJ.out
            rw [shA_four] at hb8
            have q0 := hb8.rd 0 rfl
            have q1 := hb8.rd 1 rfl
            have q2 := hb8.rd 2 rfl
            have q3 := hb8.rd 3 rfl
            simp only [shT] at q0 q1 q2 q3
            have HO2 := Lib.hid (own_below HO.out hall)
            have hbk2 := HBK.out.below hall hglt
            have s1 := hbk2.rd 1 rfl
            have HB9 := Lib.hid hball
            have HBK2 := Lib.hid hbk2
            have hsza := hall.size
            clear hb8 hall hball HBJ hbk2
            go_wp2_with (at_builtin; refine wpList_pushT rfl _ _ rfl w2.heap.size _ (n0 + k) _ rfl (HO2.out.alloc _) wr.heap.size (shT c0 (t0, t1, t2, t3)) rfl (heap_alloc_new wr _) ?c1 ?c2 ?c3 ?_)
            case c1 => unfold maxLen; omega
            case c2 => omega
            case c3 => have := HB9.out.size; simp; omega
            intro v' w5 hown' hgrow hat
            rw [← flat_snoc, List.append_assoc, ← HSU.out] at hown'
            have hlen : (ts ++ shN c0 us (k + 1)).length = n0 + k + 1 := by rw [List.length_append, shN_len c0 us (by omega), hl0]; omega
            obtain ⟨A6, cap6, rfl, htw6⟩ := own_tw hown' hlen
            have hbg := blk_grown (HBK2.out.ext ((Ext.refl wr).alloc (Obj.cells (encA (shT c0 (t0, t1, t2, t3))) 51))) hgrow HNE.out
            have y1 := hbg.rd 1 rfl
            have f1 := hbg.frozen 1
            have hne' : (Value.slice A6 (n0 + k + 1) cap6).ownBlock ≠ some g6 := by
              rcases hat with h | h
              · rw [h]; exact HNE.out
              · rw [h]; intro e9; simp at e9; omega
            have HBG := Lib.hid (And.intro (hbg.set_ 1 (.slice A6 (n0 + k + 1) cap6)) (And.intro (own_far (p := ⟨g6, 1, none⟩) hown' (fun e9 => hne' e9.symm) (.slice A6 (n0 + k + 1) cap6)) hne'))
            have HB7 := Lib.hid ((((HB5.out.trans (HALL.out.mono (by omega))).alloc (by omega) (Obj.cells (encA (shT c0 (t0, t1, t2, t3))) 51)).grown hgrow (by simp; omega) (fun j hj => (HO2.out.lt j hj).1)).setCell (p := ⟨g6, 1, none⟩) hg6 (.slice A6 (n0 + k + 1) cap6))
            clear hown' hgrow hat htw6 hbg hne' q0 q1 q2 q3 s1 hlen
            go_wp2_with fail
            go_roundw
            case rel => first | exact ⟨k + 1, _, by omega, by go_num, HBG.out.1, HBG.out.2.1, HBG.out.2.2, HB7.out⟩ | ((repeat apply Exists.intro); exact ⟨⟨k + 1, _, by omega, by go_num, HBG.out.1, HBG.out.2.1, HBG.out.2.2, HB7.out⟩, rfl⟩)
            case measure => simp [intOf]; omega
      · obtain rfl : k = n1 := by omega
        have hus : shN c0 us k = us.map (shT c0) := by unfold shN; rw [List.take_of_length_le (by omega)]
        rw [hus] at HTW
        have HLEN := Lib.hid (show (ts ++ us.map (shT c0)).length = n0 + k by simp; omega)
        have s0 := HBK.out.rd 0 rfl
        have s1 := HBK.out.rd 1 rfl
        have HTD := Lib.hid (fun W => l01Told_any (c0 + c1) A5 (n0 + k) cap5 W (by omega))
        have HB2W := Lib.hid (HB2.out.below HBW.out (by omega))
        have HBF := Lib.hid hbw
        clear hus hbw
        go_wp2_with fail
        refine (HTD.out _).mono ?_
        rintro e w5 ⟨rfl, hx5⟩
        have HX5 := Lib.hid hx5
        have hbr := HB2W.out.ext hx5
        clear hx5 s0 s1 r0 r1
        by_cases hlim : c0 + c1 ≤ 6 ∧ n0 + k ≤ 16
        · rw [if_pos hlim]
          have hbq := hbr.ext ((Ext.refl _).alloc (Obj.cells #[.int .i64 (c0 + c1), .slice A5 (n0 + k) cap5] 31))
          have q0 := hbq.rd 0 rfl
          have q1 := hbq.rd 1 rfl
          have z0 := hbq.frozen 0
          have z1 := hbq.frozen 1
          clear hbq hbr
          have HLIM := Lib.hid hlim
          clear hlim
          go_wp2_with fail
          refine bodyPost_ret (v := .tuple #[.agg #[.int .i64 (c0 + c1), .slice A5 (n0 + k) cap5], .int .i64 0]) (by simp [results, Try.results34, go_sem, q0, q1, z0, z1]) rfl ?_
          try rw [if_pos HLIM.out]
          unfold SetRes
          have hxx := HX5.out.alloc (Obj.cells #[.int .i64 (c0 + c1), .slice A5 (n0 + k) cap5] 31)
          have hb9 := HBF.out.trans (hxx.below HBF.out.size)
          refine ⟨A5, cap5, by rw [HLEN.out], ?_, ?_⟩
          · exact (hb9.setCell (by simp; omega) _).setCell (by simp; omega) _
          · exact (((HTW.out.ext hxx).far (by show _ < _; simp; omega) _).far (by show _ < _; simp; omega) _).low (by omega)
        · rw [if_neg hlim]
          have hbq := hbr.ext ((Ext.refl _).alloc (Obj.cells #[.int .i64 0, .slice none 0 0] 31))
          have q0 := hbq.rd 0 rfl
          have q1 := hbq.rd 1 rfl
          have z0 := hbq.frozen 0
          have z1 := hbq.frozen 1
          clear hbq hbr
          have HLIM := Lib.hid hlim
          clear hlim
          go_wp2_with fail
          refine bodyPost_ret (v := .tuple #[.agg #[.int .i64 0, .slice none 0 0], .int .i64 3]) (by simp [results, Try.results34, go_sem, q0, q1, z0, z1]) rfl ?_
          try rw [if_neg HLIM.out]
          unfold SetRes
          have hxx := HX5.out.alloc (Obj.cells #[.int .i64 0, .slice none 0 0] 31)
          have hb9 := HBF.out.trans (hxx.below HBF.out.size)
          refine ⟨none, 0, rfl, ?_, fun h => absurd h (Nat.lt_irrefl _)⟩
          exact (hb9.setCell (by simp; omega) _).setCell (by simp; omega) _

end Go.Proofs.Ytpjlapialjjcdaa
