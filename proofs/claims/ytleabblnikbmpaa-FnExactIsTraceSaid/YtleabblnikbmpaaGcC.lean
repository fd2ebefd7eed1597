/- The graph of a height; the program's side. -/
import Derived.Test.YtleabblnikbmpaaGcB
import Derived.Test.YtleabblnikbmpaaAppT
import Derived.Deep.RegionLaw
import Derived.RangeFuncBox
import Derived.Lib.Hide
import Derived.Test.YtleabblnikbmpaaCnt2
namespace Go.Proofs.Ytleabblnikbmpaa
section
set_option linter.unusedVariables false
set_option linter.unusedSimpArgs false
open Go.RowKit Go.Sort

/-- The edges of a height. -/
def edgesL (C : Int) (ts : List Tl) (h : Nat) : List Tl := (colsL ts h).map (edgeT C ts)
theorem edgesL_len (C : Int) (ts : List Tl) (h : Nat) : (edgesL C ts h).length = (colsL ts h).length := by simp [edgesL]
theorem edgesL_at (C : Int) (ts : List Tl) (h : Nat) {k : Nat} (hk : k < (colsL ts h).length) : (edgesL C ts h).getD k T0 = edgeT C ts ((colsL ts h).getD k []) := by simp [edgesL, List.getD, hk]
/-- The code of the graph of a height. -/
def gCode (c0 : Int) (ts : List Tl) (h : Int) : Int := if hCode c0 ts h = 0 then (if c0 ^ h.toNat ≤ 700 ∧ (colsL ts h.toNat).length ≤ 5000 then 0 else 3) else hCode c0 ts h
theorem hCode_zero {c0 : Int} {ts : List Tl} {h : Int} (e : hCode c0 ts h = 0) : isSet c0 ts = true ∧ 1 ≤ h ∧ h ≤ 4 := by
  unfold hCode at e
  by_cases hs : isSet c0 ts = true
  · rw [if_pos hs] at e
    by_cases hh : 1 ≤ h ∧ h ≤ 4
    · exact ⟨hs, hh⟩
    · rw [if_neg hh] at e; omega
  · rw [if_neg hs] at e; omega
theorem gCode_zero {c0 : Int} {ts : List Tl} {h : Int} (e : gCode c0 ts h = 0) : isSet c0 ts = true ∧ (1 ≤ h ∧ h ≤ 4) ∧ c0 ^ h.toNat ≤ 700 ∧ (colsL ts h.toNat).length ≤ 5000 := by
  unfold gCode at e
  by_cases hc : hCode c0 ts h = 0
  · rw [if_pos hc] at e
    obtain ⟨h1, h2⟩ := hCode_zero hc
    by_cases hh : c0 ^ h.toNat ≤ 700 ∧ (colsL ts h.toNat).length ≤ 5000
    · exact ⟨h1, h2, hh⟩
    · rw [if_neg hh] at e; omega
  · rw [if_neg hc] at e; exact absurd e hc
theorem grownFz {w w' : World} {row : Option Nat} (hg : w.grownBy w' row) {g i : Nat} (hlt : g < w.heap.size) (hne : some g ≠ row) (h : w.frozen? ⟨g, i, none⟩ = false) : w'.frozen? ⟨g, i, none⟩ = false := (World.frozen?_of_block (hg.block _ hlt hne)).trans h
theorem own_set_far {w : World} {base n size : Nat} {e : TypeId} {v : Value} {xs : List Value} (h : w.ownsRow base e size v n xs) {p : Addr} (hp : p.block < base) (u : Value) : (w.setCell p u).ownsRow base e size v n xs := by
  refine ⟨h.1, ?_⟩
  rcases h.2 with h0 | ⟨g, cap, cur, hv, hb, hg, r⟩
  · exact .inl h0
  · exact .inr ⟨g, cap, cur, hv, hb, (Below.heap_setCell w p u g (by omega)).trans hg, r⟩
theorem set_cell_ne {w : World} {p : Addr} (u : Value) {b i : Nat} (h : b ≠ p.block) : (w.setCell p u).cell? ⟨b, i, none⟩ = w.cell? ⟨b, i, none⟩ := World.cell?_of_block (Below.heap_setCell w p u b h)
theorem alloc_le (w : World) (ob : Obj) : w.heap.size ≤ (w.alloc ob).heap.size := by simp
/-- A graph handed back: its columns and its edges can be read. -/
def GraphRes (w : World) (C : Nat) (A : Option Addr) (n c : Nat) (ts : List Tl) (h : Nat) (e : Ending) (w' : World) : Prop :=
  ∃ R q E qe, e = .returned (.tuple #[.agg #[.int .i64 (C : Int), .slice A n c, .slice R (colsL ts h).length q, .int .i64 ((C ^ h : Nat) : Int), .slice E (colsL ts h).length qe], .int .i64 0]) ∧ Below w.heap.size w w' ∧ IRL w' (w.heap.size + 2) R (colsL ts h) ∧ TR w' w'.heap.size E (edgesL (C : Int) ts h)

set_option maxRecDepth 100000 in
set_option maxHeartbeats 8000000 in
theorem graphOf_0 (C : Nat) (A : Option Addr) (n c : Nat) (ts : List Tl) (h : Nat) (w : World) (hl : ts.length = n) (hA : TR w w.heap.size A ts) (hs : isSet (C : Int) ts = true) (h1 : 1 ≤ h) (h4 : h ≤ 4) (hC7 : C ^ h ≤ 700) (hN : (colsL ts h).length ≤ 5000) :
    Calls Try.prog 54 #[.agg #[.int .i64 (C : Int), .slice A n c], .int .i64 (h : Int)] w (GraphRes w C A n c ts h) := by
  have hn := isSet_len hs
  rw [hl] at hn
  have hcc := isSet_col hs
  have hco : colOk C ts := colOk_set hs rfl
  have hch : ∀ W, Below w.heap.size w W → Calls Try.prog 72 #[.agg #[.int .i64 (C : Int), .slice A n c], .int .i64 (h : Int), .int .i64 4] W _ := fun W hW => checkHeight_any (C : Int) A n c ts (h : Int) W (by omega) hl ((hA.below hW (Nat.le_refl _)).more hW.size)
  have hcd : hCode (C : Int) ts (h : Int) = 0 := by unfold hCode; rw [if_pos hs, if_pos (by omega)]
  rw [hcd] at hch
  have hwl : ∀ W, Calls Try.prog 97 #[.agg #[.int .i64 (C : Int), .slice A n c], .int .i64 (h : Int)] W _ := fun W => wordsOfLength_any C A n c h W (by omega) h4
  have hcl : ∀ W, Below w.heap.size w W → Calls Try.prog 98 #[.agg #[.int .i64 (C : Int), .slice A n c], .int .i64 (h : Int)] W _ := fun W hW => columnsOf_any (C : Int) A n c ts h W hn hl ((hA.below hW (Nat.le_refl _)).more hW.size) h4
  have heo : ∀ W (Q : Option Addr) (qc : Nat) (col : List Int), Below w.heap.size w W → col.length = h → allT ts col = true → IR W W.heap.size Q col → Calls Try.prog 99 #[.agg #[.int .i64 (C : Int), .slice A n c], .slice Q h qc] W _ := fun W Q qc col hW h2 h3 h5 => edgeOf_any C A n c ts Q h qc col W (by omega) (by omega) (by omega) hl ((hA.below hW (Nat.le_refl _)).more hW.size) hco h4 h2 h5 h3
  unfold GraphRes
  have HAT := Lib.hid (fun k (hk : k < (colsL ts h).length) => colsL_at ts h hk)
  have HET := Lib.hid (fun k (hk : k < (colsL ts h).length) => edgesL_at (C : Int) ts h hk)
  have HEL := Lib.hid (edgesL_len (C : Int) ts h)
  have HCH := Lib.hid hch
  have HWL := Lib.hid hwl
  have HCL := Lib.hid hcl
  have HEO := Lib.hid heo
  clear hch hwl hcl heo hA hs hco hcd hcc hn
  generalize edgesL (C : Int) ts h = E at *
  generalize colsL ts h = cols at *
  generalize hNN : cols.length = N at *
  generalize C ^ h = P at *
  have h7 : ¬ (700 : Int) < (P : Int) := by omega
  have h5 : ¬ (5000 : Int) < (N : Int) := by omega
  go_enter Try.func54, Try.ntmps54
  go_wp2_with fail
  obtain ⟨W0, hW0⟩ : ∃ W0, (w.alloc (Obj.cells #[.int .i64 (C : Int), .slice A n c] 30)).alloc (Obj.cells #[.int .i64 0, .slice none 0 0, .slice none 0 0, .int .i64 0, .slice none 0 0] 55) = W0 := ⟨_, rfl⟩
  have hx0 : Ext w W0 := by rw [← hW0]; exact ((Ext.refl w).alloc _).alloc _
  have hS : Blk W0 w.heap.size 30 #[.int .i64 (C : Int), .slice A n c] := by rw [← hW0]; exact (Blk.new w _ _).ext ((Ext.refl _).alloc _)
  have hR : Blk W0 (w.heap.size + 1) 55 #[.int .i64 0, .slice none 0 0, .slice none 0 0, .int .i64 0, .slice none 0 0] := by
    rw [← hW0]
    have := Blk.new (w.alloc (Obj.cells #[.int .i64 (C : Int), .slice A n c] 30)) 55 #[.int .i64 0, .slice none 0 0, .slice none 0 0, .int .i64 0, .slice none 0 0]
    simpa using this
  have hsz : w.heap.size + 2 ≤ W0.heap.size := by rw [← hW0]; simp
  rw [hW0]
  have H0 := Lib.hid (hx0.below (Nat.le_refl _))
  have HS := Lib.hid hS
  have HR := Lib.hid hR
  have r0 := hS.rd 0 rfl
  have r1 := hS.rd 1 rfl
  clear hx0 hS hR hW0
  refine (HCH.out _ H0.out).mono ?_
  rintro e w1 ⟨rfl, hx1⟩
  have B1 := Lib.hid (hx1.below (B := W0.heap.size) (Nat.le_refl _))
  have r0 := (HS.out.below B1.out HS.out.lt).rd 0 rfl
  have r1 := (HS.out.below B1.out HS.out.lt).rd 1 rfl
  clear hx1
  go_wp2_with fail
  refine (HWL.out _).mono ?_
  rintro e w2 ⟨rfl, hx2⟩
  have B2 := Lib.hid (B1.out.trans (hx2.below (B := W0.heap.size) B1.out.size))
  have r0 := (HS.out.below B2.out HS.out.lt).rd 0 rfl
  have r1 := (HS.out.below B2.out HS.out.lt).rd 1 rfl
  clear hx2
  go_wp2_with fail
  refine (HCL.out _ (H0.out.trans (B2.out.mono H0.out.size))).mono ?_
  rintro e w3 ⟨R, q, rfl, hb3, hir⟩
  have B3 := Lib.hid (B2.out.trans (hb3.mono B2.out.size))
  have HIR := Lib.hid hir
  have hsz3 := B3.out.size
  have hsz2 : w.heap.size + 2 ≤ w2.heap.size := Nat.le_trans hsz B2.out.size
  clear hb3 hir r0 r1
  go_wp2_with fail
  have hG : Blk (w3.alloc (Obj.cells #[.int .i64 (P : Int), .slice none 0 0] 30)) w3.heap.size 30 #[.int .i64 (P : Int), .slice none 0 0] := Blk.new w3 _ _
  have hx4 : Ext w3 (w3.alloc (Obj.cells #[.int .i64 (P : Int), .slice none 0 0] 30)) := (Ext.refl w3).alloc _
  have hsz4 : (w3.alloc (Obj.cells #[.int .i64 (P : Int), .slice none 0 0] 30)).heap.size = w3.heap.size + 1 := by simp
  generalize w3.alloc (Obj.cells #[.int .i64 (P : Int), .slice none 0 0] 30) = W4 at *
  have HG := Lib.hid hG
  have H4 := Lib.hid (hx4.below (B := w3.heap.size) (Nat.le_refl _))
  have hg4 : w3.heap.size + 1 ≤ W4.heap.size := by omega
  clear hG hx4 hsz4
  generalize hg9 : w3.heap.size = g9 at *
  have HG9 := Lib.hid hg9
  clear hg9
  go_loopw [36] (fun ii wr => ∃ (k : Nat) (v : Value), k ≤ N ∧ ii = .int .i64 k ∧ Blk wr g9 30 #[.int .i64 (P : Int), v] ∧ wr.ownsRow (g9 + 1) 69 4 v k (flat (E.take k)) ∧ Below g9 W4 wr) (fun ii _ => N - (intOf ii).toNat)
  case atStart => exact ⟨0, .slice none 0 0, Nat.zero_le _, rfl, HG.out, World.ownsRow_nil _ _ _ _, Below.refl _ _⟩
  case round =>
    obtain ⟨k, v, hk, rfl, hbk, hown, hb⟩ := hrel
    have hbw : Below g9 w3 wr := (H4.out.mono (by omega)).trans hb
    have hW0 : Below W0.heap.size W0 wr := B3.out.trans (hbw.mono hsz3)
    have hbww : Below w.heap.size w wr := H0.out.trans (hW0.mono (by omega))
    have HBW := Lib.hid hbww
    have HW0 := Lib.hid hW0
    have HB3 := Lib.hid hbw
    have HO := Lib.hid hown
    have HK := Lib.hid hbk
    have HB := Lib.hid hb
    have hszr := hb.size
    clear hown hbk hb hbw hW0 hbww
    by_cases hlt : k < N
    · obtain ⟨bR, oR, rfl, hbR, hcR⟩ := HIR.out.irr (by omega)
      obtain ⟨Q, qc, e1, hq, hQ⟩ := hcR k (by omega)
      obtain ⟨hcl, hca⟩ := HAT.out k (by omega)
      have HE1 := Lib.hid (HET.out k (by omega))
      have HT := Lib.hid (take_snoc E (k := k) (by rw [HEL.out]; omega))
      rw [HG9.out] at hbR hQ
      replace e1 := (HB3.out.cell (p := ⟨bR, oR + k, none⟩) hbR).trans e1
      rw [hcl] at e1 hq
      have HEO2 := Lib.hid (fun W hW hI => HEO.out W Q qc (cols.getD k []) hW hcl hca hI)
      have HQ := Lib.hid hQ
      generalize cols.getD k [] = col at *
      rw [HE1.out] at HT
      generalize edgeT (C : Int) ts col = ed at *
      obtain ⟨d0, d1, d2, d3⟩ := ed
      have hlt3 : (k : Int) < (N : Int) := by omega
      have r0 := (HS.out.below HW0.out HS.out.lt).rd 0 rfl
      have r1 := (HS.out.below HW0.out HS.out.lt).rd 1 rfl
      have x1 := HK.out.rd 1 rfl
      clear hcR hQ hcl hca HE1
      have HLT := Lib.hid (HK.out.lt)
      have hlt9 : g9 < wr.heap.size := HLT.out
      have HNE := Lib.hid (show some g9 ≠ v.ownBlock from fun e => by have := (HO.out.lt g9 e.symm).1; omega)
      have m1 : k + 1 ≤ maxLen := by unfold maxLen; omega
      have m2 : (k + 1) * 32 ≤ 140737488355328 := by omega
      have HM := Lib.hid (And.intro m1 m2)
      clear m1 m2
      have hqd : IR wr.drew wr.drew.heap.size Q col := (HQ.out.below HB3.out.drew (Nat.le_refl _)).more (Nat.le_of_lt hlt9)
      have HEO3 := Lib.hid (show Calls Try.prog 99 #[.agg #[.int .i64 (C : Int), .slice A n c], .slice Q h qc] wr.drew (fun e w' => e = .returned (.agg #[.int .i64 d0, .int .i64 d1, .int .i64 d2, .int .i64 d3]) ∧ Below wr.drew.heap.size wr.drew w') from HEO2.out wr.drew HBW.out.drew hqd)
      clear hqd
      go_wp2_with fail
      go_region_law (first
        | (go_simp; go_at_call 99; (with_reducible refine HEO3.out.mono ?_); rintro e w5 ⟨rfl, hb5⟩; have y1 := (Blk.below (w := wr.drew) HK.out hb5 HLT.out).rd 1 rfl; have B5 := Lib.hid (Blk.below (w := wr.drew) HK.out hb5 HLT.out); have y2 := fun ob => (B5.out.ext ((Ext.refl w5).alloc ob)).rd 1 rfl; have z2 := fun ob => (B5.out.ext ((Ext.refl w5).alloc ob)).frozen 1; have O5 := Lib.hid (own_belowA (w := wr.drew) HO.out hb5); have hs5 : g9 < w5.heap.size := B5.out.lt; have hs6 := fun ob => Nat.le_trans (show g9 + 1 ≤ w5.heap.size from hs5) (alloc_le w5 ob); have BB5 := Lib.hid hb5; clear hb5)
        | (refine step_pushT (by rfl) (.tmp 41) (.tmp 45) (by rfl) (g9 + 1) v k (flat (E.take k)) (by go_simp) (O5.out.alloc _) w5.heap.size (d0, d1, d2, d3) (by go_simp) (heap_alloc_new w5 _) HM.out.1 HM.out.2 (hs6 _) ?_; intro v6 w6 hown6 hgrow6 hat6; obtain ⟨g6, cap6, rfl⟩ := ownsRow_succ hown6; have c6 := hgrow6.cell (y2 _) HNE.out; have e6 := grownFz hgrow6 (g := g9) (i := 1) (hs6 _) HNE.out (z2 _)))
      all_goals
        have hbk6 : Blk w6 g9 30 #[.int .i64 (P : Int), v] := (hgrow6.block g9 (by simp; omega) HNE.out).trans (B5.out.ext ((Ext.refl w5).alloc _))
        have hbk7 := hbk6.set_ 1 (.slice (some ⟨g6, 0, none⟩) (k + 1) cap6)
        have ho7 := own_set_far hown6 (p := ⟨g9, 1, none⟩) (show g9 < g9 + 1 by omega) (.slice (some ⟨g6, 0, none⟩) (k + 1) cap6)
        rw [show flat (E.take k) ++ enc (d0, d1, d2, d3) = flat (E.take (k + 1)) by rw [HT.out, flat_snoc]] at ho7
        have hb7 := ((((HB.out.drew.trans (BB5.out.mono (by exact Nat.le_of_lt HLT.out))).alloc (by omega) (Obj.cells (encA (d0, d1, d2, d3)) 69)).grown hgrow6 (by simp; omega) (fun j hj => by have := (HO.out.lt j hj).1; omega)).setCell (p := ⟨g9, 1, none⟩) (Nat.le_refl _) (.slice (some ⟨g6, 0, none⟩) (k + 1) cap6))
        have H7 := Lib.hid (And.intro hbk7 (And.intro ho7 hb7))
        clear hbk6 hbk7 ho7 hb7 hown6 hgrow6 hat6 c6 e6 y1 y2 z2 r0 r1 x1 e1 hs6
        go_wp2_with fail
        go_roundw
        case rel => first | exact ⟨k + 1, _, by omega, by go_num, H7.out.1, H7.out.2.1, H7.out.2.2⟩ | ((repeat apply Exists.intro); exact ⟨⟨k + 1, _, by omega, by go_num, H7.out.1, H7.out.2.1, H7.out.2.2⟩, rfl⟩)
        case measure => simp [intOf]; omega
    · obtain rfl : k = N := by omega
      have hown := HO.out
      rw [List.take_of_length_le (by rw [HEL.out]; omega)] at hown
      obtain ⟨A2, cap2, rfl, htw⟩ := own_tw hown (by rw [HEL.out])
      have HT := Lib.hid htw
      have r0 := (HS.out.below HW0.out HS.out.lt).rd 0 rfl
      have r1 := (HS.out.below HW0.out HS.out.lt).rd 1 rfl
      have x0 := HK.out.rd 0 rfl
      have x1 := HK.out.rd 1 rfl
      have HR5 := HR.out.below HW0.out HR.out.lt
      have t0 := HR5.rd 0 rfl
      have t1 := HR5.rd 1 rfl
      have t2 := HR5.rd 2 rfl
      have t3 := HR5.rd 3 rfl
      have t4 := HR5.rd 4 rfl
      have z0 := HR5.frozen 0
      have z1 := HR5.frozen 1
      have z2 := HR5.frozen 2
      have z3 := HR5.frozen 3
      have z4 := HR5.frozen 4
      have hrw := HR5.lt
      have HLE := Lib.hid (show w.heap.size ≤ w.heap.size + 1 by omega)
      have HSZ2 := Lib.hid (show w.heap.size + 1 < g9 + 1 by omega)
      have HIRB := Lib.hid (show Below w3.heap.size w3 wr by rw [HG9.out]; exact HB3.out)
      clear hown htw HO HR5
      go_wp2_with fail
      refine bodyPost_ret (v := .tuple #[.agg #[.int .i64 (C : Int), .slice A n c, .slice R k q, .int .i64 (P : Int), .slice A2 k cap2], .int .i64 0]) (by simp [results, Try.results54, go_sem, t0, t1, t2, t3, t4, z0, z1, z2, z3, z4]) rfl ⟨R, q, A2, cap2, rfl, ?_, ?_, ?_⟩
      · exact ((((HBW.out.setCell HLE.out _).setCell HLE.out _).setCell HLE.out _).setCell HLE.out _).setCell HLE.out _
      · have HI2 := (HIR.out.low hsz2).below (HIRB.out)
        refine HI2.keep (by simp) fun b i h8 _ => ?_
        have hbn : b ≠ w.heap.size + 1 := by omega
        rw [set_cell_ne _ (by exact hbn), set_cell_ne _ (by exact hbn), set_cell_ne _ (by exact hbn), set_cell_ne _ (by exact hbn), set_cell_ne _ (by exact hbn)]
      · exact (((((HT.out.far (p := ⟨w.heap.size + 1, 0, none⟩) HSZ2.out _).far (p := ⟨w.heap.size + 1, 1, none⟩) HSZ2.out _).far (p := ⟨w.heap.size + 1, 2, none⟩) HSZ2.out _).far (p := ⟨w.heap.size + 1, 3, none⟩) HSZ2.out _).far (p := ⟨w.heap.size + 1, 4, none⟩) HSZ2.out _).tr

/-- A graph that there is not, with a code. -/
def NoGraph (w : World) (code : Int) (e : Ending) (w' : World) : Prop :=
  e = .returned (.tuple #[.agg #[.int .i64 0, .slice none 0 0, .slice none 0 0, .int .i64 0, .slice none 0 0], .int .i64 code]) ∧ Below w.heap.size w w'
set_option maxRecDepth 100000 in
set_option maxHeartbeats 8000000 in
theorem graphOf_no (c0 : Int) (A : Option Addr) (n c : Nat) (ts : List Tl) (h : Int) (w : World) (hn : n ≤ 1048576) (hl : ts.length = n) (hA : TR w w.heap.size A ts) (hg : gCode c0 ts h ≠ 0) :
    Calls Try.prog 54 #[.agg #[.int .i64 c0, .slice A n c], .int .i64 h] w (NoGraph w (gCode c0 ts h)) := by
  have hch : ∀ W, Below w.heap.size w W → Calls Try.prog 72 #[.agg #[.int .i64 c0, .slice A n c], .int .i64 h, .int .i64 4] W _ := fun W hW => checkHeight_any c0 A n c ts h W hn hl ((hA.below hW (Nat.le_refl _)).more hW.size)
  unfold NoGraph
  by_cases hc : hCode c0 ts h = 0
  · obtain ⟨hs, hh⟩ := hCode_zero hc
    have hn16 := isSet_len hs
    rw [hl] at hn16
    have hcc := isSet_col hs
    rw [hc] at hch
    unfold gCode at hg ⊢
    rw [if_pos hc] at hg ⊢
    obtain ⟨C, rfl⟩ : ∃ C : Nat, c0 = (C : Int) := ⟨c0.toNat, by omega⟩
    obtain ⟨h', rfl⟩ : ∃ h' : Nat, h = (h' : Int) := ⟨h.toNat, by omega⟩
    rw [Int.toNat_natCast] at hg ⊢
    have hwl : ∀ W, Calls Try.prog 97 #[.agg #[.int .i64 (C : Int), .slice A n c], .int .i64 (h' : Int)] W _ := fun W => wordsOfLength_any C A n c h' W (by omega) (by omega)
    have hcl : ∀ W, Below w.heap.size w W → Calls Try.prog 98 #[.agg #[.int .i64 (C : Int), .slice A n c], .int .i64 (h' : Int)] W _ := fun W hW => columnsOf_any (C : Int) A n c ts h' W hn16 hl ((hA.below hW (Nat.le_refl _)).more hW.size) (by omega)
    rw [show ((C : Int) ^ h') = ((C ^ h' : Nat) : Int) by push_cast; rfl] at hg ⊢
    by_cases hq : ((C ^ h' : Nat) : Int) ≤ 700 ∧ (colsL ts h').length ≤ 5000
    · rw [if_pos hq] at hg; exact absurd rfl hg
    rw [if_neg hq]
    have HCH := Lib.hid hch
    have HWL := Lib.hid hwl
    have HCL := Lib.hid hcl
    clear hch hwl hcl hA hs hc hh hg hcc
    generalize colsL ts h' = cols at *
    generalize hNN : cols.length = N at *
    generalize C ^ h' = P at *
    go_enter Try.func54, Try.ntmps54
    go_wp2_with fail
    obtain ⟨W0, hW0⟩ : ∃ W0, (w.alloc (Obj.cells #[.int .i64 (C : Int), .slice A n c] 30)).alloc (Obj.cells #[.int .i64 0, .slice none 0 0, .slice none 0 0, .int .i64 0, .slice none 0 0] 55) = W0 := ⟨_, rfl⟩
    have hx0 : Ext w W0 := by rw [← hW0]; exact ((Ext.refl w).alloc _).alloc _
    have hS : Blk W0 w.heap.size 30 #[.int .i64 (C : Int), .slice A n c] := by rw [← hW0]; exact (Blk.new w _ _).ext ((Ext.refl _).alloc _)
    have hR : Blk W0 (w.heap.size + 1) 55 #[.int .i64 0, .slice none 0 0, .slice none 0 0, .int .i64 0, .slice none 0 0] := by
      rw [← hW0]
      have := Blk.new (w.alloc (Obj.cells #[.int .i64 (C : Int), .slice A n c] 30)) 55 #[.int .i64 0, .slice none 0 0, .slice none 0 0, .int .i64 0, .slice none 0 0]
      simpa using this
    rw [hW0]
    have H0 := Lib.hid (hx0.below (Nat.le_refl _))
    have HS := Lib.hid hS
    have HR := Lib.hid hR
    have r0 := hS.rd 0 rfl
    have r1 := hS.rd 1 rfl
    clear hx0 hS hR hW0
    refine (HCH.out _ H0.out).mono ?_
    rintro e w1 ⟨rfl, hx1⟩
    have B1 := Lib.hid (hx1.below (B := W0.heap.size) (Nat.le_refl _))
    have r0 := (HS.out.below B1.out HS.out.lt).rd 0 rfl
    have r1 := (HS.out.below B1.out HS.out.lt).rd 1 rfl
    clear hx1
    go_wp2_with fail
    refine (HWL.out _).mono ?_
    rintro e w2 ⟨rfl, hx2⟩
    have B2 := Lib.hid (B1.out.trans (hx2.below (B := W0.heap.size) B1.out.size))
    clear hx2 r0 r1
    by_cases h7 : (700 : Int) < (P : Int)
    · have HR5 := HR.out.below B2.out HR.out.lt
      have t0 := HR5.rd 0 rfl
      have t1 := HR5.rd 1 rfl
      have t2 := HR5.rd 2 rfl
      have t3 := HR5.rd 3 rfl
      have t4 := HR5.rd 4 rfl
      have z0 := HR5.frozen 0
      have z1 := HR5.frozen 1
      have z2 := HR5.frozen 2
      have z3 := HR5.frozen 3
      have z4 := HR5.frozen 4
      have HLE := Lib.hid (show w.heap.size ≤ w.heap.size + 1 by omega)
      have HBW := Lib.hid (H0.out.trans (B2.out.mono H0.out.size))
      clear HR5
      go_wp2_with fail
      refine bodyPost_ret (v := .tuple #[.agg #[.int .i64 0, .slice none 0 0, .slice none 0 0, .int .i64 0, .slice none 0 0], .int .i64 3]) (by simp [results, Try.results54, go_sem, t0, t1, t2, t3, t4, z0, z1, z2, z3, z4]) rfl ⟨rfl, ?_⟩
      exact ((((HBW.out.setCell HLE.out _).setCell HLE.out _).setCell HLE.out _).setCell HLE.out _).setCell HLE.out _
    · have r0 := (HS.out.below B2.out HS.out.lt).rd 0 rfl
      have r1 := (HS.out.below B2.out HS.out.lt).rd 1 rfl
      have h5 : (5000 : Int) < (N : Int) := by omega
      go_wp2_with fail
      refine (HCL.out _ (H0.out.trans (B2.out.mono H0.out.size))).mono ?_
      rintro e w3 ⟨R, q, rfl, hb3, hir⟩
      have B3 := Lib.hid (B2.out.trans (hb3.mono B2.out.size))
      clear hb3 hir r0 r1
      have HR5 := HR.out.below B3.out HR.out.lt
      have t0 := HR5.rd 0 rfl
      have t1 := HR5.rd 1 rfl
      have t2 := HR5.rd 2 rfl
      have t3 := HR5.rd 3 rfl
      have t4 := HR5.rd 4 rfl
      have z0 := HR5.frozen 0
      have z1 := HR5.frozen 1
      have z2 := HR5.frozen 2
      have z3 := HR5.frozen 3
      have z4 := HR5.frozen 4
      have HLE := Lib.hid (show w.heap.size ≤ w.heap.size + 1 by omega)
      have HBW := Lib.hid (H0.out.trans (B3.out.mono H0.out.size))
      clear HR5
      go_wp2_with fail
      refine bodyPost_ret (v := .tuple #[.agg #[.int .i64 0, .slice none 0 0, .slice none 0 0, .int .i64 0, .slice none 0 0], .int .i64 3]) (by simp [results, Try.results54, go_sem, t0, t1, t2, t3, t4, z0, z1, z2, z3, z4]) rfl ⟨rfl, ?_⟩
      exact ((((HBW.out.setCell HLE.out _).setCell HLE.out _).setCell HLE.out _).setCell HLE.out _).setCell HLE.out _
  · have hgc : gCode c0 ts h = hCode c0 ts h := by unfold gCode; rw [if_neg hc]
    rw [hgc]
    generalize hCode c0 ts h = code at *
    have hne : (code != 0) = true := by simp [hc]
    have HCH := Lib.hid hch
    clear hch hA hgc
    go_enter Try.func54, Try.ntmps54
    go_wp2_with fail
    obtain ⟨W0, hW0⟩ : ∃ W0, (w.alloc (Obj.cells #[.int .i64 c0, .slice A n c] 30)).alloc (Obj.cells #[.int .i64 0, .slice none 0 0, .slice none 0 0, .int .i64 0, .slice none 0 0] 55) = W0 := ⟨_, rfl⟩
    have hx0 : Ext w W0 := by rw [← hW0]; exact ((Ext.refl w).alloc _).alloc _
    have hS : Blk W0 w.heap.size 30 #[.int .i64 c0, .slice A n c] := by rw [← hW0]; exact (Blk.new w _ _).ext ((Ext.refl _).alloc _)
    have hR : Blk W0 (w.heap.size + 1) 55 #[.int .i64 0, .slice none 0 0, .slice none 0 0, .int .i64 0, .slice none 0 0] := by
      rw [← hW0]
      have := Blk.new (w.alloc (Obj.cells #[.int .i64 c0, .slice A n c] 30)) 55 #[.int .i64 0, .slice none 0 0, .slice none 0 0, .int .i64 0, .slice none 0 0]
      simpa using this
    rw [hW0]
    have H0 := Lib.hid (hx0.below (Nat.le_refl _))
    have HS := Lib.hid hS
    have HR := Lib.hid hR
    have r0 := hS.rd 0 rfl
    have r1 := hS.rd 1 rfl
    clear hx0 hS hR hW0
    refine (HCH.out _ H0.out).mono ?_
    rintro e w1 ⟨rfl, hx1⟩
    have B1 := Lib.hid (hx1.below (B := W0.heap.size) (Nat.le_refl _))
    clear hx1 r0 r1
    have HR5 := HR.out.below B1.out HR.out.lt
    have t0 := HR5.rd 0 rfl
    have t1 := HR5.rd 1 rfl
    have t2 := HR5.rd 2 rfl
    have t3 := HR5.rd 3 rfl
    have t4 := HR5.rd 4 rfl
    have z0 := HR5.frozen 0
    have z1 := HR5.frozen 1
    have z2 := HR5.frozen 2
    have z3 := HR5.frozen 3
    have z4 := HR5.frozen 4
    have HLE := Lib.hid (show w.heap.size ≤ w.heap.size + 1 by omega)
    have HBW := Lib.hid (H0.out.trans (B1.out.mono H0.out.size))
    clear HR5
    go_wp2_with fail
    refine bodyPost_ret (v := .tuple #[.agg #[.int .i64 0, .slice none 0 0, .slice none 0 0, .int .i64 0, .slice none 0 0], .int .i64 code]) (by simp [results, Try.results54, go_sem, t0, t1, t2, t3, t4, z0, z1, z2, z3, z4]) rfl ⟨rfl, ?_⟩
    exact ((((HBW.out.setCell HLE.out _).setCell HLE.out _).setCell HLE.out _).setCell HLE.out _).setCell HLE.out _
end

section
set_option linter.unusedVariables false
set_option linter.unusedSimpArgs false
open Go.RowKit Go.Sort

set_option maxRecDepth 100000 in
set_option maxHeartbeats 4000000 in
theorem implCountColumns_0 (C : Nat) (A : Option Addr) (n c : Nat) (ts : List Tl) (h : Nat) (w : World) (hl : ts.length = n) (hA : TR w w.heap.size A ts) (hs : isSet (C : Int) ts = true) (h1 : 1 ≤ h) (h4 : h ≤ 4) (hC7 : C ^ h ≤ 700) (hN : (colsL ts h).length ≤ 5000) :
    Calls Try.prog 19 #[.agg #[.int .i64 (C : Int), .slice A n c], .int .i64 (h : Int)] w (IntRes w ((colsL ts h).length : Nat) 0) := by
  have hgo : ∀ W, Ext w W → Calls Try.prog 54 #[.agg #[.int .i64 (C : Int), .slice A n c], .int .i64 (h : Int)] W _ := fun W hW => graphOf_0 C A n c ts h W hl ((hA.ext hW (Nat.le_refl _)).more (hW.below (Nat.le_refl _)).size) hs h1 h4 hC7 hN
  unfold GraphRes at hgo
  generalize (colsL ts h).length = N at *
  have HG := Lib.hid hgo
  clear hgo hA hs
  go_enter Try.func19, Try.ntmps19
  go_wp2_with fail
  refine (HG.out _ ((Ext.refl w).alloc _)).mono ?_
  rintro e w1 ⟨R, q, E, qe, rfl, hb, -, -⟩
  have HB := Lib.hid ((((Ext.refl w).alloc (.cells #[.int .i64 (C : Int), .slice A n c] 30)).below (Nat.le_refl _)).trans (hb.mono (by simp)))
  have hszb := HB.out.size
  clear hb
  go_wp2_with fail
  go_ret2
  exact IntRes.mk rfl (HB.out.alloc hszb _)

set_option maxRecDepth 100000 in
set_option maxHeartbeats 4000000 in
theorem implCountColumns_no (c0 : Int) (A : Option Addr) (n c : Nat) (ts : List Tl) (h : Int) (w : World) (hn : n ≤ 1048576) (hl : ts.length = n) (hA : TR w w.heap.size A ts) (hg : gCode c0 ts h ≠ 0) :
    Calls Try.prog 19 #[.agg #[.int .i64 c0, .slice A n c], .int .i64 h] w (IntRes w 0 (gCode c0 ts h)) := by
  have hgo : ∀ W, Ext w W → Calls Try.prog 54 #[.agg #[.int .i64 c0, .slice A n c], .int .i64 h] W _ := fun W hW => graphOf_no c0 A n c ts h W hn hl ((hA.ext hW (Nat.le_refl _)).more (hW.below (Nat.le_refl _)).size) hg
  unfold NoGraph at hgo
  generalize gCode c0 ts h = code at *
  have hne : (code != 0) = true := by simp [hg]
  have HG := Lib.hid hgo
  clear hgo hA
  go_enter Try.func19, Try.ntmps19
  go_wp2_with fail
  refine (HG.out _ ((Ext.refl w).alloc _)).mono ?_
  rintro e w1 ⟨rfl, hb⟩
  have HB := Lib.hid ((((Ext.refl w).alloc (.cells #[.int .i64 c0, .slice A n c] 30)).below (Nat.le_refl _)).trans (hb.mono (by simp)))
  have hszb := HB.out.size
  clear hb
  go_wp2_with fail
  go_ret2
  exact IntRes.mk rfl (HB.out.alloc hszb _)
end
end Go.Proofs.Ytleabblnikbmpaa
