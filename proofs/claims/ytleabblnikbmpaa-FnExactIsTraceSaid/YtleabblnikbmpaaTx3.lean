/- The search for the traces of a height; the program's side. -/
import Derived.Test.YtleabblnikbmpaaTx3a
namespace Go.Proofs.Ytleabblnikbmpaa
set_option linter.unusedVariables false
set_option linter.unusedSimpArgs false
open Go.RowKit Go.Sort

theorem res_new3 {W2 w3 : World} {C P gA : Nat} {cs0 : Array Value} (hq : BQ w3 gA P (fun _ => true)) (h3 : W2.heap.size ≤ gA) (hb : Below W2.heap.size W2 w3) :
    R4s W2 C P cs0 (.pointer (some ⟨w3.heap.size + 1, 0, none⟩)) ((w3.alloc (.cells cs0 28)).alloc (.cells #[.slice (some ⟨w3.heap.size, 0, none⟩) C C, .slice (some ⟨gA, 0, none⟩) P P] 84)) := by
  have h := res_new (C := C) (Blk.new w3 28 cs0) (hq.ext ((Ext.refl w3).alloc (.cells cs0 28))) hb.size h3 (hb.alloc hb.size (.cells cs0 28))
  rw [World.size_alloc] at h
  exact h
set_option maxRecDepth 100000 in
set_option maxHeartbeats 40000000 in
theorem searchTraces_0 (C : Nat) (A : Option Addr) (n c : Nat) (ts : List Tl) (h : Nat) (w : World) (hl : ts.length = n) (hA : TR w w.heap.size A ts) (hs : isSet (C : Int) ts = true) (h1 : 1 ≤ h) (h3 : h ≤ 3) :
    Calls Try.prog 74 #[.agg #[.int .i64 (C : Int), .slice A n c], .int .i64 (h : Int)] w fun e w' => ∃ gU gA, e = .returned (.tuple #[.agg #[.slice (some ⟨gU, 0, none⟩) C C, .slice (some ⟨gA, 0, none⟩) (C ^ h) (C ^ h)], .int .i64 0]) ∧ Below w.heap.size w w' ∧ TSr w' w'.heap.size C (C ^ h) (KK C ts h) gU gA := by
  have hn := isSet_len hs
  have hn16 : ts.length ≤ 16 := hn
  rw [hl] at hn
  have hcc := isSet_col hs
  have hp := pow_216 (C := C) (h := h) (by omega) h3
  have hp1 : 1 ≤ C ^ h := Nat.one_le_pow _ _ (by omega)
  have hN := cols_4096 hn16 h3
  have hgo : ∀ W, Ext w W → Calls Try.prog 54 #[.agg #[.int .i64 (C : Int), .slice A n c], .int .i64 (h : Int)] W _ := fun W hW => graphOf_0 C A n c ts h W hl ((hA.ext hW (Nat.le_refl _)).more (hW.below (Nat.le_refl _)).size) hs h1 (by omega) (by omega) (by omega)
  unfold GraphRes at hgo
  have HIN := Lib.hid (fun k (hk : k < (colsL ts h).length) => kk_in hs h1 hk)
  have HED := Lib.hid (fun k (hk : k < (colsL ts h).length) => kk_edge hs h1 hk)
  have HEL := Lib.hid (edgesL_len (C : Int) ts h)
  have HAT := Lib.hid (fun k (hk : k < (colsL ts h).length) => colsL_at ts h hk)
  have HKL := Lib.hid (KK_len C ts h)
  have HG := Lib.hid hgo
  have HA := Lib.hid hA
  obtain ⟨i0, hi, hz0, hz1, hz2⟩ := info_parts info_tilerow
  have hmk := fun W => run_make_rowN (P := Try.prog) 81 28 i0 _ (by kernel_rfl) hi hz0 .i64 .i64 C C (Nat.le_refl _) (by rw [hz2]; omega) (by omega) W
  rw [hz1] at hmk
  have hcn := cells_none C
  generalize madeCells (Value.cells (.slice none 0 0)) (C * 1) = cs0 at hmk hcn
  have HCN := Lib.hid hcn
  clear hgo hA hs hi hz0 hz1 hz2 hcn
  generalize KK C ts h = K at *
  generalize edgesL (C : Int) ts h = E at *
  generalize colsL ts h = cols at *
  generalize hNN : cols.length = N at *
  generalize C ^ h = P at *
  have hC6 : C ≤ 6 := by omega
  have HNN := Lib.hid hNN
  clear hcc hNN
  go_enter Try.func74, Try.ntmps74
  go_wp2_with fail
  refine (HG.out _ (((Ext.refl w).alloc _).alloc _)).mono ?_
  rintro e w1 ⟨R, q, EA, qe, rfl, hb1, hir, htr⟩
  have hx0 : Ext w ((w.alloc (Obj.cells #[.int .i64 (C : Int), .slice A n c] 30)).alloc (Obj.cells #[.slice none 0 0, .slice none 0 0] 84)) := ((Ext.refl w).alloc _).alloc _
  have hS0 : Blk ((w.alloc (Obj.cells #[.int .i64 (C : Int), .slice A n c] 30)).alloc (Obj.cells #[.slice none 0 0, .slice none 0 0] 84)) w.heap.size 30 #[.int .i64 (C : Int), .slice A n c] := (Blk.new w _ _).ext ((Ext.refl _).alloc _)
  have hR0 : Blk ((w.alloc (Obj.cells #[.int .i64 (C : Int), .slice A n c] 30)).alloc (Obj.cells #[.slice none 0 0, .slice none 0 0] 84)) (w.heap.size + 1) 84 #[.slice none 0 0, .slice none 0 0] := by
    have := Blk.new (w.alloc (Obj.cells #[.int .i64 (C : Int), .slice A n c] 30)) 84 #[.slice none 0 0, .slice none 0 0]
    simpa using this
  have hsz0 : ((w.alloc (Obj.cells #[.int .i64 (C : Int), .slice A n c] 30)).alloc (Obj.cells #[.slice none 0 0, .slice none 0 0] 84)).heap.size = w.heap.size + 2 := by simp
  have HS1 := Lib.hid (hS0.below hb1 hS0.lt)
  have HR1 := Lib.hid (hR0.below hb1 hR0.lt)
  have HB1 := Lib.hid ((hx0.below (Nat.le_refl w.heap.size)).trans (hb1.mono (by omega)))
  have hs1 : w.heap.size + 2 ≤ w1.heap.size := by have := hb1.size; omega
  rw [hsz0] at hir
  have HIR := Lib.hid hir
  have HTR := Lib.hid htr
  clear hx0 hS0 hR0 hsz0 hb1 hir htr
  go_wp2_with fail
  obtain ⟨W2, hW2⟩ : ∃ W2, w1.alloc (Obj.cells #[.int .i64 (C : Int), .slice A n c, .slice R N q, .int .i64 (P : Int), .slice EA N qe] 55) = W2 := ⟨_, rfl⟩
  have hx2 : Ext w1 W2 := by rw [← hW2]; exact (Ext.refl w1).alloc _
  have hG2 : Blk W2 w1.heap.size 55 #[.int .i64 (C : Int), .slice A n c, .slice R N q, .int .i64 (P : Int), .slice EA N qe] := by rw [← hW2]; exact Blk.new w1 _ _
  have HS2 := Lib.hid (HS1.out.ext hx2)
  have HR2 := Lib.hid (HR1.out.ext hx2)
  have HB2 := Lib.hid (HB1.out.trans (hx2.below HB1.out.size))
  have hs2 : w1.heap.size + 1 ≤ W2.heap.size := by rw [← hW2]; simp
  have HG2 := Lib.hid hG2
  have HX2 := Lib.hid (hx2.below (Nat.le_refl w1.heap.size))
  rw [hW2]
  clear hx2 hG2 hW2
  have r0 := HS2.out.rd 0 (v := .int .i64 (C : Int)) rfl
  have g3 := HG2.out.rd 3 (v := .int .i64 (P : Int)) rfl
  have hs3 : w.heap.size < W2.heap.size := by omega
  have hs4 : w1.heap.size < W2.heap.size := by omega
  have HREP := Lib.hid (fun W b o (hc : W.cell? ⟨b, o, none⟩ = some (.bool true)) => repeatQ_any b o P W hp1 (by omega) hc)
  go_upto_region 4 with (fail)
  go_cut [8] (fun v8 wx => R4s W2 C P cs0 v8 wx)
  case first =>
    as_aux_lemma =>
      go_region_held3 (fun w' => w'.cell? ⟨w.heap.size, 0, none⟩ = some (.int .i64 (C : Int)) ∧ w'.cell? ⟨w1.heap.size, 3, none⟩ = some (.int .i64 (P : Int)))
        (first | exact ⟨r0, g3⟩ | exact ⟨r03, g33⟩ | exact ⟨cell_of_ext ((Ext.refl _).alloc _) r0, cell_of_ext ((Ext.refl _).alloc _) g3⟩ | exact ⟨cell_of_ext (((Ext.refl _).alloc _).alloc _) r0, cell_of_ext (((Ext.refl _).alloc _).alloc _) g3⟩ | exact ⟨cell_of_ext ((((Ext.refl _).alloc _).alloc _).alloc _) r0, cell_of_ext ((((Ext.refl _).alloc _).alloc _).alloc _) g3⟩ | exact ⟨cell_of_ext ((Ext.refl _).alloc _).drew r0, cell_of_ext ((Ext.refl _).alloc _).drew g3⟩ | exact ⟨cell_of_ext (((Ext.refl _).alloc _).alloc _).drew r0, cell_of_ext (((Ext.refl _).alloc _).alloc _).drew g3⟩ | exact ⟨cell_of_ext ((((Ext.refl _).alloc _).alloc _).alloc _).drew r0, cell_of_ext ((((Ext.refl _).alloc _).alloc _).alloc _).drew g3⟩ | exact ⟨cell_of_ext ((Ext.refl _).alloc _) r03, cell_of_ext ((Ext.refl _).alloc _) g33⟩ | exact ⟨cell_of_ext (((Ext.refl _).alloc _).alloc _) r03, cell_of_ext (((Ext.refl _).alloc _).alloc _) g33⟩ | exact ⟨cell_of_ext ((((Ext.refl _).alloc _).alloc _).alloc _) r03, cell_of_ext ((((Ext.refl _).alloc _).alloc _).alloc _) g33⟩ | exact ⟨cell_of_ext ((Ext.refl _).alloc _).drew r03, cell_of_ext ((Ext.refl _).alloc _).drew g33⟩ | exact ⟨cell_of_ext (((Ext.refl _).alloc _).alloc _).drew r03, cell_of_ext (((Ext.refl _).alloc _).alloc _).drew g33⟩ | exact ⟨cell_of_ext ((((Ext.refl _).alloc _).alloc _).alloc _).drew r03, cell_of_ext ((((Ext.refl _).alloc _).alloc _).alloc _).drew g33⟩ | exact ⟨cell_far2u r03 (Nat.ne_of_lt (Nat.lt_of_lt_of_le hs3 (by omega))), cell_far2u g33 (Nat.ne_of_lt (Nat.lt_of_lt_of_le hs4 (by omega)))⟩ | exact ⟨cell_far2u (cell_of_ext ((Ext.refl _).alloc _) r03) (Nat.ne_of_lt (Nat.lt_of_lt_of_le hs3 (by omega))), cell_far2u (cell_of_ext ((Ext.refl _).alloc _) g33) (Nat.ne_of_lt (Nat.lt_of_lt_of_le hs4 (by omega)))⟩ | exact ⟨cell_of_ext ((Ext.refl _).alloc _) (cell_far2u r03 (Nat.ne_of_lt (Nat.lt_of_lt_of_le hs3 (by omega)))), cell_of_ext ((Ext.refl _).alloc _) (cell_far2u g33 (Nat.ne_of_lt (Nat.lt_of_lt_of_le hs4 (by omega))))⟩ | fail "no keep")
        (first
        | (go_at_call 118; (with_reducible refine (HREP.out _ _ _ (by first | exact bcQ1 _ rfl | exact bcQ1 _ (World.size_alloc _ _).symm | exact bcQ1 _ (by simp) | exact bcQ2 _ _ rfl | exact bcQ2 _ _ (by simp) | exact bcQ3 _ _ _ rfl)).mono ?_); rintro e w3 ⟨gA, rfl, hb3, hg3, hq3⟩; (first | (have hbw : Below W2.heap.size W2 w3 := below_of_both (((Ext.refl _).alloc _).drew) hb3; have HGA : Hid (W2.heap.size ≤ gA) := Lib.hid (ge_of_both (((Ext.refl _).alloc _).drew) hb3 hg3)) | (have hbw : Below W2.heap.size W2 w3 := below_of_both ((((Ext.refl _).alloc _).alloc _).drew) hb3; have HGA : Hid (W2.heap.size ≤ gA) := Lib.hid (ge_of_both ((((Ext.refl _).alloc _).alloc _).drew) hb3 hg3)) | (have hbw : Below W2.heap.size W2 w3 := below_of_both (((((Ext.refl _).alloc _).alloc _).alloc _).drew) hb3; have HGA : Hid (W2.heap.size ≤ gA) := Lib.hid (ge_of_both (((((Ext.refl _).alloc _).alloc _).alloc _).drew) hb3 hg3))); (first | ((first | have NB := zb_at W2 _ _ (((Ext.refl _).alloc _).drew) hb3 | have NB := zb_at (W2.alloc _) _ _ ((Ext.refl _).drew) hb3 | have NB := zb_at W2 _ _ ((((Ext.refl _).alloc _).alloc _).drew) hb3 | have NB := zb_at (W2.alloc _) _ _ (((Ext.refl _).alloc _).drew) hb3 | have NB := zb_at ((W2.alloc _).alloc _) _ _ ((Ext.refl _).drew) hb3); (try simp only [World.size_alloc] at NB); have z0 := NB.rd 0 (v := .slice none 0 0) rfl; have z1 := NB.rd 1 (v := .slice none 0 0) rfl; have zf0 := NB.frozen 0; have zf1 := NB.frozen 1; have zm0 := fun o => (NB.ext ((Ext.refl w3).alloc o)).rd 0 (v := .slice none 0 0) rfl; have zm1 := fun o => (NB.ext ((Ext.refl w3).alloc o)).rd 1 (v := .slice none 0 0) rfl; have zg0 := fun o => (NB.ext ((Ext.refl w3).alloc o)).frozen 0; have zg1 := fun o => (NB.ext ((Ext.refl w3).alloc o)).frozen 1; have zlt := NB.lt; have NBH := Lib.hid NB; clear NB) | skip); (first | ((first | have MB := mb_at W2 _ _ cs0 (((Ext.refl _).alloc _).drew) hb3 | have MB := mb_at (W2.alloc _) _ _ cs0 ((Ext.refl _).drew) hb3 | have MB := mb_at W2 _ _ cs0 ((((Ext.refl _).alloc _).alloc _).drew) hb3 | have MB := mb_at (W2.alloc _) _ _ cs0 (((Ext.refl _).alloc _).drew) hb3 | have MB := mb_at ((W2.alloc _).alloc _) _ _ cs0 ((Ext.refl _).drew) hb3); (try simp only [World.size_alloc] at MB); have MBH := Lib.hid MB; clear MB) | skip); have r03 := (hbw.cell (p := ⟨w.heap.size, 0, none⟩) (by show w.heap.size < _; omega)).trans r0; have g33 := (hbw.cell (p := ⟨w1.heap.size, 3, none⟩) (by show w1.heap.size < _; omega)).trans g3; have HB3 := Lib.hid hbw; have HQ3 := Lib.hid hq3; have HH3 := Lib.hid hb3; clear hbw hb3 hg3 hq3))
      all_goals (go_wp2_with fail)
      all_goals go_meet
      all_goals
        first
        | with_reducible exact res_new3 HQ3.out HGA.out HB3.out
        | with_reducible exact res_set NBH.out MBH.out HQ3.out (by omega) (by omega) HGA.out HB3.out
        | with_reducible exact res_set (NBH.out.ext ((Ext.refl _).alloc _)) (Blk.new w3 _ _) (HQ3.out.ext ((Ext.refl _).alloc _)) (by omega) HB3.out.size HGA.out (HB3.out.alloc HB3.out.size _)
        | with_reducible exact res_set3 NBH.out HQ3.out (by omega) HGA.out HB3.out
        | with_reducible exact res_new MBH.out HQ3.out (by omega) HGA.out HB3.out
        | with_reducible exact res_new2 HQ3.out HGA.out HB3.out
        | with_reducible exact res_new (Blk.new w3 _ _) (HQ3.out.ext ((Ext.refl _).alloc _)) HB3.out.size HGA.out (HB3.out.alloc HB3.out.size _)
  case rest =>
    obtain ⟨gS, gU, gA, rfl, hne, hgu, l1, l2, l3, hbS, hbU, hq, hb⟩ := hcut
    obtain ⟨WC, hWC⟩ : ∃ W, W = wc := ⟨_, rfl⟩
    subst hWC
    have HGC := Lib.hid (HG2.out.below hb HG2.out.lt)
    have HSC := Lib.hid (HS2.out.below hb HS2.out.lt)
    have HRC := Lib.hid (HR2.out.below hb HR2.out.lt)
    have HOU := Lib.hid ((OwnU.start hbU HCN.out (base := WC.heap.size) hgu).congr (f' := fun c => und (K.take 0) c) (fun c _ => by simp [und]))
    have HQC := Lib.hid hq
    have HSSC := Lib.hid hbS
    have HBC := Lib.hid hb
    have hszc := hb.size
    have hgs := hbS.lt
    have hga := hq.lt
    have g2 := HGC.out.rd 2 (v := .slice R N q) rfl
    clear hbS hbU hq hb HG2 HS2 HR2 hmk r0 g3 HREP
    go_wp2_with fail
    go_loopw [34] (fun ii wr => ∃ k : Nat, k ≤ N ∧ ii = .int .i64 k ∧ OwnU wr WC.heap.size gU C (fun c => und (K.take k) c) ∧ BQ wr gA P (fun _ => true) ∧ Blk wr gS 84 #[.slice (some ⟨gU, 0, none⟩) C C, .slice (some ⟨gA, 0, none⟩) P P] ∧ Below W2.heap.size WC wr) (fun ii _ => N - (intOf ii).toNat)
    case atStart => exact ⟨0, Nat.zero_le _, rfl, HOU.out, HQC.out, HSSC.out, Below.refl _ _⟩
    case round =>
      obtain ⟨k, hk, rfl, hou, hq, hbS, hb⟩ := hrel
      have HQ := Lib.hid hq
      have HSS := Lib.hid hbS
      have HB := Lib.hid hb
      have hszr := hb.size
      by_cases hlt : k < N
      · as_aux_lemma =>
          have hlt3 : (k : Int) < (N : Int) := by omega
          obtain ⟨V, hUV⟩ := hou
          obtain ⟨nc, a, b, hK, hnc, ha, hb9, -, j, hj, hjn, hnorth⟩ := HIN.out k hlt
          obtain ⟨hcl, -⟩ := HAT.out k hlt
          have HEDK := Lib.hid (HED.out k hlt)
          have HUT := Lib.hid (fun c => und_take K (k := k) (by rw [HKL.out]; exact hlt) c)
          rw [hK] at HEDK HUT
          -- the column
          have hbw1 : Below w1.heap.size w1 wr := HX2.out.trans ((HBC.out.mono (by omega)).trans (hb.mono (by omega)))
          obtain ⟨bR, oR, rfl, hbR, hcR⟩ := HIR.out.irr (by rw [HNN.out]; omega)
          obtain ⟨Q, qc, e1, hq1, hQ⟩ := hcR k (by rw [HNN.out]; omega)
          rw [hcl] at e1 hq1
          obtain ⟨bq, oq, rfl, hbq, hcq⟩ := hQ (by omega)
          have p0 := hcq 0 (by omega)
          rw [hj, Nat.add_zero] at p0
          replace e1 := (hbw1.cell (p := ⟨bR, oR + k, none⟩) hbR).trans e1
          replace p0 := (hbw1.cell (p := ⟨bq, oq, none⟩) hbq).trans p0
          -- its first tile, its edge
          have hbw0 : Below w.heap.size w wr := HB1.out.trans (hbw1.mono HB1.out.size)
          obtain ⟨bt, ot, rfl, hbt, htt⟩ := HA.out (by omega)
          have ht1 := (htt j (by omega)).2.1
          rw [hnorth] at ht1
          replace ht1 := (hbw0.cell (p := ⟨bt, ot + j * 4 + 1, none⟩) hbt).trans ht1
          obtain ⟨be, oe, rfl, hbe, hee⟩ := HTR.out (by rw [HEL.out]; omega)
          have he4 := hee k (by rw [HEL.out]; omega)
          rw [HEDK.out] at he4
          obtain ⟨x0, x1, x2, x3⟩ := he4
          simp only [tileK] at x0 x1 x2 x3
          replace x0 := (hbw1.cell (p := ⟨be, oe + k * 4, none⟩) hbe).trans x0
          replace x1 := (hbw1.cell (p := ⟨be, oe + k * 4 + 1, none⟩) hbe).trans x1
          replace x2 := (hbw1.cell (p := ⟨be, oe + k * 4 + 2, none⟩) hbe).trans x2
          replace x3 := (hbw1.cell (p := ⟨be, oe + k * 4 + 3, none⟩) hbe).trans x3
          have s1 := (HSC.out.below hb (by omega)).rd 1 (v := .slice (some ⟨bt, ot, none⟩) n c) rfl
          have hj3 : (j : Int) < (n : Int) := by omega
          have hnc3 : (nc : Int) < (C : Int) := by omega
          have hh0 : (0 : Int) < (h : Int) := by omega
          have hh0' : 0 < h := by omega
          clear hcR hQ hcq htt hee hK hj hnorth
          go_wp2_with fail
          go_quiet (fail)
          go_wp2_with fail
          have hx5 : Ext wr (wr.drewN nq) := (Ext.refl wr).drewN nq
          generalize wr.drewN nq = W5 at *
          replace hUV := hUV.ext hx5
          replace hbS := hbS.ext hx5
          replace hb := hb.trans (hx5.below (by omega))
          replace HQ := Lib.hid (HQ.out.ext hx5)
          replace HSS := Lib.hid hbS
          replace HB := Lib.hid hb
          have hsz5 := (hx5.below (Nat.le_refl _)).size
          replace x0 := cell_of_ext hx5 x0
          replace x1 := cell_of_ext hx5 x1
          replace x2 := cell_of_ext hx5 x2
          replace x3 := cell_of_ext hx5 x3
          clear e1 p0 ht1 s1 hx5
          obtain ⟨hUb, hUlt, hUo, -⟩ := id hUV
          obtain ⟨csU, hUb1, hUs, hUc⟩ := hUb
          have u0 : W5.cell? ⟨gU, nc, none⟩ = some (V nc) := (hUb1.cell nc).trans (hUc nc hnc)
          have uz := hUb1.frozen nc
          have uA := fun ob => ((hUb1.ext ((Ext.refl W5).alloc ob)).cell nc).trans (hUc nc hnc)
          have UD := Lib.hid (fun ob => ((hUb1.ext (((Ext.refl W5).alloc ob).drew)).cell nc).trans (hUc nc hnc))
          have uzA := fun ob => (hUb1.ext ((Ext.refl W5).alloc ob)).frozen nc
          have UZ := Lib.hid (fun ob => (hUb1.ext (((Ext.refl W5).alloc ob).drew)).frozen nc)
          have s0 := hbS.rd 0 (v := .slice (some ⟨gU, 0, none⟩) C C) rfl
          have sA := fun ob => (hbS.ext ((Ext.refl W5).alloc ob)).rd 0 (v := .slice (some ⟨gU, 0, none⟩) C C) rfl
          have SD := Lib.hid (fun ob => (hbS.ext (((Ext.refl W5).alloc ob).drew)).rd 0 (v := .slice (some ⟨gU, 0, none⟩) C C) rfl)
          have e4 := (HGC.out.below hb (by omega)).rd 4 (v := .slice (some ⟨be, oe, none⟩) N qe) rfl
          have hon := hUo nc hnc
          have HNE := Lib.hid (And.intro (show some gS ≠ (V nc).ownBlock from fun e => by have := (hon.lt gS e.symm).1; omega) (And.intro (show some gU ≠ (V nc).ownBlock from fun e => by have := (hon.lt gU e.symm).1; omega) (show some gA ≠ (V nc).ownBlock from fun e => by have := (hon.lt gA e.symm).1; omega)))
          have HON := Lib.hid (fun ob => own_belowA hon ((((Ext.refl W5).alloc ob).drew).below (Nat.le_refl _)))
          have HLT := Lib.hid (hon.lt)
          have hul := und_len (K.take k) nc
          have HUV := Lib.hid hUV
          have HUB := Lib.hid hUb1
          have hkk : (K.take k).length ≤ 4096 := by rw [List.length_take]; omega
          have HM := Lib.hid (And.intro (show (und (K.take k) nc).length + 1 ≤ maxLen by unfold maxLen; omega) (show ((und (K.take k) nc).length + 1) * 32 ≤ 140737488355328 by omega))
          have HSZ := Lib.hid (show WC.heap.size ≤ W5.heap.size by omega)
          clear hUV hUlt hUo hUb1 hUs hUc hon hul hkk
          have HNUM := Lib.hid (And.intro hs1 (And.intro hs2 (And.intro l1 (And.intro l2 (And.intro l3 (And.intro hszc (And.intro hgs (And.intro hga (And.intro hsz5 (And.intro hszr (And.intro hlt (And.intro hnc hne))))))))))))
          clear hl h1 h3 hn hn16 hp hp1 hC6 hs1 hs2 hs3 hs4 hne hgu l1 l2 l3 hszc hgs hga g2 hszr hcl hbw1 hbw0 hbR hq1 hbq hbt hbe ha hb9 hj3 hh0 hh0' hsz5 hjn hk hbS hb
          go_region_law (refine step_pushT (by rfl) (.tmp 54) (.tmp 61) (by rfl) WC.heap.size (V nc) (und (K.take k) nc).length (flat (und (K.take k) nc)) (by go_simp) (HON.out _) W5.heap.size ((a : Int), 0, (b : Int), 0) (by go_simp) (heap_alloc_new W5 _) HM.out.1 HM.out.2 (Nat.le_trans HSZ.out (alloc_le W5 _)) ?_; intro v6 w6 hown6 hgrow6 hat6; obtain ⟨g6, cap6, rfl⟩ := ownsRow_succ hown6; have s6 := hgrow6.cell (SD.out _) HNE.out.1; have u6 := hgrow6.cell (UD.out _) HNE.out.2.1; have uz6 := grownFz hgrow6 (g := gU) (i := nc) (Nat.lt_of_lt_of_le HUB.out.lt (alloc_le W5 _)) HNE.out.2.1 (UZ.out _))
          all_goals
            obtain ⟨hs1, hs2, l1, l2, l3, hszc, hgs, hga, hsz5, hszr, -, hnc, hne⟩ := HNUM.out
            have hx := ((Ext.refl W5).alloc (Obj.cells (encA ((a : Int), 0, (b : Int), 0)) 69)).drew
            have hpu := OwnU.push (HUV.out.ext hx) hnc hown6 hgrow6 hat6
            have hq6 := ((HQ.out.ext hx).grown hgrow6 HNE.out.2.2)
            have hs6 : Blk w6 gS 84 #[.slice (some ⟨gU, 0, none⟩) C C, .slice (some ⟨gA, 0, none⟩) P P] := (hgrow6.block gS (HSS.out.ext hx).lt HNE.out.1).trans (HSS.out.ext hx)
            have hn1 : gS ≠ gU := hne
            have hn2 : gA ≠ gU := by
              obtain ⟨cs, hqb, -, -⟩ := HQ.out
              exact blk_ne hqb HUB.out (by decide)
            have hb6 := ((HB.out.trans (hx.below (by omega))).grown hgrow6 (by have := (hx.below (Nat.le_refl W5.heap.size)).size; omega) (fun j hj => by have := (HLT.out j hj).1; omega)).setCell (p := ⟨gU, nc, none⟩) l2 (.slice (some ⟨g6, 0, none⟩) ((und (K.take k) nc).length + 1) cap6)
            have H7 := Lib.hid (And.intro (hpu.congr (f' := fun c => und (K.take (k + 1)) c) (fun c _ => by
              rw [HUT.out c]
              by_cases e : c = nc
              · subst e; simp [tileK]
              · rw [if_neg e, if_neg (Ne.symm e)])) (And.intro (hq6.far (a := ⟨gU, nc, none⟩) hn2 (.slice (some ⟨g6, 0, none⟩) ((und (K.take k) nc).length + 1) cap6)) (And.intro (hs6.far (p := ⟨gU, nc, none⟩) hn1 (.slice (some ⟨g6, 0, none⟩) ((und (K.take k) nc).length + 1) cap6)) hb6)))
            clear hx hpu hq6 hs6 hn2 hb6 hown6 hgrow6 hat6 s6 u6 uz6 sA uA uzA
            go_wp2_with fail
            go_roundw
            case rel => first | exact ⟨k + 1, by omega, by go_num, H7.out.1, H7.out.2.1, H7.out.2.2.1, H7.out.2.2.2⟩ | ((repeat apply Exists.intro); exact ⟨⟨k + 1, by omega, by go_num, H7.out.1, H7.out.2.1, H7.out.2.2.1, H7.out.2.2.2⟩, rfl⟩)
            case measure => simp [intOf]; omega
      · obtain rfl : k = N := by omega
        have HRF := Lib.hid (HRC.out.below hb (by omega))
        have HUR := Lib.hid hou.read
        have s0 := hbS.rd 0 (v := .slice (some ⟨gU, 0, none⟩) C C) rfl
        have s1 := hbS.rd 1 (v := .slice (some ⟨gA, 0, none⟩) P P) rfl
        have t0 := HRF.out.rd 0 (v := .slice none 0 0) rfl
        have t1 := HRF.out.rd 1 (v := .slice none 0 0) rfl
        have z0 := HRF.out.frozen 0
        have z1 := HRF.out.frozen 1
        have HBF := Lib.hid (HB2.out.trans ((HBC.out.trans hb).mono (by omega)))
        have HLE := Lib.hid (show w.heap.size ≤ w.heap.size + 1 by omega)
        have HN9 := Lib.hid (show w.heap.size + 1 < W2.heap.size by omega)
        clear hou hq hbS hb
        go_wp2_with fail
        refine bodyPost_ret (v := .tuple #[.agg #[.slice (some ⟨gU, 0, none⟩) C C, .slice (some ⟨gA, 0, none⟩) P P], .int .i64 0]) (by simp [results, Try.results74, go_sem, t0, t1, z0, z1]) rfl ⟨gU, gA, rfl, ?_, ?_⟩
        · exact (HBF.out.setCell HLE.out _).setCell HLE.out _
        · obtain ⟨hg1, hrd⟩ := HUR.out
          have hK : K.take k = K := List.take_of_length_le (by rw [HKL.out]; exact Nat.le_refl _)
          have hq9 := HQ.out
          have n1 : gA ≠ w.heap.size + 1 := by have := HN9.out; omega
          have n2 : gU ≠ w.heap.size + 1 := by have := HN9.out; omega
          refine ⟨by simpa using hg1, by simpa using hq9.lt, (hq9.far (a := ⟨w.heap.size + 1, 0, none⟩) n1 _).far (a := ⟨w.heap.size + 1, 1, none⟩) n1 _, fun c hc => ?_⟩
          obtain ⟨A9, q9, h5, h6⟩ := hrd c hc
          rw [hK] at h5 h6
          refine ⟨A9, q9, ?_, ?_⟩
          · rw [set_cell_ne _ (by exact n2), set_cell_ne _ (by exact n2)]
            exact h5
          · exact ((h6.far (p := ⟨w.heap.size + 1, 0, none⟩) (by have := HN9.out; show w.heap.size + 1 < WC.heap.size; omega) _).far (p := ⟨w.heap.size + 1, 1, none⟩) (by have := HN9.out; show w.heap.size + 1 < WC.heap.size; omega) _).tr
end Go.Proofs.Ytleabblnikbmpaa
