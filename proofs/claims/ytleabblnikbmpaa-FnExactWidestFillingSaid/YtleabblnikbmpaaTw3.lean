/- The widest filling; the program's side. -/
import Derived.Test.YtleabblnikbmpaaTw1
import Derived.Test.YtleabblnikbmpaaTw2
import Derived.Test.YtleabblnikbmpaaTx3a
namespace Go.Proofs.Ytleabblnikbmpaa
set_option linter.unusedVariables false
set_option linter.unusedSimpArgs false
open Go.RowKit Go.Sort

theorem capS_in {f : Nat → Int} (h : Cap f) : ∀ k, 0 ≤ capS f k ∧ capS f k ≤ 1000000000000001
  | 0 => by unfold capS; omega
  | k + 1 => by
    have h1 := capS_in h k
    have h2 := h k
    unfold capS
    omega
theorem capS_pos {f : Nat → Int} (h : Cap f) : ∀ n, (0 < capS f n ↔ ∃ e, e < n ∧ 0 < f e)
  | 0 => by
    unfold capS
    constructor
    · intro h; omega
    · rintro ⟨e, he, -⟩; omega
  | n + 1 => by
    have h1 := capS_in h n
    have h2 := h n
    have ih := capS_pos h n
    unfold capS
    constructor
    · intro hh
      by_cases h3 : 0 < f n
      · exact ⟨n, by omega, h3⟩
      · obtain ⟨e, he, h4⟩ := ih.1 (by omega)
        exact ⟨e, by omega, h4⟩
    · rintro ⟨e, he, h4⟩
      rcases Nat.lt_or_ge e n with h5 | h5
      · have := ih.2 ⟨e, h5, h4⟩
        omega
      · obtain rfl : e = n := by omega
        omega
theorem capS_list (f : Nat → Int) (n : Nat) : ∀ k, k ≤ n → capS (fun j => (listD n f).getD j 0) k = capS f k
  | 0, _ => rfl
  | k + 1, h => by
    unfold capS
    rw [capS_list f n k (by omega), listD_get n f (by omega)]
theorem one_cap : Cap (fun _ => (1 : Int)) := fun _ => ⟨by show (0 : Int) ≤ 1; omega, by show (1 : Int) ≤ _; omega⟩
/-- The sum is more than nothing just where the ways go on. -/
theorem sum_fwd {K : List Cq} {E : List Tl} {P : Nat} (h : IsK K E) (hK : ∀ x ∈ K, x.2.2 < P) (n : Nat) : 0 < capS (wpow E (fun _ => 1) (n + 1)) P ↔ fwdAny K n = true := by
  rw [capS_pos (wpow_cap E one_cap _)]
  constructor
  · rintro ⟨e, -, h1⟩
    have h2 := (wpow_pos h (n + 1) e).1 h1
    obtain ⟨k, hk, h3⟩ := List.any_eq_true.1 (show (K.any fun k => fwdW K n k.2.1 && decide (k.2.2 = e)) = true from h2)
    rw [Bool.and_eq_true] at h3
    exact List.any_eq_true.2 ⟨k, hk, h3.1⟩
  · intro h1
    obtain ⟨k, hk, h3⟩ := List.any_eq_true.1 h1
    refine ⟨k.2.2, hK k hk, (wpow_pos h (n + 1) _).2 (List.any_eq_true.2 ⟨k, hk, ?_⟩)⟩
    rw [h3]; simp
theorem list_one (n : Nat) : List.replicate n (1 : Int) = listD n (fun _ => 1) := by
  unfold listD
  rw [List.map_const', List.length_range]
theorem oc1 {k : Nat} (W : World) (hk : k = W.heap.size) : (W.alloc (.cells #[.int .i64 1] 2)).drew.cell? ⟨k, 0, none⟩ = some (.int .i64 1) := by
  subst hk
  exact ((Blk.new W _ _).ext ((Ext.refl _).drew)).cell 0
theorem oc2 {k : Nat} (W : World) (hk : k = W.heap.size) : (W.alloc (.cells #[.int .i64 1] 2)).cell? ⟨k, 0, none⟩ = some (.int .i64 1) := by
  subst hk
  exact (Blk.new W _ _).cell 0
set_option maxRecDepth 100000 in
set_option maxHeartbeats 4000000 in
theorem implWidest_last (C : Nat) (A : Option Addr) (n c : Nat) (ts : List Tl) (h : Nat) (w : World) (hl : ts.length = n) (hA : TR w w.heap.size A ts) (hs : isSet (C : Int) ts = true) (h1 : 1 ≤ h) (h3 : h ≤ 3) (hla : 0 < (lastL (edgesL (C : Int) ts h)).length) :
    Calls Try.prog 50 #[.agg #[.int .i64 (C : Int), .slice A n c], .int .i64 (h : Int)] w (IntRes w 0 4) := by
  have hn := isSet_len hs
  have hn16 : ts.length ≤ 16 := hn
  rw [hl] at hn
  have hcc := isSet_col hs
  have hp := pow_216 (C := C) (h := h) (by omega) h3
  have hp1 : 1 ≤ C ^ h := Nat.one_le_pow _ _ (by omega)
  have hN := cols_4096 hn16 h3
  have hch : ∀ W, Below w.heap.size w W → Calls Try.prog 72 #[.agg #[.int .i64 (C : Int), .slice A n c], .int .i64 (h : Int), .int .i64 3] W _ := fun W hW => checkHeightM_any (C : Int) A n c ts (h : Int) 3 W (by omega) hl ((hA.below hW (Nat.le_refl _)).more hW.size)
  have hcd : hCodeM (C : Int) ts (h : Int) 3 = 0 := by unfold hCodeM; rw [if_pos hs, if_pos ⟨by omega, by omega⟩]
  rw [hcd] at hch
  have hgo : ∀ W, Below w.heap.size w W → Calls Try.prog 54 #[.agg #[.int .i64 (C : Int), .slice A n c], .int .i64 (h : Int)] W _ := fun W hW => graphOf_0 C A n c ts h W hl ((hA.below hW (Nat.le_refl _)).more hW.size) hs h1 (by omega) (by omega) (by omega)
  unfold GraphRes at hgo
  have hisk := isK (h := h) hs h1
  have hkm := kk_mem (h := h) hs h1
  have hok : colOk (C ^ h) (edgesL (C : Int) ts h) := by
    intro k hk
    rw [edgesL_len] at hk
    rw [kk_edge hs h1 hk]
    obtain ⟨nc, a, b, e, -, h5, h6, -⟩ := kk_in hs h1 hk
    rw [e]
    exact ⟨a, b, rfl, h5, rfl, h6⟩
  have hEl : (edgesL (C : Int) ts h).length = (colsL ts h).length := edgesL_len _ _ _
  have hla' : ∀ W EA qe, TR W W.heap.size EA (edgesL (C : Int) ts h) → Calls Try.prog 89 #[.agg #[.int .i64 ((C ^ h : Nat) : Int), .slice EA (colsL ts h).length qe]] W _ := fun W EA qe hT => lastingNumbers_any (C ^ h) EA (colsL ts h).length qe (edgesL (C : Int) ts h) W (by omega) hEl hT (by omega) hok
  unfold IntRes
  have HLL := Lib.hid hla
  have HCH := Lib.hid hch
  have HGO := Lib.hid hgo
  have HLA := Lib.hid hla'
  have HOK := Lib.hid hok
  have HISK := Lib.hid hisk
  have HKM := Lib.hid hkm
  have HEL := Lib.hid hEl
  clear hch hgo hla' hla hA hs hcd hcc hok hisk hkm hEl
  generalize KK C ts h = K at *
  generalize edgesL (C : Int) ts h = E at *
  generalize (colsL ts h).length = N at *
  generalize C ^ h = P at *
  go_enter Try.func50, Try.ntmps50
  go_wp2_with fail
  have hx0 := (Ext.refl w).alloc (Obj.cells #[.int .i64 (C : Int), .slice A n c] 30)
  have hS0 := Blk.new w 30 #[.int .i64 (C : Int), .slice A n c]
  generalize w.alloc (Obj.cells #[.int .i64 (C : Int), .slice A n c] 30) = W0 at *
  have H0 := Lib.hid (hx0.below (Nat.le_refl w.heap.size))
  have HS := Lib.hid hS0
  clear hx0 hS0
  refine (HCH.out _ H0.out).mono ?_
  rintro e w1 ⟨rfl, hx1⟩
  have H1 := Lib.hid (H0.out.trans (hx1.below H0.out.size))
  have HS1 := Lib.hid (HS.out.ext hx1)
  have r0 := HS1.out.rd 0 (v := .int .i64 (C : Int)) rfl
  have r1 := HS1.out.rd 1 (v := .slice A n c) rfl
  clear hx1
  go_wp2_with fail
  refine (HGO.out _ H1.out).mono ?_
  rintro e w2 ⟨R, q, EA, qe, rfl, hb2, -, htr⟩
  have H2 := Lib.hid (H1.out.trans (hb2.mono H1.out.size))
  have HTR := Lib.hid htr
  clear hb2 htr r0 r1
  have hG3 := Blk.new w2 55 #[.int .i64 (C : Int), .slice A n c, .slice R N q, .int .i64 (P : Int), .slice EA N qe]
  have g3 := hG3.rd 3 (v := .int .i64 (P : Int)) rfl
  have g4 := hG3.rd 4 (v := .slice EA N qe) rfl
  have hx3 := (Ext.refl w2).alloc (Obj.cells #[.int .i64 (C : Int), .slice A n c, .slice R N q, .int .i64 (P : Int), .slice EA N qe] 55)
  have HT3 := Lib.hid (HTR.out.ext hx3 (Nat.le_refl _))
  have hsz3 : (w2.alloc (Obj.cells #[.int .i64 (C : Int), .slice A n c, .slice R N q, .int .i64 (P : Int), .slice EA N qe] 55)).heap.size = w2.heap.size + 1 := by simp
  go_wp2_with fail
  generalize w2.alloc (Obj.cells #[.int .i64 (C : Int), .slice A n c, .slice R N q, .int .i64 (P : Int), .slice EA N qe] 55) = W3 at *
  have H3 := Lib.hid (H2.out.trans (hx3.below H2.out.size))
  have HG3 := Lib.hid hG3
  have HT3' := Lib.hid (HT3.out.more (show w2.heap.size ≤ W3.heap.size by omega))
  clear hx3 hG3 g3 g4
  refine (HLA.out _ EA qe HT3'.out).mono ?_
  rintro e w4 ⟨L, ql, rfl, hb4, -⟩
  have H4 := Lib.hid (H3.out.trans (hb4.mono H3.out.size))
  have HG4 := Lib.hid (HG3.out.below hb4 HG3.out.lt)
  have HT4 := Lib.hid ((HT3'.out.below hb4 (Nat.le_refl _)).more hb4.size)
  have hsz4 := hb4.size
  clear hb4
  have hlt : 0 < (lastL E).length := HLL.out
  have hlt3 : (0 : Int) < ((lastL E).length : Int) := by omega
  generalize (lastL E).length = nl at *
  go_wp2_with fail
  go_ret2
  exact ⟨rfl, H4.out⟩
set_option maxRecDepth 100000 in
set_option maxHeartbeats 4000000 in
theorem implWidest_end (C : Nat) (A : Option Addr) (n c : Nat) (ts : List Tl) (h : Nat) (w : World) (hl : ts.length = n) (hA : TR w w.heap.size A ts) (hs : isSet (C : Int) ts = true) (h1 : 1 ≤ h) (h3 : h ≤ 3) (r : Nat) (hla0 : (lastL (edgesL (C : Int) ts h)).length = 0) (hr : r ≤ (KK C ts h).length) (hr1 : ∀ j, j < r → fwdAny (KK C ts h) j = true) (hr2 : fwdAny (KK C ts h) r = false) :
    Calls Try.prog 50 #[.agg #[.int .i64 (C : Int), .slice A n c], .int .i64 (h : Int)] w (IntRes w (r : Int) 0) := by
  have hn := isSet_len hs
  have hn16 : ts.length ≤ 16 := hn
  rw [hl] at hn
  have hcc := isSet_col hs
  have hp := pow_216 (C := C) (h := h) (by omega) h3
  have hp1 : 1 ≤ C ^ h := Nat.one_le_pow _ _ (by omega)
  have hN := cols_4096 hn16 h3
  have hch : ∀ W, Below w.heap.size w W → Calls Try.prog 72 #[.agg #[.int .i64 (C : Int), .slice A n c], .int .i64 (h : Int), .int .i64 3] W _ := fun W hW => checkHeightM_any (C : Int) A n c ts (h : Int) 3 W (by omega) hl ((hA.below hW (Nat.le_refl _)).more hW.size)
  have hcd : hCodeM (C : Int) ts (h : Int) 3 = 0 := by unfold hCodeM; rw [if_pos hs, if_pos ⟨by omega, by omega⟩]
  rw [hcd] at hch
  have hgo : ∀ W, Below w.heap.size w W → Calls Try.prog 54 #[.agg #[.int .i64 (C : Int), .slice A n c], .int .i64 (h : Int)] W _ := fun W hW => graphOf_0 C A n c ts h W hl ((hA.below hW (Nat.le_refl _)).more hW.size) hs h1 (by omega) (by omega) (by omega)
  unfold GraphRes at hgo
  have hisk := isK (h := h) hs h1
  have hkm := kk_mem (h := h) hs h1
  have hok : colOk (C ^ h) (edgesL (C : Int) ts h) := by
    intro k hk
    rw [edgesL_len] at hk
    rw [kk_edge hs h1 hk]
    obtain ⟨nc, a, b, e, -, h5, h6, -⟩ := kk_in hs h1 hk
    rw [e]
    exact ⟨a, b, rfl, h5, rfl, h6⟩
  have hEl : (edgesL (C : Int) ts h).length = (colsL ts h).length := edgesL_len _ _ _
  have hla : ∀ W EA qe, TR W W.heap.size EA (edgesL (C : Int) ts h) → Calls Try.prog 89 #[.agg #[.int .i64 ((C ^ h : Nat) : Int), .slice EA (colsL ts h).length qe]] W _ := fun W EA qe hT => lastingNumbers_any (C ^ h) EA (colsL ts h).length qe (edgesL (C : Int) ts h) W (by omega) hEl hT (by omega) hok
  unfold IntRes
  have HLL := Lib.hid hla0
  have hr9 : r ≤ 4096 := by rw [KK_len] at hr; omega
  have HR1 := Lib.hid hr1
  have HR2 := Lib.hid hr2
  have HCH := Lib.hid hch
  have HGO := Lib.hid hgo
  have HLA := Lib.hid hla
  have HOK := Lib.hid hok
  have HISK := Lib.hid hisk
  have HKM := Lib.hid hkm
  have HEL := Lib.hid hEl
  clear hch hgo hla hla0 hr hr1 hr2 hA hs hcd hcc hok hisk hkm hEl
  generalize KK C ts h = K at *
  generalize edgesL (C : Int) ts h = E at *
  generalize (colsL ts h).length = N at *
  generalize C ^ h = P at *
  go_enter Try.func50, Try.ntmps50
  go_wp2_with fail
  have hx0 := (Ext.refl w).alloc (Obj.cells #[.int .i64 (C : Int), .slice A n c] 30)
  have hS0 := Blk.new w 30 #[.int .i64 (C : Int), .slice A n c]
  generalize w.alloc (Obj.cells #[.int .i64 (C : Int), .slice A n c] 30) = W0 at *
  have H0 := Lib.hid (hx0.below (Nat.le_refl w.heap.size))
  have HS := Lib.hid hS0
  clear hx0 hS0
  refine (HCH.out _ H0.out).mono ?_
  rintro e w1 ⟨rfl, hx1⟩
  have H1 := Lib.hid (H0.out.trans (hx1.below H0.out.size))
  have HS1 := Lib.hid (HS.out.ext hx1)
  have r0 := HS1.out.rd 0 (v := .int .i64 (C : Int)) rfl
  have r1 := HS1.out.rd 1 (v := .slice A n c) rfl
  clear hx1
  go_wp2_with fail
  refine (HGO.out _ H1.out).mono ?_
  rintro e w2 ⟨R, q, EA, qe, rfl, hb2, -, htr⟩
  have H2 := Lib.hid (H1.out.trans (hb2.mono H1.out.size))
  have HTR := Lib.hid htr
  clear hb2 htr r0 r1
  have hG3 := Blk.new w2 55 #[.int .i64 (C : Int), .slice A n c, .slice R N q, .int .i64 (P : Int), .slice EA N qe]
  have g3 := hG3.rd 3 (v := .int .i64 (P : Int)) rfl
  have g4 := hG3.rd 4 (v := .slice EA N qe) rfl
  have hx3 := (Ext.refl w2).alloc (Obj.cells #[.int .i64 (C : Int), .slice A n c, .slice R N q, .int .i64 (P : Int), .slice EA N qe] 55)
  have HT3 := Lib.hid (HTR.out.ext hx3 (Nat.le_refl _))
  have hsz3 : (w2.alloc (Obj.cells #[.int .i64 (C : Int), .slice A n c, .slice R N q, .int .i64 (P : Int), .slice EA N qe] 55)).heap.size = w2.heap.size + 1 := by simp
  go_wp2_with fail
  generalize w2.alloc (Obj.cells #[.int .i64 (C : Int), .slice A n c, .slice R N q, .int .i64 (P : Int), .slice EA N qe] 55) = W3 at *
  have H3 := Lib.hid (H2.out.trans (hx3.below H2.out.size))
  have HG3 := Lib.hid hG3
  have HT3' := Lib.hid (HT3.out.more (show w2.heap.size ≤ W3.heap.size by omega))
  clear hx3 hG3 g3 g4
  refine (HLA.out _ EA qe HT3'.out).mono ?_
  rintro e w4 ⟨L, ql, rfl, hb4, -⟩
  have H4 := Lib.hid (H3.out.trans (hb4.mono H3.out.size))
  have HG4 := Lib.hid (HG3.out.below hb4 HG3.out.lt)
  have HT4 := Lib.hid ((HT3'.out.below hb4 (Nat.le_refl _)).more hb4.size)
  have hsz4 := hb4.size
  clear hb4
  have hnl : (lastL E).length = 0 := HLL.out
  rw [hnl]
  have f0 := HG4.out.rd 0 (v := .int .i64 (C : Int)) rfl
  have f1 := HG4.out.rd 1 (v := .slice A n c) rfl
  have f2 := HG4.out.rd 2 (v := .slice R N q) rfl
  have f3 := HG4.out.rd 3 (v := .int .i64 (P : Int)) rfl
  have f4 := HG4.out.rd 4 (v := .slice EA N qe) rfl
  have HREP := Lib.hid (fun W b (hc : W.cell? ⟨b, 0, none⟩ = some (.int .i64 1)) => repeat1_any b 0 P W hp1 (by omega) hc)
  have HMORE := Lib.hid (fun (W : World) FA qf (f : Nat → Int) hf hF hE => withColumnMore_any C A n c R N q P EA qe E FA qf f W (by omega) (by omega) HEL.out hE HOK.out hf hF)
  have HSUM := Lib.hid (fun (W : World) FA qf (f : Nat → Int) (hf : Cap f) (hF : IR W W.heap.size FA (listD P f)) => sumOf_any FA P qf (listD P f) W (by omega) (listD_len P f) hF (fun k hk => by rw [listD_get P f hk]; exact hf k))
  have HCL := Lib.hid (fun f => capS_list f P P (Nat.le_refl _))
  have HSF := Lib.hid (fun j => sum_fwd (P := P) HISK.out (fun x hx => (HKM.out x hx).2.2) j)
  have HWC := Lib.hid (fun j => wpow_cap E one_cap j)
  have HW1 := Lib.hid (show ∀ j, wpow E (fun _ => 1) (j + 1) = wstep E (wpow E (fun _ => 1) j) from fun _ => rfl)
  clear hnl
  go_wp2_with fail
  go_region_held3 (fun w' => w'.cell? ⟨w2.heap.size, 0, none⟩ = some (.int .i64 (C : Int)) ∧ w'.cell? ⟨w2.heap.size, 1, none⟩ = some (.slice A n c) ∧ w'.cell? ⟨w2.heap.size, 2, none⟩ = some (.slice R N q) ∧ w'.cell? ⟨w2.heap.size, 3, none⟩ = some (.int .i64 (P : Int)) ∧ w'.cell? ⟨w2.heap.size, 4, none⟩ = some (.slice EA N qe))
    (first | exact ⟨f0, f1, f2, f3, f4⟩ | exact ⟨e0, e1, e2, e3, e4⟩ | exact ⟨d0, d1, d2, d3, d4⟩ | exact ⟨cell_of_ext ((Ext.refl _).alloc _) f0, cell_of_ext ((Ext.refl _).alloc _) f1, cell_of_ext ((Ext.refl _).alloc _) f2, cell_of_ext ((Ext.refl _).alloc _) f3, cell_of_ext ((Ext.refl _).alloc _) f4⟩ | exact ⟨cell_of_ext ((Ext.refl _).alloc _).drew f0, cell_of_ext ((Ext.refl _).alloc _).drew f1, cell_of_ext ((Ext.refl _).alloc _).drew f2, cell_of_ext ((Ext.refl _).alloc _).drew f3, cell_of_ext ((Ext.refl _).alloc _).drew f4⟩ | fail "no keep")
    (first
    | (go_at_call 91; (with_reducible refine (HREP.out _ _ (by first | exact oc1 _ rfl | exact oc2 _ rfl | exact oc1 _ (by simp) | exact oc2 _ (by simp))).mono ?_); rintro e w5 ⟨FA, rfl, hb5, hw5⟩; (first | have hbw : Below w4.heap.size w4 w5 := below_of_both (((Ext.refl _).alloc _).drew) hb5 | have hbw : Below w4.heap.size w4 w5 := below_of_both ((Ext.refl _).alloc _) hb5); have HG5 := Lib.hid (HG4.out.below hbw HG4.out.lt); have H5 := Lib.hid (H4.out.trans (hbw.mono H4.out.size)); have HT5 := Lib.hid ((HT4.out.below hbw (Nat.le_refl _)).more hbw.size); have HW5 := Lib.hid (show IR w5 w5.heap.size FA (listD P (fun _ => 1)) from by rw [← list_one]; exact hw5.ir); have e0 := HG5.out.rd 0 (v := .int .i64 (C : Int)) rfl; have e1 := HG5.out.rd 1 (v := .slice A n c) rfl; have e2 := HG5.out.rd 2 (v := .slice R N q) rfl; have e3 := HG5.out.rd 3 (v := .int .i64 (P : Int)) rfl; have e4 := HG5.out.rd 4 (v := .slice EA N qe) rfl; clear hbw hb5 hw5)
    | (go_at_call 90; (first | (with_reducible refine (HMORE.out _ FA _ (fun _ => 1) one_cap HW5.out HT5.out).mono ?_) | (refine (HMORE.out w5.drew FA _ (fun _ => 1) one_cap HW5.out HT5.out).mono ?_)); rintro e w6 ⟨g6, rfl, hb6, hg6, hd6⟩; have hbw : Below w5.heap.size w5 w6 := (by first | exact hb6 | exact (((Ext.refl w5).drew).below (Nat.le_refl _)).trans hb6); have HG6 := Lib.hid (HG5.out.below hbw HG5.out.lt); have H6 := Lib.hid (H5.out.trans (hbw.mono H5.out.size)); have HT6 := Lib.hid ((HT5.out.below hbw (Nat.le_refl _)).more hbw.size); have HD6 := Lib.hid (show DI w6 g6 P (wpow E (fun _ => 1) 1) from hd6); have d0 := HG6.out.rd 0 (v := .int .i64 (C : Int)) rfl; have d1 := HG6.out.rd 1 (v := .slice A n c) rfl; have d2 := HG6.out.rd 2 (v := .slice R N q) rfl; have d3 := HG6.out.rd 3 (v := .int .i64 (P : Int)) rfl; have d4 := HG6.out.rd 4 (v := .slice EA N qe) rfl; clear hbw hb6 hg6 hd6))
  clear f0 f1 f2 f3 f4 e0 e1 e2 e3 e4 d0 d1 d2 d3 d4
  go_wp2_with fail
  go_loopw [9, 10] (fun ii v wr => ∃ j g qq : Nat, j ≤ r ∧ ii = .int .i64 j ∧ v = .slice (some ⟨g, 0, none⟩) P qq ∧ DI wr g P (wpow E (fun _ => 1) (j + 1)) ∧ Below w6.heap.size w6 wr) (fun ii _ _ => r - (intOf ii).toNat)
  case atStart => exact ⟨0, g6, P, Nat.zero_le _, rfl, rfl, HD6.out, Below.refl _ _⟩
  case round =>
    obtain ⟨j, g, qq, hj, rfl, rfl, hd, hb⟩ := hrel
    have HD := Lib.hid hd
    have HB := Lib.hid hb
    have hszr := hb.size
    have hir : IR wr wr.heap.size (some ⟨g, 0, none⟩) (listD P (wpow E (fun _ => 1) (j + 1))) := (hd.iwr (Nat.le_refl _) hd.lt).ir
    have HSU := Lib.hid (HSUM.out wr (some ⟨g, 0, none⟩) qq (wpow E (fun _ => 1) (j + 1)) (HWC.out _) hir)
    rw [HCL.out] at HSU
    have HMO := Lib.hid (HMORE.out wr (some ⟨g, 0, none⟩) qq (wpow E (fun _ => 1) (j + 1)) (HWC.out _) hir ((HT6.out.below hb (Nat.le_refl _)).more hszr))
    have hsf := HSF.out j
    have HW2 := Lib.hid (HW1.out (j + 1))
    have hg5 := HG6.out.below hb (HG6.out.lt)
    have f0 := hg5.rd 0 (v := .int .i64 (C : Int)) rfl
    have f1 := hg5.rd 1 (v := .slice A n c) rfl
    have f2 := hg5.rd 2 (v := .slice R N q) rfl
    have f3 := hg5.rd 3 (v := .int .i64 (P : Int)) rfl
    have f4 := hg5.rd 4 (v := .slice EA N qe) rfl
    generalize capS (wpow E (fun _ => 1) (j + 1)) P = sm at *
    clear hd hb hir hg5
    by_cases hlt : j < r
    · have hpos : 0 < sm := hsf.2 (HR1.out j hlt)
      clear hsf
      go_wp2_with fail
      refine HSU.out.mono ?_
      rintro e w7 ⟨rfl, rfl⟩
      go_wp2_with fail
      refine HMO.out.mono ?_
      rintro e w8 ⟨g8, rfl, hb8, hg8, hd8⟩
      have HD8 := Lib.hid (show DI w8 g8 P (wpow E (fun _ => 1) (j + 1 + 1)) by rw [HW2.out]; exact hd8)
      have HB8 := Lib.hid (HB.out.trans (hb8.mono hszr))
      clear hb8 hg8 hd8
      go_wp2_with fail
      go_roundw
      case rel => first | exact ⟨j + 1, g8, P, by omega, by go_num, rfl, HD8.out, HB8.out⟩ | ((repeat apply Exists.intro); exact ⟨⟨j + 1, g8, P, by omega, by go_num, rfl, HD8.out, HB8.out⟩, rfl⟩)
      case measure => simp [intOf]; omega
    · obtain rfl : j = r := by omega
      have hneg : ¬ 0 < sm := fun h => by have h9 := hsf.1 h; rw [HR2.out] at h9; cases h9
      have HBF := Lib.hid (H6.out.trans (HB.out.mono H6.out.size))
      clear hsf
      go_wp2_with fail
      refine HSU.out.mono ?_
      rintro e w7 ⟨rfl, rfl⟩
      go_wp2_with fail
      go_ret2
      exact ⟨rfl, HBF.out⟩
set_option maxRecDepth 100000 in
theorem implWidest_no (c0 : Int) (A : Option Addr) (n c : Nat) (ts : List Tl) (h : Int) (w : World) (hn : n ≤ 1048576) (hl : ts.length = n) (hA : TR w w.heap.size A ts) (hz : tcCode c0 ts h true ≠ 0) :
    Calls Try.prog 50 #[.agg #[.int .i64 c0, .slice A n c], .int .i64 h] w (IntRes w 0 (tcCode c0 ts h true)) := by
  have hch : ∀ W, Below w.heap.size w W → Calls Try.prog 72 #[.agg #[.int .i64 c0, .slice A n c], .int .i64 h, .int .i64 3] W _ := fun W hW => checkHeightM_any c0 A n c ts h 3 W (by omega) hl ((hA.below hW (Nat.le_refl _)).more hW.size)
  have hcd : hCodeM c0 ts h 3 = tcCode c0 ts h true := by unfold hCodeM tcCode; simp
  rw [hcd] at hch
  unfold IntRes
  generalize tcCode c0 ts h true = code at *
  have hne : (code != 0) = true := by simp [hz]
  have HCH := Lib.hid hch
  clear hch hA hz hcd
  go_enter Try.func50, Try.ntmps50
  go_wp2_with fail
  refine (HCH.out _ (((Ext.refl w).alloc _).below (Nat.le_refl _))).mono ?_
  rintro e w1 ⟨rfl, hx1⟩
  have H1 := Lib.hid ((((Ext.refl w).alloc _).trans hx1).below (Nat.le_refl w.heap.size))
  clear hx1
  go_wp2_with fail
  go_ret2
  exact ⟨rfl, H1.out⟩
end Go.Proofs.Ytleabblnikbmpaa
