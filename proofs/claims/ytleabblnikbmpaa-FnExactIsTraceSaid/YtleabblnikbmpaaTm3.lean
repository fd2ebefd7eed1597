/- IsTrace; the model's side. -/
import Derived.Test.YtleabblnikbmpaaTx4
import Derived.Test.YtleabblnikbmpaaTm4
import Derived.Deep.RegionHeld3
import Derived.BigQuiet
import Derived.Deep.DeepCutAuto
namespace Go.Proofs.Ytleabblnikbmpaa
set_option linter.unusedVariables false
set_option linter.unusedSimpArgs false
open Go.RowKit Go.Sort

theorem nd_take (K : List Cq) {k : Nat} (hk : k < K.length) {nc a b : Nat} (he : K.getD k K0 = (nc, a, b)) (c : Nat) (p q : Nat → Bool) : ndW (K.take (k + 1)) c p q = fun e => ndW (K.take k) c p q e || ((decide (nc = c) && p a) && (q b && decide (b = e))) := by
  funext e
  rw [K_snoc K hk, he]
  simp [ndW, List.any_append]
theorem ndAny_take (K : List Cq) {k : Nat} (hk : k < K.length) {nc a b : Nat} (he : K.getD k K0 = (nc, a, b)) (c : Nat) (p q : Nat → Bool) : ndAny (K.take (k + 1)) c p q = (ndAny (K.take k) c p q || ((decide (nc = c) && p a) && q b)) := by
  rw [K_snoc K hk, he]
  simp [ndAny, List.any_append]
theorem runT_app (K : List Cq) : ∀ (xs ys : List Int) (p : Nat → Bool), runT K (xs ++ ys) p = runT K ys (runT K xs p)
  | [], _, _ => rfl
  | _ :: r, ys, _ => runT_app K r ys _
theorem runT_no (K : List Cq) : ∀ (xs : List Int) (p : Nat → Bool), (∀ e, p e = false) → ∀ e, runT K xs p e = false
  | [], _, h, e => h e
  | c :: r, p, h, e => runT_no K r _ (fun e => by
    unfold ndW
    rw [List.any_eq_false]
    intro k _
    simp [h]) e
theorem nd_none {K : List Cq} {c : Nat} {p q : Nat → Bool} (h : ndAny K c p q = false) (e : Nat) : ndW K c p q e = false := by
  unfold ndW
  rw [List.any_eq_false]
  intro k hk
  have := List.any_eq_false.1 h k hk
  simp only [Bool.and_eq_true, not_and, Bool.not_eq_true] at this
  simp only [Bool.and_eq_true, not_and, Bool.not_eq_true, and_imp]
  intro h1 h2 h3
  exact absurd h3 (by rw [this ⟨h1, h2⟩]; exact Bool.false_ne_true)
theorem nd_some {K : List Cq} {c P : Nat} {p q : Nat → Bool} (hK : ∀ x ∈ K, x.2.2 < P) (h : ndAny K c p q = true) : anyQ P (ndW K c p q) = true := by
  obtain ⟨k, hk, h1⟩ := List.any_eq_true.1 h
  refine anyQ_yes (hK k hk) (List.any_eq_true.2 ⟨k, hk, ?_⟩)
  rw [Bool.and_eq_true] at h1
  rw [h1.1, h1.2]
  simp
theorem run_stop {K : List Cq} {xs : List Int} {P i : Nat} (hi : i < xs.length) (h : ndAny K (xs.getD i 0).toNat (runT K (xs.take i) fun _ => true) (fun _ => true) = false) : anyQ P (runT K xs fun _ => true) = false := by
  refine anyQ_no fun e _ => ?_
  have e1 : xs = xs.take (i + 1) ++ xs.drop (i + 1) := (List.take_append_drop _ _).symm
  rw [e1, runT_app]
  refine runT_no K _ _ (fun e => ?_) e
  rw [runT_take K xs hi]
  exact nd_none h e
set_option maxRecDepth 100000 in
set_option maxHeartbeats 8000000 in
theorem specIsTrace_0 (C : Nat) (A : Option Addr) (n c : Nat) (ts : List Tl) (h : Nat) (B : Option Addr) (m d : Nat) (xs : List Int) (w : World) (hl : ts.length = n) (hA : TR w w.heap.size A ts) (hlx : xs.length = m) (hB : IR w w.heap.size B xs) (hz : itCode (C : Int) ts (h : Int) xs = 0) :
    Calls Try.prog 35 #[.agg #[.int .i64 (C : Int), .slice A n c], .int .i64 (h : Int), .slice B m d] w (BoolRes w (itB C ts h xs) 0) := by
  obtain ⟨hs, h1, h3, hg⟩ := tcCode_zero hz
  have hwc : wordCode (C : Int) ts xs = 0 := by simpa using hg
  obtain ⟨⟨hx1, hx2⟩, hxc⟩ := word_in hs hwc
  have hn := isSet_len hs
  rw [hl] at hn
  have hcc := isSet_col hs
  have hcw : ∀ W, Below w.heap.size w W → Calls Try.prog 70 #[.agg #[.int .i64 (C : Int), .slice A n c], .slice B m d] W _ := fun W hW => l02Code_any (C : Int) A n c ts B m d xs W (by omega) hl ((hA.below hW (Nat.le_refl _)).more hW.size) (by omega) hlx ((hB.below hW (Nat.le_refl _)).more hW.size)
  rw [hwc] at hcw
  have hcd : ∀ W, Below w.heap.size w W → Calls Try.prog 69 #[.agg #[.int .i64 (C : Int), .slice A n c], .int .i64 (h : Int), .bool true] W _ := fun W hW => l10Code_0 C A n c ts h W hl ((hA.below hW (Nat.le_refl _)).more hW.size) hs (by omega) (by omega)
  unfold CodeR4 at hcd
  have hsz : ∀ W, Calls Try.prog 71 #[.agg #[.int .i64 (C : Int), .slice A n c], .int .i64 (h : Int)] W _ := fun W => l06Size_any C A n c h W (by omega) (by omega)
  have hkm := kk_mem (h := h) hs (by omega)
  have hrk := rowsK (h := h) hs (by omega)
  have hp := pow_216 (C := C) (h := h) (by omega) (by omega)
  have hp1 : 1 ≤ C ^ h := Nat.one_le_pow _ _ (by omega)
  have hkl : (KK C ts h).length ≤ 4096 := by rw [KK_len]; exact cols_4096 (by omega) (by omega)
  rw [← KK_len C ts h] at hcd
  unfold itB BoolRes
  have HCW := Lib.hid hcw
  have HCD := Lib.hid hcd
  have HZ := Lib.hid hsz
  have HB := Lib.hid hB
  have HXC := Lib.hid hxc
  have HKM := Lib.hid hkm
  have HRK := Lib.hid hrk
  clear hcw hcd hsz hA hB hs hwc hz hg hkm hxc hrk
  generalize rows4 (C : Int) ts (colsL ts h) = rs at *
  generalize KK C ts h = K at *
  generalize C ^ h = P at *
  obtain ⟨N, hN⟩ : ∃ N, N = K.length := ⟨_, rfl⟩
  rw [← hN] at HCD hkl
  have HN := Lib.hid hN
  clear hN
  obtain ⟨i0, hi, hz0, hz1, hz2⟩ := info_parts info_bool
  have hmk := fun W => run_make_rowN (P := Try.prog) 79 4 i0 _ (by kernel_rfl) hi hz0 .i64 .i64 P P (Nat.le_refl _) (by rw [hz2]; omega) (by omega) W
  rw [hz1] at hmk
  generalize hcs : madeCells (Value.cells (.bool false)) (P * 1) = cs0 at hmk
  have HF := Lib.hid (made_false hcs.symm)
  clear hcs hi hz0 hz1 hz2
  have HMK := Lib.hid hmk
  go_enter Try.func35, Try.ntmps35
  go_wp2_with fail
  have hx0 := (Ext.refl w).alloc (Obj.cells #[.int .i64 (C : Int), .slice A n c] 30)
  have hS0 := Blk.new w 30 #[.int .i64 (C : Int), .slice A n c]
  generalize w.alloc (Obj.cells #[.int .i64 (C : Int), .slice A n c] 30) = W0 at *
  have H0 := Lib.hid (hx0.below (Nat.le_refl w.heap.size))
  have HS := Lib.hid hS0
  have r0 := hS0.rd 0 (v := .int .i64 (C : Int)) rfl
  have r1 := hS0.rd 1 (v := .slice A n c) rfl
  clear hx0 hS0 hmk
  go_region_held3 (fun w' => w'.cell? ⟨w.heap.size, 0, none⟩ = some (.int .i64 (C : Int)) ∧ w'.cell? ⟨w.heap.size, 1, none⟩ = some (.slice A n c))
    (first | exact ⟨r0, r1⟩ | exact ⟨r20, r21⟩ | exact ⟨r10, r11⟩ | fail "no keep")
    (first
    | (go_at_call 70; (with_reducible refine (HCW.out _ (by first | exact H0.out | exact H0.out.drew)).mono ?_); rintro e w1 ⟨rfl, hx1⟩; have hx1' : Ext W0 w1 := (by first | exact hx1 | exact ((Ext.refl W0).drew).trans hx1); have HS1 := Lib.hid (HS.out.ext hx1'); have H1 := Lib.hid (H0.out.trans (hx1'.below H0.out.size)); have r10 := HS1.out.rd 0 (v := .int .i64 (C : Int)) rfl; have r11 := HS1.out.rd 1 (v := .slice A n c) rfl; clear hx1 hx1')
    | (go_at_call 69; (with_reducible refine (HCD.out _ (by first | exact H1.out | exact H1.out.drew)).mono ?_); rintro e w2 ⟨R, q, rfl, hb2, hir⟩; have hb2' : Below w1.heap.size w1 w2 := (by first | exact hb2 | exact (((Ext.refl w1).drew).below (Nat.le_refl _)).trans hb2); have HS2 := Lib.hid (HS1.out.below hb2' HS1.out.lt); have H2 := Lib.hid (H1.out.trans (hb2'.mono H1.out.size)); have HIR := Lib.hid hir; have r20 := HS2.out.rd 0 (v := .int .i64 (C : Int)) rfl; have r21 := HS2.out.rd 1 (v := .slice A n c) rfl; clear hb2 hb2' hir))
  clear r0 r1 r10 r11
  go_wp2_with fail
  refine (HZ.out _).mono ?_
  rintro e w3 ⟨rfl, hx3⟩
  have H3 := Lib.hid (H2.out.trans (hx3.below H2.out.size))
  have HI3 := Lib.hid (HIR.out.below (hx3.below (Nat.le_refl _)) (Nat.le_refl _))
  have hs3 := (hx3.below (Nat.le_refl w2.heap.size)).size
  clear hx3 r20 r21
  have hmk := HMK.out
  go_wp2_with fail
  have hq4 := BQ.new (W := w3) HF.out
  have hx4 := (Ext.refl w3).alloc (Obj.cells cs0 4)
  have hsz4 : (w3.alloc (Obj.cells cs0 4)).heap.size = w3.heap.size + 1 := by simp
  generalize w3.alloc (Obj.cells cs0 4) = W4 at *
  have HQ4 := Lib.hid (hq4.congr (q := fun x => decide (x < 0)) (fun x _ => by simp))
  have H4 := Lib.hid (hx4.below (Nat.le_refl w3.heap.size))
  have HSZ4 := Lib.hid (show W4.heap.size = w3.heap.size + 1 from hsz4)
  clear hq4 hx4 hsz4 hmk
  go_loopw [12] (fun ii wr => ∃ k : Nat, k ≤ P ∧ ii = .int .i64 k ∧ BQ wr w3.heap.size P (fun x => decide (x < k)) ∧ Below w3.heap.size W4 wr) (fun ii _ => P - (intOf ii).toNat)
  case atStart => exact ⟨0, Nat.zero_le _, rfl, HQ4.out, Below.refl _ _⟩
  case round =>
    obtain ⟨k, hk, rfl, hq, hb⟩ := hrel
    by_cases hlt : k < P
    · have hlt3 : (k : Int) < (P : Int) := by omega
      obtain ⟨q3, z3⟩ := hq.at_ hlt
      have HQ5 := Lib.hid ((hq.set_ k true).congr (q := fun x => decide (x < k + 1)) (fun x _ => congrFun upto_set x))
      have HB5 := Lib.hid (hb.setCell (p := ⟨w3.heap.size, k, none⟩) (Nat.le_refl _) (.bool true))
      clear hq hb
      go_wp2_with fail
      go_roundw
      case rel => exact ⟨k + 1, by omega, by go_num, HQ5.out, HB5.out⟩
      case measure => simp [intOf]; omega
    · obtain rfl : k = P := by omega
      have hs5 := hb.size
      obtain ⟨W5, hW5⟩ : ∃ W, W = wr := ⟨_, rfl⟩
      subst hW5
      have HQ5 := Lib.hid (hq.congr (q := runT K (xs.take 0) (fun _ => true)) (fun x hx => by rw [List.take_zero]; exact decide_eq_true hx))
      have hB5 := H4.out.trans (hb.mono (Nat.le_refl _))
      have H5 := Lib.hid (H3.out.trans (hB5.mono H3.out.size))
      have HI5 := Lib.hid ((HI3.out.below (B := w2.heap.size) (hB5.mono hs3) (Nat.le_refl _)))
      have hs6 : w2.heap.size ≤ w3.heap.size := hs3
      have hs7 : w3.heap.size < W5.heap.size := by have := HSZ4.out; omega
      clear hq hb hB5
      go_wp2_with fail
      go_loopw [11, 13] (fun v ii wr => ∃ i g : Nat, i ≤ m ∧ ii = .int .i64 i ∧ v = .slice (some ⟨g, 0, none⟩) k k ∧ BQ wr g k (runT K (xs.take i) (fun _ => true)) ∧ w3.heap.size ≤ g ∧ (i = 0 ∨ anyQ k (runT K (xs.take i) (fun _ => true)) = true) ∧ Below w3.heap.size W5 wr) (fun _ ii _ => m - (intOf ii).toNat)
      case atStart => exact ⟨0, w3.heap.size, Nat.zero_le _, rfl, rfl, HQ5.out, Nat.le_refl _, .inl rfl, Below.refl _ _⟩
      case round =>
        obtain ⟨i, g, hi, rfl, rfl, hq, hgl, hany, hb⟩ := hrel
        have HQ := Lib.hid hq
        have HBB := Lib.hid hb
        have HANY := Lib.hid hany
        have hszr := hb.size
        by_cases hlt : i < m
        · have hlt3 : (i : Int) < (m : Int) := by omega
          have hwb : Below w.heap.size w wr := H5.out.trans (hb.mono (by have := H3.out.size; omega))
          obtain ⟨bx, ox, rfl, hbx, hcx⟩ := HB.out (by omega)
          have q1 := (hwb.cell (p := ⟨bx, ox + i, none⟩) hbx).trans (hcx i (by omega))
          obtain ⟨c0, hc0⟩ : ∃ c0 : Nat, xs.getD i 0 = (c0 : Int) := ⟨(xs.getD i 0).toNat, by have := (HXC.out i (by omega)).1; omega⟩
          have HRT := Lib.hid (runT_take K xs (k := i) (by omega))
          have HSTOP := Lib.hid (fun hx => run_stop (K := K) (P := k) (xs := xs) (i := i) (by omega) hx)
          rw [hc0] at q1 HRT HSTOP
          rw [Int.toNat_natCast] at HRT HSTOP
          generalize runT K (xs.take i) (fun _ => true) = pr at *
          have hmk := HMK.out
          clear hcx hc0 hq hb hany
          have hq6 := BQ.new (W := wr) HF.out
          have hx6 := (Ext.refl wr).alloc (Obj.cells cs0 4)
          have hsz6 : (wr.alloc (Obj.cells cs0 4)).heap.size = wr.heap.size + 1 := by simp
          go_wp2_with fail
          generalize wr.alloc (Obj.cells cs0 4) = W6 at *
          obtain ⟨WR, hWR⟩ : ∃ W, W = wr := ⟨_, rfl⟩
          subst hWR
          have HQ6 := Lib.hid (hq6.congr (q := ndW (K.take 0) c0 pr (fun _ => true)) (fun x _ => by simp [ndW]))
          have hB6 := hx6.below (Nat.le_refl WR.heap.size)
          have HB6 := Lib.hid (HBB.out.trans (hB6.mono (by omega)))
          have HP6 := Lib.hid (HQ.out.below hB6 HQ.out.lt)
          have hgr : g < WR.heap.size := HQ.out.lt
          have hws : w.heap.size ≤ WR.heap.size := by have := H3.out.size; omega
          have QX := Lib.hid ((hB6.cell (p := ⟨bx, ox + i, none⟩) (by show bx < WR.heap.size; omega)).trans q1)
          have HI6 := Lib.hid ((HI5.out.below (HBB.out.mono hs6) (by have := HSZ4.out; omega)).below (hB6.mono (by omega)) (Nat.le_refl _))
          clear hq6 hx6 hB6 hmk q1
          go_loopw [15, 16] (fun sv kk wr2 => ∃ j : Nat, j ≤ N ∧ kk = .int .i64 j ∧ sv = .bool (ndAny (K.take j) c0 pr (fun _ => true)) ∧ BQ wr2 WR.heap.size k (ndW (K.take j) c0 pr (fun _ => true)) ∧ Below WR.heap.size W6 wr2) (fun _ kk _ => N - (intOf kk).toNat)
          case atStart => exact ⟨0, Nat.zero_le _, rfl, by simp [ndAny], HQ6.out, Below.refl _ _⟩
          case round =>
            obtain ⟨j, hj, rfl, rfl, hqj, hbj⟩ := hrel
            have HQJ := Lib.hid hqj
            have HBJ := Lib.hid hbj
            have hszj := hbj.size
            have hs66 : WR.heap.size ≤ W6.heap.size := by omega
            by_cases hltj : j < N
            · have hltj3 : (j : Int) < (N : Int) := by omega
              obtain ⟨nc, a, b, sx, hK, hR⟩ := HRK.out.2 j (by rw [← HN.out]; exact hltj)
              obtain ⟨bR, oR, bq, oq, qq, rfl, hbR, hbq, e1, e2, e3, e4⟩ := row_cells HI6.out (by rw [HRK.out.1, ← HN.out]; exact hltj) hR
              have hmem := HKM.out (K.getD j K0) (by simp [List.getD, show j < K.length by rw [← HN.out]; exact hltj])
              rw [hK] at hmem
              simp only at hmem
              have HT1 := Lib.hid (nd_take K (k := j) (by rw [← HN.out]; exact hltj) hK c0 pr (fun _ => true))
              have HT2 := Lib.hid (ndAny_take K (k := j) (by rw [← HN.out]; exact hltj) hK c0 pr (fun _ => true))
              replace e1 := (hbj.cell (p := ⟨bR, oR + j, none⟩) (by show bR < WR.heap.size; omega)).trans e1
              replace e2 := (hbj.cell (p := ⟨bq, oq, none⟩) (by show bq < WR.heap.size; omega)).trans e2
              replace e3 := (hbj.cell (p := ⟨bq, oq + 1, none⟩) (by show bq < WR.heap.size; omega)).trans e3
              replace e4 := (hbj.cell (p := ⟨bq, oq + 2, none⟩) (by show bq < WR.heap.size; omega)).trans e4
              have qx := (hbj.cell (p := ⟨bx, ox + i, none⟩) (by show bx < WR.heap.size; omega)).trans QX.out
              have q2 := ((HP6.out.below hbj hgr).at_ hmem.2.1).1
              obtain ⟨q3, z3⟩ := hqj.at_ hmem.2.2
              have ha3 : (a : Int) < (k : Int) := by omega
              have hb3 : (b : Int) < (k : Int) := by omega
              clear hK hR
              by_cases hnc : nc = c0
              · have hb1 : ((nc : Int) == (c0 : Int)) = true := by rw [beq_iff_eq]; omega
                cases hpa : pr a with
                | false =>
                  rw [hpa] at q2
                  have HNO : (decide (nc = c0) && pr a) = false := by rw [hpa]; simp
                  have HHNC := Lib.hid hnc
                  clear hnc
                  go_wp2_with fail
                  go_quiet (fail)
                  have hx7 : Ext wr (wr.drewN nq) := (Ext.refl wr).drewN nq
                  generalize wr.drewN nq = W7 at *
                  have HN1 := Lib.hid (show BQ W7 WR.heap.size k (ndW (K.take (j + 1)) c0 pr (fun _ => true)) by
                    rw [HT1.out]
                    refine (HQJ.out.ext hx7).congr fun e _ => ?_
                    simp [HNO])
                  have HN2 := Lib.hid (show ndAny (K.take (j + 1)) c0 pr (fun _ => true) = ndAny (K.take j) c0 pr (fun _ => true) by rw [HT2.out]; simp [HNO])
                  have HBN := Lib.hid (HBJ.out.trans (hx7.below (by omega)))
                  clear e1 e2 e3 e4 q2 q3 z3 hx7 qx hqj hbj
                  go_wp2_with fail
                  go_roundw
                  case rel => first | exact ⟨j + 1, by omega, by go_num, congrArg Value.bool HN2.out.symm, HN1.out, HBN.out⟩ | ((repeat apply Exists.intro); exact ⟨⟨j + 1, by omega, by go_num, congrArg Value.bool HN2.out.symm, HN1.out, HBN.out⟩, rfl⟩)
                  case measure => simp [intOf]; omega
                | true =>
                  rw [hpa] at q2
                  have HHNC := Lib.hid hnc
                  go_wp2_with fail
                  go_quiet (fail)
                  have hx7 : Ext wr (wr.drewN nq) := (Ext.refl wr).drewN nq
                  generalize wr.drewN nq = W7 at *
                  have f1 := cell_of_ext hx7 e1
                  have f4 := cell_of_ext hx7 e4
                  have HQ7 := Lib.hid (HQJ.out.ext hx7)
                  obtain ⟨f5, f6⟩ := HQ7.out.at_ hmem.2.2
                  have HN1 := Lib.hid (show BQ (W7.setCell ⟨WR.heap.size, b, none⟩ (.bool true)) WR.heap.size k (ndW (K.take (j + 1)) c0 pr (fun _ => true)) by
                    rw [HT1.out]
                    refine (HQ7.out.set_ b true).congr fun e _ => ?_
                    by_cases h : e = b
                    · subst h; simp [hnc, hpa]
                    · rw [if_neg h]; simp [Ne.symm h])
                  have HN2 := Lib.hid (show ndAny (K.take (j + 1)) c0 pr (fun _ => true) = true by rw [HT2.out]; simp [hnc, hpa])
                  have HBN := Lib.hid ((HBJ.out.trans (hx7.below (by omega))).setCell (p := ⟨WR.heap.size, b, none⟩) (Nat.le_refl _) (.bool true))
                  clear e1 e2 e3 e4 q2 q3 z3 hx7 qx hqj hbj
                  go_wp2_with fail
                  go_roundw
                  case rel => first | exact ⟨j + 1, by omega, by go_num, congrArg Value.bool HN2.out.symm, HN1.out, HBN.out⟩ | ((repeat apply Exists.intro); exact ⟨⟨j + 1, by omega, by go_num, congrArg Value.bool HN2.out.symm, HN1.out, HBN.out⟩, rfl⟩)
                  case measure => simp [intOf]; omega
              · have hb1 : ((nc : Int) == (c0 : Int)) = false := by rw [beq_eq_false_iff_ne]; omega
                have HNO : (decide (nc = c0) && pr a) = false := by rw [decide_eq_false hnc]; rfl
                clear hnc
                go_wp2_with fail
                go_quiet (fail)
                have hx7 : Ext wr (wr.drewN nq) := (Ext.refl wr).drewN nq
                generalize wr.drewN nq = W7 at *
                have HN1 := Lib.hid (show BQ W7 WR.heap.size k (ndW (K.take (j + 1)) c0 pr (fun _ => true)) by
                  rw [HT1.out]
                  refine (HQJ.out.ext hx7).congr fun e _ => ?_
                  simp [HNO])
                have HN2 := Lib.hid (show ndAny (K.take (j + 1)) c0 pr (fun _ => true) = ndAny (K.take j) c0 pr (fun _ => true) by rw [HT2.out]; simp [HNO])
                have HBN := Lib.hid (HBJ.out.trans (hx7.below (by omega)))
                clear e1 e2 e3 e4 q2 q3 z3 hx7 qx hqj hbj
                go_wp2_with fail
                go_roundw
                case rel => first | exact ⟨j + 1, by omega, by go_num, congrArg Value.bool HN2.out.symm, HN1.out, HBN.out⟩ | ((repeat apply Exists.intro); exact ⟨⟨j + 1, by omega, by go_num, congrArg Value.bool HN2.out.symm, HN1.out, HBN.out⟩, rfl⟩)
                case measure => simp [intOf]; omega
            · obtain rfl : j = N := by omega
              have hKf : K.take j = K := List.take_of_length_le (by rw [← HN.out]; exact Nat.le_refl _)
              rw [hKf]
              rw [hKf] at hqj
              have HBF := Lib.hid (HB6.out.trans (hbj.mono (by omega)))
              have HSM := Lib.hid (fun h => nd_some (K := K) (c := c0) (P := k) (p := pr) (q := fun _ => true) (fun x hx => (HKM.out x hx).2.2) h)
              have HQN := Lib.hid hqj
              obtain ⟨sm, hsm⟩ : ∃ sm, sm = ndAny K c0 pr (fun _ => true) := ⟨_, rfl⟩
              rw [← hsm]
              rw [← hsm] at HSTOP HSM
              have HWF := Lib.hid (H5.out.trans (HBF.out.mono (by have := H3.out.size; omega)))
              have hgl2 : w3.heap.size ≤ WR.heap.size := by omega
              clear hqj hbj hKf hsm
              cases sm with
              | false =>
                have HANS := Lib.hid (HSTOP.out rfl)
                go_wp2_with fail
                go_ret2
                exact ⟨by rw [HANS.out]; rfl, HWF.out⟩
              | true =>
                have HQN2 := Lib.hid (show BQ wr WR.heap.size k (runT K (xs.take (i + 1)) (fun _ => true)) by rw [HRT.out]; exact HQN.out)
                have HAN2 := Lib.hid (show anyQ k (runT K (xs.take (i + 1)) (fun _ => true)) = true by rw [HRT.out]; exact HSM.out rfl)
                go_wp2_with fail
                go_roundw
                case rel => first | exact ⟨i + 1, WR.heap.size, by omega, by go_num, rfl, HQN2.out, hgl2, .inr HAN2.out, HBF.out⟩ | ((repeat apply Exists.intro); exact ⟨⟨i + 1, WR.heap.size, by omega, by go_num, rfl, HQN2.out, hgl2, .inr HAN2.out, HBF.out⟩, rfl⟩)
                case measure => simp [intOf]; omega
        · obtain rfl : i = m := by omega
          have HANS := Lib.hid (show anyQ k (runT K xs fun _ => true) = true by
            rcases HANY.out with h0 | h0
            · omega
            · rwa [List.take_of_length_le (by omega)] at h0)
          have HBF := Lib.hid (H5.out.trans (hb.mono (by have := H3.out.size; omega)))
          clear hq hb
          go_wp2_with fail
          go_ret2
          exact ⟨by rw [HANS.out]; rfl, HBF.out⟩

set_option maxRecDepth 100000 in
set_option maxHeartbeats 4000000 in
theorem specIsTrace_no (c0 : Int) (A : Option Addr) (n c : Nat) (ts : List Tl) (h : Int) (B : Option Addr) (m d : Nat) (xs : List Int) (w : World) (hn : n ≤ 1048576) (hl : ts.length = n) (hA : TR w w.heap.size A ts) (hm : m ≤ 1048576) (hlx : xs.length = m) (hB : IR w w.heap.size B xs) (hz : itCode c0 ts h xs ≠ 0) :
    Calls Try.prog 35 #[.agg #[.int .i64 c0, .slice A n c], .int .i64 h, .slice B m d] w (BoolRes w false (itCode c0 ts h xs)) := by
  have hcw : ∀ W, Below w.heap.size w W → Calls Try.prog 70 #[.agg #[.int .i64 c0, .slice A n c], .slice B m d] W _ := fun W hW => l02Code_any c0 A n c ts B m d xs W (by omega) hl ((hA.below hW (Nat.le_refl _)).more hW.size) hm hlx ((hB.below hW (Nat.le_refl _)).more hW.size)
  have hcd : ∀ W, Below w.heap.size w W → Calls Try.prog 69 #[.agg #[.int .i64 c0, .slice A n c], .int .i64 h, .bool (decide (wordCode c0 ts xs = 0))] W _ := fun W hW => l10Code_no c0 A n c ts h (decide (wordCode c0 ts xs = 0)) W (by omega) hl ((hA.below hW (Nat.le_refl _)).more hW.size) hz
  unfold NoCols at hcd
  unfold BoolRes itCode
  have HE := Lib.hid (show decide (wordCode c0 ts xs = 0) = (wordCode c0 ts xs == 0) from by by_cases h : wordCode c0 ts xs = 0 <;> simp [h])
  have HCW := Lib.hid hcw
  have HCD := Lib.hid hcd
  unfold itCode at hz
  have HNZ := Lib.hid hz
  generalize tcCode c0 ts h (decide (wordCode c0 ts xs = 0)) = code at *
  generalize wordCode c0 ts xs = wc at *
  clear hcw hcd hA hB
  have hne : (code != 0) = true := by simp [hz]
  go_enter Try.func35, Try.ntmps35
  go_wp2_with fail
  have hx0 := (Ext.refl w).alloc (Obj.cells #[.int .i64 c0, .slice A n c] 30)
  have hS0 := Blk.new w 30 #[.int .i64 c0, .slice A n c]
  generalize w.alloc (Obj.cells #[.int .i64 c0, .slice A n c] 30) = W0 at *
  have H0 := Lib.hid (hx0.below (Nat.le_refl w.heap.size))
  have HS := Lib.hid hS0
  have r0 := hS0.rd 0 (v := .int .i64 c0) rfl
  have r1 := hS0.rd 1 (v := .slice A n c) rfl
  clear hx0 hS0 hz
  go_region_held3 (fun w' => w'.cell? ⟨w.heap.size, 0, none⟩ = some (.int .i64 c0) ∧ w'.cell? ⟨w.heap.size, 1, none⟩ = some (.slice A n c))
    (first | exact ⟨r0, r1⟩ | exact ⟨r20, r21⟩ | exact ⟨r10, r11⟩ | fail "no keep")
    (first
    | (go_at_call 70; (with_reducible refine (HCW.out _ (by first | exact H0.out | exact H0.out.drew)).mono ?_); rintro e w1 ⟨rfl, hx1⟩; have hx1' : Ext W0 w1 := (by first | exact hx1 | exact ((Ext.refl W0).drew).trans hx1); have HS1 := Lib.hid (HS.out.ext hx1'); have H1 := Lib.hid (H0.out.trans (hx1'.below H0.out.size)); have r10 := HS1.out.rd 0 (v := .int .i64 c0) rfl; have r11 := HS1.out.rd 1 (v := .slice A n c) rfl; clear hx1 hx1')
    | (go_at_call 69; (try rw [← HE.out]); (with_reducible refine (HCD.out _ (by first | exact H1.out | exact H1.out.drew)).mono ?_); rintro e w2 ⟨rfl, hb2⟩; have hb2' : Below w1.heap.size w1 w2 := (by first | exact hb2 | exact (((Ext.refl w1).drew).below (Nat.le_refl _)).trans hb2); have HS2 := Lib.hid (HS1.out.below hb2' HS1.out.lt); have H2 := Lib.hid (H1.out.trans (hb2'.mono H1.out.size)); have r20 := HS2.out.rd 0 (v := .int .i64 c0) rfl; have r21 := HS2.out.rd 1 (v := .slice A n c) rfl; clear hb2 hb2'))
  clear r0 r1 r10 r11 r20 r21
  go_wp2_with fail
  go_ret2
  exact ⟨rfl, H2.out⟩
end Go.Proofs.Ytleabblnikbmpaa
