/- The widest filling; the model's side. -/
import Derived.Test.YtleabblnikbmpaaTw2
import Derived.Test.YtleabblnikbmpaaTm4
import Derived.Deep.RegionHeld3
import Derived.Deep.DeepCutAuto
namespace Go.Proofs.Ytleabblnikbmpaa
set_option linter.unusedVariables false
set_option linter.unusedSimpArgs false
open Go.RowKit Go.Sort

def fwK (K : List Cq) (p : Nat → Bool) (e : Nat) : Bool := K.any fun k => p k.2.1 && decide (k.2.2 = e)
def fwA (K : List Cq) (p : Nat → Bool) : Bool := K.any fun k => p k.2.1
theorem fwK_take (K : List Cq) {k : Nat} (hk : k < K.length) {nc a b : Nat} (he : K.getD k K0 = (nc, a, b)) (p : Nat → Bool) : fwK (K.take (k + 1)) p = fun e => fwK (K.take k) p e || (p a && decide (b = e)) := by
  funext e
  rw [K_snoc K hk, he]
  simp [fwK, List.any_append]
theorem fwA_take (K : List Cq) {k : Nat} (hk : k < K.length) {nc a b : Nat} (he : K.getD k K0 = (nc, a, b)) (p : Nat → Bool) : fwA (K.take (k + 1)) p = (fwA (K.take k) p || p a) := by
  rw [K_snoc K hk, he]
  simp [fwA, List.any_append]

set_option maxRecDepth 100000 in
set_option maxHeartbeats 8000000 in
theorem specWidest_last (C : Nat) (A : Option Addr) (n c : Nat) (ts : List Tl) (h : Nat) (w : World) (hl : ts.length = n) (hA : TR w w.heap.size A ts) (hs : isSet (C : Int) ts = true) (h1 : 1 ≤ h) (h3 : h ≤ 3) (hal : ∀ j, fwdAny (KK C ts h) j = true) :
    Calls Try.prog 49 #[.agg #[.int .i64 (C : Int), .slice A n c], .int .i64 (h : Int)] w (IntRes w 0 4) := by
  have hn := isSet_len hs
  rw [hl] at hn
  have hcc := isSet_col hs
  have hcd : ∀ W, Below w.heap.size w W → Calls Try.prog 69 #[.agg #[.int .i64 (C : Int), .slice A n c], .int .i64 (h : Int), .bool true] W _ := fun W hW => l10Code_0 C A n c ts h W hl ((hA.below hW (Nat.le_refl _)).more hW.size) hs (by omega) (by omega)
  unfold CodeR4 at hcd
  have hsz : ∀ W, Calls Try.prog 71 #[.agg #[.int .i64 (C : Int), .slice A n c], .int .i64 (h : Int)] W _ := fun W => l06Size_any C A n c h W (by omega) (by omega)
  have hkm := kk_mem (h := h) hs (by omega)
  have hrk := rowsK (h := h) hs (by omega)
  have hp := pow_216 (C := C) (h := h) (by omega) (by omega)
  have hp1 : 1 ≤ C ^ h := Nat.one_le_pow _ _ (by omega)
  have hkl : (KK C ts h).length ≤ 4096 := by rw [KK_len]; exact cols_4096 (by omega) (by omega)
  rw [← KK_len C ts h] at hcd
  unfold IntRes
  have HAL := Lib.hid hal
  have HCD := Lib.hid hcd
  have HZ := Lib.hid hsz
  have HKM := Lib.hid hkm
  have HRK := Lib.hid hrk
  clear hcd hsz hA hs hkm hrk hal
  generalize rows4 (C : Int) ts (colsL ts h) = rs at *
  generalize KK C ts h = K at *
  generalize C ^ h = P at *
  obtain ⟨N, hN⟩ : ∃ N, N = K.length := ⟨_, rfl⟩
  rw [← hN] at HCD hkl
  have HN := Lib.hid hN
  clear hN
  obtain ⟨i0, hi, hz0, hz1, hz2⟩ := info_parts info_bool
  have hmk := fun W => run_make_rowN (P := Try.prog) 79 4 i0 _ (by kernel_rfl) hi hz0 .i64 .i64 P P (Nat.le_refl _) (by rw [hz2]; omega) (by omega) W
  rw [hz1] at hmk
  generalize hcs : madeCells (Value.cells (.bool false)) (P * 1) = cs0 at hmk
  have HF := Lib.hid (made_false hcs.symm)
  clear hcs hi hz0 hz1 hz2
  have HMK := Lib.hid hmk
  go_enter Try.func49, Try.ntmps49
  go_wp2_with fail
  have hx0 := (Ext.refl w).alloc (Obj.cells #[.int .i64 (C : Int), .slice A n c] 30)
  have hS0 := Blk.new w 30 #[.int .i64 (C : Int), .slice A n c]
  generalize w.alloc (Obj.cells #[.int .i64 (C : Int), .slice A n c] 30) = W0 at *
  have H0 := Lib.hid (hx0.below (Nat.le_refl w.heap.size))
  have HS := Lib.hid hS0
  clear hx0 hS0 hmk
  refine (HCD.out _ H0.out).mono ?_
  rintro e w2 ⟨R, q, rfl, hb2, hir⟩
  have HS2 := Lib.hid (HS.out.below hb2 HS.out.lt)
  have H2 := Lib.hid (H0.out.trans (hb2.mono H0.out.size))
  have HIR := Lib.hid hir
  have r20 := HS2.out.rd 0 (v := .int .i64 (C : Int)) rfl
  have r21 := HS2.out.rd 1 (v := .slice A n c) rfl
  clear hb2 hir
  go_wp2_with fail
  refine (HZ.out _).mono ?_
  rintro e w3 ⟨rfl, hx3⟩
  have H3 := Lib.hid (H2.out.trans (hx3.below H2.out.size))
  have HI3 := Lib.hid (HIR.out.below (hx3.below (Nat.le_refl _)) (Nat.le_refl _))
  have hs3 := (hx3.below (Nat.le_refl w2.heap.size)).size
  clear hx3 r20 r21
  have hmk := HMK.out
  go_wp2_with fail
  have hq4 := BQ.new (W := w3) HF.out
  have hx4 := (Ext.refl w3).alloc (Obj.cells cs0 4)
  have hsz4 : (w3.alloc (Obj.cells cs0 4)).heap.size = w3.heap.size + 1 := by simp
  generalize w3.alloc (Obj.cells cs0 4) = W4 at *
  have HQ4 := Lib.hid (hq4.congr (q := fun x => decide (x < 0)) (fun x _ => by simp))
  have H4 := Lib.hid (hx4.below (Nat.le_refl w3.heap.size))
  have HSZ4 := Lib.hid (show W4.heap.size = w3.heap.size + 1 from hsz4)
  clear hq4 hx4 hsz4 hmk
  go_loopw [10] (fun ii wr => ∃ k : Nat, k ≤ P ∧ ii = .int .i64 k ∧ BQ wr w3.heap.size P (fun x => decide (x < k)) ∧ Below w3.heap.size W4 wr) (fun ii _ => P - (intOf ii).toNat)
  case atStart => exact ⟨0, Nat.zero_le _, rfl, HQ4.out, Below.refl _ _⟩
  case round =>
    obtain ⟨k, hk, rfl, hq, hb⟩ := hrel
    by_cases hlt : k < P
    · have hlt3 : (k : Int) < (P : Int) := by omega
      obtain ⟨q3, z3⟩ := hq.at_ hlt
      have HQ5 := Lib.hid ((hq.set_ k true).congr (q := fun x => decide (x < k + 1)) (fun x _ => congrFun upto_set x))
      have HB5 := Lib.hid (hb.setCell (p := ⟨w3.heap.size, k, none⟩) (Nat.le_refl _) (.bool true))
      clear hq hb
      go_wp2_with fail
      go_roundw
      case rel => exact ⟨k + 1, by omega, by go_num, HQ5.out, HB5.out⟩
      case measure => simp [intOf]; omega
    · obtain rfl : k = P := by omega
      have hs5 := hb.size
      obtain ⟨W5, hW5⟩ : ∃ W, W = wr := ⟨_, rfl⟩
      subst hW5
      have HQ5 := Lib.hid (hq.congr (q := fwdW K 0) (fun x hx => decide_eq_true hx))
      have hB5 := H4.out.trans (hb.mono (Nat.le_refl _))
      have H5 := Lib.hid (H3.out.trans (hB5.mono H3.out.size))
      have HI5 := Lib.hid ((HI3.out.below (B := w2.heap.size) (hB5.mono hs3) (Nat.le_refl _)))
      have hs6 : w2.heap.size ≤ w3.heap.size := hs3
      have hs7 : w3.heap.size < W5.heap.size := by have := HSZ4.out; omega
      clear hq hb hB5
      go_wp2_with fail
      go_loopw [9, 11] (fun v ii wr => ∃ i g : Nat, i ≤ N + 1 ∧ ii = .int .i64 i ∧ v = .slice (some ⟨g, 0, none⟩) k k ∧ BQ wr g k (fwdW K i) ∧ w3.heap.size ≤ g ∧ Below w3.heap.size W5 wr) (fun _ ii _ => N + 1 - (intOf ii).toNat)
      case atStart => exact ⟨0, w3.heap.size, Nat.zero_le _, rfl, rfl, HQ5.out, Nat.le_refl _, Below.refl _ _⟩
      case round =>
        obtain ⟨i, g, hi, rfl, rfl, hq, hgl, hb⟩ := hrel
        have HQ := Lib.hid hq
        have HBB := Lib.hid hb
        have hszr := hb.size
        by_cases hlt : i ≤ N
        · skip
          have hlt3 : (i : Int) ≤ (N : Int) := by omega
          have HF1 := Lib.hid (show fwdW K (i + 1) = fwK K (fwdW K i) from rfl)
          have HF2 := Lib.hid (show fwdAny K i = fwA K (fwdW K i) from rfl)
          generalize fwdW K i = pr at *
          have hmk := HMK.out
          clear hq hb
          have hq6 := BQ.new (W := wr) HF.out
          have hx6 := (Ext.refl wr).alloc (Obj.cells cs0 4)
          have hsz6 : (wr.alloc (Obj.cells cs0 4)).heap.size = wr.heap.size + 1 := by simp
          go_wp2_with fail
          generalize wr.alloc (Obj.cells cs0 4) = W6 at *
          obtain ⟨WR, hWR⟩ : ∃ W, W = wr := ⟨_, rfl⟩
          subst hWR
          have HQ6 := Lib.hid (hq6.congr (q := fwK (K.take 0) pr) (fun x _ => by simp [fwK]))
          have hB6 := hx6.below (Nat.le_refl WR.heap.size)
          have HB6 := Lib.hid (HBB.out.trans (hB6.mono (by omega)))
          have HP6 := Lib.hid (HQ.out.below hB6 HQ.out.lt)
          have hgr : g < WR.heap.size := HQ.out.lt
          have hws : w.heap.size ≤ WR.heap.size := by have := H3.out.size; omega
          have HI6 := Lib.hid ((HI5.out.below (HBB.out.mono hs6) (by have := HSZ4.out; omega)).below (hB6.mono (by omega)) (Nat.le_refl _))
          clear hq6 hx6 hB6 hmk
          go_loopw [13, 14] (fun sv kk wr2 => ∃ j : Nat, j ≤ N ∧ kk = .int .i64 j ∧ sv = .bool (fwA (K.take j) pr) ∧ BQ wr2 WR.heap.size k (fwK (K.take j) pr) ∧ Below WR.heap.size W6 wr2) (fun _ kk _ => N - (intOf kk).toNat)
          case atStart => exact ⟨0, Nat.zero_le _, rfl, by simp [fwA], HQ6.out, Below.refl _ _⟩
          case round =>
            obtain ⟨j, hj, rfl, rfl, hqj, hbj⟩ := hrel
            have HQJ := Lib.hid hqj
            have HBJ := Lib.hid hbj
            have hszj := hbj.size
            by_cases hltj : j < N
            · have hltj3 : (j : Int) < (N : Int) := by omega
              obtain ⟨nc, a, b, sx, hK, hR⟩ := HRK.out.2 j (by rw [← HN.out]; exact hltj)
              obtain ⟨bR, oR, bq, oq, qq, rfl, hbR, hbq, e1, e2, e3, e4⟩ := row_cells HI6.out (by rw [HRK.out.1, ← HN.out]; exact hltj) hR
              have hmem := HKM.out (K.getD j K0) (by simp [List.getD, show j < K.length by rw [← HN.out]; exact hltj])
              rw [hK] at hmem
              simp only at hmem
              have HT1 := Lib.hid (fwK_take K (k := j) (by rw [← HN.out]; exact hltj) hK pr)
              have HT2 := Lib.hid (fwA_take K (k := j) (by rw [← HN.out]; exact hltj) hK pr)
              replace e1 := (hbj.cell (p := ⟨bR, oR + j, none⟩) (by show bR < WR.heap.size; omega)).trans e1
              replace e3 := (hbj.cell (p := ⟨bq, oq + 1, none⟩) (by show bq < WR.heap.size; omega)).trans e3
              replace e4 := (hbj.cell (p := ⟨bq, oq + 2, none⟩) (by show bq < WR.heap.size; omega)).trans e4
              have q2 := ((HP6.out.below hbj hgr).at_ hmem.2.1).1
              obtain ⟨q3, z3⟩ := hqj.at_ hmem.2.2
              have ha3 : (a : Int) < (k : Int) := by omega
              have hb3 : (b : Int) < (k : Int) := by omega
              clear hK hR e2
              cases hpa : pr a with
              | false =>
                rw [hpa] at q2
                have HN1 := Lib.hid (show BQ wr WR.heap.size k (fwK (K.take (j + 1)) pr) by
                  rw [HT1.out]
                  refine HQJ.out.congr fun e _ => ?_
                  simp [hpa])
                have HN2 := Lib.hid (show fwA (K.take (j + 1)) pr = fwA (K.take j) pr by rw [HT2.out]; simp [hpa])
                clear hqj hbj hpa
                go_wp2_with fail
                go_roundw
                case rel => first | exact ⟨j + 1, by omega, by go_num, congrArg Value.bool HN2.out.symm, HN1.out, HBJ.out⟩ | ((repeat apply Exists.intro); exact ⟨⟨j + 1, by omega, by go_num, congrArg Value.bool HN2.out.symm, HN1.out, HBJ.out⟩, rfl⟩)
                case measure => simp [intOf]; omega
              | true =>
                rw [hpa] at q2
                have HN1 := Lib.hid (show BQ (wr.setCell ⟨WR.heap.size, b, none⟩ (.bool true)) WR.heap.size k (fwK (K.take (j + 1)) pr) by
                  rw [HT1.out]
                  refine (HQJ.out.set_ b true).congr fun e _ => ?_
                  by_cases h : e = b
                  · subst h; simp [hpa]
                  · rw [if_neg h]; simp [Ne.symm h])
                have HN2 := Lib.hid (show fwA (K.take (j + 1)) pr = true by rw [HT2.out]; simp [hpa])
                have HBN := Lib.hid (HBJ.out.setCell (p := ⟨WR.heap.size, b, none⟩) (Nat.le_refl _) (.bool true))
                clear hqj hbj hpa
                go_wp2_with fail
                go_roundw
                case rel => first | exact ⟨j + 1, by omega, by go_num, congrArg Value.bool HN2.out.symm, HN1.out, HBN.out⟩ | ((repeat apply Exists.intro); exact ⟨⟨j + 1, by omega, by go_num, congrArg Value.bool HN2.out.symm, HN1.out, HBN.out⟩, rfl⟩)
                case measure => simp [intOf]; omega
            · obtain rfl : j = N := by omega
              have hKf : K.take j = K := List.take_of_length_le (by rw [← HN.out]; exact Nat.le_refl _)
              rw [hKf]
              rw [hKf] at hqj
              have HBF := Lib.hid (HB6.out.trans (hbj.mono (by omega)))
              have HQN2 := Lib.hid (show BQ wr WR.heap.size k (fwdW K (i + 1)) by rw [HF1.out]; exact hqj)
              have HWF := Lib.hid (H5.out.trans (HBF.out.mono (by have := H3.out.size; omega)))
              have hgl2 : w3.heap.size ≤ WR.heap.size := by omega
              clear hqj hbj hKf
              have hsm : fwA K pr = true := by rw [← HF2.out]; exact HAL.out i
              rw [hsm]
              clear hsm
              go_wp2_with fail
              go_roundw
              case rel => first | exact ⟨i + 1, WR.heap.size, by omega, by go_num, rfl, HQN2.out, hgl2, HBF.out⟩ | ((repeat apply Exists.intro); exact ⟨⟨i + 1, WR.heap.size, by omega, by go_num, rfl, HQN2.out, hgl2, HBF.out⟩, rfl⟩)
              case measure => simp [intOf]; omega
        · obtain rfl : i = N + 1 := by omega
          have HBF := Lib.hid (H5.out.trans (hb.mono (by have := H3.out.size; omega)))
          have hlt3 : ¬ ((N + 1 : Nat) : Int) ≤ (N : Int) := by omega
          clear hq hb
          go_wp2_with fail
          go_ret2
          exact ⟨rfl, HBF.out⟩


set_option maxRecDepth 100000 in
set_option maxHeartbeats 8000000 in
theorem specWidest_end (C : Nat) (A : Option Addr) (n c : Nat) (ts : List Tl) (h : Nat) (w : World) (hl : ts.length = n) (hA : TR w w.heap.size A ts) (hs : isSet (C : Int) ts = true) (h1 : 1 ≤ h) (h3 : h ≤ 3) (r : Nat) (hrn : r ≤ (KK C ts h).length) (hr1 : ∀ j, j < r → fwdAny (KK C ts h) j = true) (hr2 : fwdAny (KK C ts h) r = false) :
    Calls Try.prog 49 #[.agg #[.int .i64 (C : Int), .slice A n c], .int .i64 (h : Int)] w (IntRes w (r : Int) 0) := by
  have hn := isSet_len hs
  rw [hl] at hn
  have hcc := isSet_col hs
  have hcd : ∀ W, Below w.heap.size w W → Calls Try.prog 69 #[.agg #[.int .i64 (C : Int), .slice A n c], .int .i64 (h : Int), .bool true] W _ := fun W hW => l10Code_0 C A n c ts h W hl ((hA.below hW (Nat.le_refl _)).more hW.size) hs (by omega) (by omega)
  unfold CodeR4 at hcd
  have hsz : ∀ W, Calls Try.prog 71 #[.agg #[.int .i64 (C : Int), .slice A n c], .int .i64 (h : Int)] W _ := fun W => l06Size_any C A n c h W (by omega) (by omega)
  have hkm := kk_mem (h := h) hs (by omega)
  have hrk := rowsK (h := h) hs (by omega)
  have hp := pow_216 (C := C) (h := h) (by omega) (by omega)
  have hp1 : 1 ≤ C ^ h := Nat.one_le_pow _ _ (by omega)
  have hkl : (KK C ts h).length ≤ 4096 := by rw [KK_len]; exact cols_4096 (by omega) (by omega)
  rw [← KK_len C ts h] at hcd
  unfold IntRes
  have HR1 := Lib.hid hr1
  have HR2 := Lib.hid hr2
  have HRN := Lib.hid hrn
  have hr9 : r ≤ 4096 := by omega
  have HCD := Lib.hid hcd
  have HZ := Lib.hid hsz
  have HKM := Lib.hid hkm
  have HRK := Lib.hid hrk
  clear hcd hsz hA hs hkm hrk hrn hr1 hr2
  generalize rows4 (C : Int) ts (colsL ts h) = rs at *
  generalize KK C ts h = K at *
  generalize C ^ h = P at *
  obtain ⟨N, hN⟩ : ∃ N, N = K.length := ⟨_, rfl⟩
  rw [← hN] at HCD hkl
  have HN := Lib.hid hN
  clear hN
  obtain ⟨i0, hi, hz0, hz1, hz2⟩ := info_parts info_bool
  have hmk := fun W => run_make_rowN (P := Try.prog) 79 4 i0 _ (by kernel_rfl) hi hz0 .i64 .i64 P P (Nat.le_refl _) (by rw [hz2]; omega) (by omega) W
  rw [hz1] at hmk
  generalize hcs : madeCells (Value.cells (.bool false)) (P * 1) = cs0 at hmk
  have HF := Lib.hid (made_false hcs.symm)
  clear hcs hi hz0 hz1 hz2
  have HMK := Lib.hid hmk
  go_enter Try.func49, Try.ntmps49
  go_wp2_with fail
  have hx0 := (Ext.refl w).alloc (Obj.cells #[.int .i64 (C : Int), .slice A n c] 30)
  have hS0 := Blk.new w 30 #[.int .i64 (C : Int), .slice A n c]
  generalize w.alloc (Obj.cells #[.int .i64 (C : Int), .slice A n c] 30) = W0 at *
  have H0 := Lib.hid (hx0.below (Nat.le_refl w.heap.size))
  have HS := Lib.hid hS0
  clear hx0 hS0 hmk
  refine (HCD.out _ H0.out).mono ?_
  rintro e w2 ⟨R, q, rfl, hb2, hir⟩
  have HS2 := Lib.hid (HS.out.below hb2 HS.out.lt)
  have H2 := Lib.hid (H0.out.trans (hb2.mono H0.out.size))
  have HIR := Lib.hid hir
  have r20 := HS2.out.rd 0 (v := .int .i64 (C : Int)) rfl
  have r21 := HS2.out.rd 1 (v := .slice A n c) rfl
  clear hb2 hir
  go_wp2_with fail
  refine (HZ.out _).mono ?_
  rintro e w3 ⟨rfl, hx3⟩
  have H3 := Lib.hid (H2.out.trans (hx3.below H2.out.size))
  have HI3 := Lib.hid (HIR.out.below (hx3.below (Nat.le_refl _)) (Nat.le_refl _))
  have hs3 := (hx3.below (Nat.le_refl w2.heap.size)).size
  clear hx3 r20 r21
  have hmk := HMK.out
  go_wp2_with fail
  have hq4 := BQ.new (W := w3) HF.out
  have hx4 := (Ext.refl w3).alloc (Obj.cells cs0 4)
  have hsz4 : (w3.alloc (Obj.cells cs0 4)).heap.size = w3.heap.size + 1 := by simp
  generalize w3.alloc (Obj.cells cs0 4) = W4 at *
  have HQ4 := Lib.hid (hq4.congr (q := fun x => decide (x < 0)) (fun x _ => by simp))
  have H4 := Lib.hid (hx4.below (Nat.le_refl w3.heap.size))
  have HSZ4 := Lib.hid (show W4.heap.size = w3.heap.size + 1 from hsz4)
  clear hq4 hx4 hsz4 hmk
  go_loopw [10] (fun ii wr => ∃ k : Nat, k ≤ P ∧ ii = .int .i64 k ∧ BQ wr w3.heap.size P (fun x => decide (x < k)) ∧ Below w3.heap.size W4 wr) (fun ii _ => P - (intOf ii).toNat)
  case atStart => exact ⟨0, Nat.zero_le _, rfl, HQ4.out, Below.refl _ _⟩
  case round =>
    obtain ⟨k, hk, rfl, hq, hb⟩ := hrel
    by_cases hlt : k < P
    · have hlt3 : (k : Int) < (P : Int) := by omega
      obtain ⟨q3, z3⟩ := hq.at_ hlt
      have HQ5 := Lib.hid ((hq.set_ k true).congr (q := fun x => decide (x < k + 1)) (fun x _ => congrFun upto_set x))
      have HB5 := Lib.hid (hb.setCell (p := ⟨w3.heap.size, k, none⟩) (Nat.le_refl _) (.bool true))
      clear hq hb
      go_wp2_with fail
      go_roundw
      case rel => exact ⟨k + 1, by omega, by go_num, HQ5.out, HB5.out⟩
      case measure => simp [intOf]; omega
    · obtain rfl : k = P := by omega
      have hs5 := hb.size
      obtain ⟨W5, hW5⟩ : ∃ W, W = wr := ⟨_, rfl⟩
      subst hW5
      have HQ5 := Lib.hid (hq.congr (q := fwdW K 0) (fun x hx => decide_eq_true hx))
      have hB5 := H4.out.trans (hb.mono (Nat.le_refl _))
      have H5 := Lib.hid (H3.out.trans (hB5.mono H3.out.size))
      have HI5 := Lib.hid ((HI3.out.below (B := w2.heap.size) (hB5.mono hs3) (Nat.le_refl _)))
      have hs6 : w2.heap.size ≤ w3.heap.size := hs3
      have hs7 : w3.heap.size < W5.heap.size := by have := HSZ4.out; omega
      clear hq hb hB5
      go_wp2_with fail
      go_loopw [9, 11] (fun v ii wr => ∃ i g : Nat, i ≤ r ∧ ii = .int .i64 i ∧ v = .slice (some ⟨g, 0, none⟩) k k ∧ BQ wr g k (fwdW K i) ∧ w3.heap.size ≤ g ∧ Below w3.heap.size W5 wr) (fun _ ii _ => N + 1 - (intOf ii).toNat)
      case atStart => exact ⟨0, w3.heap.size, Nat.zero_le _, rfl, rfl, HQ5.out, Nat.le_refl _, Below.refl _ _⟩
      case round =>
        obtain ⟨i, g, hi, rfl, rfl, hq, hgl, hb⟩ := hrel
        have HQ := Lib.hid hq
        have HBB := Lib.hid hb
        have hszr := hb.size
        have hlt : i ≤ N := by have := HRN.out; rw [← HN.out] at this; omega
        have hlt3 : (i : Int) ≤ (N : Int) := by omega
        have HF1 := Lib.hid (show fwdW K (i + 1) = fwK K (fwdW K i) from rfl)
        have HF2 := Lib.hid (show fwdAny K i = fwA K (fwdW K i) from rfl)
        generalize fwdW K i = pr at *
        have hmk := HMK.out
        clear hq hb
        have hq6 := BQ.new (W := wr) HF.out
        have hx6 := (Ext.refl wr).alloc (Obj.cells cs0 4)
        have hsz6 : (wr.alloc (Obj.cells cs0 4)).heap.size = wr.heap.size + 1 := by simp
        go_wp2_with fail
        generalize wr.alloc (Obj.cells cs0 4) = W6 at *
        obtain ⟨WR, hWR⟩ : ∃ W, W = wr := ⟨_, rfl⟩
        subst hWR
        have HQ6 := Lib.hid (hq6.congr (q := fwK (K.take 0) pr) (fun x _ => by simp [fwK]))
        have hB6 := hx6.below (Nat.le_refl WR.heap.size)
        have HB6 := Lib.hid (HBB.out.trans (hB6.mono (by omega)))
        have HP6 := Lib.hid (HQ.out.below hB6 HQ.out.lt)
        have hgr : g < WR.heap.size := HQ.out.lt
        have hws : w.heap.size ≤ WR.heap.size := by have := H3.out.size; omega
        have HI6 := Lib.hid ((HI5.out.below (HBB.out.mono hs6) (by have := HSZ4.out; omega)).below (hB6.mono (by omega)) (Nat.le_refl _))
        clear hq6 hx6 hB6 hmk
        go_loopw [13, 14] (fun sv kk wr2 => ∃ j : Nat, j ≤ N ∧ kk = .int .i64 j ∧ sv = .bool (fwA (K.take j) pr) ∧ BQ wr2 WR.heap.size k (fwK (K.take j) pr) ∧ Below WR.heap.size W6 wr2) (fun _ kk _ => N - (intOf kk).toNat)
        case atStart => exact ⟨0, Nat.zero_le _, rfl, by simp [fwA], HQ6.out, Below.refl _ _⟩
        case round =>
          obtain ⟨j, hj, rfl, rfl, hqj, hbj⟩ := hrel
          have HQJ := Lib.hid hqj
          have HBJ := Lib.hid hbj
          have hszj := hbj.size
          by_cases hltj : j < N
          · have hltj3 : (j : Int) < (N : Int) := by omega
            obtain ⟨nc, a, b, sx, hK, hR⟩ := HRK.out.2 j (by rw [← HN.out]; exact hltj)
            obtain ⟨bR, oR, bq, oq, qq, rfl, hbR, hbq, e1, e2, e3, e4⟩ := row_cells HI6.out (by rw [HRK.out.1, ← HN.out]; exact hltj) hR
            have hmem := HKM.out (K.getD j K0) (by simp [List.getD, show j < K.length by rw [← HN.out]; exact hltj])
            rw [hK] at hmem
            simp only at hmem
            have HT1 := Lib.hid (fwK_take K (k := j) (by rw [← HN.out]; exact hltj) hK pr)
            have HT2 := Lib.hid (fwA_take K (k := j) (by rw [← HN.out]; exact hltj) hK pr)
            replace e1 := (hbj.cell (p := ⟨bR, oR + j, none⟩) (by show bR < WR.heap.size; omega)).trans e1
            replace e3 := (hbj.cell (p := ⟨bq, oq + 1, none⟩) (by show bq < WR.heap.size; omega)).trans e3
            replace e4 := (hbj.cell (p := ⟨bq, oq + 2, none⟩) (by show bq < WR.heap.size; omega)).trans e4
            have q2 := ((HP6.out.below hbj hgr).at_ hmem.2.1).1
            obtain ⟨q3, z3⟩ := hqj.at_ hmem.2.2
            have ha3 : (a : Int) < (k : Int) := by omega
            have hb3 : (b : Int) < (k : Int) := by omega
            clear hK hR e2
            cases hpa : pr a with
            | false =>
              rw [hpa] at q2
              have HN1 := Lib.hid (show BQ wr WR.heap.size k (fwK (K.take (j + 1)) pr) by
                rw [HT1.out]
                refine HQJ.out.congr fun e _ => ?_
                simp [hpa])
              have HN2 := Lib.hid (show fwA (K.take (j + 1)) pr = fwA (K.take j) pr by rw [HT2.out]; simp [hpa])
              clear hqj hbj hpa
              go_wp2_with fail
              go_roundw
              case rel => first | exact ⟨j + 1, by omega, by go_num, congrArg Value.bool HN2.out.symm, HN1.out, HBJ.out⟩ | ((repeat apply Exists.intro); exact ⟨⟨j + 1, by omega, by go_num, congrArg Value.bool HN2.out.symm, HN1.out, HBJ.out⟩, rfl⟩)
              case measure => simp [intOf]; omega
            | true =>
              rw [hpa] at q2
              have HN1 := Lib.hid (show BQ (wr.setCell ⟨WR.heap.size, b, none⟩ (.bool true)) WR.heap.size k (fwK (K.take (j + 1)) pr) by
                rw [HT1.out]
                refine (HQJ.out.set_ b true).congr fun e _ => ?_
                by_cases h : e = b
                · subst h; simp [hpa]
                · rw [if_neg h]; simp [Ne.symm h])
              have HN2 := Lib.hid (show fwA (K.take (j + 1)) pr = true by rw [HT2.out]; simp [hpa])
              have HBN := Lib.hid (HBJ.out.setCell (p := ⟨WR.heap.size, b, none⟩) (Nat.le_refl _) (.bool true))
              clear hqj hbj hpa
              go_wp2_with fail
              go_roundw
              case rel => first | exact ⟨j + 1, by omega, by go_num, congrArg Value.bool HN2.out.symm, HN1.out, HBN.out⟩ | ((repeat apply Exists.intro); exact ⟨⟨j + 1, by omega, by go_num, congrArg Value.bool HN2.out.symm, HN1.out, HBN.out⟩, rfl⟩)
              case measure => simp [intOf]; omega
          · obtain rfl : j = N := by omega
            have hKf : K.take j = K := List.take_of_length_le (by rw [← HN.out]; exact Nat.le_refl _)
            rw [hKf]
            rw [hKf] at hqj
            have HBF := Lib.hid (HB6.out.trans (hbj.mono (by omega)))
            have HQN2 := Lib.hid (show BQ wr WR.heap.size k (fwdW K (i + 1)) by rw [HF1.out]; exact hqj)
            have HWF := Lib.hid (H5.out.trans (HBF.out.mono (by have := H3.out.size; omega)))
            have hgl2 : w3.heap.size ≤ WR.heap.size := by omega
            clear hqj hbj hKf
            by_cases hir2 : i < r
            · have hsm : fwA K pr = true := by rw [← HF2.out]; exact HR1.out i hir2
              rw [hsm]
              clear hsm
              go_wp2_with fail
              go_roundw
              case rel => first | exact ⟨i + 1, WR.heap.size, by omega, by go_num, rfl, HQN2.out, hgl2, HBF.out⟩ | ((repeat apply Exists.intro); exact ⟨⟨i + 1, WR.heap.size, by omega, by go_num, rfl, HQN2.out, hgl2, HBF.out⟩, rfl⟩)
              case measure => simp [intOf]; omega
            · obtain rfl : i = r := by omega
              have hsm : fwA K pr = false := by rw [← HF2.out]; exact HR2.out
              rw [hsm]
              clear hsm
              go_wp2_with fail
              go_ret2
              exact ⟨rfl, HWF.out⟩


set_option maxRecDepth 100000 in
theorem specWidest_no (c0 : Int) (A : Option Addr) (n c : Nat) (ts : List Tl) (h : Int) (w : World) (hn : n ≤ 1048576) (hl : ts.length = n) (hA : TR w w.heap.size A ts) (hz : tcCode c0 ts h true ≠ 0) :
    Calls Try.prog 49 #[.agg #[.int .i64 c0, .slice A n c], .int .i64 h] w (IntRes w 0 (tcCode c0 ts h true)) := by
  have hcd : ∀ W, Below w.heap.size w W → Calls Try.prog 69 #[.agg #[.int .i64 c0, .slice A n c], .int .i64 h, .bool true] W _ := fun W hW => l10Code_no c0 A n c ts h true W (by omega) hl ((hA.below hW (Nat.le_refl _)).more hW.size) hz
  unfold NoCols at hcd
  unfold IntRes
  generalize tcCode c0 ts h true = code at *
  have hne : (code != 0) = true := by simp [hz]
  have HCD := Lib.hid hcd
  clear hcd hA hz
  go_enter Try.func49, Try.ntmps49
  go_wp2_with fail
  have hx0 := (Ext.refl w).alloc (Obj.cells #[.int .i64 c0, .slice A n c] 30)
  generalize w.alloc (Obj.cells #[.int .i64 c0, .slice A n c] 30) = W0 at *
  have H0 := Lib.hid (hx0.below (Nat.le_refl w.heap.size))
  clear hx0
  refine (HCD.out _ H0.out).mono ?_
  rintro e w2 ⟨rfl, hb2⟩
  have H2 := Lib.hid (H0.out.trans (hb2.mono H0.out.size))
  clear hb2
  go_wp2_with fail
  go_ret2
  exact ⟨rfl, H2.out⟩
end Go.Proofs.Ytleabblnikbmpaa
