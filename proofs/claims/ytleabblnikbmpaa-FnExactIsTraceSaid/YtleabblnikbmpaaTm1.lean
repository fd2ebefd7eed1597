/- Columns as the model of the traces tells them: the colour at the north, two words as numbers, and the colour at the south. -/
import Derived.Test.YtleabblnikbmpaaGmA
import Derived.Deep.RegionHeld3
import Derived.BigRegion
import Derived.Lib.Hide
namespace Go.Proofs.Ytleabblnikbmpaa
set_option linter.unusedVariables false
set_option linter.unusedSimpArgs false
open Go.RowKit Go.Sort

/-- The colour at the north of a column, or -1. -/
def northOf (ts : List Tl) (col : List Int) : Int := if col.length = 0 then -1 else (tnum ts col 0).2.1
theorem northOf_snoc (ts : List Tl) (col : List Int) (j : Nat) : northOf ts (col ++ [(j : Int)]) = if col.length = 0 then (ts.getD j T0).2.1 else northOf ts col := by
  cases col with
  | nil => simp [northOf, tnum, List.getD]
  | cons x r => simp [northOf, tnum, List.getD]
def code4 (c : Int) (ts : List Tl) (col : List Int) : List Int := [northOf ts col, wnum c (colW ts col), wnum c (colE ts col), southOf ts col]
def rows4 (c : Int) (ts : List Tl) (cols : List (List Int)) : List (List Int) := cols.map (code4 c ts)
theorem rows4_len (c : Int) (ts : List Tl) (cols : List (List Int)) : (rows4 c ts cols).length = cols.length := by simp [rows4]
theorem rows4_at (c : Int) (ts : List Tl) (cols : List (List Int)) {k : Nat} (hk : k < cols.length) : (rows4 c ts cols).getD k [] = code4 c ts (cols.getD k []) := by simp [rows4, List.getD, hk]
theorem rows4_snoc (c : Int) (ts : List Tl) (cols : List (List Int)) (r : List Int) : rows4 c ts (cols ++ [r]) = rows4 c ts cols ++ [code4 c ts r] := by simp [rows4]
theorem code4_len (c : Int) (ts : List Tl) (col : List Int) : (code4 c ts col).length = 4 := rfl
theorem code4_snoc (c : Int) (ts : List Tl) (col : List Int) (j : Nat) : code4 c ts (col ++ [(j : Int)]) = [if col.length = 0 then (ts.getD j T0).2.1 else northOf ts col, wnum c (colW ts col) * c + (ts.getD j T0).1, wnum c (colE ts col) * c + (ts.getD j T0).2.2.1, (ts.getD j T0).2.2.2] := by
  unfold code4
  rw [southOf_snoc, northOf_snoc]
  simp [colW, colE, wnum_snoc]
theorem rows4_longer (c : Int) (ts : List Tl) (cols : List (List Int)) {k j : Nat} (h : okBelow ts (cols.getD k []) j = true) :
    rows4 c ts (longerL ts (cols.take k) ++ extC ts (cols.getD k []) (j + 1)) = rows4 c ts (longerL ts (cols.take k) ++ extC ts (cols.getD k []) j) ++ [code4 c ts (cols.getD k [] ++ [(j : Int)])] := by
  rw [extC_yes h, ← List.append_assoc, rows4_snoc]
theorem okBelow_zero {ts : List Tl} {col : List Int} (h : col.length = 0) (k : Nat) : okBelow ts col k = true := by simp [okBelow, h]
theorem okBelow_pos {ts : List Tl} {col : List Int} (h : ¬ col.length = 0) (k : Nat) : okBelow ts col k = decide (southOf ts col = (ts.getD k T0).2.1) := by
  unfold okBelow southOf
  rw [decide_eq_false h, if_neg h]; rfl
theorem cols_4096 {ts : List Tl} (h16 : ts.length ≤ 16) {h : Nat} (hh : h ≤ 3) : (colsL ts h).length ≤ 4096 :=
  Nat.le_trans (colsL_16 h16 h) (Nat.le_trans (Nat.pow_le_pow_right (by omega) hh) (by decide))
theorem rdi_four {w : World} {v : Value} {g : Nat} {x y z u : Int} (hb : Blk w g 2 #[.int .i64 x, .int .i64 y, .int .i64 z, .int .i64 u]) (hv : v.ownBlock ≠ some g) : RdI w v (some ⟨g, 0, none⟩) [x, y, z, u] := fun _ => by
  refine ⟨g, 0, rfl, hb.lt, hv, fun k hk => ?_⟩
  rw [hb.cell]
  have hk3 : k < 4 := hk
  rcases k with _ | _ | _ | _ | k
  · rfl
  · rfl
  · rfl
  · rfl
  · omega

set_option maxRecDepth 100000 in
set_option maxHeartbeats 16000000 in
theorem l10Columns_any (C : Nat) (A : Option Addr) (n c : Nat) (ts : List Tl) (h : Nat) (w : World) (hl : ts.length = n) (hA : TR w w.heap.size A ts) (hs : isSet (C : Int) ts = true) (hh : h ≤ 3) :
    Calls Try.prog 114 #[.agg #[.int .i64 (C : Int), .slice A n c], .int .i64 (h : Int)] w fun e w' => ∃ R q, e = .returned (.tuple #[.slice R (colsL ts h).length q, .bool true]) ∧ Below w.heap.size w w' ∧ IRR w' w'.heap.size R (rows4 (C : Int) ts (colsL ts h)) := by
  have hn := isSet_len hs
  have hn16 : ts.length ≤ 16 := hn
  rw [hl] at hn
  have hcc := isSet_col hs
  have HCO := Lib.hid (show colOk C ts from colOk_set hs rfl)
  have HA := Lib.hid hA
  have hC1 : 1 ≤ C := by omega
  have hC6 : C ≤ 6 := by omega
  clear hA hs hcc
  go_enter Try.func114, Try.ntmps114
  go_wp2_with fail
  obtain ⟨W0, hW0⟩ : ∃ W0, ((w.alloc (Obj.cells #[.int .i64 (C : Int), .slice A n c] 30)).alloc (Obj.cells #[.int .i64 (-1), .int .i64 0, .int .i64 0, .int .i64 (-1)] 2)).alloc (Obj.cells #[.slice (some ⟨w.heap.size + 1, 0, none⟩) 4 4] 42) = W0 := ⟨_, rfl⟩
  have hx0 : Ext w W0 := by rw [← hW0]; exact (((Ext.refl w).alloc _).alloc _).alloc _
  have hS : Blk W0 w.heap.size 30 #[.int .i64 (C : Int), .slice A n c] := by rw [← hW0]; exact ((Blk.new w _ _).ext ((Ext.refl _).alloc _)).ext ((Ext.refl _).alloc _)
  have hR1 : Blk W0 (w.heap.size + 1) 2 #[.int .i64 (-1), .int .i64 0, .int .i64 0, .int .i64 (-1)] := by
    rw [← hW0]
    have := (Blk.new (w.alloc (Obj.cells #[.int .i64 (C : Int), .slice A n c] 30)) 2 #[.int .i64 (-1), .int .i64 0, .int .i64 0, .int .i64 (-1)]).ext ((Ext.refl _).alloc (Obj.cells #[.slice (some ⟨w.heap.size + 1, 0, none⟩) 4 4] 42))
    simpa using this
  have hR2 : Blk W0 (w.heap.size + 1 + 1) 42 #[.slice (some ⟨w.heap.size + 1, 0, none⟩) 4 4] := by
    rw [← hW0]
    have := Blk.new ((w.alloc (Obj.cells #[.int .i64 (C : Int), .slice A n c] 30)).alloc (Obj.cells #[.int .i64 (-1), .int .i64 0, .int .i64 0, .int .i64 (-1)] 2)) 42 #[.slice (some ⟨w.heap.size + 1, 0, none⟩) 4 4]
    simpa using this
  rw [hW0]
  have H0 := Lib.hid (hx0.below (Nat.le_refl _))
  have HS := Lib.hid hS
  have HR1 := Lib.hid hR1
  have HR2 := Lib.hid hR2
  have hsz0 : w.heap.size ≤ W0.heap.size := H0.out.size
  clear hx0 hS hR1 hR2 hW0
  go_loopw [6, 7] (fun v ii wr => ∃ (i : Nat) (R : Option Addr) (q : Nat), i ≤ h ∧ ii = .int .i64 i ∧ v = .slice R (colsL ts i).length q ∧ IRR wr wr.heap.size R (rows4 (C : Int) ts (colsL ts i)) ∧ Below W0.heap.size W0 wr) (fun _ ii _ => h - (intOf ii).toNat)
  case atStart =>
    refine ⟨0, _, _, Nat.zero_le _, rfl, rfl, fun _ => ⟨w.heap.size + 1 + 1, 0, rfl, HR2.out.lt, fun k hk => ?_⟩, Below.refl _ _⟩
    have hk0 : k = 0 := by simp [rows4, colsL] at hk; exact hk
    subst hk0
    refine ⟨some ⟨w.heap.size + 1, 0, none⟩, 4, HR2.out.cell 0, Nat.le_refl _, fun _ => ⟨_, _, rfl, HR1.out.lt, fun j hj => ?_⟩⟩
    have hj3 : j < 4 := hj
    rw [HR1.out.cell]
    have e3 : (rows4 (C : Int) ts (colsL ts 0)).getD 0 [] = [-1, 0, 0, -1] := rfl
    rw [e3]
    rcases j with _ | _ | _ | _ | j
    · rfl
    · rfl
    · rfl
    · rfl
    · omega
  case round =>
    obtain ⟨i, R, q, hi, rfl, rfl, hir, hb⟩ := hrel
    have HI := Lib.hid hir
    have HB := Lib.hid hb
    have hszw := hb.size
    clear hir hb
    by_cases hlt : i < h
    · have hlt3 : (i : Int) < (h : Int) := by omega
      have HAT := Lib.hid (fun k (hk : k < (colsL ts i).length) => colsL_at ts i hk)
      have HLO := Lib.hid (show colsL ts (i + 1) = longerL ts (colsL ts i) from rfl)
      have h96 := cols_4096 hn16 (show i + 1 ≤ 3 by omega)
      have h95 := cols_4096 hn16 (show i ≤ 3 by omega)
      rw [HLO.out] at h96
      generalize hcs : colsL ts i = cols at *
      clear hcs
      generalize hNN : cols.length = N at *
      go_wp2_with fail
      have hme : Blk (wr.alloc (Obj.cells #[] 42)) wr.heap.size 42 #[] := Blk.new wr _ _
      have HME := Lib.hid hme
      have HBX := Lib.hid (((Ext.refl wr).alloc (Obj.cells #[] 42)).below (Nat.le_refl wr.heap.size))
      clear hme
      obtain ⟨WR, hWR⟩ : ∃ W1, W1 = wr := ⟨_, rfl⟩
      subst hWR
      go_loopw [8, 9] (fun v kk wr => ∃ k : Nat, k ≤ N ∧ kk = .int .i64 k ∧ OwnS wr WR.heap.size 0 v (rows4 (C : Int) ts (longerL ts (cols.take k))) ∧ Below WR.heap.size WR wr) (fun _ kk _ => N - (intOf kk).toNat)
      case atStart => exact ⟨0, Nat.zero_le _, rfl, OwnS.made (Nat.le_refl _) HME.out, HBX.out⟩
      case round =>
        obtain ⟨k, hk, rfl, hown, hb⟩ := hrel
        have HO := Lib.hid hown
        have HB2 := Lib.hid hb
        clear hown hb
        by_cases hltk : k < N
        · have hltk3 : (k : Int) < (N : Int) := by omega
          obtain ⟨hcl, hca⟩ := HAT.out k (by omega)
          have HLS := Lib.hid (longerL_succ ts cols (i := k) (by omega))
          have HSP := Lib.hid (fun j hj => longerL_split ts cols (i := k) (by omega) j hj)
          obtain ⟨A3, cap3, hv3, -⟩ := HO.out.len
          obtain ⟨bR, oR, rfl, hbR, hcR⟩ := HI.out (by rw [rows4_len]; omega)
          obtain ⟨Q, qc, e1, hq, hQ⟩ := hcR k (by rw [rows4_len]; omega)
          rw [rows4_at (C : Int) ts cols (by omega), code4_len] at e1
          rw [rows4_at (C : Int) ts cols (by omega)] at hQ
          have HC3 := Lib.hid (fun (j : Nat) => code4_snoc (C : Int) ts (cols.getD k []) j)
          have HOZ := Lib.hid (fun (h : (cols.getD k []).length = 0) j => okBelow_zero (ts := ts) h j)
          have HOP := Lib.hid (fun (h : ¬ (cols.getD k []).length = 0) j => okBelow_pos (ts := ts) h j)
          have HR3 := Lib.hid (fun j (hj : okBelow ts (cols.getD k []) j = true) => rows4_longer (C : Int) ts cols (k := k) hj)
          obtain ⟨bq, oq, rfl, hbq, hcq⟩ := hQ (by rw [code4_len]; omega)
          have pn := hcq 0 (by rw [code4_len]; omega)
          have p0 := hcq 1 (by rw [code4_len]; omega)
          have p1 := hcq 2 (by rw [code4_len]; omega)
          have p2 := hcq 3 (by rw [code4_len]; omega)
          rw [show (code4 (C : Int) ts (cols.getD k [])).getD 0 0 = northOf ts (cols.getD k []) from rfl] at pn
          rw [show (code4 (C : Int) ts (cols.getD k [])).getD 1 0 = wnum (C : Int) (colW ts (cols.getD k [])) from rfl] at p0
          rw [show (code4 (C : Int) ts (cols.getD k [])).getD 2 0 = wnum (C : Int) (colE ts (cols.getD k [])) from rfl] at p1
          rw [show (code4 (C : Int) ts (cols.getD k [])).getD 3 0 = southOf ts (cols.getD k []) from rfl] at p2
          obtain ⟨m0, em0, hm0⟩ := wnum_small hC1 hC6 (xs := colW ts (cols.getD k [])) (by rw [colW_len, hcl]; omega) (mem_colW HCO.out hca) 4
          obtain ⟨m1, em1, hm1⟩ := wnum_small hC1 hC6 (xs := colE ts (cols.getD k [])) (by rw [colE_len, hcl]; omega) (mem_colE HCO.out hca) 4
          rw [List.take_of_length_le (by rw [colW_len, hcl]; omega)] at em0
          rw [List.take_of_length_le (by rw [colE_len, hcl]; omega)] at em1
          rw [em0] at p0
          rw [em1] at p1
          have HC4 := Lib.hid (fun (j : Nat) => by have := HC3.out j; rw [em0, em1, hcl] at this; exact this)
          rw [hcl] at HOZ HOP
          clear hcR hQ hcq hca HC3 em0 em1
          generalize southOf ts (cols.getD k []) = sth at *
          generalize northOf ts (cols.getD k []) = nth at *
          generalize cols.getD k [] = col at *
          go_wp2_with fail
          have hown0 := HO.out
          go_loopw [8, 10] (fun v jj wr => ∃ j : Nat, j ≤ n ∧ jj = .int .i64 j ∧ OwnS wr WR.heap.size 0 v (rows4 (C : Int) ts (longerL ts (cols.take k) ++ extC ts col j)) ∧ Below WR.heap.size WR wr) (fun _ jj _ => n - (intOf jj).toNat)
          case atStart => exact ⟨0, Nat.zero_le _, rfl, by rw [extC_zero, List.append_nil]; exact HO.out, HB2.out⟩
          case round =>
            obtain ⟨j, hj, rfl, hown, hb⟩ := hrel
            obtain ⟨A4, cap4, hv4, -⟩ := hown.len
            subst hv4
            have hsp := HSP.out j (by omega)
            rw [← List.length_append] at hsp
            rw [rows4_len] at hown ⊢
            obtain ⟨len, hlen⟩ : ∃ len, (longerL ts (cols.take k) ++ extC ts col j).length = len := ⟨_, rfl⟩
            rw [hlen] at hown hsp ⊢
            have HL := Lib.hid hlen
            have h96' : len ≤ 4096 := by omega
            have HO3 := Lib.hid hown
            have HBK := Lib.hid hb
            have hszk := hb.size
            clear hown hb hlen hsp
            have hbw : Below W0.heap.size W0 wr := HB.out.trans (HBK.out.mono hszw)
            have r1 := (HS.out.below hbw HS.out.lt).rd 1 rfl
            by_cases hltj : j < n
            · have hltj3 : (j : Int) < (n : Int) := by omega
              obtain ⟨b, o, rfl, hbb, ht⟩ := (HA.out.below (H0.out.trans (hbw.mono hsz0)) (Nat.le_refl _)) (by omega)
              replace ht := ht j (by omega)
              have hyy := HCO.out j (by omega)
              have HOZJ := Lib.hid (fun hz => HOZ.out hz j)
              have HOPJ := Lib.hid (fun hz => HOP.out hz j)
              obtain ⟨tj, htj⟩ : ∃ tj, ts.getD j T0 = tj := ⟨_, rfl⟩
              rw [htj] at ht HOPJ hyy
              obtain ⟨a0, a1, a2, a3⟩ := tj
              obtain ⟨ya, yb, ey1, hy1, ey2, hy2⟩ := hyy
              simp only at ey1 ey2
              subst ey1 ey2
              have HTJ := Lib.hid htj
              clear htj
              obtain ⟨c0', c1', c2', c3'⟩ := ht
              simp only at c0' c1' c2' c3' HOPJ
              have hbT : Blk (wr.alloc (Obj.cells #[.int .i64 (ya : Int), .int .i64 a1, .int .i64 (yb : Int), .int .i64 a3] 69)) wr.heap.size 69 #[.int .i64 (ya : Int), .int .i64 a1, .int .i64 (yb : Int), .int .i64 a3] := Blk.new wr _ _
              have HBT := Lib.hid hbT
              have HBA := Lib.hid (HBK.out.trans (((Ext.refl wr).alloc (Obj.cells #[.int .i64 (ya : Int), .int .i64 a1, .int .i64 (yb : Int), .int .i64 a3] 69)).below hszk))
              have f1 := fun dn os => (cell?_grow ((wr.alloc (Obj.cells #[.int .i64 (ya : Int), .int .i64 a1, .int .i64 (yb : Int), .int .i64 a3] 69)).drewN dn) os ⟨bR, oR + k, none⟩ (by show bR < (wr.alloc _).heap.size; simp; omega)).trans ((HBA.out.cell (p := ⟨bR, oR + k, none⟩) hbR).trans e1)
              have f2 := fun dn os => (cell?_grow ((wr.alloc (Obj.cells #[.int .i64 (ya : Int), .int .i64 a1, .int .i64 (yb : Int), .int .i64 a3] 69)).drewN dn) os ⟨bq, oq + 3, none⟩ (by show bq < (wr.alloc _).heap.size; simp; omega)).trans ((HBA.out.cell (p := ⟨bq, oq + 3, none⟩) hbq).trans p2)
              have f3 := fun dn os => hbT.grown dn os 1 (v := .int .i64 a1) rfl
              clear hbw
              by_cases hi0 : i = 0
              · have HI0 := Lib.hid hi0
                have hgt : ¬ (0 : Int) < (i : Int) := by omega
                have hgtN : ¬ 0 < i := by omega
                have heq : ((i : Int) == 0) = true := by rw [beq_iff_eq]; omega
                have HOK := Lib.hid (HOZJ.out hi0)
                clear hi0
                go_wp2_with fail
                refine wp_region_quiet_grown mixed (by kernel_rfl) ?_
                repeat (go_big_quiet_step ((fail)))
                refine wpQuiet_nil ?_
                intro _ hw'
                obtain ⟨⟨nq, osq⟩, hw''⟩ := hw'
                subst hw''
                clear f1 f2 f3 c0' c1' c2' c3' r1
                have HD := Lib.hid (⟨nq, osq, rfl⟩ : Ext (wr.alloc (Obj.cells #[.int .i64 (ya : Int), .int .i64 a1, .int .i64 (yb : Int), .int .i64 a3] 69)) (grow ((wr.alloc (Obj.cells #[.int .i64 (ya : Int), .int .i64 a1, .int .i64 (yb : Int), .int .i64 a3] 69)).drewN nq) osq))
                generalize grow ((wr.alloc (Obj.cells #[.int .i64 (ya : Int), .int .i64 a1, .int .i64 (yb : Int), .int .i64 a3] 69)).drewN nq) osq = w7 at *
                have HX7 := Lib.hid (((Ext.refl wr).alloc _).trans HD.out)
                have BT := Lib.hid (HBT.out.ext HD.out)
                have B7 := Lib.hid (HBK.out.trans (HX7.out.below HBK.out.size))
                have O7 := Lib.hid (HO3.out.ext HX7.out)
                have hf3 : ((len : Int) == 5000) = false := by rw [beq_eq_false_iff_ne]; omega
                have r0 := (HS.out.below (HB.out.trans (B7.out.mono hszw)) HS.out.lt).rd 0 rfl
                have pn' := (B7.out.cell (p := ⟨bq, oq + 0, none⟩) hbq).trans pn
                have p0' := (B7.out.cell (p := ⟨bq, oq + 1, none⟩) hbq).trans p0
                have p1' := (B7.out.cell (p := ⟨bq, oq + 2, none⟩) hbq).trans p1
                have e1' := (B7.out.cell (p := ⟨bR, oR + k, none⟩) hbR).trans e1
                have b0 := BT.out.rd 0 (v := .int .i64 (ya : Int)) rfl
                have b1 := BT.out.rd 1 (v := .int .i64 a1) rfl
                have b2 := BT.out.rd 2 (v := .int .i64 (yb : Int)) rfl
                have b3 := BT.out.rd 3 (v := .int .i64 a3) rfl
                have n0 : some w.heap.size ≠ Value.ownBlock (.slice A4 len cap4) := fun e => by have h8 := (O7.out.lt e.symm).1; have h9 := H0.out.size; have := HS.out.lt; omega
                have n1 : some bR ≠ Value.ownBlock (.slice A4 len cap4) := fun e => by have := (O7.out.lt e.symm).1; omega
                have n2 : some bq ≠ Value.ownBlock (.slice A4 len cap4) := fun e => by have := (O7.out.lt e.symm).1; omega
                have n3 : some wr.heap.size ≠ Value.ownBlock (.slice A4 len cap4) := fun e => by have := (HO3.out.lt e.symm).2; omega
                have NN := Lib.hid (And.intro n0 (And.intro n1 (And.intro n2 n3)))
                have hp7 : (m0 : Int) * (C : Int) ≤ 7776 ∧ 0 ≤ (m0 : Int) * (C : Int) := by
                  have h8 : m0 * C ≤ 1296 * 6 := Nat.mul_le_mul (by omega) hC6
                  have h9 : ((m0 * C : Nat) : Int) = (m0 : Int) * (C : Int) := by push_cast; rfl
                  omega
                have hp8 : (m1 : Int) * (C : Int) ≤ 7776 ∧ 0 ≤ (m1 : Int) * (C : Int) := by
                  have h8 : m1 * C ≤ 1296 * 6 := Nat.mul_le_mul (by omega) hC6
                  have h9 : ((m1 * C : Nat) : Int) = (m1 : Int) * (C : Int) := by push_cast; rfl
                  omega
                have hw1 : IntKind.i64.wrap ((m0 : Int) * (C : Int)) = (m0 : Int) * (C : Int) := IntWalk.i64_in _ (by omega)
                have hw2 : IntKind.i64.wrap ((m1 : Int) * (C : Int)) = (m1 : Int) * (C : Int) := IntWalk.i64_in _ (by omega)
                have hw3 : IntKind.i64.wrap ((m0 : Int) * (C : Int) + (ya : Int)) = (m0 : Int) * (C : Int) + (ya : Int) := IntWalk.i64_in _ (by omega)
                have hw4 : IntKind.i64.wrap ((m1 : Int) * (C : Int) + (yb : Int)) = (m1 : Int) * (C : Int) + (yb : Int) := IntWalk.i64_in _ (by omega)
                have HSZ7 := Lib.hid (show WR.heap.size ≤ w7.heap.size from B7.out.size)
                have HRL := Lib.hid (show (rows4 (C : Int) ts (longerL ts (cols.take k) ++ extC ts col j)).length + 1 ≤ 1048576 by rw [rows4_len, HL.out]; omega)
                clear n0 n1 n2 n3 hp7 hp8 hbT
                rw [Nat.add_zero] at pn'
                go_wp2_with fail
                go_region_held3 (fun w' => w'.cell? ⟨bR, oR + k, none⟩ = some (.slice (some ⟨bq, oq, none⟩) 4 qc) ∧ w'.cell? ⟨bq, oq + 1, none⟩ = some (.int .i64 (m0 : Int)) ∧ w'.cell? ⟨bq, oq + 2, none⟩ = some (.int .i64 (m1 : Int)) ∧ w'.cell? ⟨w.heap.size, 0, none⟩ = some (.int .i64 (C : Int)) ∧ w'.cell? ⟨wr.heap.size, 0, none⟩ = some (.int .i64 (ya : Int)) ∧ w'.cell? ⟨wr.heap.size, 2, none⟩ = some (.int .i64 (yb : Int)) ∧ w'.cell? ⟨wr.heap.size, 3, none⟩ = some (.int .i64 a3))
                  (first | go_keep | exact ⟨hgrow9.cell (by go_simp) NN.out.2.1, hgrow9.cell (by go_simp) NN.out.2.2.1, hgrow9.cell (by go_simp) NN.out.2.2.1, hgrow9.cell (by go_simp) NN.out.1, hgrow9.cell (by go_simp) NN.out.2.2.2, hgrow9.cell (by go_simp) NN.out.2.2.2, hgrow9.cell (by go_simp) NN.out.2.2.2⟩)
                  (first | (refine step_pushS (by rfl) _ _ (by rfl) WR.heap.size 0 _ (rows4 (C : Int) ts (longerL ts (cols.take k) ++ extC ts col j)) (by rfl) w7 O7.out ((two_blks w7 2 42 _ _).2.2.below (Nat.le_refl _)) (w7.heap.size + 1) (some ⟨w7.heap.size, 0, none⟩) 4 4 [a1, (m0 : Int) * (C : Int) + (ya : Int), (m1 : Int) * (C : Int) + (yb : Int), a3] (by rfl) (two_blks w7 2 42 _ _).2.1 (rdi_four (two_blks w7 2 42 _ _).1 (fun e => Nat.lt_irrefl _ (O7.out.lt e).2)) (fun _ _ _ _ => Nat.zero_le _) rfl (Nat.le_refl _) HRL.out HSZ7.out ?_; intro v9 w9 hown9 hgrow9 hb9))
                have O9 := Lib.hid (show OwnS w9 WR.heap.size 0 v9 (rows4 (C : Int) ts (longerL ts (cols.take k) ++ extC ts col (j + 1))) by rw [HR3.out j HOK.out, HC4.out j, HTJ.out, if_pos HI0.out]; exact hown9)
                have B9 := Lib.hid ((((B7.out.alloc HSZ7.out _).alloc (Nat.le_trans HSZ7.out (alloc_le _ _)) _).drew).trans hb9)
                clear hown9 hgrow9 hb9
                go_wp2_with fail
                go_roundw
                case rel => first | exact ⟨j + 1, by omega, by go_num, O9.out, B9.out⟩ | ((repeat apply Exists.intro); exact ⟨⟨j + 1, by omega, by go_num, O9.out, B9.out⟩, rfl⟩)
                case measure => simp [intOf]; omega
              · have HI0 := Lib.hid hi0
                have hgt : (0 : Int) < (i : Int) := by omega
                have hgtN : 0 < i := by omega
                have heq : ((i : Int) == 0) = false := by rw [beq_eq_false_iff_ne]; omega
                by_cases hs1 : sth = a1
                · have hs2 : (sth != a1) = false := by simp [hs1]
                  have HOK := Lib.hid (show okBelow ts col j = true by rw [HOPJ.out hi0, decide_eq_true hs1])
                  go_wp2_with fail
                  refine wp_region_quiet_grown mixed (by kernel_rfl) ?_
                  repeat (go_big_quiet_step ((fail)))
                  refine wpQuiet_nil ?_
                  intro _ hw'
                  obtain ⟨⟨nq, osq⟩, hw''⟩ := hw'
                  subst hw''
                  clear f1 f2 f3 c0' c1' c2' c3' r1
                  have HD := Lib.hid (⟨nq, osq, rfl⟩ : Ext (wr.alloc (Obj.cells #[.int .i64 (ya : Int), .int .i64 a1, .int .i64 (yb : Int), .int .i64 a3] 69)) (grow ((wr.alloc (Obj.cells #[.int .i64 (ya : Int), .int .i64 a1, .int .i64 (yb : Int), .int .i64 a3] 69)).drewN nq) osq))
                  generalize grow ((wr.alloc (Obj.cells #[.int .i64 (ya : Int), .int .i64 a1, .int .i64 (yb : Int), .int .i64 a3] 69)).drewN nq) osq = w7 at *
                  have HX7 := Lib.hid (((Ext.refl wr).alloc _).trans HD.out)
                  have BT := Lib.hid (HBT.out.ext HD.out)
                  have B7 := Lib.hid (HBK.out.trans (HX7.out.below HBK.out.size))
                  have O7 := Lib.hid (HO3.out.ext HX7.out)
                  have hf3 : ((len : Int) == 5000) = false := by rw [beq_eq_false_iff_ne]; omega
                  have r0 := (HS.out.below (HB.out.trans (B7.out.mono hszw)) HS.out.lt).rd 0 rfl
                  have pn' := (B7.out.cell (p := ⟨bq, oq + 0, none⟩) hbq).trans pn
                  have p0' := (B7.out.cell (p := ⟨bq, oq + 1, none⟩) hbq).trans p0
                  have p1' := (B7.out.cell (p := ⟨bq, oq + 2, none⟩) hbq).trans p1
                  have e1' := (B7.out.cell (p := ⟨bR, oR + k, none⟩) hbR).trans e1
                  have b0 := BT.out.rd 0 (v := .int .i64 (ya : Int)) rfl
                  have b1 := BT.out.rd 1 (v := .int .i64 a1) rfl
                  have b2 := BT.out.rd 2 (v := .int .i64 (yb : Int)) rfl
                  have b3 := BT.out.rd 3 (v := .int .i64 a3) rfl
                  have n0 : some w.heap.size ≠ Value.ownBlock (.slice A4 len cap4) := fun e => by have h8 := (O7.out.lt e.symm).1; have h9 := H0.out.size; have := HS.out.lt; omega
                  have n1 : some bR ≠ Value.ownBlock (.slice A4 len cap4) := fun e => by have := (O7.out.lt e.symm).1; omega
                  have n2 : some bq ≠ Value.ownBlock (.slice A4 len cap4) := fun e => by have := (O7.out.lt e.symm).1; omega
                  have n3 : some wr.heap.size ≠ Value.ownBlock (.slice A4 len cap4) := fun e => by have := (HO3.out.lt e.symm).2; omega
                  have NN := Lib.hid (And.intro n0 (And.intro n1 (And.intro n2 n3)))
                  have hp7 : (m0 : Int) * (C : Int) ≤ 7776 ∧ 0 ≤ (m0 : Int) * (C : Int) := by
                    have h8 : m0 * C ≤ 1296 * 6 := Nat.mul_le_mul (by omega) hC6
                    have h9 : ((m0 * C : Nat) : Int) = (m0 : Int) * (C : Int) := by push_cast; rfl
                    omega
                  have hp8 : (m1 : Int) * (C : Int) ≤ 7776 ∧ 0 ≤ (m1 : Int) * (C : Int) := by
                    have h8 : m1 * C ≤ 1296 * 6 := Nat.mul_le_mul (by omega) hC6
                    have h9 : ((m1 * C : Nat) : Int) = (m1 : Int) * (C : Int) := by push_cast; rfl
                    omega
                  have hw1 : IntKind.i64.wrap ((m0 : Int) * (C : Int)) = (m0 : Int) * (C : Int) := IntWalk.i64_in _ (by omega)
                  have hw2 : IntKind.i64.wrap ((m1 : Int) * (C : Int)) = (m1 : Int) * (C : Int) := IntWalk.i64_in _ (by omega)
                  have hw3 : IntKind.i64.wrap ((m0 : Int) * (C : Int) + (ya : Int)) = (m0 : Int) * (C : Int) + (ya : Int) := IntWalk.i64_in _ (by omega)
                  have hw4 : IntKind.i64.wrap ((m1 : Int) * (C : Int) + (yb : Int)) = (m1 : Int) * (C : Int) + (yb : Int) := IntWalk.i64_in _ (by omega)
                  have HSZ7 := Lib.hid (show WR.heap.size ≤ w7.heap.size from B7.out.size)
                  have HRL := Lib.hid (show (rows4 (C : Int) ts (longerL ts (cols.take k) ++ extC ts col j)).length + 1 ≤ 1048576 by rw [rows4_len, HL.out]; omega)
                  clear n0 n1 n2 n3 hp7 hp8 hbT
                  rw [Nat.add_zero] at pn'
                  go_wp2_with fail
                  go_region_held3 (fun w' => w'.cell? ⟨bR, oR + k, none⟩ = some (.slice (some ⟨bq, oq, none⟩) 4 qc) ∧ w'.cell? ⟨bq, oq + 1, none⟩ = some (.int .i64 (m0 : Int)) ∧ w'.cell? ⟨bq, oq + 2, none⟩ = some (.int .i64 (m1 : Int)) ∧ w'.cell? ⟨w.heap.size, 0, none⟩ = some (.int .i64 (C : Int)) ∧ w'.cell? ⟨wr.heap.size, 0, none⟩ = some (.int .i64 (ya : Int)) ∧ w'.cell? ⟨wr.heap.size, 2, none⟩ = some (.int .i64 (yb : Int)) ∧ w'.cell? ⟨wr.heap.size, 3, none⟩ = some (.int .i64 a3))
                    (first | go_keep | exact ⟨hgrow9.cell (by go_simp) NN.out.2.1, hgrow9.cell (by go_simp) NN.out.2.2.1, hgrow9.cell (by go_simp) NN.out.2.2.1, hgrow9.cell (by go_simp) NN.out.1, hgrow9.cell (by go_simp) NN.out.2.2.2, hgrow9.cell (by go_simp) NN.out.2.2.2, hgrow9.cell (by go_simp) NN.out.2.2.2⟩)
                    (first | (refine step_pushS (by rfl) _ _ (by rfl) WR.heap.size 0 _ (rows4 (C : Int) ts (longerL ts (cols.take k) ++ extC ts col j)) (by rfl) w7 O7.out ((two_blks w7 2 42 _ _).2.2.below (Nat.le_refl _)) (w7.heap.size + 1) (some ⟨w7.heap.size, 0, none⟩) 4 4 [nth, (m0 : Int) * (C : Int) + (ya : Int), (m1 : Int) * (C : Int) + (yb : Int), a3] (by rfl) (two_blks w7 2 42 _ _).2.1 (rdi_four (two_blks w7 2 42 _ _).1 (fun e => Nat.lt_irrefl _ (O7.out.lt e).2)) (fun _ _ _ _ => Nat.zero_le _) rfl (Nat.le_refl _) HRL.out HSZ7.out ?_; intro v9 w9 hown9 hgrow9 hb9))
                  have O9 := Lib.hid (show OwnS w9 WR.heap.size 0 v9 (rows4 (C : Int) ts (longerL ts (cols.take k) ++ extC ts col (j + 1))) by rw [HR3.out j HOK.out, HC4.out j, HTJ.out, if_neg HI0.out]; exact hown9)
                  have B9 := Lib.hid ((((B7.out.alloc HSZ7.out _).alloc (Nat.le_trans HSZ7.out (alloc_le _ _)) _).drew).trans hb9)
                  clear hown9 hgrow9 hb9
                  go_wp2_with fail
                  go_roundw
                  case rel => first | exact ⟨j + 1, by omega, by go_num, O9.out, B9.out⟩ | ((repeat apply Exists.intro); exact ⟨⟨j + 1, by omega, by go_num, O9.out, B9.out⟩, rfl⟩)
                  case measure => simp [intOf]; omega
                · have HNK := Lib.hid (show okBelow ts col j = false by rw [HOPJ.out hi0, decide_eq_false hs1])
                  have hs2 : (sth != a1) = true := by simp [hs1]
                  go_wp2_with fail
                  refine wp_region_quiet_grown mixed (by kernel_rfl) ?_
                  repeat (go_big_quiet_step ((fail)))
                  refine wpQuiet_nil ?_
                  intro _ hw'
                  obtain ⟨⟨nq, osq⟩, hw''⟩ := hw'
                  subst hw''
                  clear f1 f2 f3 c0' c1' c2' c3' r1
                  have HX7 := Lib.hid (((Ext.refl wr).alloc (Obj.cells #[.int .i64 (ya : Int), .int .i64 a1, .int .i64 (yb : Int), .int .i64 a3] 69)).trans ⟨nq, osq, rfl⟩)
                  have B7 := Lib.hid (HBK.out.trans (HX7.out.below hszk))
                  have O7 := Lib.hid (show OwnS _ WR.heap.size 0 _ (rows4 (C : Int) ts (longerL ts (cols.take k) ++ extC ts col (j + 1))) by rw [extC_no HNK.out]; exact HO3.out.ext HX7.out)
                  go_wp2_with fail
                  go_roundw
                  case rel => first | exact ⟨j + 1, by omega, by go_num, O7.out, B7.out⟩ | ((repeat apply Exists.intro); exact ⟨⟨j + 1, by omega, by go_num, O7.out, B7.out⟩, rfl⟩)
                  case measure => simp [intOf]; omega
            · obtain rfl : j = n := by omega
              have OF := Lib.hid (show OwnS wr WR.heap.size 0 _ (rows4 (C : Int) ts (longerL ts (cols.take (k + 1)))) by rw [HLS.out, hl]; exact HO3.out)
              go_wp2_with fail
              go_roundw
              case rel => first | exact ⟨k + 1, by omega, by go_num, OF.out, HBK.out⟩ | ((repeat apply Exists.intro); exact ⟨⟨k + 1, by omega, by go_num, OF.out, HBK.out⟩, rfl⟩)
              case measure => simp [intOf]; omega
        · obtain rfl : k = N := by omega
          have hown := HO.out
          rw [List.take_of_length_le (by omega), ← HLO.out] at hown
          obtain ⟨A5, cap5, rfl, -, hirl⟩ := hown.done (Nat.zero_le _)
          rw [rows4_len]
          have HI2 := Lib.hid hirl.irr
          have HBF := Lib.hid (HB.out.trans (HB2.out.mono hszw))
          clear hown hirl HO
          go_wp2_with fail
          go_roundw
          case rel => first | exact ⟨i + 1, A5, cap5, by omega, by go_num, rfl, HI2.out, HBF.out⟩ | ((repeat apply Exists.intro); exact ⟨⟨i + 1, A5, cap5, by omega, by go_num, rfl, HI2.out, HBF.out⟩, rfl⟩)
          case measure => simp [intOf]; omega
    · obtain rfl : i = h := by omega
      go_wp2_with fail
      go_ret2
      exact ⟨R, q, rfl, H0.out.trans (HB.out.mono hsz0), HI.out⟩
end Go.Proofs.Ytleabblnikbmpaa
