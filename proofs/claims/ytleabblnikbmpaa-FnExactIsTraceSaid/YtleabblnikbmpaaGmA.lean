/- Columns as the model tells them: two words as numbers, and a colour. -/
import Derived.Test.YtleabblnikbmpaaGcA
import Derived.Test.YtleabblnikbmpaaGcC
import Derived.Deep.RegionHeld3
import Derived.BigRegion
import Derived.Lib.Hide
import Derived.Test.YtleabblnikbmpaaCnt2
namespace Go.Proofs.Ytleabblnikbmpaa
section
set_option linter.unusedVariables false
set_option linter.unusedSimpArgs false
open Go.RowKit Go.Sort

/-- The colour at the south of a column, or -1. -/
def southOf (ts : List Tl) (col : List Int) : Int := if col.length = 0 then -1 else (tnum ts col (col.length - 1)).2.2.2
def code3 (c : Int) (ts : List Tl) (col : List Int) : List Int := [wnum c (colW ts col), wnum c (colE ts col), southOf ts col]
def rows3 (c : Int) (ts : List Tl) (cols : List (List Int)) : List (List Int) := cols.map (code3 c ts)
theorem rows3_len (c : Int) (ts : List Tl) (cols : List (List Int)) : (rows3 c ts cols).length = cols.length := by simp [rows3]
theorem rows3_at (c : Int) (ts : List Tl) (cols : List (List Int)) {k : Nat} (hk : k < cols.length) : (rows3 c ts cols).getD k [] = code3 c ts (cols.getD k []) := by simp [rows3, List.getD, hk]
theorem rows3_snoc (c : Int) (ts : List Tl) (cols : List (List Int)) (r : List Int) : rows3 c ts (cols ++ [r]) = rows3 c ts cols ++ [code3 c ts r] := by simp [rows3]
theorem code3_len (c : Int) (ts : List Tl) (col : List Int) : (code3 c ts col).length = 3 := rfl
theorem southOf_snoc (ts : List Tl) (col : List Int) (j : Nat) : southOf ts (col ++ [(j : Int)]) = (ts.getD j T0).2.2.2 := by
  simp [southOf, tnum, List.getD]
theorem code3_snoc (c : Int) (ts : List Tl) (col : List Int) (j : Nat) : code3 c ts (col ++ [(j : Int)]) = [wnum c (colW ts col) * c + (ts.getD j T0).1, wnum c (colE ts col) * c + (ts.getD j T0).2.2.1, (ts.getD j T0).2.2.2] := by
  unfold code3
  rw [southOf_snoc]
  simp [colW, colE, wnum_snoc]
/-- All south colours of tiles are at least 0. -/
def southOk (ts : List Tl) : Prop := ∀ k, k < ts.length → 0 ≤ (ts.getD k T0).2.2.2
theorem southOf_in {ts : List Tl} {col : List Int} (hs : southOk ts) (hal : allT ts col = true) : (col.length = 0 ∧ southOf ts col = -1) ∨ (¬ col.length = 0 ∧ 0 ≤ southOf ts col) := by
  unfold southOf
  by_cases h : col.length = 0
  · left; exact ⟨h, if_pos h⟩
  · right
    refine ⟨h, ?_⟩
    rw [if_neg h]
    have := allT_in hal (k := col.length - 1) (by omega)
    simp only [inT, decide_eq_true_eq] at this
    exact hs _ (by omega)
theorem okBelow_is {ts : List Tl} {col : List Int} (hs : southOk ts) (hal : allT ts col = true) (k : Nat) : okBelow ts col k = (!decide (0 ≤ southOf ts col) || decide (southOf ts col = (ts.getD k T0).2.1)) := by
  unfold okBelow
  rcases southOf_in hs hal with ⟨h1, h2⟩ | ⟨h1, h2⟩
  · rw [h2]; simp [h1]
  · have e : southOf ts col = (tnum ts col (col.length - 1)).2.2.2 := by unfold southOf; rw [if_neg h1]
    rw [decide_eq_false h1, decide_eq_true h2, ← e]; rfl
theorem longerL_split (ts : List Tl) (l : List (List Int)) {i : Nat} (hi : i < l.length) (k : Nat) (hk : k ≤ ts.length) : (longerL ts (l.take i)).length + (extC ts (l.getD i []) k).length ≤ (longerL ts l).length := by
  have h1 : longerL ts l = longerL ts (l.take i) ++ longerL ts (l.drop i) := by
    unfold longerL
    rw [← List.flatMap_append, List.take_append_drop]
  have h2 : (extC ts (l.getD i []) ts.length).length ≤ (longerL ts (l.drop i)).length := by
    rw [List.drop_eq_getElem_cons hi]
    simp only [longerL, List.flatMap_cons, List.length_append]
    rw [show l.getD i [] = l[i] by simp [List.getD, hi]]
    omega
  have h3 : (extC ts (l.getD i []) k).length ≤ (extC ts (l.getD i []) ts.length).length := by
    unfold extC
    rw [List.length_map, List.length_map, show ts.length = k + (ts.length - k) by omega, List.range_add, List.filter_append, List.length_append]
    omega
  rw [h1, List.length_append]
  omega
/-- Only columns of the height 4 can be too many. -/
theorem cols_few {ts : List Tl} (h16 : ts.length ≤ 16) {h : Nat} (hh : h ≤ 3) : (colsL ts h).length ≤ 5000 := by
  refine Nat.le_trans (colsL_16 h16 h) (Nat.le_trans (Nat.pow_le_pow_right (by omega) hh) (by decide))
theorem cols_cap {ts : List Tl} (h16 : ts.length ≤ 16) {h : Nat} (hh : h ≤ 4) : (colsL ts h).length ≤ 65536 := by
  refine Nat.le_trans (colsL_16 h16 h) (Nat.le_trans (Nat.pow_le_pow_right (by omega) hh) (by decide))
end

section
set_option linter.unusedVariables false
set_option linter.unusedSimpArgs false
open Go.RowKit Go.Sort

set_option maxRecDepth 100000 in
set_option maxHeartbeats 1000000 in
theorem l06Size_any (C : Nat) (A : Option Addr) (n c : Nat) (h : Nat) (w : World) (hc6 : C ≤ 6) (hh : h ≤ 4) :
    Calls Try.prog 71 #[.agg #[.int .i64 (C : Int), .slice A n c], .int .i64 (h : Int)] w fun e w' => e = .returned (.int .i64 ((C ^ h : Nat) : Int)) ∧ Ext w w' := by
  go_enter Try.func71, Try.ntmps71
  go_wp2_with fail
  have HX0 := Lib.hid ((Ext.refl w).alloc (Obj.cells #[.int .i64 (C : Int), .slice A n c] 30))
  have r0 := (Blk.new w 30 #[.int .i64 (C : Int), .slice A n c]).rd 0 rfl
  generalize w.alloc (Obj.cells #[.int .i64 (C : Int), .slice A n c] 30) = W0 at *
  go_loopw [5, 6] (fun v i wr => ∃ k : Nat, k ≤ h ∧ i = .int .i64 k ∧ v = .int .i64 ((C ^ k : Nat) : Int) ∧ wr = W0) (fun _ i _ => h - (intOf i).toNat)
  case atStart => exact ⟨0, Nat.zero_le _, rfl, by simp, rfl⟩
  case round =>
    obtain ⟨k, hk, rfl, rfl, rfl⟩ := hrel
    have hp := pow_le4 (k := k) hc6 (by omega)
    have hs : C ^ (k + 1) = C ^ k * C := Nat.pow_succ ..
    have hpc : C ^ k * C ≤ 1296 * 6 := Nat.mul_le_mul hp hc6
    have EP := Lib.hid hs
    clear hs
    obtain ⟨p, hp'⟩ : ∃ p, p = C ^ k := ⟨_, rfl⟩
    rw [← hp'] at hp hpc EP ⊢
    have EK := Lib.hid hp'
    clear hp'
    by_cases hlt : k < h
    · have hcast : ((p * C : Nat) : Int) = (p : Int) * (C : Int) := by push_cast; rfl
      have hw1 : IntKind.i64.wrap ((p : Int) * (C : Int)) = (p : Int) * (C : Int) := IntWalk.i64_in _ (by omega)
      have hlt3 : (k : Int) < (h : Int) := by omega
      go_wp2_with fail
      go_roundw
      case rel => exact ⟨k + 1, by omega, by go_num, by rw [EP.out]; push_cast; rfl, trivial⟩
      case measure => simp [intOf]; omega
    · obtain rfl : k = h := by omega
      go_wp2_with fail
      go_ret
      exact ⟨by rw [← EK.out]; rfl, HX0.out⟩

/-- What l06Columns hands back. -/
def ColRes (w : World) (C : Nat) (ts : List Tl) (h : Nat) (e : Ending) (w' : World) : Prop :=
  if (colsL ts h).length ≤ 5000 then ∃ R q, e = .returned (.tuple #[.slice R (colsL ts h).length q, .bool true]) ∧ Below w.heap.size w w' ∧ IRR w' w'.heap.size R (rows3 (C : Int) ts (colsL ts h))
  else e = .returned (.tuple #[.slice none 0 0, .bool false]) ∧ Below w.heap.size w w'
theorem ColRes.yes {w w' : World} {C : Nat} {ts : List Tl} {h : Nat} {e : Ending} (R : Option Addr) (q : Nat) (h5 : (colsL ts h).length ≤ 5000) (he : e = .returned (.tuple #[.slice R (colsL ts h).length q, .bool true])) (hb : Below w.heap.size w w') (hi : IRR w' w'.heap.size R (rows3 (C : Int) ts (colsL ts h))) : ColRes w C ts h e w' := by
  unfold ColRes; rw [if_pos h5]; exact ⟨R, q, he, hb, hi⟩
theorem ColRes.no {w w' : World} {C : Nat} {ts : List Tl} {h : Nat} {e : Ending} (h5 : ¬ (colsL ts h).length ≤ 5000) (he : e = .returned (.tuple #[.slice none 0 0, .bool false])) (hb : Below w.heap.size w w') : ColRes w C ts h e w' := by
  unfold ColRes; rw [if_neg h5]; exact ⟨he, hb⟩
theorem southOk_set {c : Int} {ts : List Tl} (hs : isSet c ts = true) : southOk ts := fun k hk => by
  simp only [isSet, Bool.and_eq_true] at hs
  have h := List.all_eq_true.1 hs.2 k (List.mem_range.2 hk)
  simp only [good, Bool.and_eq_true, tileOk, decide_eq_true_eq] at h
  omega
theorem rows3_longer (c : Int) (ts : List Tl) (cols : List (List Int)) {k j : Nat} (h : okBelow ts (cols.getD k []) j = true) :
    rows3 c ts (longerL ts (cols.take k) ++ extC ts (cols.getD k []) (j + 1)) = rows3 c ts (longerL ts (cols.take k) ++ extC ts (cols.getD k []) j) ++ [code3 c ts (cols.getD k [] ++ [(j : Int)])] := by
  rw [extC_yes h, ← List.append_assoc, rows3_snoc]

theorem two_blks (w : World) (t1 t2 : TypeId) (cs1 cs2 : Array Value) :
    Blk ((w.alloc (.cells cs1 t1)).alloc (.cells cs2 t2)).drew w.heap.size t1 cs1 ∧ Blk ((w.alloc (.cells cs1 t1)).alloc (.cells cs2 t2)).drew (w.heap.size + 1) t2 cs2 ∧ Ext w ((w.alloc (.cells cs1 t1)).alloc (.cells cs2 t2)).drew := by
  refine ⟨((Blk.new w t1 cs1).ext ((Ext.refl _).alloc _)).ext ((Ext.refl _).drew), ?_, (((Ext.refl w).alloc _).alloc _).drew⟩
  have := (Blk.new (w.alloc (.cells cs1 t1)) t2 cs2).ext ((Ext.refl _).drew)
  simpa using this
theorem rdi_three {w : World} {v : Value} {g : Nat} {x y z : Int} (hb : Blk w g 2 #[.int .i64 x, .int .i64 y, .int .i64 z]) (hv : v.ownBlock ≠ some g) : RdI w v (some ⟨g, 0, none⟩) [x, y, z] := fun _ => by
  refine ⟨g, 0, rfl, hb.lt, hv, fun k hk => ?_⟩
  rw [hb.cell]
  have hk3 : k < 3 := hk
  rcases k with _ | _ | _ | k
  · rfl
  · rfl
  · rfl
  · omega

set_option maxRecDepth 100000 in
set_option maxHeartbeats 16000000 in
theorem l06Columns_any (C : Nat) (A : Option Addr) (n c : Nat) (ts : List Tl) (h : Nat) (w : World) (hl : ts.length = n) (hA : TR w w.heap.size A ts) (hs : isSet (C : Int) ts = true) (hh : h ≤ 4) :
    Calls Try.prog 95 #[.agg #[.int .i64 (C : Int), .slice A n c], .int .i64 (h : Int)] w (ColRes w C ts h) := by
  have hn := isSet_len hs
  rw [hl] at hn
  have hcc := isSet_col hs
  have HSO := Lib.hid (southOk_set hs)
  have HCO := Lib.hid (show colOk C ts from colOk_set hs rfl)
  have HA := Lib.hid hA
  have hC1 : 1 ≤ C := by omega
  have hC6 : C ≤ 6 := by omega
  clear hA hs hcc
  go_enter Try.func95, Try.ntmps95
  go_wp2_with fail
  obtain ⟨W0, hW0⟩ : ∃ W0, ((w.alloc (Obj.cells #[.int .i64 (C : Int), .slice A n c] 30)).alloc (Obj.cells #[.int .i64 0, .int .i64 0, .int .i64 (-1)] 2)).alloc (Obj.cells #[.slice (some ⟨w.heap.size + 1, 0, none⟩) 3 3] 42) = W0 := ⟨_, rfl⟩
  have hx0 : Ext w W0 := by rw [← hW0]; exact (((Ext.refl w).alloc _).alloc _).alloc _
  have hS : Blk W0 w.heap.size 30 #[.int .i64 (C : Int), .slice A n c] := by rw [← hW0]; exact ((Blk.new w _ _).ext ((Ext.refl _).alloc _)).ext ((Ext.refl _).alloc _)
  have hR1 : Blk W0 (w.heap.size + 1) 2 #[.int .i64 0, .int .i64 0, .int .i64 (-1)] := by
    rw [← hW0]
    have := (Blk.new (w.alloc (Obj.cells #[.int .i64 (C : Int), .slice A n c] 30)) 2 #[.int .i64 0, .int .i64 0, .int .i64 (-1)]).ext ((Ext.refl _).alloc (Obj.cells #[.slice (some ⟨w.heap.size + 1, 0, none⟩) 3 3] 42))
    simpa using this
  have hR2 : Blk W0 (w.heap.size + 1 + 1) 42 #[.slice (some ⟨w.heap.size + 1, 0, none⟩) 3 3] := by
    rw [← hW0]
    have := Blk.new ((w.alloc (Obj.cells #[.int .i64 (C : Int), .slice A n c] 30)).alloc (Obj.cells #[.int .i64 0, .int .i64 0, .int .i64 (-1)] 2)) 42 #[.slice (some ⟨w.heap.size + 1, 0, none⟩) 3 3]
    simpa using this
  rw [hW0]
  have H0 := Lib.hid (hx0.below (Nat.le_refl _))
  have HS := Lib.hid hS
  have HR1 := Lib.hid hR1
  have HR2 := Lib.hid hR2
  have hsz0 : w.heap.size ≤ W0.heap.size := H0.out.size
  clear hx0 hS hR1 hR2 hW0
  go_loopw [6, 7] (fun v ii wr => ∃ (i : Nat) (R : Option Addr) (q : Nat), i ≤ h ∧ ii = .int .i64 i ∧ v = .slice R (colsL ts i).length q ∧ (colsL ts i).length ≤ 5000 ∧ IRR wr wr.heap.size R (rows3 (C : Int) ts (colsL ts i)) ∧ Below W0.heap.size W0 wr) (fun _ ii _ => h - (intOf ii).toNat)
  case atStart =>
    refine ⟨0, _, _, Nat.zero_le _, rfl, rfl, by simp [colsL], fun _ => ⟨w.heap.size + 1 + 1, 0, rfl, HR2.out.lt, fun k hk => ?_⟩, Below.refl _ _⟩
    have hk0 : k = 0 := by simp [rows3, colsL] at hk; exact hk
    subst hk0
    refine ⟨some ⟨w.heap.size + 1, 0, none⟩, 3, HR2.out.cell 0, Nat.le_refl _, fun _ => ⟨_, _, rfl, HR1.out.lt, fun j hj => ?_⟩⟩
    have hj3 : j < 3 := hj
    rw [HR1.out.cell]
    have e3 : (rows3 (C : Int) ts (colsL ts 0)).getD 0 [] = [0, 0, -1] := rfl
    rw [e3]
    rcases j with _ | _ | _ | j
    · rfl
    · rfl
    · rfl
    · omega
  case round =>
    obtain ⟨i, R, q, hi, rfl, rfl, h5, hir, hb⟩ := hrel
    have HI := Lib.hid hir
    have HB := Lib.hid hb
    have hszw := hb.size
    clear hir hb
    by_cases hlt : i < h
    · have hlt3 : (i : Int) < (h : Int) := by omega
      have HAT := Lib.hid (fun k (hk : k < (colsL ts i).length) => colsL_at ts i hk)
      have HLO := Lib.hid (show colsL ts (i + 1) = longerL ts (colsL ts i) from rfl)
      have HFEW := Lib.hid (fun (h7 : ¬ (colsL ts (i + 1)).length ≤ 5000) => show i + 1 = h by
        rcases Nat.lt_or_ge i 3 with h8 | h8
        · exact absurd (cols_few (by omega) (show i + 1 ≤ 3 by omega)) h7
        · omega)
      generalize hcs : colsL ts i = cols at *
      clear hcs
      generalize hNN : cols.length = N at *
      go_wp2_with fail
      have hme : Blk (wr.alloc (Obj.cells #[] 42)) wr.heap.size 42 #[] := Blk.new wr _ _
      have HME := Lib.hid hme
      have HBX := Lib.hid (((Ext.refl wr).alloc (Obj.cells #[] 42)).below (Nat.le_refl wr.heap.size))
      clear hme
      obtain ⟨WR, hWR⟩ : ∃ W1, W1 = wr := ⟨_, rfl⟩
      subst hWR
      go_loopw [8, 9] (fun v kk wr => ∃ k : Nat, k ≤ N ∧ kk = .int .i64 k ∧ OwnS wr WR.heap.size 0 v (rows3 (C : Int) ts (longerL ts (cols.take k))) ∧ (longerL ts (cols.take k)).length ≤ 5000 ∧ Below WR.heap.size WR wr) (fun _ kk _ => N - (intOf kk).toNat)
      case atStart => exact ⟨0, Nat.zero_le _, rfl, OwnS.made (Nat.le_refl _) HME.out, by simp [longerL], HBX.out⟩
      case round =>
        obtain ⟨k, hk, rfl, hown, h55, hb⟩ := hrel
        have HO := Lib.hid hown
        have HB2 := Lib.hid hb
        clear hown hb
        by_cases hltk : k < N
        · have hltk3 : (k : Int) < (N : Int) := by omega
          obtain ⟨hcl, hca⟩ := HAT.out k (by omega)
          have HLS := Lib.hid (longerL_succ ts cols (i := k) (by omega))
          have HSP := Lib.hid (fun j hj => longerL_split ts cols (i := k) (by omega) j hj)
          obtain ⟨A3, cap3, hv3, -⟩ := HO.out.len
          obtain ⟨bR, oR, rfl, hbR, hcR⟩ := HI.out (by rw [rows3_len]; omega)
          obtain ⟨Q, qc, e1, hq, hQ⟩ := hcR k (by rw [rows3_len]; omega)
          rw [rows3_at (C : Int) ts cols (by omega), code3_len] at e1
          rw [rows3_at (C : Int) ts cols (by omega)] at hQ
          have HC3 := Lib.hid (fun (j : Nat) => code3_snoc (C : Int) ts (cols.getD k []) j)
          have HOB := Lib.hid (fun j => okBelow_is HSO.out hca j)
          have HR3 := Lib.hid (fun j (hj : okBelow ts (cols.getD k []) j = true) => rows3_longer (C : Int) ts cols (k := k) hj)
          obtain ⟨bq, oq, rfl, hbq, hcq⟩ := hQ (by rw [code3_len]; omega)
          have p0 := hcq 0 (by rw [code3_len]; omega)
          have p1 := hcq 1 (by rw [code3_len]; omega)
          have p2 := hcq 2 (by rw [code3_len]; omega)
          rw [show (code3 (C : Int) ts (cols.getD k [])).getD 0 0 = wnum (C : Int) (colW ts (cols.getD k [])) from rfl] at p0
          rw [show (code3 (C : Int) ts (cols.getD k [])).getD 1 0 = wnum (C : Int) (colE ts (cols.getD k [])) from rfl] at p1
          rw [show (code3 (C : Int) ts (cols.getD k [])).getD 2 0 = southOf ts (cols.getD k []) from rfl] at p2
          obtain ⟨m0, em0, hm0⟩ := wnum_small hC1 hC6 (xs := colW ts (cols.getD k [])) (by rw [colW_len, hcl]; omega) (mem_colW HCO.out hca) 4
          obtain ⟨m1, em1, hm1⟩ := wnum_small hC1 hC6 (xs := colE ts (cols.getD k [])) (by rw [colE_len, hcl]; omega) (mem_colE HCO.out hca) 4
          rw [List.take_of_length_le (by rw [colW_len, hcl]; omega)] at em0
          rw [List.take_of_length_le (by rw [colE_len, hcl]; omega)] at em1
          rw [em0] at p0
          rw [em1] at p1
          have HC4 := Lib.hid (fun (j : Nat) => by have := HC3.out j; rw [em0, em1] at this; exact this)
          clear hcR hQ hcq hca HC3 em0 em1
          generalize southOf ts (cols.getD k []) = sth at *
          generalize cols.getD k [] = col at *
          go_wp2_with fail
          have hown0 := HO.out
          go_loopw [8, 10] (fun v jj wr => ∃ j : Nat, j ≤ n ∧ jj = .int .i64 j ∧ OwnS wr WR.heap.size 0 v (rows3 (C : Int) ts (longerL ts (cols.take k) ++ extC ts col j)) ∧ (longerL ts (cols.take k) ++ extC ts col j).length ≤ 5000 ∧ Below WR.heap.size WR wr) (fun _ jj _ => n - (intOf jj).toNat)
          case atStart => exact ⟨0, Nat.zero_le _, rfl, by rw [extC_zero, List.append_nil]; exact HO.out, by rw [extC_zero, List.append_nil]; exact h55, HB2.out⟩
          case round =>
            obtain ⟨j, hj, rfl, hown, h555, hb⟩ := hrel
            obtain ⟨A4, cap4, hv4, -⟩ := hown.len
            subst hv4
            rw [rows3_len] at hown ⊢
            obtain ⟨len, hlen⟩ : ∃ len, (longerL ts (cols.take k) ++ extC ts col j).length = len := ⟨_, rfl⟩
            rw [hlen] at hown h555 ⊢
            have HL := Lib.hid hlen
            have HLEN := Lib.hid (show (longerL ts (cols.take k) ++ extC ts col j).length = len ∧ len ≤ 5000 from ⟨hlen, h555⟩)
            have HO3 := Lib.hid hown
            have HBK := Lib.hid hb
            have hszk := hb.size
            clear hown hb hlen
            have hbw : Below W0.heap.size W0 wr := HB.out.trans (HBK.out.mono hszw)
            have r1 := (HS.out.below hbw HS.out.lt).rd 1 rfl
            by_cases hltj : j < n
            · have hltj3 : (j : Int) < (n : Int) := by omega
              obtain ⟨b, o, rfl, hbb, ht⟩ := (HA.out.below (H0.out.trans (hbw.mono hsz0)) (Nat.le_refl _)) (by omega)
              replace ht := ht j (by omega)
              have hok := HOB.out j
              have hyy := HCO.out j (by omega)
              obtain ⟨tj, htj⟩ : ∃ tj, ts.getD j T0 = tj := ⟨_, rfl⟩
              rw [htj] at ht hok hyy
              obtain ⟨a0, a1, a2, a3⟩ := tj
              obtain ⟨ya, yb, ey1, hy1, ey2, hy2⟩ := hyy
              simp only at ey1 ey2
              subst ey1 ey2
              have HTJ := Lib.hid htj
              clear htj
              obtain ⟨c0', c1', c2', c3'⟩ := ht
              simp only at c0' c1' c2' c3' hok
              have hbT : Blk (wr.alloc (Obj.cells #[.int .i64 (ya : Int), .int .i64 a1, .int .i64 (yb : Int), .int .i64 a3] 69)) wr.heap.size 69 #[.int .i64 (ya : Int), .int .i64 a1, .int .i64 (yb : Int), .int .i64 a3] := Blk.new wr _ _
              have HBT := Lib.hid hbT
              have HBA := Lib.hid (HBK.out.trans (((Ext.refl wr).alloc (Obj.cells #[.int .i64 (ya : Int), .int .i64 a1, .int .i64 (yb : Int), .int .i64 a3] 69)).below hszk))
              have f1 := fun dn os => (cell?_grow ((wr.alloc (Obj.cells #[.int .i64 (ya : Int), .int .i64 a1, .int .i64 (yb : Int), .int .i64 a3] 69)).drewN dn) os ⟨bR, oR + k, none⟩ (by show bR < (wr.alloc _).heap.size; simp; omega)).trans ((HBA.out.cell (p := ⟨bR, oR + k, none⟩) hbR).trans e1)
              have f2 := fun dn os => (cell?_grow ((wr.alloc (Obj.cells #[.int .i64 (ya : Int), .int .i64 a1, .int .i64 (yb : Int), .int .i64 a3] 69)).drewN dn) os ⟨bq, oq + 2, none⟩ (by show bq < (wr.alloc _).heap.size; simp; omega)).trans ((HBA.out.cell (p := ⟨bq, oq + 2, none⟩) hbq).trans p2)
              have f3 := fun dn os => hbT.grown dn os 1 (v := .int .i64 a1) rfl
              clear hbw
              by_cases hs0 : 0 ≤ sth
              · by_cases hs1 : sth = a1
                · have HOK := Lib.hid (show okBelow ts col j = true by rw [hok, decide_eq_true hs1]; simp)
                  subst hs1
                  have hs2 : (sth != sth) = false := by simp
                  clear hok
                  go_wp2_with fail
                  refine wp_region_quiet_grown mixed (by kernel_rfl) ?_
                  repeat (go_big_quiet_step ((fail)))
                  refine wpQuiet_nil ?_
                  intro _ hw'
                  obtain ⟨⟨nq, osq⟩, hw''⟩ := hw'
                  subst hw''
                  clear f1 f2 f3 c0' c1' c2' c3' r1
                  have HD := Lib.hid (⟨nq, osq, rfl⟩ : Ext (wr.alloc (Obj.cells #[.int .i64 (ya : Int), .int .i64 sth, .int .i64 (yb : Int), .int .i64 a3] 69)) (grow ((wr.alloc (Obj.cells #[.int .i64 (ya : Int), .int .i64 sth, .int .i64 (yb : Int), .int .i64 a3] 69)).drewN nq) osq))
                  generalize grow ((wr.alloc (Obj.cells #[.int .i64 (ya : Int), .int .i64 sth, .int .i64 (yb : Int), .int .i64 a3] 69)).drewN nq) osq = w7 at *
                  have HX7 := Lib.hid (((Ext.refl wr).alloc _).trans HD.out)
                  have BT := Lib.hid (HBT.out.ext HD.out)
                  have B7 := Lib.hid (HBK.out.trans (HX7.out.below HBK.out.size))
                  have O7 := Lib.hid (HO3.out.ext HX7.out)
                  by_cases hfull : len = 5000
                  · have HNO := Lib.hid (show ¬ (colsL ts h).length ≤ 5000 by
                      have h9 := HSP.out (j + 1) (by omega)
                      rw [extC_yes HOK.out, List.length_append, List.length_singleton] at h9
                      have h10 := HLEN.out
                      rw [List.length_append] at h10
                      have h11 : ¬ (colsL ts (i + 1)).length ≤ 5000 := by rw [HLO.out]; omega
                      rw [← HFEW.out h11]; exact h11)
                    have hf3 : ((len : Int) == 5000) = true := by rw [beq_iff_eq]; omega
                    have HW9 := Lib.hid (H0.out.trans ((HB.out.trans (B7.out.mono hszw)).mono hsz0))
                    go_wp2_with fail
                    go_ret2
                    exact ColRes.no HNO.out rfl HW9.out
                  · have hf3 : ((len : Int) == 5000) = false := by rw [beq_eq_false_iff_ne]; omega
                    have r0 := (HS.out.below (HB.out.trans (B7.out.mono hszw)) HS.out.lt).rd 0 rfl
                    have p0' := (B7.out.cell (p := ⟨bq, oq + 0, none⟩) hbq).trans p0
                    have p1' := (B7.out.cell (p := ⟨bq, oq + 1, none⟩) hbq).trans p1
                    have e1' := (B7.out.cell (p := ⟨bR, oR + k, none⟩) hbR).trans e1
                    have b0 := BT.out.rd 0 (v := .int .i64 (ya : Int)) rfl
                    have b2 := BT.out.rd 2 (v := .int .i64 (yb : Int)) rfl
                    have b3 := BT.out.rd 3 (v := .int .i64 a3) rfl
                    have n0 : some w.heap.size ≠ Value.ownBlock (.slice A4 len cap4) := fun e => by have h8 := (O7.out.lt e.symm).1; have h9 := H0.out.size; have := HS.out.lt; omega
                    have n1 : some bR ≠ Value.ownBlock (.slice A4 len cap4) := fun e => by have := (O7.out.lt e.symm).1; omega
                    have n2 : some bq ≠ Value.ownBlock (.slice A4 len cap4) := fun e => by have := (O7.out.lt e.symm).1; omega
                    have n3 : some wr.heap.size ≠ Value.ownBlock (.slice A4 len cap4) := fun e => by have := (HO3.out.lt e.symm).2; omega
                    have NN := Lib.hid (And.intro n0 (And.intro n1 (And.intro n2 n3)))
                    have hp7 : (m0 : Int) * (C : Int) ≤ 7776 ∧ 0 ≤ (m0 : Int) * (C : Int) := by
                      have h8 : m0 * C ≤ 1296 * 6 := Nat.mul_le_mul (by omega) hC6
                      have h9 : ((m0 * C : Nat) : Int) = (m0 : Int) * (C : Int) := by push_cast; rfl
                      omega
                    have hp8 : (m1 : Int) * (C : Int) ≤ 7776 ∧ 0 ≤ (m1 : Int) * (C : Int) := by
                      have h8 : m1 * C ≤ 1296 * 6 := Nat.mul_le_mul (by omega) hC6
                      have h9 : ((m1 * C : Nat) : Int) = (m1 : Int) * (C : Int) := by push_cast; rfl
                      omega
                    have hw1 : IntKind.i64.wrap ((m0 : Int) * (C : Int)) = (m0 : Int) * (C : Int) := IntWalk.i64_in _ (by omega)
                    have hw2 : IntKind.i64.wrap ((m1 : Int) * (C : Int)) = (m1 : Int) * (C : Int) := IntWalk.i64_in _ (by omega)
                    have hw3 : IntKind.i64.wrap ((m0 : Int) * (C : Int) + (ya : Int)) = (m0 : Int) * (C : Int) + (ya : Int) := IntWalk.i64_in _ (by omega)
                    have hw4 : IntKind.i64.wrap ((m1 : Int) * (C : Int) + (yb : Int)) = (m1 : Int) * (C : Int) + (yb : Int) := IntWalk.i64_in _ (by omega)
                    have hlen5 : len + 1 ≤ 5000 := by have := HLEN.out; omega
                    have HSZ7 := Lib.hid (show WR.heap.size ≤ w7.heap.size from B7.out.size)
                    have HRL := Lib.hid (show (rows3 (C : Int) ts (longerL ts (cols.take k) ++ extC ts col j)).length + 1 ≤ 1048576 by rw [rows3_len, HL.out]; omega)
                    clear n0 n1 n2 n3 hp7 hp8 hfull hbT
                    rw [Nat.add_zero] at p0'
                    go_wp2_with fail
                    go_region_held3 (fun w' => w'.cell? ⟨bR, oR + k, none⟩ = some (.slice (some ⟨bq, oq, none⟩) 3 qc) ∧ w'.cell? ⟨bq, oq, none⟩ = some (.int .i64 (m0 : Int)) ∧ w'.cell? ⟨bq, oq + 1, none⟩ = some (.int .i64 (m1 : Int)) ∧ w'.cell? ⟨w.heap.size, 0, none⟩ = some (.int .i64 (C : Int)) ∧ w'.cell? ⟨wr.heap.size, 0, none⟩ = some (.int .i64 (ya : Int)) ∧ w'.cell? ⟨wr.heap.size, 2, none⟩ = some (.int .i64 (yb : Int)) ∧ w'.cell? ⟨wr.heap.size, 3, none⟩ = some (.int .i64 a3))
                      (first | go_keep | exact ⟨hgrow9.cell (by go_simp) NN.out.2.1, hgrow9.cell (by go_simp) NN.out.2.2.1, hgrow9.cell (by go_simp) NN.out.2.2.1, hgrow9.cell (by go_simp) NN.out.1, hgrow9.cell (by go_simp) NN.out.2.2.2, hgrow9.cell (by go_simp) NN.out.2.2.2, hgrow9.cell (by go_simp) NN.out.2.2.2⟩)
                      (first | (refine step_pushS (by rfl) _ _ (by rfl) WR.heap.size 0 _ (rows3 (C : Int) ts (longerL ts (cols.take k) ++ extC ts col j)) (by rfl) w7 O7.out ((two_blks w7 2 42 _ _).2.2.below (Nat.le_refl _)) (w7.heap.size + 1) (some ⟨w7.heap.size, 0, none⟩) 3 3 [(m0 : Int) * (C : Int) + (ya : Int), (m1 : Int) * (C : Int) + (yb : Int), a3] (by rfl) (two_blks w7 2 42 _ _).2.1 (rdi_three (two_blks w7 2 42 _ _).1 (fun e => Nat.lt_irrefl _ (O7.out.lt e).2)) (fun _ _ _ _ => Nat.zero_le _) rfl (Nat.le_refl _) HRL.out HSZ7.out ?_; intro v9 w9 hown9 hgrow9 hb9))
                    have O9 := Lib.hid (show OwnS w9 WR.heap.size 0 v9 (rows3 (C : Int) ts (longerL ts (cols.take k) ++ extC ts col (j + 1))) by rw [HR3.out j HOK.out, HC4.out j, HTJ.out]; exact hown9)
                    have B9 := Lib.hid ((((B7.out.alloc HSZ7.out _).alloc (Nat.le_trans HSZ7.out (alloc_le _ _)) _).drew).trans hb9)
                    have HL9 := Lib.hid (show (longerL ts (cols.take k) ++ extC ts col (j + 1)).length ≤ 5000 by rw [extC_yes HOK.out, ← List.append_assoc, List.length_append, HL.out]; simp; omega)
                    clear hown9 hgrow9 hb9
                    go_wp2_with fail
                    go_roundw
                    case rel => first | exact ⟨j + 1, by omega, by go_num, O9.out, HL9.out, B9.out⟩ | ((repeat apply Exists.intro); exact ⟨⟨j + 1, by omega, by go_num, O9.out, HL9.out, B9.out⟩, rfl⟩)
                    case measure => simp [intOf]; omega
                · have HNK := Lib.hid (show okBelow ts col j = false by rw [hok, decide_eq_true hs0, decide_eq_false hs1]; rfl)
                  have hs2 : (sth != a1) = true := by simp [hs1]
                  clear hok
                  go_wp2_with fail
                  refine wp_region_quiet_grown mixed (by kernel_rfl) ?_
                  repeat (go_big_quiet_step ((fail)))
                  refine wpQuiet_nil ?_
                  intro _ hw'
                  obtain ⟨⟨nq, osq⟩, hw''⟩ := hw'
                  subst hw''
                  clear f1 f2 f3 c0' c1' c2' c3' r1
                  have HX7 := Lib.hid (((Ext.refl wr).alloc (Obj.cells #[.int .i64 (ya : Int), .int .i64 a1, .int .i64 (yb : Int), .int .i64 a3] 69)).trans ⟨nq, osq, rfl⟩)
                  have B7 := Lib.hid (HBK.out.trans (HX7.out.below hszk))
                  have O7 := Lib.hid (show OwnS _ WR.heap.size 0 _ (rows3 (C : Int) ts (longerL ts (cols.take k) ++ extC ts col (j + 1))) by rw [extC_no HNK.out]; exact HO3.out.ext HX7.out)
                  have HL9 := Lib.hid (show (longerL ts (cols.take k) ++ extC ts col (j + 1)).length ≤ 5000 by rw [extC_no HNK.out, HL.out]; exact h555)
                  go_wp2_with fail
                  go_roundw
                  case rel => first | exact ⟨j + 1, by omega, by go_num, O7.out, HL9.out, B7.out⟩ | ((repeat apply Exists.intro); exact ⟨⟨j + 1, by omega, by go_num, O7.out, HL9.out, B7.out⟩, rfl⟩)
                  case measure => simp [intOf]; omega
              · have HOK := Lib.hid (show okBelow ts col j = true by rw [hok, decide_eq_false hs0]; rfl)
                have hs3 : decide (0 ≤ sth) = false := decide_eq_false hs0
                have hs4 : sth < 0 := by omega
                clear hok
                go_wp2_with fail
                refine wp_region_quiet_grown mixed (by kernel_rfl) ?_
                repeat (go_big_quiet_step ((fail)))
                refine wpQuiet_nil ?_
                intro _ hw'
                obtain ⟨⟨nq, osq⟩, hw''⟩ := hw'
                subst hw''
                clear f1 f2 f3 c0' c1' c2' c3' r1
                have HD := Lib.hid (⟨nq, osq, rfl⟩ : Ext (wr.alloc (Obj.cells #[.int .i64 (ya : Int), .int .i64 a1, .int .i64 (yb : Int), .int .i64 a3] 69)) (grow ((wr.alloc (Obj.cells #[.int .i64 (ya : Int), .int .i64 a1, .int .i64 (yb : Int), .int .i64 a3] 69)).drewN nq) osq))
                generalize grow ((wr.alloc (Obj.cells #[.int .i64 (ya : Int), .int .i64 a1, .int .i64 (yb : Int), .int .i64 a3] 69)).drewN nq) osq = w7 at *
                have HX7 := Lib.hid (((Ext.refl wr).alloc _).trans HD.out)
                have BT := Lib.hid (HBT.out.ext HD.out)
                have B7 := Lib.hid (HBK.out.trans (HX7.out.below HBK.out.size))
                have O7 := Lib.hid (HO3.out.ext HX7.out)
                by_cases hfull : len = 5000
                · have HNO := Lib.hid (show ¬ (colsL ts h).length ≤ 5000 by
                    have h9 := HSP.out (j + 1) (by omega)
                    rw [extC_yes HOK.out, List.length_append, List.length_singleton] at h9
                    have h10 := HLEN.out
                    rw [List.length_append] at h10
                    have h11 : ¬ (colsL ts (i + 1)).length ≤ 5000 := by rw [HLO.out]; omega
                    rw [← HFEW.out h11]; exact h11)
                  have hf3 : ((len : Int) == 5000) = true := by rw [beq_iff_eq]; omega
                  have HW9 := Lib.hid (H0.out.trans ((HB.out.trans (B7.out.mono hszw)).mono hsz0))
                  go_wp2_with fail
                  go_ret2
                  exact ColRes.no HNO.out rfl HW9.out
                · have hf3 : ((len : Int) == 5000) = false := by rw [beq_eq_false_iff_ne]; omega
                  have r0 := (HS.out.below (HB.out.trans (B7.out.mono hszw)) HS.out.lt).rd 0 rfl
                  have p0' := (B7.out.cell (p := ⟨bq, oq + 0, none⟩) hbq).trans p0
                  have p1' := (B7.out.cell (p := ⟨bq, oq + 1, none⟩) hbq).trans p1
                  have e1' := (B7.out.cell (p := ⟨bR, oR + k, none⟩) hbR).trans e1
                  have b0 := BT.out.rd 0 (v := .int .i64 (ya : Int)) rfl
                  have b2 := BT.out.rd 2 (v := .int .i64 (yb : Int)) rfl
                  have b3 := BT.out.rd 3 (v := .int .i64 a3) rfl
                  have n0 : some w.heap.size ≠ Value.ownBlock (.slice A4 len cap4) := fun e => by have h8 := (O7.out.lt e.symm).1; have h9 := H0.out.size; have := HS.out.lt; omega
                  have n1 : some bR ≠ Value.ownBlock (.slice A4 len cap4) := fun e => by have := (O7.out.lt e.symm).1; omega
                  have n2 : some bq ≠ Value.ownBlock (.slice A4 len cap4) := fun e => by have := (O7.out.lt e.symm).1; omega
                  have n3 : some wr.heap.size ≠ Value.ownBlock (.slice A4 len cap4) := fun e => by have := (HO3.out.lt e.symm).2; omega
                  have NN := Lib.hid (And.intro n0 (And.intro n1 (And.intro n2 n3)))
                  have hp7 : (m0 : Int) * (C : Int) ≤ 7776 ∧ 0 ≤ (m0 : Int) * (C : Int) := by
                    have h8 : m0 * C ≤ 1296 * 6 := Nat.mul_le_mul (by omega) hC6
                    have h9 : ((m0 * C : Nat) : Int) = (m0 : Int) * (C : Int) := by push_cast; rfl
                    omega
                  have hp8 : (m1 : Int) * (C : Int) ≤ 7776 ∧ 0 ≤ (m1 : Int) * (C : Int) := by
                    have h8 : m1 * C ≤ 1296 * 6 := Nat.mul_le_mul (by omega) hC6
                    have h9 : ((m1 * C : Nat) : Int) = (m1 : Int) * (C : Int) := by push_cast; rfl
                    omega
                  have hw1 : IntKind.i64.wrap ((m0 : Int) * (C : Int)) = (m0 : Int) * (C : Int) := IntWalk.i64_in _ (by omega)
                  have hw2 : IntKind.i64.wrap ((m1 : Int) * (C : Int)) = (m1 : Int) * (C : Int) := IntWalk.i64_in _ (by omega)
                  have hw3 : IntKind.i64.wrap ((m0 : Int) * (C : Int) + (ya : Int)) = (m0 : Int) * (C : Int) + (ya : Int) := IntWalk.i64_in _ (by omega)
                  have hw4 : IntKind.i64.wrap ((m1 : Int) * (C : Int) + (yb : Int)) = (m1 : Int) * (C : Int) + (yb : Int) := IntWalk.i64_in _ (by omega)
                  have hlen5 : len + 1 ≤ 5000 := by have := HLEN.out; omega
                  have HSZ7 := Lib.hid (show WR.heap.size ≤ w7.heap.size from B7.out.size)
                  have HRL := Lib.hid (show (rows3 (C : Int) ts (longerL ts (cols.take k) ++ extC ts col j)).length + 1 ≤ 1048576 by rw [rows3_len, HL.out]; omega)
                  clear n0 n1 n2 n3 hp7 hp8 hfull hbT
                  rw [Nat.add_zero] at p0'
                  go_wp2_with fail
                  go_region_held3 (fun w' => w'.cell? ⟨bR, oR + k, none⟩ = some (.slice (some ⟨bq, oq, none⟩) 3 qc) ∧ w'.cell? ⟨bq, oq, none⟩ = some (.int .i64 (m0 : Int)) ∧ w'.cell? ⟨bq, oq + 1, none⟩ = some (.int .i64 (m1 : Int)) ∧ w'.cell? ⟨w.heap.size, 0, none⟩ = some (.int .i64 (C : Int)) ∧ w'.cell? ⟨wr.heap.size, 0, none⟩ = some (.int .i64 (ya : Int)) ∧ w'.cell? ⟨wr.heap.size, 2, none⟩ = some (.int .i64 (yb : Int)) ∧ w'.cell? ⟨wr.heap.size, 3, none⟩ = some (.int .i64 a3))
                    (first | go_keep | exact ⟨hgrow9.cell (by go_simp) NN.out.2.1, hgrow9.cell (by go_simp) NN.out.2.2.1, hgrow9.cell (by go_simp) NN.out.2.2.1, hgrow9.cell (by go_simp) NN.out.1, hgrow9.cell (by go_simp) NN.out.2.2.2, hgrow9.cell (by go_simp) NN.out.2.2.2, hgrow9.cell (by go_simp) NN.out.2.2.2⟩)
                    (first | (refine step_pushS (by rfl) _ _ (by rfl) WR.heap.size 0 _ (rows3 (C : Int) ts (longerL ts (cols.take k) ++ extC ts col j)) (by rfl) w7 O7.out ((two_blks w7 2 42 _ _).2.2.below (Nat.le_refl _)) (w7.heap.size + 1) (some ⟨w7.heap.size, 0, none⟩) 3 3 [(m0 : Int) * (C : Int) + (ya : Int), (m1 : Int) * (C : Int) + (yb : Int), a3] (by rfl) (two_blks w7 2 42 _ _).2.1 (rdi_three (two_blks w7 2 42 _ _).1 (fun e => Nat.lt_irrefl _ (O7.out.lt e).2)) (fun _ _ _ _ => Nat.zero_le _) rfl (Nat.le_refl _) HRL.out HSZ7.out ?_; intro v9 w9 hown9 hgrow9 hb9))
                  have O9 := Lib.hid (show OwnS w9 WR.heap.size 0 v9 (rows3 (C : Int) ts (longerL ts (cols.take k) ++ extC ts col (j + 1))) by rw [HR3.out j HOK.out, HC4.out j, HTJ.out]; exact hown9)
                  have B9 := Lib.hid ((((B7.out.alloc HSZ7.out _).alloc (Nat.le_trans HSZ7.out (alloc_le _ _)) _).drew).trans hb9)
                  have HL9 := Lib.hid (show (longerL ts (cols.take k) ++ extC ts col (j + 1)).length ≤ 5000 by rw [extC_yes HOK.out, ← List.append_assoc, List.length_append, HL.out]; simp; omega)
                  clear hown9 hgrow9 hb9
                  go_wp2_with fail
                  go_roundw
                  case rel => first | exact ⟨j + 1, by omega, by go_num, O9.out, HL9.out, B9.out⟩ | ((repeat apply Exists.intro); exact ⟨⟨j + 1, by omega, by go_num, O9.out, HL9.out, B9.out⟩, rfl⟩)
                  case measure => simp [intOf]; omega
            · obtain rfl : j = n := by omega
              have HO9 := Lib.hid (show OwnS wr WR.heap.size 0 _ (rows3 (C : Int) ts (longerL ts (cols.take (k + 1)))) by rw [HLS.out, hl]; exact HO3.out)
              have HL9 := Lib.hid (show (longerL ts (cols.take (k + 1))).length ≤ 5000 by rw [HLS.out, hl, HL.out]; exact h555)
              go_wp2_with fail
              go_roundw
              case rel => first | exact ⟨k + 1, by omega, by go_num, HO9.out, HL9.out, HBK.out⟩ | ((repeat apply Exists.intro); exact ⟨⟨k + 1, by omega, by go_num, HO9.out, HL9.out, HBK.out⟩, rfl⟩)
              case measure => simp [intOf]; omega
        · obtain rfl : k = N := by omega
          have hown := HO.out
          rw [List.take_of_length_le (by omega)] at hown h55
          obtain ⟨A3, cap3, rfl, -, hirl⟩ := hown.done (Nat.zero_le _)
          have HI9 := Lib.hid (show IRR wr wr.heap.size A3 (rows3 (C : Int) ts (colsL ts (i + 1))) by rw [HLO.out]; exact hirl.irr)
          have HB9 := Lib.hid (HB.out.trans (HB2.out.mono hszw))
          have HL9 := Lib.hid (show (colsL ts (i + 1)).length ≤ 5000 by rw [HLO.out]; exact h55)
          have HV := Lib.hid (show (rows3 (C : Int) ts (longerL ts cols)).length = (colsL ts (i + 1)).length by rw [rows3_len, HLO.out])
          clear hown hirl HO
          go_wp2_with fail
          go_roundw
          case rel => first | exact ⟨i + 1, A3, cap3, by omega, by go_num, by rw [HV.out], HL9.out, HI9.out, HB9.out⟩ | ((repeat apply Exists.intro); exact ⟨⟨i + 1, A3, cap3, by omega, by go_num, by rw [HV.out], HL9.out, HI9.out, HB9.out⟩, rfl⟩)
          case measure => simp [intOf]; omega
    · obtain rfl : i = h := by omega
      have HW := Lib.hid (H0.out.trans (HB.out.mono hsz0))
      go_wp2_with fail
      go_ret2
      exact ColRes.yes R q h5 rfl HW.out HI.out
end

section
set_option linter.unusedVariables false
set_option linter.unusedSimpArgs false
open Go.RowKit Go.Sort

/-- The columns that the model hands back, to be read. -/
def CodeRes (w : World) (C : Nat) (ts : List Tl) (h : Nat) (e : Ending) (w' : World) : Prop :=
  ∃ R q, e = .returned (.tuple #[.slice R (colsL ts h).length q, .int .i64 0]) ∧ Below w.heap.size w w' ∧ IRR w' w'.heap.size R (rows3 (C : Int) ts (colsL ts h))
set_option maxRecDepth 100000 in
set_option maxHeartbeats 4000000 in
theorem l06Code_0 (C : Nat) (A : Option Addr) (n c : Nat) (ts : List Tl) (h : Nat) (w : World) (hl : ts.length = n) (hA : TR w w.heap.size A ts) (hs : isSet (C : Int) ts = true) (h1 : 1 ≤ h) (h4 : h ≤ 4) (hC7 : C ^ h ≤ 700) (hN : (colsL ts h).length ≤ 5000) :
    Calls Try.prog 52 #[.agg #[.int .i64 (C : Int), .slice A n c], .int .i64 (h : Int)] w (CodeRes w C ts h) := by
  have hn := isSet_len hs
  rw [hl] at hn
  have hcc := isSet_col hs
  have his : ∀ W, Ext w W → Calls Try.prog 94 #[.agg #[.int .i64 (C : Int), .slice A n c]] W _ := fun W hW => l01Is_any (C : Int) A n c ts W (by omega) hl ((hA.ext hW (Nat.le_refl _)).more (hW.below (Nat.le_refl _)).size)
  rw [hs] at his
  have hsz : ∀ W, Calls Try.prog 71 #[.agg #[.int .i64 (C : Int), .slice A n c], .int .i64 (h : Int)] W _ := fun W => l06Size_any C A n c h W (by omega) h4
  have hcl : ∀ W, Ext w W → Calls Try.prog 95 #[.agg #[.int .i64 (C : Int), .slice A n c], .int .i64 (h : Int)] W _ := fun W hW => l06Columns_any C A n c ts h W hl ((hA.ext hW (Nat.le_refl _)).more (hW.below (Nat.le_refl _)).size) hs h4
  have hin : decide (1 ≤ (h : Int) ∧ (h : Int) ≤ 4) = true := decide_eq_true ⟨by omega, by omega⟩
  unfold ColRes at hcl
  simp only [if_pos hN] at hcl
  unfold CodeRes
  have HI := Lib.hid his
  have HZ := Lib.hid hsz
  have HC := Lib.hid hcl
  clear his hsz hcl hA hs hcc hN
  generalize rows3 (C : Int) ts (colsL ts h) = rs at *
  generalize (colsL ts h).length = N at *
  generalize C ^ h = P at *
  have h7 : ¬ (700 : Int) < (P : Int) := by omega
  go_enter Try.func52, Try.ntmps52
  go_wp2_with fail
  refine (HI.out _ ((Ext.refl w).alloc _)).mono ?_
  rintro e w1 ⟨rfl, hx⟩
  have HX1 := Lib.hid (((Ext.refl w).alloc _).trans hx)
  have hb1 := (Blk.new w 30 #[.int .i64 (C : Int), .slice A n c]).ext hx
  have HB1 := Lib.hid hb1
  have r0 := hb1.rd 0 rfl
  have r1 := hb1.rd 1 rfl
  clear hx hb1
  go_wp2_with fail
  refine (l01In_any _ _ _ _).mono ?_
  rintro e w2 ⟨rfl, rfl⟩
  rw [hin]
  go_wp2_with fail
  refine (HZ.out _).mono ?_
  rintro e w3 ⟨rfl, hx⟩
  have HX3 := Lib.hid (HX1.out.trans hx)
  have hb3 := HB1.out.ext hx
  have r0 := hb3.rd 0 rfl
  have r1 := hb3.rd 1 rfl
  clear hx hb3
  go_wp2_with fail
  refine (HC.out _ HX3.out).mono ?_
  rintro e w4 ⟨R, q, rfl, hb, hir⟩
  have HB4 := Lib.hid ((HX3.out.below (Nat.le_refl _)).trans (hb.mono (HX3.out.below (Nat.le_refl _)).size))
  have HIR := Lib.hid hir
  clear hb hir r0 r1
  go_wp2_with fail
  go_ret2
  exact ⟨R, q, rfl, HB4.out, HIR.out⟩

/-- No columns, with a code. -/
def NoCols (w : World) (code : Int) (e : Ending) (w' : World) : Prop := e = .returned (.tuple #[.slice none 0 0, .int .i64 code]) ∧ Below w.heap.size w w'
set_option maxRecDepth 100000 in
set_option maxHeartbeats 4000000 in
theorem l06Code_no (c0 : Int) (A : Option Addr) (n c : Nat) (ts : List Tl) (h : Int) (w : World) (hn : n ≤ 1048576) (hl : ts.length = n) (hA : TR w w.heap.size A ts) (hg : gCode c0 ts h ≠ 0) :
    Calls Try.prog 52 #[.agg #[.int .i64 c0, .slice A n c], .int .i64 h] w (NoCols w (gCode c0 ts h)) := by
  have his : ∀ W, Ext w W → Calls Try.prog 94 #[.agg #[.int .i64 c0, .slice A n c]] W _ := fun W hW => l01Is_any c0 A n c ts W (by omega) hl ((hA.ext hW (Nat.le_refl _)).more (hW.below (Nat.le_refl _)).size)
  obtain ⟨code, hcode⟩ : ∃ code, gCode c0 ts h = code := ⟨_, rfl⟩
  unfold NoCols
  cases hs : isSet c0 ts with
  | false =>
    have HCD := Lib.hid (show gCode c0 ts h = 1 by unfold gCode hCode; rw [hs]; rfl)
    rw [hs] at his
    rw [hcode] at HCD ⊢
    have HI := Lib.hid his
    clear his hA hs hg hcode
    go_enter Try.func52, Try.ntmps52
    go_wp2_with fail
    refine (HI.out _ ((Ext.refl w).alloc _)).mono ?_
    rintro e w1 ⟨rfl, hx⟩
    have HX1 := Lib.hid (((Ext.refl w).alloc _).trans hx)
    clear hx
    go_wp2_with fail
    go_ret2
    exact ⟨by rw [HCD.out]; rfl, HX1.out.below (Nat.le_refl _)⟩
  | true =>
    by_cases hh : 1 ≤ h ∧ h ≤ 4
    · have hn16 := isSet_len hs
      rw [hl] at hn16
      have hcc := isSet_col hs
      obtain ⟨C, rfl⟩ : ∃ C : Nat, c0 = (C : Int) := ⟨c0.toNat, by omega⟩
      obtain ⟨h', rfl⟩ : ∃ h' : Nat, h = (h' : Int) := ⟨h.toNat, by omega⟩
      have hin : decide (1 ≤ (h' : Int) ∧ (h' : Int) ≤ 4) = true := decide_eq_true hh
      have hsz : ∀ W, Calls Try.prog 71 #[.agg #[.int .i64 (C : Int), .slice A n c], .int .i64 (h' : Int)] W _ := fun W => l06Size_any C A n c h' W (by omega) (by omega)
      have hcl : ∀ W, Ext w W → Calls Try.prog 95 #[.agg #[.int .i64 (C : Int), .slice A n c], .int .i64 (h' : Int)] W _ := fun W hW => l06Columns_any C A n c ts h' W hl ((hA.ext hW (Nat.le_refl _)).more (hW.below (Nat.le_refl _)).size) hs (by omega)
      have hg2 := hg
      have hhc : hCode (C : Int) ts (h' : Int) = 0 := by unfold hCode; rw [if_pos hs, if_pos hh]
      unfold gCode at hg2
      rw [if_pos hhc, Int.toNat_natCast, show ((C : Int) ^ h') = ((C ^ h' : Nat) : Int) by push_cast; rfl] at hg2
      have hq : ¬ (((C ^ h' : Nat) : Int) ≤ 700 ∧ (colsL ts h').length ≤ 5000) := fun hq => hg2 (if_pos hq)
      have HCD := Lib.hid (show gCode (C : Int) ts (h' : Int) = 3 by unfold gCode; rw [if_pos hhc, Int.toNat_natCast, show ((C : Int) ^ h') = ((C ^ h' : Nat) : Int) by push_cast; rfl, if_neg hq])
      rw [hs] at his
      rw [hcode] at HCD ⊢
      have HI := Lib.hid his
      have HZ := Lib.hid hsz
      by_cases h7 : (700 : Int) < ((C ^ h' : Nat) : Int)
      · clear his hsz hcl hA hs hcc hg hg2 hcode hhc hq
        generalize C ^ h' = P at *
        go_enter Try.func52, Try.ntmps52
        go_wp2_with fail
        refine (HI.out _ ((Ext.refl w).alloc _)).mono ?_
        rintro e w1 ⟨rfl, hx⟩
        have HX1 := Lib.hid (((Ext.refl w).alloc _).trans hx)
        have hb1 := (Blk.new w 30 #[.int .i64 (C : Int), .slice A n c]).ext hx
        have HB1 := Lib.hid hb1
        have r0 := hb1.rd 0 rfl
        have r1 := hb1.rd 1 rfl
        clear hx hb1
        go_wp2_with fail
        refine (l01In_any _ _ _ _).mono ?_
        rintro e w2 ⟨rfl, rfl⟩
        rw [hin]
        go_wp2_with fail
        refine (HZ.out _).mono ?_
        rintro e w3 ⟨rfl, hx⟩
        have HX3 := Lib.hid (HX1.out.trans hx)
        have hb3 := HB1.out.ext hx
        have r0 := hb3.rd 0 rfl
        have r1 := hb3.rd 1 rfl
        clear hx hb3
        go_wp2_with fail
        go_ret2
        exact ⟨by rw [HCD.out]; rfl, HX3.out.below (Nat.le_refl _)⟩
      · have h5 : ¬ (colsL ts h').length ≤ 5000 := fun h5 => hq ⟨by omega, h5⟩
        unfold ColRes at hcl
        simp only [if_neg h5] at hcl
        have HC := Lib.hid hcl
        clear his hsz hcl hA hs hcc hg hg2 hcode hhc hq h5
        generalize C ^ h' = P at *
        go_enter Try.func52, Try.ntmps52
        go_wp2_with fail
        refine (HI.out _ ((Ext.refl w).alloc _)).mono ?_
        rintro e w1 ⟨rfl, hx⟩
        have HX1 := Lib.hid (((Ext.refl w).alloc _).trans hx)
        have hb1 := (Blk.new w 30 #[.int .i64 (C : Int), .slice A n c]).ext hx
        have HB1 := Lib.hid hb1
        have r0 := hb1.rd 0 rfl
        have r1 := hb1.rd 1 rfl
        clear hx hb1
        go_wp2_with fail
        refine (l01In_any _ _ _ _).mono ?_
        rintro e w2 ⟨rfl, rfl⟩
        rw [hin]
        go_wp2_with fail
        refine (HZ.out _).mono ?_
        rintro e w3 ⟨rfl, hx⟩
        have HX3 := Lib.hid (HX1.out.trans hx)
        have hb3 := HB1.out.ext hx
        have r0 := hb3.rd 0 rfl
        have r1 := hb3.rd 1 rfl
        clear hx hb3
        go_wp2_with fail
        refine (HC.out _ HX3.out).mono ?_
        rintro e w4 ⟨rfl, hb⟩
        have HB4 := Lib.hid ((HX3.out.below (Nat.le_refl _)).trans (hb.mono (HX3.out.below (Nat.le_refl _)).size))
        clear hb r0 r1
        go_wp2_with fail
        go_ret2
        exact ⟨by rw [HCD.out]; rfl, HB4.out⟩
    · have hin : decide (1 ≤ h ∧ h ≤ 4) = false := decide_eq_false hh
      have hhc : hCode c0 ts h = 2 := by unfold hCode; rw [if_pos hs, if_neg hh]
      have HCD := Lib.hid (show gCode c0 ts h = 2 by unfold gCode; rw [hhc]; rfl)
      rw [hs] at his
      rw [hcode] at HCD ⊢
      have HI := Lib.hid his
      clear his hA hs hg hcode hhc hh
      go_enter Try.func52, Try.ntmps52
      go_wp2_with fail
      refine (HI.out _ ((Ext.refl w).alloc _)).mono ?_
      rintro e w1 ⟨rfl, hx⟩
      have HX1 := Lib.hid (((Ext.refl w).alloc _).trans hx)
      clear hx
      go_wp2_with fail
      refine (l01In_any _ _ _ _).mono ?_
      rintro e w2 ⟨rfl, rfl⟩
      rw [hin]
      go_wp2_with fail
      go_ret2
      exact ⟨by rw [HCD.out]; rfl, HX1.out.below (Nat.le_refl _)⟩

set_option maxRecDepth 100000 in
set_option maxHeartbeats 4000000 in
theorem specCountColumns_0 (C : Nat) (A : Option Addr) (n c : Nat) (ts : List Tl) (h : Nat) (w : World) (hl : ts.length = n) (hA : TR w w.heap.size A ts) (hs : isSet (C : Int) ts = true) (h1 : 1 ≤ h) (h4 : h ≤ 4) (hC7 : C ^ h ≤ 700) (hN : (colsL ts h).length ≤ 5000) :
    Calls Try.prog 17 #[.agg #[.int .i64 (C : Int), .slice A n c], .int .i64 (h : Int)] w (IntRes w ((colsL ts h).length : Nat) 0) := by
  have hgo : ∀ W, Ext w W → Calls Try.prog 52 #[.agg #[.int .i64 (C : Int), .slice A n c], .int .i64 (h : Int)] W _ := fun W hW => l06Code_0 C A n c ts h W hl ((hA.ext hW (Nat.le_refl _)).more (hW.below (Nat.le_refl _)).size) hs h1 h4 hC7 hN
  unfold CodeRes at hgo
  generalize (colsL ts h).length = N at *
  have HG := Lib.hid hgo
  clear hgo hA hs
  go_enter Try.func17, Try.ntmps17
  go_wp2_with fail
  refine (HG.out _ ((Ext.refl w).alloc _)).mono ?_
  rintro e w1 ⟨R, q, rfl, hb, -⟩
  have HB := Lib.hid ((((Ext.refl w).alloc (.cells #[.int .i64 (C : Int), .slice A n c] 30)).below (Nat.le_refl _)).trans (hb.mono (by simp)))
  clear hb
  go_wp2_with fail
  go_ret2
  exact IntRes.mk rfl HB.out

set_option maxRecDepth 100000 in
set_option maxHeartbeats 4000000 in
theorem specCountColumns_no (c0 : Int) (A : Option Addr) (n c : Nat) (ts : List Tl) (h : Int) (w : World) (hn : n ≤ 1048576) (hl : ts.length = n) (hA : TR w w.heap.size A ts) (hg : gCode c0 ts h ≠ 0) :
    Calls Try.prog 17 #[.agg #[.int .i64 c0, .slice A n c], .int .i64 h] w (IntRes w 0 (gCode c0 ts h)) := by
  have hgo : ∀ W, Ext w W → Calls Try.prog 52 #[.agg #[.int .i64 c0, .slice A n c], .int .i64 h] W _ := fun W hW => l06Code_no c0 A n c ts h W hn hl ((hA.ext hW (Nat.le_refl _)).more (hW.below (Nat.le_refl _)).size) hg
  unfold NoCols at hgo
  generalize gCode c0 ts h = code at *
  have hne : (code != 0) = true := by simp [hg]
  have HG := Lib.hid hgo
  clear hgo hA
  go_enter Try.func17, Try.ntmps17
  go_wp2_with fail
  refine (HG.out _ ((Ext.refl w).alloc _)).mono ?_
  rintro e w1 ⟨rfl, hb⟩
  have HB := Lib.hid ((((Ext.refl w).alloc (.cells #[.int .i64 c0, .slice A n c] 30)).below (Nat.le_refl _)).trans (hb.mono (by simp)))
  clear hb
  go_wp2_with fail
  go_ret2
  exact IntRes.mk rfl HB.out
end
end Go.Proofs.Ytleabblnikbmpaa
