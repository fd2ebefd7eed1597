/- The columns for the traces, or the error; the model's side. -/
import Derived.Test.YtleabblnikbmpaaTm1
import Derived.Test.YtleabblnikbmpaaTx2
import Derived.Lib.Hide
namespace Go.Proofs.Ytleabblnikbmpaa
set_option linter.unusedVariables false
set_option linter.unusedSimpArgs false
open Go.RowKit Go.Sort

/-- What a set, a height and another condition are checked for. -/
def tcCode (c0 : Int) (ts : List Tl) (h : Int) (good : Bool) : Int := if isSet c0 ts = true then (if (1 ≤ h ∧ h ≤ 3) ∧ good = true then 0 else 2) else 1
theorem tcCode_zero {c0 : Int} {ts : List Tl} {h : Int} {good : Bool} (e : tcCode c0 ts h good = 0) : isSet c0 ts = true ∧ 1 ≤ h ∧ h ≤ 3 ∧ good = true := by
  unfold tcCode at e
  by_cases hs : isSet c0 ts = true
  · rw [if_pos hs] at e
    by_cases hh : (1 ≤ h ∧ h ≤ 3) ∧ good = true
    · exact ⟨hs, hh.1.1, hh.1.2, hh.2⟩
    · rw [if_neg hh] at e; omega
  · rw [if_neg hs] at e; omega
theorem pow_216 {C h : Nat} (hC : C ≤ 6) (hh : h ≤ 3) : C ^ h ≤ 216 := Nat.le_trans (Nat.pow_le_pow_left hC h) (Nat.le_trans (Nat.pow_le_pow_right (by omega) hh) (by decide))
/-- The columns as triples. -/
def colK (C : Nat) (ts : List Tl) (col : List Int) : Cq := ((northOf ts col).toNat, (wnum (C : Int) (colW ts col)).toNat, (wnum (C : Int) (colE ts col)).toNat)
def KK (C : Nat) (ts : List Tl) (h : Nat) : List Cq := (colsL ts h).map (colK C ts)
theorem KK_len (C : Nat) (ts : List Tl) (h : Nat) : (KK C ts h).length = (colsL ts h).length := by simp [KK]
theorem KK_at (C : Nat) (ts : List Tl) (h : Nat) {k : Nat} (hk : k < (colsL ts h).length) : (KK C ts h).getD k K0 = colK C ts ((colsL ts h).getD k []) := by simp [KK, List.getD, hk]
theorem north_set {C : Nat} {ts : List Tl} (hs : isSet (C : Int) ts = true) {k : Nat} (hk : k < ts.length) : 0 ≤ (ts.getD k T0).2.1 ∧ (ts.getD k T0).2.1 < (C : Int) := by
  simp only [isSet, Bool.and_eq_true] at hs
  have h := List.all_eq_true.1 hs.2 k (List.mem_range.2 hk)
  simp only [good, Bool.and_eq_true, tileOk, decide_eq_true_eq] at h
  omega
/-- What is known of the column k of a height. -/
theorem kk_in {C : Nat} {ts : List Tl} {h : Nat} (hs : isSet (C : Int) ts = true) (h1 : 1 ≤ h) {k : Nat} (hk : k < (colsL ts h).length) :
    ∃ nc a b : Nat, (KK C ts h).getD k K0 = (nc, a, b) ∧ nc < C ∧ a < C ^ h ∧ b < C ^ h ∧ (∃ s, code4 (C : Int) ts ((colsL ts h).getD k []) = [(nc : Int), (a : Int), (b : Int), s]) ∧
      (∃ j : Nat, ((colsL ts h).getD k []).getD 0 0 = (j : Int) ∧ j < ts.length ∧ (ts.getD j T0).2.1 = (nc : Int)) := by
  have hcc := isSet_col hs
  have hco : colOk C ts := colOk_set hs rfl
  obtain ⟨hl, hal⟩ := colsL_at ts h hk
  have hin := allT_in hal (k := 0) (by omega)
  simp only [inT, decide_eq_true_eq] at hin
  obtain ⟨j, hj⟩ : ∃ j : Nat, ((colsL ts h).getD k []).getD 0 0 = (j : Int) := ⟨(((colsL ts h).getD k []).getD 0 0).toNat, by omega⟩
  rw [hj] at hin
  have hn := north_set hs (k := j) (by omega)
  have hno : northOf ts ((colsL ts h).getD k []) = (ts.getD j T0).2.1 := by
    unfold northOf tnum
    rw [if_neg (by omega), hj, Int.toNat_natCast]
  obtain ⟨nc, hnc⟩ : ∃ nc : Nat, (ts.getD j T0).2.1 = (nc : Int) := ⟨((ts.getD j T0).2.1).toNat, by omega⟩
  obtain ⟨a, ea, ha⟩ := wnum_lt (c := C) (by omega) (mem_colW hco hal)
  obtain ⟨b, eb, hb⟩ := wnum_lt (c := C) (by omega) (mem_colE hco hal)
  rw [colW_len, hl] at ha
  rw [colE_len, hl] at hb
  refine ⟨nc, a, b, ?_, by omega, ha, hb, ⟨southOf ts ((colsL ts h).getD k []), by unfold code4; rw [hno, hnc, ea, eb]⟩, j, hj, by omega, hnc⟩
  rw [KK_at C ts h hk]
  unfold colK
  rw [hno, hnc, ea, eb]
  rfl
theorem kk_edge {C : Nat} {ts : List Tl} {h : Nat} (hs : isSet (C : Int) ts = true) (h1 : 1 ≤ h) {k : Nat} (hk : k < (colsL ts h).length) : (edgesL (C : Int) ts h).getD k T0 = tileK ((KK C ts h).getD k K0) := by
  obtain ⟨nc, a, b, e1, -, -, -, ⟨s, e2⟩, -⟩ := kk_in hs h1 hk
  rw [edgesL_at (C : Int) ts h hk, e1]
  unfold edgeT tileK
  unfold code4 at e2
  injection e2 with x1 x2
  injection x2 with x2 x3
  injection x3 with x3 x4
  rw [x2, x3]
theorem kk_mem {C : Nat} {ts : List Tl} {h : Nat} (hs : isSet (C : Int) ts = true) (h1 : 1 ≤ h) : ∀ x ∈ KK C ts h, x.1 < C ∧ x.2.1 < C ^ h ∧ x.2.2 < C ^ h := by
  intro x hx
  obtain ⟨k, hk, e⟩ := List.mem_iff_getElem.1 hx
  have hk' : k < (colsL ts h).length := by rw [← KK_len C]; exact hk
  obtain ⟨nc, a, b, e1, h2, h3, h4, -⟩ := kk_in hs h1 hk'
  have e2 : (KK C ts h).getD k K0 = x := by simp [List.getD, hk, e]
  rw [← e2, e1]
  exact ⟨h2, h3, h4⟩

/-- The columns handed back. -/
def CodeR4 (w : World) (C : Nat) (ts : List Tl) (h : Nat) (e : Ending) (w' : World) : Prop :=
  ∃ R q, e = .returned (.tuple #[.slice R (colsL ts h).length q, .int .i64 0]) ∧ Below w.heap.size w w' ∧ IRR w' w'.heap.size R (rows4 (C : Int) ts (colsL ts h))
set_option maxRecDepth 100000 in
set_option maxHeartbeats 4000000 in
theorem l10Code_0 (C : Nat) (A : Option Addr) (n c : Nat) (ts : List Tl) (h : Nat) (w : World) (hl : ts.length = n) (hA : TR w w.heap.size A ts) (hs : isSet (C : Int) ts = true) (h1 : 1 ≤ h) (h3 : h ≤ 3) :
    Calls Try.prog 69 #[.agg #[.int .i64 (C : Int), .slice A n c], .int .i64 (h : Int), .bool true] w (CodeR4 w C ts h) := by
  have hn := isSet_len hs
  rw [hl] at hn
  have hcc := isSet_col hs
  have his : ∀ W, Ext w W → Calls Try.prog 94 #[.agg #[.int .i64 (C : Int), .slice A n c]] W _ := fun W hW => l01Is_any (C : Int) A n c ts W (by omega) hl ((hA.ext hW (Nat.le_refl _)).more (hW.below (Nat.le_refl _)).size)
  rw [hs] at his
  have hsz : ∀ W, Calls Try.prog 71 #[.agg #[.int .i64 (C : Int), .slice A n c], .int .i64 (h : Int)] W _ := fun W => l06Size_any C A n c h W (by omega) (by omega)
  have hcl : ∀ W, Ext w W → Calls Try.prog 114 #[.agg #[.int .i64 (C : Int), .slice A n c], .int .i64 (h : Int)] W _ := fun W hW => l10Columns_any C A n c ts h W hl ((hA.ext hW (Nat.le_refl _)).more (hW.below (Nat.le_refl _)).size) hs h3
  have hin : decide (1 ≤ (h : Int) ∧ (h : Int) ≤ 3) = true := decide_eq_true ⟨by omega, by omega⟩
  have hp := pow_216 (C := C) (h := h) (by omega) h3
  unfold CodeR4
  have HI := Lib.hid his
  have HZ := Lib.hid hsz
  have HC := Lib.hid hcl
  clear his hsz hcl hA hs hcc
  generalize rows4 (C : Int) ts (colsL ts h) = rs at *
  generalize (colsL ts h).length = N at *
  generalize C ^ h = P at *
  have h7 : ¬ (700 : Int) < (P : Int) := by omega
  go_enter Try.func69, Try.ntmps69
  go_wp2_with fail
  refine (HI.out _ ((Ext.refl w).alloc _)).mono ?_
  rintro e w1 ⟨rfl, hx⟩
  have HX1 := Lib.hid (((Ext.refl w).alloc _).trans hx)
  have hb1 := (Blk.new w 30 #[.int .i64 (C : Int), .slice A n c]).ext hx
  have HB1 := Lib.hid hb1
  have r0 := hb1.rd 0 rfl
  have r1 := hb1.rd 1 rfl
  clear hx hb1
  go_wp2_with fail
  refine (l01In_any _ _ _ _).mono ?_
  rintro e w2 ⟨rfl, rfl⟩
  rw [hin]
  go_wp2_with fail
  refine (HZ.out _).mono ?_
  rintro e w3 ⟨rfl, hx⟩
  have HX3 := Lib.hid (HX1.out.trans hx)
  have hb3 := HB1.out.ext hx
  have r0 := hb3.rd 0 rfl
  have r1 := hb3.rd 1 rfl
  clear hx hb3
  go_wp2_with fail
  refine (HC.out _ HX3.out).mono ?_
  rintro e w4 ⟨R, q, rfl, hb, hir⟩
  have HB4 := Lib.hid ((HX3.out.below (Nat.le_refl _)).trans (hb.mono (HX3.out.below (Nat.le_refl _)).size))
  have HIR := Lib.hid hir
  clear hb hir r0 r1
  go_wp2_with fail
  go_ret2
  exact ⟨R, q, rfl, HB4.out, HIR.out⟩

set_option maxRecDepth 100000 in
set_option maxHeartbeats 4000000 in
theorem l10Code_no (c0 : Int) (A : Option Addr) (n c : Nat) (ts : List Tl) (h : Int) (good : Bool) (w : World) (hn : n ≤ 1048576) (hl : ts.length = n) (hA : TR w w.heap.size A ts) (hg : tcCode c0 ts h good ≠ 0) :
    Calls Try.prog 69 #[.agg #[.int .i64 c0, .slice A n c], .int .i64 h, .bool good] w (NoCols w (tcCode c0 ts h good)) := by
  have his : ∀ W, Ext w W → Calls Try.prog 94 #[.agg #[.int .i64 c0, .slice A n c]] W _ := fun W hW => l01Is_any c0 A n c ts W (by omega) hl ((hA.ext hW (Nat.le_refl _)).more (hW.below (Nat.le_refl _)).size)
  obtain ⟨code, hcode⟩ : ∃ code, tcCode c0 ts h good = code := ⟨_, rfl⟩
  unfold NoCols
  rw [hcode] at hg ⊢
  unfold tcCode at hcode
  generalize isSet c0 ts = s at his hcode
  have HI := Lib.hid his
  have HC := Lib.hid hcode
  clear his hA hcode
  go_enter Try.func69, Try.ntmps69
  go_wp2_with fail
  refine (HI.out _ ((Ext.refl w).alloc _)).mono ?_
  rintro e w1 ⟨rfl, hx⟩
  have HX1 := Lib.hid (((Ext.refl w).alloc _).trans hx)
  clear hx
  cases s with
  | false =>
    go_wp2_with fail
    go_ret2
    exact ⟨by rw [← HC.out]; rfl, HX1.out.below (Nat.le_refl _)⟩
  | true =>
    go_wp2_with fail
    refine (l01In_any _ _ _ _).mono ?_
    rintro e w2 ⟨rfl, rfl⟩
    by_cases hh : 1 ≤ h ∧ h ≤ 3
    · cases good with
      | true => exact absurd (by rw [← HC.out]; simp [hh]) hg
      | false =>
        rw [decide_eq_true hh]
        go_wp2_with fail
        go_ret2
        exact ⟨by rw [← HC.out]; simp, HX1.out.below (Nat.le_refl _)⟩
    · rw [decide_eq_false hh]
      go_wp2_with fail
      go_ret2
      exact ⟨by rw [← HC.out]; simp [hh], HX1.out.below (Nat.le_refl _)⟩
end Go.Proofs.Ytleabblnikbmpaa
