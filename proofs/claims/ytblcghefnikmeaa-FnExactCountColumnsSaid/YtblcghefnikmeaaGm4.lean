/- CountColumns; the model's side. -/
import Derived.Test.YtblcghefnikmeaaGm3
import Derived.Test.YtblcghefnikmeaaCnt2
import Derived.Lib.Hide
namespace Go.Proofs.Ytblcghefnikmeaa
set_option linter.unusedVariables false
set_option linter.unusedSimpArgs false
open Go.RowKit Go.Sort

/-- The columns that the model hands back, to be read. -/
def CodeRes (w : World) (C : Nat) (ts : List Tl) (h : Nat) (e : Ending) (w' : World) : Prop :=
  ∃ R q, e = .returned (.tuple #[.slice R (colsL ts h).length q, .int .i64 0]) ∧ Below w.heap.size w w' ∧ IRR w' w'.heap.size R (rows3 (C : Int) ts (colsL ts h))
set_option maxRecDepth 100000 in
set_option maxHeartbeats 4000000 in
theorem l06Code_0 (C : Nat) (A : Option Addr) (n c : Nat) (ts : List Tl) (h : Nat) (w : World) (hl : ts.length = n) (hA : TR w w.heap.size A ts) (hs : isSet (C : Int) ts = true) (h1 : 1 ≤ h) (h4 : h ≤ 4) (hC7 : C ^ h ≤ 700) (hN : (colsL ts h).length ≤ 5000) :
    Calls Try.prog 46 #[.agg #[.int .i64 (C : Int), .slice A n c], .int .i64 (h : Int)] w (CodeRes w C ts h) := by
  have hn := isSet_len hs
  rw [hl] at hn
  have hcc := isSet_col hs
  have his : ∀ W, Ext w W → Calls Try.prog 62 #[.agg #[.int .i64 (C : Int), .slice A n c]] W _ := fun W hW => l01Is_any (C : Int) A n c ts W (by omega) hl ((hA.ext hW (Nat.le_refl _)).more (hW.below (Nat.le_refl _)).size)
  rw [hs] at his
  have hsz : ∀ W, Calls Try.prog 88 #[.agg #[.int .i64 (C : Int), .slice A n c], .int .i64 (h : Int)] W _ := fun W => l06Size_any C A n c h W (by omega) h4
  have hcl : ∀ W, Ext w W → Calls Try.prog 89 #[.agg #[.int .i64 (C : Int), .slice A n c], .int .i64 (h : Int)] W _ := fun W hW => l06Columns_any C A n c ts h W hl ((hA.ext hW (Nat.le_refl _)).more (hW.below (Nat.le_refl _)).size) hs h4
  have hin : decide (1 ≤ (h : Int) ∧ (h : Int) ≤ 4) = true := decide_eq_true ⟨by omega, by omega⟩
  unfold ColRes at hcl
  simp only [if_pos hN] at hcl
  unfold CodeRes
  have HI := Lib.hid his
  have HZ := Lib.hid hsz
  have HC := Lib.hid hcl
  clear his hsz hcl hA hs hcc hN
  generalize rows3 (C : Int) ts (colsL ts h) = rs at *
  generalize (colsL ts h).length = N at *
  generalize C ^ h = P at *
  have h7 : ¬ (700 : Int) < (P : Int) := by omega
  go_enter Try.func46, Try.ntmps46
  go_wp2_with fail
  refine (HI.out _ ((Ext.refl w).alloc _)).mono ?_
  rintro e w1 ⟨rfl, hx⟩
  have HX1 := Lib.hid (((Ext.refl w).alloc _).trans hx)
  have hb1 := (Blk.new w 30 #[.int .i64 (C : Int), .slice A n c]).ext hx
  have HB1 := Lib.hid hb1
  have r0 := hb1.rd 0 rfl
  have r1 := hb1.rd 1 rfl
  clear hx hb1
  go_wp2_with fail
  refine (l01In_any _ _ _ _).mono ?_
  rintro e w2 ⟨rfl, rfl⟩
  rw [hin]
  go_wp2_with fail
  refine (HZ.out _).mono ?_
  rintro e w3 ⟨rfl, hx⟩
  have HX3 := Lib.hid (HX1.out.trans hx)
  have hb3 := HB1.out.ext hx
  have r0 := hb3.rd 0 rfl
  have r1 := hb3.rd 1 rfl
  clear hx hb3
  go_wp2_with fail
  refine (HC.out _ HX3.out).mono ?_
  rintro e w4 ⟨R, q, rfl, hb, hir⟩
  have HB4 := Lib.hid ((HX3.out.below (Nat.le_refl _)).trans (hb.mono (HX3.out.below (Nat.le_refl _)).size))
  have HIR := Lib.hid hir
  clear hb hir r0 r1
  go_wp2_with fail
  go_ret2
  exact ⟨R, q, rfl, HB4.out, HIR.out⟩

/-- No columns, with a code. -/
def NoCols (w : World) (code : Int) (e : Ending) (w' : World) : Prop := e = .returned (.tuple #[.slice none 0 0, .int .i64 code]) ∧ Below w.heap.size w w'
set_option maxRecDepth 100000 in
set_option maxHeartbeats 4000000 in
theorem l06Code_no (c0 : Int) (A : Option Addr) (n c : Nat) (ts : List Tl) (h : Int) (w : World) (hn : n ≤ 1048576) (hl : ts.length = n) (hA : TR w w.heap.size A ts) (hg : gCode c0 ts h ≠ 0) :
    Calls Try.prog 46 #[.agg #[.int .i64 c0, .slice A n c], .int .i64 h] w (NoCols w (gCode c0 ts h)) := by
  have his : ∀ W, Ext w W → Calls Try.prog 62 #[.agg #[.int .i64 c0, .slice A n c]] W _ := fun W hW => l01Is_any c0 A n c ts W (by omega) hl ((hA.ext hW (Nat.le_refl _)).more (hW.below (Nat.le_refl _)).size)
  obtain ⟨code, hcode⟩ : ∃ code, gCode c0 ts h = code := ⟨_, rfl⟩
  unfold NoCols
  cases hs : isSet c0 ts with
  | false =>
    have HCD := Lib.hid (show gCode c0 ts h = 1 by unfold gCode hCode; rw [hs]; rfl)
    rw [hs] at his
    rw [hcode] at HCD ⊢
    have HI := Lib.hid his
    clear his hA hs hg hcode
    go_enter Try.func46, Try.ntmps46
    go_wp2_with fail
    refine (HI.out _ ((Ext.refl w).alloc _)).mono ?_
    rintro e w1 ⟨rfl, hx⟩
    have HX1 := Lib.hid (((Ext.refl w).alloc _).trans hx)
    clear hx
    go_wp2_with fail
    go_ret2
    exact ⟨by rw [HCD.out]; rfl, HX1.out.below (Nat.le_refl _)⟩
  | true =>
    by_cases hh : 1 ≤ h ∧ h ≤ 4
    · have hn16 := isSet_len hs
      rw [hl] at hn16
      have hcc := isSet_col hs
      obtain ⟨C, rfl⟩ : ∃ C : Nat, c0 = (C : Int) := ⟨c0.toNat, by omega⟩
      obtain ⟨h', rfl⟩ : ∃ h' : Nat, h = (h' : Int) := ⟨h.toNat, by omega⟩
      have hin : decide (1 ≤ (h' : Int) ∧ (h' : Int) ≤ 4) = true := decide_eq_true hh
      have hsz : ∀ W, Calls Try.prog 88 #[.agg #[.int .i64 (C : Int), .slice A n c], .int .i64 (h' : Int)] W _ := fun W => l06Size_any C A n c h' W (by omega) (by omega)
      have hcl : ∀ W, Ext w W → Calls Try.prog 89 #[.agg #[.int .i64 (C : Int), .slice A n c], .int .i64 (h' : Int)] W _ := fun W hW => l06Columns_any C A n c ts h' W hl ((hA.ext hW (Nat.le_refl _)).more (hW.below (Nat.le_refl _)).size) hs (by omega)
      have hg2 := hg
      have hhc : hCode (C : Int) ts (h' : Int) = 0 := by unfold hCode; rw [if_pos hs, if_pos hh]
      unfold gCode at hg2
      rw [if_pos hhc, Int.toNat_natCast, show ((C : Int) ^ h') = ((C ^ h' : Nat) : Int) by push_cast; rfl] at hg2
      have hq : ¬ (((C ^ h' : Nat) : Int) ≤ 700 ∧ (colsL ts h').length ≤ 5000) := fun hq => hg2 (if_pos hq)
      have HCD := Lib.hid (show gCode (C : Int) ts (h' : Int) = 3 by unfold gCode; rw [if_pos hhc, Int.toNat_natCast, show ((C : Int) ^ h') = ((C ^ h' : Nat) : Int) by push_cast; rfl, if_neg hq])
      rw [hs] at his
      rw [hcode] at HCD ⊢
      have HI := Lib.hid his
      have HZ := Lib.hid hsz
      by_cases h7 : (700 : Int) < ((C ^ h' : Nat) : Int)
      · clear his hsz hcl hA hs hcc hg hg2 hcode hhc hq
        generalize C ^ h' = P at *
        go_enter Try.func46, Try.ntmps46
        go_wp2_with fail
        refine (HI.out _ ((Ext.refl w).alloc _)).mono ?_
        rintro e w1 ⟨rfl, hx⟩
        have HX1 := Lib.hid (((Ext.refl w).alloc _).trans hx)
        have hb1 := (Blk.new w 30 #[.int .i64 (C : Int), .slice A n c]).ext hx
        have HB1 := Lib.hid hb1
        have r0 := hb1.rd 0 rfl
        have r1 := hb1.rd 1 rfl
        clear hx hb1
        go_wp2_with fail
        refine (l01In_any _ _ _ _).mono ?_
        rintro e w2 ⟨rfl, rfl⟩
        rw [hin]
        go_wp2_with fail
        refine (HZ.out _).mono ?_
        rintro e w3 ⟨rfl, hx⟩
        have HX3 := Lib.hid (HX1.out.trans hx)
        have hb3 := HB1.out.ext hx
        have r0 := hb3.rd 0 rfl
        have r1 := hb3.rd 1 rfl
        clear hx hb3
        go_wp2_with fail
        go_ret2
        exact ⟨by rw [HCD.out]; rfl, HX3.out.below (Nat.le_refl _)⟩
      · have h5 : ¬ (colsL ts h').length ≤ 5000 := fun h5 => hq ⟨by omega, h5⟩
        unfold ColRes at hcl
        simp only [if_neg h5] at hcl
        have HC := Lib.hid hcl
        clear his hsz hcl hA hs hcc hg hg2 hcode hhc hq h5
        generalize C ^ h' = P at *
        go_enter Try.func46, Try.ntmps46
        go_wp2_with fail
        refine (HI.out _ ((Ext.refl w).alloc _)).mono ?_
        rintro e w1 ⟨rfl, hx⟩
        have HX1 := Lib.hid (((Ext.refl w).alloc _).trans hx)
        have hb1 := (Blk.new w 30 #[.int .i64 (C : Int), .slice A n c]).ext hx
        have HB1 := Lib.hid hb1
        have r0 := hb1.rd 0 rfl
        have r1 := hb1.rd 1 rfl
        clear hx hb1
        go_wp2_with fail
        refine (l01In_any _ _ _ _).mono ?_
        rintro e w2 ⟨rfl, rfl⟩
        rw [hin]
        go_wp2_with fail
        refine (HZ.out _).mono ?_
        rintro e w3 ⟨rfl, hx⟩
        have HX3 := Lib.hid (HX1.out.trans hx)
        have hb3 := HB1.out.ext hx
        have r0 := hb3.rd 0 rfl
        have r1 := hb3.rd 1 rfl
        clear hx hb3
        go_wp2_with fail
        refine (HC.out _ HX3.out).mono ?_
        rintro e w4 ⟨rfl, hb⟩
        have HB4 := Lib.hid ((HX3.out.below (Nat.le_refl _)).trans (hb.mono (HX3.out.below (Nat.le_refl _)).size))
        clear hb r0 r1
        go_wp2_with fail
        go_ret2
        exact ⟨by rw [HCD.out]; rfl, HB4.out⟩
    · have hin : decide (1 ≤ h ∧ h ≤ 4) = false := decide_eq_false hh
      have hhc : hCode c0 ts h = 2 := by unfold hCode; rw [if_pos hs, if_neg hh]
      have HCD := Lib.hid (show gCode c0 ts h = 2 by unfold gCode; rw [hhc]; rfl)
      rw [hs] at his
      rw [hcode] at HCD ⊢
      have HI := Lib.hid his
      clear his hA hs hg hcode hhc hh
      go_enter Try.func46, Try.ntmps46
      go_wp2_with fail
      refine (HI.out _ ((Ext.refl w).alloc _)).mono ?_
      rintro e w1 ⟨rfl, hx⟩
      have HX1 := Lib.hid (((Ext.refl w).alloc _).trans hx)
      clear hx
      go_wp2_with fail
      refine (l01In_any _ _ _ _).mono ?_
      rintro e w2 ⟨rfl, rfl⟩
      rw [hin]
      go_wp2_with fail
      go_ret2
      exact ⟨by rw [HCD.out]; rfl, HX1.out.below (Nat.le_refl _)⟩

set_option maxRecDepth 100000 in
set_option maxHeartbeats 4000000 in
theorem specCountColumns_0 (C : Nat) (A : Option Addr) (n c : Nat) (ts : List Tl) (h : Nat) (w : World) (hl : ts.length = n) (hA : TR w w.heap.size A ts) (hs : isSet (C : Int) ts = true) (h1 : 1 ≤ h) (h4 : h ≤ 4) (hC7 : C ^ h ≤ 700) (hN : (colsL ts h).length ≤ 5000) :
    Calls Try.prog 14 #[.agg #[.int .i64 (C : Int), .slice A n c], .int .i64 (h : Int)] w (IntRes w ((colsL ts h).length : Nat) 0) := by
  have hgo : ∀ W, Ext w W → Calls Try.prog 46 #[.agg #[.int .i64 (C : Int), .slice A n c], .int .i64 (h : Int)] W _ := fun W hW => l06Code_0 C A n c ts h W hl ((hA.ext hW (Nat.le_refl _)).more (hW.below (Nat.le_refl _)).size) hs h1 h4 hC7 hN
  unfold CodeRes at hgo
  generalize (colsL ts h).length = N at *
  have HG := Lib.hid hgo
  clear hgo hA hs
  go_enter Try.func14, Try.ntmps14
  go_wp2_with fail
  refine (HG.out _ ((Ext.refl w).alloc _)).mono ?_
  rintro e w1 ⟨R, q, rfl, hb, -⟩
  have HB := Lib.hid ((((Ext.refl w).alloc (.cells #[.int .i64 (C : Int), .slice A n c] 30)).below (Nat.le_refl _)).trans (hb.mono (by simp)))
  clear hb
  go_wp2_with fail
  go_ret2
  exact IntRes.mk rfl HB.out

set_option maxRecDepth 100000 in
set_option maxHeartbeats 4000000 in
theorem specCountColumns_no (c0 : Int) (A : Option Addr) (n c : Nat) (ts : List Tl) (h : Int) (w : World) (hn : n ≤ 1048576) (hl : ts.length = n) (hA : TR w w.heap.size A ts) (hg : gCode c0 ts h ≠ 0) :
    Calls Try.prog 14 #[.agg #[.int .i64 c0, .slice A n c], .int .i64 h] w (IntRes w 0 (gCode c0 ts h)) := by
  have hgo : ∀ W, Ext w W → Calls Try.prog 46 #[.agg #[.int .i64 c0, .slice A n c], .int .i64 h] W _ := fun W hW => l06Code_no c0 A n c ts h W hn hl ((hA.ext hW (Nat.le_refl _)).more (hW.below (Nat.le_refl _)).size) hg
  unfold NoCols at hgo
  generalize gCode c0 ts h = code at *
  have hne : (code != 0) = true := by simp [hg]
  have HG := Lib.hid hgo
  clear hgo hA
  go_enter Try.func14, Try.ntmps14
  go_wp2_with fail
  refine (HG.out _ ((Ext.refl w).alloc _)).mono ?_
  rintro e w1 ⟨rfl, hb⟩
  have HB := Lib.hid ((((Ext.refl w).alloc (.cells #[.int .i64 c0, .slice A n c] 30)).below (Nat.le_refl _)).trans (hb.mono (by simp)))
  clear hb
  go_wp2_with fail
  go_ret2
  exact IntRes.mk rfl HB.out
end Go.Proofs.Ytblcghefnikmeaa
