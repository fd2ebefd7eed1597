/- PeriodOfHeight and IsMixing: the model's side, and the program's IsMixing. -/
import Derived.Test.YtleabblnikbmpaaGqA
import Derived.Test.YtleabblnikbmpaaGuA
import Derived.Test.YtleabblnikbmpaaRow
import Derived.Lib.Hide
namespace Go.Proofs.Ytleabblnikbmpaa
set_option linter.unusedVariables false
set_option linter.unusedSimpArgs false
open Go.RowKit Go.Sort

theorem tCode_ne5 (c0 : Int) (ts : List Tl) (h : Int) : tCode c0 ts h ≠ 5 := by
  unfold tCode gCode hCode
  repeat' split
  all_goals first | decide | omega

set_option maxRecDepth 100000 in
set_option maxHeartbeats 2000000 in
theorem specPeriod_0 (C : Nat) (A : Option Addr) (n c : Nat) (ts : List Tl) (h : Nat) (w : World) (hl : ts.length = n) (hA : TR w w.heap.size A ts) (hs : isSet (C : Int) ts = true) (h1 : 1 ≤ h) (h4 : h ≤ 4) (hC7 : C ^ h ≤ 700) (hN : (colsL ts h).length ≤ 5000) (h40 : (wordsL (edgesL (C : Int) ts h)).length ≤ 40) :
    Calls Try.prog 31 #[.agg #[.int .i64 (C : Int), .slice A n c], .int .i64 (h : Int)] w (IntRes w (pVal (edgesL (C : Int) ts h)) (pCode (edgesL (C : Int) ts h))) := by
  have hgo : ∀ W, Ext w W → Calls Try.prog 56 #[.agg #[.int .i64 (C : Int), .slice A n c], .int .i64 (h : Int)] W _ := fun W hW => (l06Lasting_g C A n c ts h W hl ((hA.ext hW (Nat.le_refl _)).more (hW.below (Nat.le_refl _)).size) hs h1 h4 hC7 hN).mono fun e w' ⟨hyes, _⟩ => hyes h40
  unfold LastM tabL at hgo
  unfold pVal pCode pOne
  generalize hws : wordsL (edgesL (C : Int) ts h) = ws at *
  generalize tabF ws (lastingT (edgesL (C : Int) ts h)) = f at *
  generalize hmm : ws.length = m at *
  have hsp : ∀ W (T : Option Addr) (p : Nat), IRR W W.heap.size T (matL m f) → Calls Try.prog 67 #[.slice T m p] W _ := fun W T p hT => l06Period_any T m p f W h40 hT (if oneAll (fwR (relF f) m) m = true then ((perT f m : Nat) : Int) else 0) (fun e => by rw [if_pos e]) (fun e => by rw [e]; rfl)
  generalize perT f m = pt at *
  generalize oneAll (fwR (relF f) m) m = o at *
  obtain ⟨pv, hpv⟩ : ∃ pv : Int, pv = if o = true then (pt : Int) else 0 := ⟨_, rfl⟩
  obtain ⟨pc, hpc⟩ : ∃ pc : Int, pc = if o = true then 0 else 5 := ⟨_, rfl⟩
  rw [← hpv] at hsp
  rw [← hpv, ← hpc]
  have HV1 := Lib.hid (show o = true → (0 : Int) = pc from fun e => by rw [hpc, if_pos e])
  have HV0 := Lib.hid (show o = false → pv = 0 ∧ pc = 5 from fun e => by rw [hpv, hpc, e]; exact ⟨rfl, rfl⟩)
  have HG := Lib.hid hgo
  have HSP := Lib.hid hsp
  clear hgo hsp hA hs hws hpv hpc
  go_enter Try.func31, Try.ntmps31
  go_wp2_with fail
  refine (HG.out _ ((Ext.refl w).alloc _)).mono ?_
  rintro e w1 ⟨A2, q2, T, p, rfl, hb, -, hm⟩
  have HB := Lib.hid ((((Ext.refl w).alloc (.cells #[.int .i64 (C : Int), .slice A n c] 30)).below (Nat.le_refl _)).trans (hb.mono (by simp)))
  have HI := Lib.hid hm.irr
  have hszb := HB.out.size
  clear hb hm
  go_wp2_with fail
  refine (HSP.out _ _ _ HI.out).mono ?_
  rintro e w2 ⟨rfl, hb2⟩
  have HB2 := Lib.hid (HB.out.trans (hb2.mono hszb))
  clear hb2
  rcases Bool.eq_false_or_eq_true o with ho | ho
  · have e1 := HV1.out ho
    subst ho
    subst e1
    go_wp2_with fail
    go_ret2
    exact IntRes.mk rfl HB2.out
  · obtain ⟨e1, e2⟩ := HV0.out ho
    subst ho
    subst e1
    subst e2
    go_wp2_with fail
    go_ret2
    exact IntRes.mk rfl HB2.out

set_option maxRecDepth 100000 in
set_option maxHeartbeats 2000000 in
theorem specPeriod_no (c0 : Int) (A : Option Addr) (n c : Nat) (ts : List Tl) (h : Int) (w : World) (hn : n ≤ 1048576) (hl : ts.length = n) (hA : TR w w.heap.size A ts) (hg : tCode c0 ts h ≠ 0) :
    Calls Try.prog 31 #[.agg #[.int .i64 c0, .slice A n c], .int .i64 h] w (IntRes w 0 (tCode c0 ts h)) := by
  have hgo : ∀ W, Ext w W → Calls Try.prog 56 #[.agg #[.int .i64 c0, .slice A n c], .int .i64 h] W _ := fun W hW => l06Lasting_bad c0 A n c ts h W hn hl ((hA.ext hW (Nat.le_refl _)).more (hW.below (Nat.le_refl _)).size) hg
  unfold NoLast at hgo
  generalize tCode c0 ts h = code at *
  have hne : (code != 0) = true := by simp [hg]
  have HG := Lib.hid hgo
  clear hgo hA
  go_enter Try.func31, Try.ntmps31
  go_wp2_with fail
  refine (HG.out _ ((Ext.refl w).alloc _)).mono ?_
  rintro e w1 ⟨rfl, hb⟩
  have HB := Lib.hid ((((Ext.refl w).alloc (.cells #[.int .i64 c0, .slice A n c] 30)).below (Nat.le_refl _)).trans (hb.mono (by simp)))
  clear hb
  go_wp2_with fail
  go_ret2
  exact IntRes.mk rfl HB.out

/-- Whether a height is mixing. -/
noncomputable def mixB (E : List Tl) : Bool := decide (pVal E = 1)

set_option maxRecDepth 100000 in
set_option maxHeartbeats 2000000 in
theorem specMixing_0 (C : Nat) (A : Option Addr) (n c : Nat) (ts : List Tl) (h : Nat) (w : World) (hl : ts.length = n) (hA : TR w w.heap.size A ts) (hs : isSet (C : Int) ts = true) (h1 : 1 ≤ h) (h4 : h ≤ 4) (hC7 : C ^ h ≤ 700) (hN : (colsL ts h).length ≤ 5000) (h40 : (wordsL (edgesL (C : Int) ts h)).length ≤ 40) :
    Calls Try.prog 33 #[.agg #[.int .i64 (C : Int), .slice A n c], .int .i64 (h : Int)] w (BoolRes w (mixB (edgesL (C : Int) ts h)) 0) := by
  have hgo : ∀ W, Ext w W → Calls Try.prog 56 #[.agg #[.int .i64 (C : Int), .slice A n c], .int .i64 (h : Int)] W _ := fun W hW => (l06Lasting_g C A n c ts h W hl ((hA.ext hW (Nat.le_refl _)).more (hW.below (Nat.le_refl _)).size) hs h1 h4 hC7 hN).mono fun e w' ⟨hyes, _⟩ => hyes h40
  unfold LastM tabL at hgo
  unfold mixB pVal pOne
  generalize hws : wordsL (edgesL (C : Int) ts h) = ws at *
  generalize tabF ws (lastingT (edgesL (C : Int) ts h)) = f at *
  generalize hmm : ws.length = m at *
  have hsp : ∀ W (T : Option Addr) (p : Nat), IRR W W.heap.size T (matL m f) → Calls Try.prog 67 #[.slice T m p] W _ := fun W T p hT => l06Period_any T m p f W h40 hT (if oneAll (fwR (relF f) m) m = true then ((perT f m : Nat) : Int) else 0) (fun e => by rw [if_pos e]) (fun e => by rw [e]; rfl)
  generalize perT f m = pt at *
  generalize oneAll (fwR (relF f) m) m = o at *
  obtain ⟨pv, hpv⟩ : ∃ pv : Int, pv = if o = true then (pt : Int) else 0 := ⟨_, rfl⟩
  rw [← hpv] at hsp
  rw [← hpv]
  obtain ⟨mb, hmb⟩ : ∃ mb, mb = decide (pv = 1) := ⟨_, rfl⟩
  rw [← hmb]
  have HV0 := Lib.hid (show o = false → mb = false from fun e => by rw [hmb, hpv, e]; rfl)
  have HMB := Lib.hid hmb
  have HG := Lib.hid hgo
  have HSP := Lib.hid hsp
  clear hgo hsp hA hs hws hpv hmb
  go_enter Try.func33, Try.ntmps33
  go_wp2_with fail
  refine (HG.out _ ((Ext.refl w).alloc _)).mono ?_
  rintro e w1 ⟨A2, q2, T, p, rfl, hb, -, hm⟩
  have HB := Lib.hid ((((Ext.refl w).alloc (.cells #[.int .i64 (C : Int), .slice A n c] 30)).below (Nat.le_refl _)).trans (hb.mono (by simp)))
  have HI := Lib.hid hm.irr
  have hszb := HB.out.size
  clear hb hm
  go_wp2_with fail
  refine (HSP.out _ _ _ HI.out).mono ?_
  rintro e w2 ⟨rfl, hb2⟩
  have HB2 := Lib.hid (HB.out.trans (hb2.mono hszb))
  clear hb2
  rcases Bool.eq_false_or_eq_true o with ho | ho
  · subst ho
    by_cases hp : pv = 1
    · have HE := Lib.hid (HMB.out.trans (decide_eq_true hp))
      have hpb : (pv == 1) = true := by simp [hp]
      go_wp2_with fail
      go_ret2
      exact ⟨by rw [HE.out]; rfl, HB2.out⟩
    · have HE := Lib.hid (HMB.out.trans (decide_eq_false hp))
      have hpb : (pv == 1) = false := by simp [hp]
      go_wp2_with fail
      go_ret2
      exact ⟨by rw [HE.out]; rfl, HB2.out⟩
  · have HE := Lib.hid (HV0.out ho)
    subst ho
    go_wp2_with fail
    go_ret2
    exact ⟨by rw [HE.out]; rfl, HB2.out⟩

set_option maxRecDepth 100000 in
set_option maxHeartbeats 2000000 in
theorem specMixing_no (c0 : Int) (A : Option Addr) (n c : Nat) (ts : List Tl) (h : Int) (w : World) (hn : n ≤ 1048576) (hl : ts.length = n) (hA : TR w w.heap.size A ts) (hg : tCode c0 ts h ≠ 0) :
    Calls Try.prog 33 #[.agg #[.int .i64 c0, .slice A n c], .int .i64 h] w (BoolRes w false (tCode c0 ts h)) := by
  have hgo : ∀ W, Ext w W → Calls Try.prog 56 #[.agg #[.int .i64 c0, .slice A n c], .int .i64 h] W _ := fun W hW => l06Lasting_bad c0 A n c ts h W hn hl ((hA.ext hW (Nat.le_refl _)).more (hW.below (Nat.le_refl _)).size) hg
  unfold NoLast at hgo
  generalize tCode c0 ts h = code at *
  have hne : (code != 0) = true := by simp [hg]
  have HG := Lib.hid hgo
  clear hgo hA
  go_enter Try.func33, Try.ntmps33
  go_wp2_with fail
  refine (HG.out _ ((Ext.refl w).alloc _)).mono ?_
  rintro e w1 ⟨rfl, hb⟩
  have HB := Lib.hid ((((Ext.refl w).alloc (.cells #[.int .i64 c0, .slice A n c] 30)).below (Nat.le_refl _)).trans (hb.mono (by simp)))
  clear hb
  go_wp2_with fail
  go_ret2
  exact ⟨rfl, HB.out⟩

set_option maxRecDepth 100000 in
set_option maxHeartbeats 2000000 in
/-- The program's IsMixing, from what its PeriodOfHeight answers. -/
theorem implMixing_of (c0 : Int) (A : Option Addr) (n c : Nat) (h : Int) (w : World) (pv pc : Int) (r : Bool) (code : Int) (hper : ∀ W, Ext w W → Calls Try.prog 32 #[.agg #[.int .i64 c0, .slice A n c], .int .i64 h] W (IntRes W pv pc))
    (hcase : (pc = 5 ∧ r = false ∧ code = 0) ∨ (pc ≠ 5 ∧ r = decide (pv = 1) ∧ code = pc)) :
    Calls Try.prog 34 #[.agg #[.int .i64 c0, .slice A n c], .int .i64 h] w (BoolRes w r code) := by
  unfold IntRes at hper
  have HG := Lib.hid hper
  clear hper
  rcases hcase with ⟨rfl, rfl, rfl⟩ | ⟨hne, hr, rfl⟩
  · go_enter Try.func34, Try.ntmps34
    go_wp2_with fail
    refine (HG.out _ ((Ext.refl w).alloc _)).mono ?_
    rintro e w1 ⟨rfl, hb⟩
    have HB := Lib.hid ((((Ext.refl w).alloc (.cells #[.int .i64 c0, .slice A n c] 30)).below (Nat.le_refl _)).trans (hb.mono (by simp)))
    clear hb
    go_wp2_with fail
    go_ret2
    exact ⟨rfl, HB.out⟩
  · have HR := Lib.hid hr
    have hne5 : (code == 5) = false := by simp [hne]
    clear hr
    go_enter Try.func34, Try.ntmps34
    go_wp2_with fail
    refine (HG.out _ ((Ext.refl w).alloc _)).mono ?_
    rintro e w1 ⟨rfl, hb⟩
    have HB := Lib.hid ((((Ext.refl w).alloc (.cells #[.int .i64 c0, .slice A n c] 30)).below (Nat.le_refl _)).trans (hb.mono (by simp)))
    clear hb
    by_cases hp : pv = 1
    · have HE := Lib.hid (HR.out.trans (decide_eq_true hp))
      have hpb : (pv == 1) = true := by simp [hp]
      go_wp2_with fail
      go_ret2
      exact ⟨by rw [HE.out]; rfl, HB.out⟩
    · have HE := Lib.hid (HR.out.trans (decide_eq_false hp))
      have hpb : (pv == 1) = false := by simp [hp]
      go_wp2_with fail
      go_ret2
      exact ⟨by rw [HE.out]; rfl, HB.out⟩
theorem implMixing_0 (C : Nat) (A : Option Addr) (n c : Nat) (ts : List Tl) (h : Nat) (w : World) (hl : ts.length = n) (hA : TR w w.heap.size A ts) (hs : isSet (C : Int) ts = true) (h1 : 1 ≤ h) (h4 : h ≤ 4) (hC7 : C ^ h ≤ 700) (hN : (colsL ts h).length ≤ 5000) (h40 : (wordsL (edgesL (C : Int) ts h)).length ≤ 40) :
    Calls Try.prog 34 #[.agg #[.int .i64 (C : Int), .slice A n c], .int .i64 (h : Int)] w (BoolRes w (mixB (edgesL (C : Int) ts h)) 0) := by
  refine implMixing_of C A n c h w _ _ _ _ (fun W hW => implPeriod_0 C A n c ts h W hl ((hA.ext hW (Nat.le_refl _)).more (hW.below (Nat.le_refl _)).size) hs h1 h4 hC7 hN h40) ?_
  unfold mixB pCode pVal
  by_cases ho : pOne (edgesL (C : Int) ts h) = true
  · rw [if_pos ho, if_pos ho]; exact .inr ⟨by decide, rfl, rfl⟩
  · rw [if_neg ho, if_neg ho]; exact .inl ⟨rfl, rfl, rfl⟩
theorem implMixing_no (c0 : Int) (A : Option Addr) (n c : Nat) (ts : List Tl) (h : Int) (w : World) (hn : n ≤ 1048576) (hl : ts.length = n) (hA : TR w w.heap.size A ts) (hg : tCode c0 ts h ≠ 0) :
    Calls Try.prog 34 #[.agg #[.int .i64 c0, .slice A n c], .int .i64 h] w (BoolRes w false (tCode c0 ts h)) :=
  implMixing_of c0 A n c h w _ _ _ _ (fun W hW => implPeriod_no c0 A n c ts h W hn hl ((hA.ext hW (Nat.le_refl _)).more (hW.below (Nat.le_refl _)).size) hg) (.inr ⟨tCode_ne5 c0 ts h, rfl, rfl⟩)
end Go.Proofs.Ytleabblnikbmpaa
