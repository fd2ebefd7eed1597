/- StrongParts, both sides. -/
import Derived.Test.YtleabblnikbmpaaGs5
import Derived.Test.YtleabblnikbmpaaGuA
import Derived.Lib.Hide
namespace Go.Proofs.Ytleabblnikbmpaa
set_option linter.unusedVariables false
set_option linter.unusedSimpArgs false
open Go.RowKit Go.Sort

/-- The strong parts of a height. -/
noncomputable def sparts (E : List Tl) : List (List Int) := partsL (fwR (relF (tabF (wordsL E) (lastingT E))) (wordsL E).length) (wordsL E).length (wordsL E).length
theorem need_parts {m : Nat} (h : m ≤ 40) (Q : Rel) : need (partsL Q m m) ≤ 65536 := by
  have hs : ∀ l : List (List Int), (∀ r ∈ l, r.length ≤ m) → (l.map List.length).sum ≤ l.length * m := by
    intro l
    induction l with
    | nil => intro _; simp
    | cons r l ih =>
      intro hr
      have h1 := ih fun s hs => hr s (by simp [hs])
      have h2 := hr r (by simp)
      rw [List.map_cons, List.sum_cons, List.length_cons, Nat.add_mul]
      omega
  have hr : ∀ r ∈ partsL Q m m, r.length ≤ m := by
    intro r hr
    simp only [partsL, List.mem_map] at hr
    obtain ⟨i, -, rfl⟩ := hr
    exact partK_le Q i m
  have h1 := hs _ hr
  have h2 := partsL_len Q m m
  have h3 : (partsL Q m m).length * m ≤ 40 * 40 := Nat.mul_le_mul (by omega) h
  unfold need pre
  rw [List.take_length]
  omega

set_option maxRecDepth 100000 in
set_option maxHeartbeats 2000000 in
theorem implStrongParts_0 (C : Nat) (A : Option Addr) (n c : Nat) (ts : List Tl) (h : Nat) (w : World) (hl : ts.length = n) (hA : TR w w.heap.size A ts) (hs : isSet (C : Int) ts = true) (h1 : 1 ≤ h) (h4 : h ≤ 4) (hC7 : C ^ h ≤ 700) (hN : (colsL ts h).length ≤ 5000) (h40 : (wordsL (edgesL (C : Int) ts h)).length ≤ 40) :
    Calls Try.prog 30 #[.agg #[.int .i64 (C : Int), .slice A n c], .int .i64 (h : Int)] w (MatRes w (sparts (edgesL (C : Int) ts h)) 0) := by
  have hgo : ∀ W, Ext w W → Calls Try.prog 28 #[.agg #[.int .i64 (C : Int), .slice A n c], .int .i64 (h : Int)] W _ := fun W hW => implColumnTable_0 C A n c ts h W hl ((hA.ext hW (Nat.le_refl _)).more (hW.below (Nat.le_refl _)).size) hs h1 h4 hC7 hN h40
  unfold MatRes tabL at hgo
  have hsp : ∀ W (T : Option Addr) (p : Nat), IRR W W.heap.size T (matL (wordsL (edgesL (C : Int) ts h)).length (tabF (wordsL (edgesL (C : Int) ts h)) (lastingT (edgesL (C : Int) ts h)))) → Calls Try.prog 66 #[.slice T (wordsL (edgesL (C : Int) ts h)).length p] W _ := fun W T p hT => strongParts_any T _ p _ W h40 hT
  simp only [matL_len] at hgo
  unfold MatRes sparts
  generalize (wordsL (edgesL (C : Int) ts h)).length = m at *
  generalize tabF (wordsL (edgesL (C : Int) ts h)) (lastingT (edgesL (C : Int) ts h)) = f at *
  generalize partsL (fwR (relF f) m) m m = ps at *
  have HG := Lib.hid hgo
  have HSP := Lib.hid hsp
  clear hgo hsp hA hs
  go_enter Try.func30, Try.ntmps30
  go_wp2_with fail
  refine (HG.out _ ((Ext.refl w).alloc _)).mono ?_
  rintro e w1 ⟨T, p, rfl, hb, hm⟩
  have HB := Lib.hid ((((Ext.refl w).alloc (.cells #[.int .i64 (C : Int), .slice A n c] 30)).below (Nat.le_refl _)).trans (hb.mono (by simp)))
  have HI := Lib.hid hm.irr
  have hszb := HB.out.size
  clear hb hm
  go_wp2_with fail
  refine (HSP.out _ _ _ HI.out).mono ?_
  rintro e w2 ⟨T2, p2, rfl, hb2, hm2⟩
  have HB2 := Lib.hid (HB.out.trans (hb2.mono hszb))
  have HM := Lib.hid (hm2.up_ hszb (Nat.le_refl _))
  clear hb2 hm2
  go_wp2_with fail
  go_ret2
  first | exact ⟨T2, p2, rfl, HB2.out, HM.out⟩ | exact ⟨T2, ⟨p2, rfl⟩, HB2.out, HM.out⟩

set_option maxRecDepth 100000 in
set_option maxHeartbeats 2000000 in
theorem implStrongParts_no (c0 : Int) (A : Option Addr) (n c : Nat) (ts : List Tl) (h : Int) (w : World) (hn : n ≤ 1048576) (hl : ts.length = n) (hA : TR w w.heap.size A ts) (hg : tCode c0 ts h ≠ 0) :
    Calls Try.prog 30 #[.agg #[.int .i64 c0, .slice A n c], .int .i64 h] w (MatRes w [] (tCode c0 ts h)) := by
  have hgo : ∀ W, Ext w W → Calls Try.prog 28 #[.agg #[.int .i64 c0, .slice A n c], .int .i64 h] W _ := fun W hW => implColumnTable_no c0 A n c ts h W hn hl ((hA.ext hW (Nat.le_refl _)).more (hW.below (Nat.le_refl _)).size) hg
  unfold MatRes at hgo
  generalize tCode c0 ts h = code at *
  have hne : (code != 0) = true := by simp [hg]
  have HG := Lib.hid hgo
  clear hgo hA
  go_enter Try.func30, Try.ntmps30
  go_wp2_with fail
  refine (HG.out _ ((Ext.refl w).alloc _)).mono ?_
  rintro e w1 ⟨T, p, rfl, hb, -⟩
  have HB := Lib.hid ((((Ext.refl w).alloc (.cells #[.int .i64 c0, .slice A n c] 30)).below (Nat.le_refl _)).trans (hb.mono (by simp)))
  clear hb
  go_wp2_with fail
  go_ret2
  exact MatRes.none_ HB.out

set_option maxRecDepth 100000 in
set_option maxHeartbeats 2000000 in
theorem specStrongParts_0 (C : Nat) (A : Option Addr) (n c : Nat) (ts : List Tl) (h : Nat) (w : World) (hl : ts.length = n) (hA : TR w w.heap.size A ts) (hs : isSet (C : Int) ts = true) (h1 : 1 ≤ h) (h4 : h ≤ 4) (hC7 : C ^ h ≤ 700) (hN : (colsL ts h).length ≤ 5000) (h40 : (wordsL (edgesL (C : Int) ts h)).length ≤ 40) :
    Calls Try.prog 29 #[.agg #[.int .i64 (C : Int), .slice A n c], .int .i64 (h : Int)] w (MatRes w (sparts (edgesL (C : Int) ts h)) 0) := by
  have hgo : ∀ W, Ext w W → Calls Try.prog 56 #[.agg #[.int .i64 (C : Int), .slice A n c], .int .i64 (h : Int)] W _ := fun W hW => (l06Lasting_g C A n c ts h W hl ((hA.ext hW (Nat.le_refl _)).more (hW.below (Nat.le_refl _)).size) hs h1 h4 hC7 hN).mono fun e w' ⟨hyes, _⟩ => hyes h40
  unfold LastM tabL at hgo
  have hsp : ∀ W (T : Option Addr) (p : Nat), IRR W W.heap.size T (matL (wordsL (edgesL (C : Int) ts h)).length (tabF (wordsL (edgesL (C : Int) ts h)) (lastingT (edgesL (C : Int) ts h)))) → Calls Try.prog 65 #[.slice T (wordsL (edgesL (C : Int) ts h)).length p] W _ := fun W T p hT => l06Parts_any T _ p _ W h40 hT
  unfold MatRes sparts
  generalize hws : wordsL (edgesL (C : Int) ts h) = ws at *
  generalize tabF ws (lastingT (edgesL (C : Int) ts h)) = f at *
  generalize hmm : ws.length = m at *
  generalize partsL (fwR (relF f) m) m m = ps at *
  have HG := Lib.hid hgo
  have HSP := Lib.hid hsp
  clear hgo hsp hA hs hws
  go_enter Try.func29, Try.ntmps29
  go_wp2_with fail
  refine (HG.out _ ((Ext.refl w).alloc _)).mono ?_
  rintro e w1 ⟨A2, q2, T, p, rfl, hb, -, hm⟩
  have HB := Lib.hid ((((Ext.refl w).alloc (.cells #[.int .i64 (C : Int), .slice A n c] 30)).below (Nat.le_refl _)).trans (hb.mono (by simp)))
  have HI := Lib.hid hm.irr
  have hszb := HB.out.size
  clear hb hm
  go_wp2_with fail
  refine (HSP.out _ _ _ HI.out).mono ?_
  rintro e w2 ⟨T2, p2, rfl, hb2, hm2⟩
  have HB2 := Lib.hid (HB.out.trans (hb2.mono hszb))
  have HM := Lib.hid (hm2.up_ hszb (Nat.le_refl _))
  clear hb2 hm2
  go_wp2_with fail
  go_ret2
  first | exact ⟨T2, p2, rfl, HB2.out, HM.out⟩ | exact ⟨T2, ⟨p2, rfl⟩, HB2.out, HM.out⟩

set_option maxRecDepth 100000 in
set_option maxHeartbeats 2000000 in
theorem specStrongParts_no (c0 : Int) (A : Option Addr) (n c : Nat) (ts : List Tl) (h : Int) (w : World) (hn : n ≤ 1048576) (hl : ts.length = n) (hA : TR w w.heap.size A ts) (hg : tCode c0 ts h ≠ 0) :
    Calls Try.prog 29 #[.agg #[.int .i64 c0, .slice A n c], .int .i64 h] w (MatRes w [] (tCode c0 ts h)) := by
  have hgo : ∀ W, Ext w W → Calls Try.prog 56 #[.agg #[.int .i64 c0, .slice A n c], .int .i64 h] W _ := fun W hW => l06Lasting_bad c0 A n c ts h W hn hl ((hA.ext hW (Nat.le_refl _)).more (hW.below (Nat.le_refl _)).size) hg
  unfold NoLast at hgo
  generalize tCode c0 ts h = code at *
  have hne : (code != 0) = true := by simp [hg]
  have HG := Lib.hid hgo
  clear hgo hA
  go_enter Try.func29, Try.ntmps29
  go_wp2_with fail
  refine (HG.out _ ((Ext.refl w).alloc _)).mono ?_
  rintro e w1 ⟨rfl, hb⟩
  have HB := Lib.hid ((((Ext.refl w).alloc (.cells #[.int .i64 c0, .slice A n c] 30)).below (Nat.le_refl _)).trans (hb.mono (by simp)))
  clear hb
  go_wp2_with fail
  go_ret2
  exact MatRes.none_ HB.out
end Go.Proofs.Ytleabblnikbmpaa
