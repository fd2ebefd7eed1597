/- Lists of blocks: growths with a number, with rows, with steps. -/
import Derived.Test.YtnmgkchkbchfaaaBk2
import Derived.Test.YtnmgkchkbchfaaaFil2
import Derived.Test.YtnmgkchkbchfaaaBa1
namespace Go.Proofs.Ytnmgkchkbchfaaa
set_option linter.unusedVariables false
set_option linter.unusedSimpArgs false
open Go.RowKit Go.Sort

/-- A code, and behind it a condition. -/
def gCode9 (b : Int) (ok : Bool) : Int := if b = 0 then (if ok = true then 0 else 2) else b
theorem gc_no {b : Int} {ok : Bool} (h : b ≠ 0) : gCode9 b ok = b := if_neg h
theorem gc_yes {b : Int} (h : b = 0) : gCode9 b true = 0 := by simp [gCode9, h]
theorem gc_two {b : Int} (h : b = 0) : gCode9 b false = 2 := by simp [gCode9, h]
theorem gc_zero {b : Int} {ok : Bool} (h : gCode9 b ok = 0) : b = 0 ∧ ok = true := by
  unfold gCode9 at h
  by_cases hb : b = 0
  · rw [if_pos hb] at h
    cases ok
    · simp at h
    · exact ⟨hb, rfl⟩
  · rw [if_neg hb] at h
    exact absurd h hb
def fCode (c0 : Int) (ts : List Tl) (bs : List (List Int)) (i : Int) : Int := gCode9 (bCode c0 ts bs) (decide (0 ≤ i ∧ i < (ts.length : Int)))
def sCode (c0 : Int) (ts : List Tl) (bs : List (List Int)) (i s hi : Int) : Int := gCode9 (fCode c0 ts bs i) (decide (0 ≤ s ∧ s ≤ hi))
def rCode (c0 : Int) (ts : List Tl) (bs rs : List (List Int)) : Int := gCode9 (bCode c0 ts bs) (rowsOk ts rs)
theorem bCode_len {c0 : Int} {ts : List Tl} {bs : List (List Int)} (h : bCode c0 ts bs = 0) : bs.length = ts.length := (bOk_facts (bCode_zero h).2).1
theorem fCode_zero {c0 : Int} {ts : List Tl} {bs : List (List Int)} {i : Int} (h : fCode c0 ts bs i = 0) : bCode c0 ts bs = 0 := (gc_zero h).1
theorem TW.set3 {w : World} {lo k : Nat} {A : Option Addr} {ts : List Tl} {x0 x1 x2 : Value} (h : TW w lo A ts) (hk : k < lo) : TW (((w.setCell ⟨k, 0, none⟩ x0).setCell ⟨k, 1, none⟩ x1).setCell ⟨k, 2, none⟩ x2) lo A ts := ((h.far (p := ⟨k, 0, none⟩) hk _).far (p := ⟨k, 1, none⟩) hk _).far (p := ⟨k, 2, none⟩) hk _
theorem below_set3 {w w' : World} {B k : Nat} {x0 x1 x2 : Value} (h : Below B w w') (hk : B ≤ k) : Below B w (((w'.setCell ⟨k, 0, none⟩ x0).setCell ⟨k, 1, none⟩ x1).setCell ⟨k, 2, none⟩ x2) := ((h.setCell hk _).setCell hk _).setCell hk _

set_option maxRecDepth 100000 in
set_option maxHeartbeats 4000000 in
theorem growthFrom_any (c0 : Int) (A : Option Addr) (n c : Nat) (ts : List Tl) (B : Option Addr) (m d : Nat) (bs : List (List Int)) (i : Int) (w : World) (hn : n ≤ 1048576) (hl : ts.length = n) (hA : TR w w.heap.size A ts) (hm : m ≤ 1048576) (hlr : bs.length = m) (hB : IRR w w.heap.size B bs) (hrow : ∀ k, k < m → (bs.getD k []).length ≤ 1048576) 
    (QQ : Ending → World → Prop) (hQ0 : fCode c0 ts bs i = 0 → ∀ e w', GYes w c0 A n c (blkL bs) e w' → QQ e w') (hQ1 : fCode c0 ts bs i ≠ 0 → ∀ e w', GNo w (fCode c0 ts bs i) e w' → QQ e w') :
    Calls Try.prog 72 #[.agg #[.int .i64 c0, .slice A n c], .slice B m d, .int .i64 i] w QQ := by
  have HG := Lib.hid (fun (W : World) (hW : Below w.heap.size w W) => (fun QQ => growthOf_any c0 A n c ts B m d bs W hn hl ((hA.below hW (Nat.le_refl _)).more hW.size) hm hlr ((hB.below hW (Nat.le_refl _)).more hW.size) hrow QQ))
  have HC := Lib.hid (fun (W : World) (hW : Below w.heap.size w W) => (show Calls Try.prog 109 #[.agg #[.int .i64 c0, .slice A n c], .int .i64 i] W fun e w' => e = .returned (.bool (decide (0 ≤ i ∧ i < (ts.length : Int)))) ∧ Ext W w' by rw [hl]; exact isTileNumber_any c0 A n c i W (by omega)))
  have HQ0 := Lib.hid hQ0
  have HQ1 := Lib.hid hQ1
  have HLE := Lib.hid (show w.heap.size ≤ w.heap.size + 1 by omega)
  clear hQ0 hQ1
  go_enter Try.func72, Try.ntmps72
  go_wp2_with fail
  obtain ⟨W0, hW0⟩ : ∃ W0, (w.alloc (Obj.cells #[.int .i64 c0, .slice A n c] 32)).alloc (Obj.cells #[.int .i64 0, .slice none 0 0, .slice none 0 0] 61) = W0 := ⟨_, rfl⟩
  have hx0 : Ext w W0 := by rw [← hW0]; exact ((Ext.refl w).alloc _).alloc _
  have hS : Blk W0 w.heap.size 32 #[.int .i64 c0, .slice A n c] := by rw [← hW0]; exact (Blk.new w _ _).ext ((Ext.refl _).alloc _)
  have hR : Blk W0 (w.heap.size + 1) 61 #[.int .i64 0, .slice none 0 0, .slice none 0 0] := by
    rw [← hW0]
    have := Blk.new (w.alloc (Obj.cells #[.int .i64 c0, .slice A n c] 32)) 61 #[.int .i64 0, .slice none 0 0, .slice none 0 0]
    simpa using this
  have hsz : w.heap.size + 2 ≤ W0.heap.size := by rw [← hW0]; simp
  have H0 := Lib.hid (hx0.below (Nat.le_refl w.heap.size))
  have HS := Lib.hid hS
  have HR := Lib.hid hR
  have HSZ := Lib.hid hsz
  rw [hW0]
  have r0 := hS.rd 0 rfl
  have r1 := hS.rd 1 rfl
  clear hx0 hS hR hW0 hsz
  refine HG.out W0 H0.out _ ?_ ?_
  · intro hc e w1 ⟨G, g, he, hb1, htw⟩
    subst he
    have HCZ := Lib.hid hc
    have K1 := Lib.hid (H0.out.trans (hb1.mono H0.out.size))
    have S1 := Lib.hid (HS.out.below hb1 HS.out.lt)
    have R1 := Lib.hid (HR.out.below hb1 HR.out.lt)
    have HT := Lib.hid htw
    have hx2 := (Ext.refl w1).alloc (Obj.cells #[.int .i64 c0, .slice A n c, .slice G (blkL bs).length g] 61)
    have K2 := Lib.hid (K1.out.trans (hx2.below K1.out.size))
    have S2 := Lib.hid (S1.out.ext hx2)
    have R2 := Lib.hid (R1.out.ext hx2)
    have T2 := Lib.hid (HT.out.ext hx2)
    have N2 := Lib.hid (Blk.new w1 61 #[.int .i64 c0, .slice A n c, .slice G (blkL bs).length g])
    have HZZ := Lib.hid (And.intro HSZ.out (hb1.size))
    clear hc hb1 htw hx2 r0 r1
    have r0 := S2.out.rd 0 rfl
    have r1 := S2.out.rd 1 rfl
    have HCW := Lib.hid (HC.out _ K2.out)
    cases hok : decide (0 ≤ i ∧ i < (ts.length : Int)) with
    | true =>
      rw [hok] at HCW
      have HQ := Lib.hid (HQ0.out (by unfold fCode; rw [hok]; exact gc_yes HCZ.out))
      clear hok HQ0 HQ1 HC
      go_wp2_with fail
      refine HCW.out.mono ?_
      clear HCW
      generalize w1.alloc (Obj.cells #[.int .i64 c0, .slice A n c, .slice G (blkL bs).length g] 61) = W2 at *
      generalize w1.heap.size = g8 at *
      rintro e w3 ⟨rfl, hx3⟩
      have K3 := Lib.hid (K2.out.trans (hx3.below K2.out.size))
      have R3 := Lib.hid (R2.out.ext hx3)
      have T3 := Lib.hid (T2.out.ext hx3)
      have N3 := Lib.hid (N2.out.ext hx3)
      have t0 := R3.out.rd 0 rfl
      have t1 := R3.out.rd 1 rfl
      have t2 := R3.out.rd 2 rfl
      have z0 := R3.out.frozen 0
      have z1 := R3.out.frozen 1
      have z2 := R3.out.frozen 2
      have hlt := R3.out.lt
      have u0 := N3.out.rd 0 rfl
      have u1 := N3.out.rd 1 rfl
      have u2 := N3.out.rd 2 rfl
      clear hx3 r0 r1
      go_wp2_with fail
      refine bodyPost_ret (v := .tuple #[.agg #[.int .i64 c0, .slice A n c, .slice G (blkL bs).length g], .int .i64 0]) (by simp [results, Try.results72, go_sem, t0, t1, t2, z0, z1, z2]) rfl (HQ.out _ _ ⟨G, g, rfl, ?_, ?_⟩)
      · exact below_set3 K3.out HLE.out
      · exact (T3.out.set3 (by have := HSZ.out; omega)).low (by have := HSZ.out; omega)
    | false =>
      rw [hok] at HCW
      have HQ := Lib.hid (HQ1.out (by unfold fCode; rw [hok, gc_two HCZ.out]; decide))
      unfold fCode at HQ
      rw [hok, gc_two HCZ.out] at HQ
      clear hok HQ0 HQ1 HC
      go_wp2_with fail
      refine HCW.out.mono ?_
      clear HCW
      generalize w1.alloc (Obj.cells #[.int .i64 c0, .slice A n c, .slice G (blkL bs).length g] 61) = W2 at *
      generalize w1.heap.size = g8 at *
      rintro e w3 ⟨rfl, hx3⟩
      have KK := Lib.hid (K2.out.trans (hx3.below K2.out.size))
      have R3 := Lib.hid (R2.out.ext hx3)
      have t0 := R3.out.rd 0 rfl
      have t1 := R3.out.rd 1 rfl
      have t2 := R3.out.rd 2 rfl
      have z0 := R3.out.frozen 0
      have z1 := R3.out.frozen 1
      have z2 := R3.out.frozen 2
      have hlt := R3.out.lt
      clear hx3 r0 r1
      go_wp2_with fail
      refine bodyPost_ret (v := .tuple #[.agg #[.int .i64 0, .slice none 0 0, .slice none 0 0], .int .i64 2]) (by simp [results, Try.results72, go_sem, t0, t1, t2, z0, z1, z2]) rfl (HQ.out _ _ ⟨rfl, ?_⟩)
      exact below_set3 KK.out HLE.out
  · intro hc e w1 ⟨he, hb1⟩
    subst he
    have HQ := Lib.hid (HQ1.out (by unfold fCode; rw [gc_no hc]; exact hc))
    unfold fCode at HQ
    rw [gc_no hc] at HQ
    have K1 := Lib.hid (H0.out.trans (hb1.mono H0.out.size))
    have R1 := Lib.hid (HR.out.below hb1 HR.out.lt)
    have hx2 := (Ext.refl w1).alloc (Obj.cells #[.int .i64 0, .slice none 0 0, .slice none 0 0] 61)
    have KK := Lib.hid (K1.out.trans (hx2.below K1.out.size))
    have R2 := Lib.hid (R1.out.ext hx2)
    have N2 := Lib.hid (Blk.new w1 61 #[.int .i64 0, .slice none 0 0, .slice none 0 0])
    generalize bCode c0 ts bs = cd at *
    have t0 := R2.out.rd 0 rfl
    have t1 := R2.out.rd 1 rfl
    have t2 := R2.out.rd 2 rfl
    have z0 := R2.out.frozen 0
    have z1 := R2.out.frozen 1
    have z2 := R2.out.frozen 2
    have hlt := R2.out.lt
    have u0 := N2.out.rd 0 rfl
    have u1 := N2.out.rd 1 rfl
    have u2 := N2.out.rd 2 rfl
    clear hb1 hx2 r0 r1 HQ0 HQ1
    go_wp2_with fail
    refine bodyPost_ret (v := .tuple #[.agg #[.int .i64 0, .slice none 0 0, .slice none 0 0], .int .i64 cd]) (by simp [results, Try.results72, go_sem, t0, t1, t2, z0, z1, z2]) rfl (HQ.out _ _ ⟨rfl, ?_⟩)
    exact below_set3 KK.out HLE.out

set_option maxRecDepth 100000 in
set_option maxHeartbeats 4000000 in
theorem growthOfRows_any (c0 : Int) (A : Option Addr) (n c : Nat) (ts : List Tl) (B : Option Addr) (m d : Nat) (bs : List (List Int)) (E : Option Addr) (r rd : Nat) (rs : List (List Int)) (w : World) (hn : n ≤ 1048576) (hl : ts.length = n) (hA : TR w w.heap.size A ts) (hm : m ≤ 1048576) (hlr : bs.length = m) (hB : IRR w w.heap.size B bs) (hrow : ∀ k, k < m → (bs.getD k []).length ≤ 1048576) (hr : r ≤ 1048576) (hlq : rs.length = r) (hE : IRR w w.heap.size E rs) (hrow2 : ∀ k, k < r → (rs.getD k []).length ≤ 1048576)
    (QQ : Ending → World → Prop) (hQ0 : rCode c0 ts bs rs = 0 → ∀ e w', GYes w c0 A n c (blkL bs) e w' → QQ e w') (hQ1 : rCode c0 ts bs rs ≠ 0 → ∀ e w', GNo w (rCode c0 ts bs rs) e w' → QQ e w') :
    Calls Try.prog 61 #[.agg #[.int .i64 c0, .slice A n c], .slice B m d, .slice E r rd] w QQ := by
  have HG := Lib.hid (fun (W : World) (hW : Below w.heap.size w W) => (fun QQ => growthOf_any c0 A n c ts B m d bs W hn hl ((hA.below hW (Nat.le_refl _)).more hW.size) hm hlr ((hB.below hW (Nat.le_refl _)).more hW.size) hrow QQ))
  have HC := Lib.hid (fun (W : World) (hW : Below w.heap.size w W) => areRows_any c0 A n c ts E r rd rs W hn hl hr hlq ((hE.below hW (Nat.le_refl _)).more hW.size) hrow2)
  have HQ0 := Lib.hid hQ0
  have HQ1 := Lib.hid hQ1
  have HLE := Lib.hid (show w.heap.size ≤ w.heap.size + 1 by omega)
  clear hQ0 hQ1
  go_enter Try.func61, Try.ntmps61
  go_wp2_with fail
  obtain ⟨W0, hW0⟩ : ∃ W0, (w.alloc (Obj.cells #[.int .i64 c0, .slice A n c] 32)).alloc (Obj.cells #[.int .i64 0, .slice none 0 0, .slice none 0 0] 61) = W0 := ⟨_, rfl⟩
  have hx0 : Ext w W0 := by rw [← hW0]; exact ((Ext.refl w).alloc _).alloc _
  have hS : Blk W0 w.heap.size 32 #[.int .i64 c0, .slice A n c] := by rw [← hW0]; exact (Blk.new w _ _).ext ((Ext.refl _).alloc _)
  have hR : Blk W0 (w.heap.size + 1) 61 #[.int .i64 0, .slice none 0 0, .slice none 0 0] := by
    rw [← hW0]
    have := Blk.new (w.alloc (Obj.cells #[.int .i64 c0, .slice A n c] 32)) 61 #[.int .i64 0, .slice none 0 0, .slice none 0 0]
    simpa using this
  have hsz : w.heap.size + 2 ≤ W0.heap.size := by rw [← hW0]; simp
  have H0 := Lib.hid (hx0.below (Nat.le_refl w.heap.size))
  have HS := Lib.hid hS
  have HR := Lib.hid hR
  have HSZ := Lib.hid hsz
  rw [hW0]
  have r0 := hS.rd 0 rfl
  have r1 := hS.rd 1 rfl
  clear hx0 hS hR hW0 hsz
  refine HG.out W0 H0.out _ ?_ ?_
  · intro hc e w1 ⟨G, g, he, hb1, htw⟩
    subst he
    have HCZ := Lib.hid hc
    have K1 := Lib.hid (H0.out.trans (hb1.mono H0.out.size))
    have S1 := Lib.hid (HS.out.below hb1 HS.out.lt)
    have R1 := Lib.hid (HR.out.below hb1 HR.out.lt)
    have HT := Lib.hid htw
    have hx2 := (Ext.refl w1).alloc (Obj.cells #[.int .i64 c0, .slice A n c, .slice G (blkL bs).length g] 61)
    have K2 := Lib.hid (K1.out.trans (hx2.below K1.out.size))
    have S2 := Lib.hid (S1.out.ext hx2)
    have R2 := Lib.hid (R1.out.ext hx2)
    have T2 := Lib.hid (HT.out.ext hx2)
    have N2 := Lib.hid (Blk.new w1 61 #[.int .i64 c0, .slice A n c, .slice G (blkL bs).length g])
    have HZZ := Lib.hid (And.intro HSZ.out (hb1.size))
    clear hc hb1 htw hx2 r0 r1
    have r0 := S2.out.rd 0 rfl
    have r1 := S2.out.rd 1 rfl
    have HCW := Lib.hid (HC.out _ K2.out)
    cases hok : rowsOk ts rs with
    | true =>
      rw [hok] at HCW
      have HQ := Lib.hid (HQ0.out (by unfold rCode; rw [hok]; exact gc_yes HCZ.out))
      clear hok HQ0 HQ1 HC
      go_wp2_with fail
      refine HCW.out.mono ?_
      clear HCW
      generalize w1.alloc (Obj.cells #[.int .i64 c0, .slice A n c, .slice G (blkL bs).length g] 61) = W2 at *
      generalize w1.heap.size = g8 at *
      rintro e w3 ⟨rfl, hx3⟩
      have K3 := Lib.hid (K2.out.trans (hx3.below K2.out.size))
      have R3 := Lib.hid (R2.out.ext hx3)
      have T3 := Lib.hid (T2.out.ext hx3)
      have N3 := Lib.hid (N2.out.ext hx3)
      have t0 := R3.out.rd 0 rfl
      have t1 := R3.out.rd 1 rfl
      have t2 := R3.out.rd 2 rfl
      have z0 := R3.out.frozen 0
      have z1 := R3.out.frozen 1
      have z2 := R3.out.frozen 2
      have hlt := R3.out.lt
      have u0 := N3.out.rd 0 rfl
      have u1 := N3.out.rd 1 rfl
      have u2 := N3.out.rd 2 rfl
      clear hx3 r0 r1
      go_wp2_with fail
      refine bodyPost_ret (v := .tuple #[.agg #[.int .i64 c0, .slice A n c, .slice G (blkL bs).length g], .int .i64 0]) (by simp [results, Try.results61, go_sem, t0, t1, t2, z0, z1, z2]) rfl (HQ.out _ _ ⟨G, g, rfl, ?_, ?_⟩)
      · exact below_set3 K3.out HLE.out
      · exact (T3.out.set3 (by have := HSZ.out; omega)).low (by have := HSZ.out; omega)
    | false =>
      rw [hok] at HCW
      have HQ := Lib.hid (HQ1.out (by unfold rCode; rw [hok, gc_two HCZ.out]; decide))
      unfold rCode at HQ
      rw [hok, gc_two HCZ.out] at HQ
      clear hok HQ0 HQ1 HC
      go_wp2_with fail
      refine HCW.out.mono ?_
      clear HCW
      generalize w1.alloc (Obj.cells #[.int .i64 c0, .slice A n c, .slice G (blkL bs).length g] 61) = W2 at *
      generalize w1.heap.size = g8 at *
      rintro e w3 ⟨rfl, hx3⟩
      have KK := Lib.hid (K2.out.trans (hx3.below K2.out.size))
      have R3 := Lib.hid (R2.out.ext hx3)
      have t0 := R3.out.rd 0 rfl
      have t1 := R3.out.rd 1 rfl
      have t2 := R3.out.rd 2 rfl
      have z0 := R3.out.frozen 0
      have z1 := R3.out.frozen 1
      have z2 := R3.out.frozen 2
      have hlt := R3.out.lt
      clear hx3 r0 r1
      go_wp2_with fail
      refine bodyPost_ret (v := .tuple #[.agg #[.int .i64 0, .slice none 0 0, .slice none 0 0], .int .i64 2]) (by simp [results, Try.results61, go_sem, t0, t1, t2, z0, z1, z2]) rfl (HQ.out _ _ ⟨rfl, ?_⟩)
      exact below_set3 KK.out HLE.out
  · intro hc e w1 ⟨he, hb1⟩
    subst he
    have HQ := Lib.hid (HQ1.out (by unfold rCode; rw [gc_no hc]; exact hc))
    unfold rCode at HQ
    rw [gc_no hc] at HQ
    have K1 := Lib.hid (H0.out.trans (hb1.mono H0.out.size))
    have R1 := Lib.hid (HR.out.below hb1 HR.out.lt)
    have hx2 := (Ext.refl w1).alloc (Obj.cells #[.int .i64 0, .slice none 0 0, .slice none 0 0] 61)
    have KK := Lib.hid (K1.out.trans (hx2.below K1.out.size))
    have R2 := Lib.hid (R1.out.ext hx2)
    have N2 := Lib.hid (Blk.new w1 61 #[.int .i64 0, .slice none 0 0, .slice none 0 0])
    generalize bCode c0 ts bs = cd at *
    have t0 := R2.out.rd 0 rfl
    have t1 := R2.out.rd 1 rfl
    have t2 := R2.out.rd 2 rfl
    have z0 := R2.out.frozen 0
    have z1 := R2.out.frozen 1
    have z2 := R2.out.frozen 2
    have hlt := R2.out.lt
    have u0 := N2.out.rd 0 rfl
    have u1 := N2.out.rd 1 rfl
    have u2 := N2.out.rd 2 rfl
    clear hb1 hx2 r0 r1 HQ0 HQ1
    go_wp2_with fail
    refine bodyPost_ret (v := .tuple #[.agg #[.int .i64 0, .slice none 0 0, .slice none 0 0], .int .i64 cd]) (by simp [results, Try.results61, go_sem, t0, t1, t2, z0, z1, z2]) rfl (HQ.out _ _ ⟨rfl, ?_⟩)
    exact below_set3 KK.out HLE.out

set_option maxRecDepth 100000 in
set_option maxHeartbeats 4000000 in
theorem growthBySteps_any (c0 : Int) (A : Option Addr) (n c : Nat) (ts : List Tl) (B : Option Addr) (m d : Nat) (bs : List (List Int)) (i s hi : Int) (w : World) (hn : n ≤ 1048576) (hl : ts.length = n) (hA : TR w w.heap.size A ts) (hm : m ≤ 1048576) (hlr : bs.length = m) (hB : IRR w w.heap.size B bs) (hrow : ∀ k, k < m → (bs.getD k []).length ≤ 1048576) 
    (QQ : Ending → World → Prop) (hQ0 : sCode c0 ts bs i s hi = 0 → ∀ e w', GYes w c0 A n c (blkL bs) e w' → QQ e w') (hQ1 : sCode c0 ts bs i s hi ≠ 0 → ∀ e w', GNo w (sCode c0 ts bs i s hi) e w' → QQ e w') :
    Calls Try.prog 67 #[.agg #[.int .i64 c0, .slice A n c], .slice B m d, .int .i64 i, .int .i64 s, .int .i64 hi] w QQ := by
  have HG := Lib.hid (fun (W : World) (hW : Below w.heap.size w W) => (fun QQ => growthFrom_any c0 A n c ts B m d bs i W hn hl ((hA.below hW (Nat.le_refl _)).more hW.size) hm hlr ((hB.below hW (Nat.le_refl _)).more hW.size) hrow QQ))
  have HC := Lib.hid (fun (W : World) (hW : Below w.heap.size w W) => areWithin1 0 hi s W)
  have HQ0 := Lib.hid hQ0
  have HQ1 := Lib.hid hQ1
  have HLE := Lib.hid (show w.heap.size ≤ w.heap.size + 1 by omega)
  clear hQ0 hQ1
  go_enter Try.func67, Try.ntmps67
  go_wp2_with fail
  obtain ⟨W0, hW0⟩ : ∃ W0, (w.alloc (Obj.cells #[.int .i64 c0, .slice A n c] 32)).alloc (Obj.cells #[.int .i64 0, .slice none 0 0, .slice none 0 0] 61) = W0 := ⟨_, rfl⟩
  have hx0 : Ext w W0 := by rw [← hW0]; exact ((Ext.refl w).alloc _).alloc _
  have hS : Blk W0 w.heap.size 32 #[.int .i64 c0, .slice A n c] := by rw [← hW0]; exact (Blk.new w _ _).ext ((Ext.refl _).alloc _)
  have hR : Blk W0 (w.heap.size + 1) 61 #[.int .i64 0, .slice none 0 0, .slice none 0 0] := by
    rw [← hW0]
    have := Blk.new (w.alloc (Obj.cells #[.int .i64 c0, .slice A n c] 32)) 61 #[.int .i64 0, .slice none 0 0, .slice none 0 0]
    simpa using this
  have hsz : w.heap.size + 2 ≤ W0.heap.size := by rw [← hW0]; simp
  have H0 := Lib.hid (hx0.below (Nat.le_refl w.heap.size))
  have HS := Lib.hid hS
  have HR := Lib.hid hR
  have HSZ := Lib.hid hsz
  rw [hW0]
  have r0 := hS.rd 0 rfl
  have r1 := hS.rd 1 rfl
  clear hx0 hS hR hW0 hsz
  refine HG.out W0 H0.out _ ?_ ?_
  · intro hc e w1 ⟨G, g, he, hb1, htw⟩
    subst he
    have HCZ := Lib.hid hc
    have K1 := Lib.hid (H0.out.trans (hb1.mono H0.out.size))
    have S1 := Lib.hid (HS.out.below hb1 HS.out.lt)
    have R1 := Lib.hid (HR.out.below hb1 HR.out.lt)
    have HT := Lib.hid htw
    have hx2 := (Ext.refl w1).alloc (Obj.cells #[.int .i64 c0, .slice A n c, .slice G (blkL bs).length g] 61)
    have K2 := Lib.hid (K1.out.trans (hx2.below K1.out.size))
    have S2 := Lib.hid (S1.out.ext hx2)
    have R2 := Lib.hid (R1.out.ext hx2)
    have T2 := Lib.hid (HT.out.ext hx2)
    have N2 := Lib.hid (Blk.new w1 61 #[.int .i64 c0, .slice A n c, .slice G (blkL bs).length g])
    have HZZ := Lib.hid (And.intro HSZ.out (hb1.size))
    clear hc hb1 htw hx2 r0 r1
    have r0 := S2.out.rd 0 rfl
    have r1 := S2.out.rd 1 rfl
    have hcw := HC.out _ K2.out
    rw [World.size_alloc] at hcw
    have HCW := Lib.hid hcw
    clear hcw
    cases hok : decide (0 ≤ s ∧ s ≤ hi) with
    | true =>
      rw [hok] at HCW
      have HQ := Lib.hid (HQ0.out (by unfold sCode; rw [hok]; exact gc_yes HCZ.out))
      clear hok HQ0 HQ1 HC
      go_wp2_with fail
      refine HCW.out.mono ?_
      clear HCW
      generalize w1.alloc (Obj.cells #[.int .i64 c0, .slice A n c, .slice G (blkL bs).length g] 61) = W2 at *
      generalize w1.heap.size = g8 at *
      rintro e w3 ⟨rfl, hw3⟩
      have hx3 : Ext W2 w3 := by rw [hw3]; exact (Ext.refl W2).alloc _
      clear hw3
      have K3 := Lib.hid (K2.out.trans (hx3.below K2.out.size))
      have R3 := Lib.hid (R2.out.ext hx3)
      have T3 := Lib.hid (T2.out.ext hx3)
      have N3 := Lib.hid (N2.out.ext hx3)
      have t0 := R3.out.rd 0 rfl
      have t1 := R3.out.rd 1 rfl
      have t2 := R3.out.rd 2 rfl
      have z0 := R3.out.frozen 0
      have z1 := R3.out.frozen 1
      have z2 := R3.out.frozen 2
      have hlt := R3.out.lt
      have u0 := N3.out.rd 0 rfl
      have u1 := N3.out.rd 1 rfl
      have u2 := N3.out.rd 2 rfl
      clear hx3 r0 r1
      go_wp2_with fail
      refine bodyPost_ret (v := .tuple #[.agg #[.int .i64 c0, .slice A n c, .slice G (blkL bs).length g], .int .i64 0]) (by simp [results, Try.results67, go_sem, t0, t1, t2, z0, z1, z2]) rfl (HQ.out _ _ ⟨G, g, rfl, ?_, ?_⟩)
      · exact below_set3 K3.out HLE.out
      · exact (T3.out.set3 (by have := HSZ.out; omega)).low (by have := HSZ.out; omega)
    | false =>
      rw [hok] at HCW
      have HQ := Lib.hid (HQ1.out (by unfold sCode; rw [hok, gc_two HCZ.out]; decide))
      unfold sCode at HQ
      rw [hok, gc_two HCZ.out] at HQ
      clear hok HQ0 HQ1 HC
      go_wp2_with fail
      refine HCW.out.mono ?_
      clear HCW
      generalize w1.alloc (Obj.cells #[.int .i64 c0, .slice A n c, .slice G (blkL bs).length g] 61) = W2 at *
      generalize w1.heap.size = g8 at *
      rintro e w3 ⟨rfl, hw3⟩
      have hx3 : Ext W2 w3 := by rw [hw3]; exact (Ext.refl W2).alloc _
      clear hw3
      have KK := Lib.hid (K2.out.trans (hx3.below K2.out.size))
      have R3 := Lib.hid (R2.out.ext hx3)
      have t0 := R3.out.rd 0 rfl
      have t1 := R3.out.rd 1 rfl
      have t2 := R3.out.rd 2 rfl
      have z0 := R3.out.frozen 0
      have z1 := R3.out.frozen 1
      have z2 := R3.out.frozen 2
      have hlt := R3.out.lt
      clear hx3 r0 r1
      go_wp2_with fail
      refine bodyPost_ret (v := .tuple #[.agg #[.int .i64 0, .slice none 0 0, .slice none 0 0], .int .i64 2]) (by simp [results, Try.results67, go_sem, t0, t1, t2, z0, z1, z2]) rfl (HQ.out _ _ ⟨rfl, ?_⟩)
      exact below_set3 KK.out HLE.out
  · intro hc e w1 ⟨he, hb1⟩
    subst he
    have HQ := Lib.hid (HQ1.out (by unfold sCode; rw [gc_no hc]; exact hc))
    unfold sCode at HQ
    rw [gc_no hc] at HQ
    have K1 := Lib.hid (H0.out.trans (hb1.mono H0.out.size))
    have R1 := Lib.hid (HR.out.below hb1 HR.out.lt)
    have hx2 := (Ext.refl w1).alloc (Obj.cells #[.int .i64 0, .slice none 0 0, .slice none 0 0] 61)
    have KK := Lib.hid (K1.out.trans (hx2.below K1.out.size))
    have R2 := Lib.hid (R1.out.ext hx2)
    have N2 := Lib.hid (Blk.new w1 61 #[.int .i64 0, .slice none 0 0, .slice none 0 0])
    generalize fCode c0 ts bs i = cd at *
    have t0 := R2.out.rd 0 rfl
    have t1 := R2.out.rd 1 rfl
    have t2 := R2.out.rd 2 rfl
    have z0 := R2.out.frozen 0
    have z1 := R2.out.frozen 1
    have z2 := R2.out.frozen 2
    have hlt := R2.out.lt
    have u0 := N2.out.rd 0 rfl
    have u1 := N2.out.rd 1 rfl
    have u2 := N2.out.rd 2 rfl
    clear hb1 hx2 r0 r1 HQ0 HQ1
    go_wp2_with fail
    refine bodyPost_ret (v := .tuple #[.agg #[.int .i64 0, .slice none 0 0, .slice none 0 0], .int .i64 cd]) (by simp [results, Try.results67, go_sem, t0, t1, t2, z0, z1, z2]) rfl (HQ.out _ _ ⟨rfl, ?_⟩)
    exact below_set3 KK.out HLE.out
end Go.Proofs.Ytnmgkchkbchfaaa
