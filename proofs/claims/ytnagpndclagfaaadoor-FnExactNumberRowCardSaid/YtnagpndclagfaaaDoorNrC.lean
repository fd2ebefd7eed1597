/- NumberRow: the program's ways to ErrRange. -/
import Derived.Test.YtnagpndclagfaaaDoorNr5
import Derived.Test.YtnagpndclagfaaaDoorAppI
namespace Go.Proofs.YtnagpndclagfaaaDoor
section
set_option linter.unusedVariables false
set_option linter.unusedSimpArgs false
open Go.RowKit Go.Sort

def numOk (p q a b pl n : Int) : Bool := digOk a b pl n && facB p q && decide (p * a ≤ 5 * (q * b))
set_option maxRecDepth 100000 in
set_option maxHeartbeats 2000000 in
theorem implNumberRow_2 (p q a b pl n : Int) (pf pp : Addr) (w : World) (h : numOk p q a b pl n = false) (hgf : w.cell? ⟨1, 0, none⟩ = some (errV pf)) (hgp : w.cell? ⟨0, 0, none⟩ = some (errV pp)) :
    Calls Tryd.prog 14 #[.int .i64 p, .int .i64 q, .int .i64 a, .int .i64 b, .int .i64 pl, .int .i64 n] w (NRes w 0 [] [] 2) := by
  cases hd : digOk a b pl n with
  | false =>
    have hs := stretchOf_no a b pl n pf pp (w.alloc (Obj.cells #[.int .i64 0, .slice none 0 0] 32)) hd ((World.cell?_alloc_lt w _ _ (lt_of_cell2 hgf)).trans hgf) ((World.cell?_alloc_lt w _ _ (lt_of_cell2 hgp)).trans hgp)
    have HS := Lib.hid hs
    clear h hgf hgp hd hs
    go_enter Tryd.func14, Tryd.ntmps14
    go_wp2_with fail
    refine HS.out.mono ?_
    rintro e w1 ⟨rfl, hb1⟩
    have HR1 := Lib.hid ((Blk.new w 32 #[.int .i64 0, .slice none 0 0]).below hb1 (by simp))
    have hx1 := (Ext.refl w1).alloc (Obj.cells #[.int .i64 0, .int .i64 0, .int .i64 0, .int .i64 0] 42)
    have C9 := ((((Ext.refl w).alloc (Obj.cells #[.int .i64 0, .slice none 0 0] 32)).below (Nat.le_refl _)).trans (hb1.mono (by simp)))
    have C10 := Lib.hid (C9.trans (hx1.below C9.size))
    have R10 := Lib.hid (HR1.out.ext hx1)
    have r0 := R10.out.rd 0 (v := .int .i64 0) rfl
    have r1 := R10.out.rd 1 (v := .slice none 0 0) rfl
    have zz0 := R10.out.frozen 0
    have zz1 := R10.out.frozen 1
    have hltx := HR1.out.lt
    have hlty := R10.out.lt
    have r0' := HR1.out.rd 0 (v := .int .i64 0) rfl
    have r1' := HR1.out.rd 1 (v := .slice none 0 0) rfl
    have zz0' := HR1.out.frozen 0
    have zz1' := HR1.out.frozen 1
    clear C9 hx1
    have C9 := Lib.hid ((((Ext.refl w).alloc (Obj.cells #[.int .i64 0, .slice none 0 0] 32)).below (Nat.le_refl _)).trans (hb1.mono (by simp)))
    clear hb1
    go_wp2_with fail
    have R11 := (((HR1.out.set_ 0 (.int .i64 0)).set_ 1 (.slice none 0 0)).ext ((Ext.refl _).alloc (Obj.cells #[.int .i64 0, .int .i64 0, .int .i64 0, .int .i64 0] 42)))
    have f0 := R11.rd 0 (v := .int .i64 0) rfl
    have f1 := R11.rd 1 (v := .slice none 0 0) rfl
    have C11 := ((C9.out.setCell (p := ⟨w.heap.size, 0, none⟩) (Nat.le_refl _) (.int .i64 0)).setCell (p := ⟨w.heap.size, 1, none⟩) (Nat.le_refl _) (.slice none 0 0))
    refine bodyPost_ret (v := .tuple #[.agg #[.int .i64 0, .slice none 0 0], .slice none 0 0, .int .i64 2]) (by simp [results, Tryd.results14, go_sem, f0, f1]) rfl ⟨none, 0, none, 0, w.heap.size, Nat.le_refl _, ?_, rfl, ?_, fun h => absurd h (Nat.lt_irrefl _), fun h => absurd h (Nat.lt_irrefl _)⟩
    · exact (C11.alloc C11.size _).size
    · exact C11.alloc C11.size _
  | true =>
    have hd1 := hd
    simp only [digOk, Bool.and_eq_true] at hd1
    have HS := Lib.hid (fun W => stretchOf_ok a b pl n W hd1.1 hd1.2)
    have hw2 := fun W => areWithin2 1 3 p q W
    rw [show decide (1 ≤ p ∧ p ≤ 3 ∧ 1 ≤ q ∧ q ≤ 3) = facB p q from rfl] at hw2
    cases hpq : facB p q with
    | false =>
      rw [hpq] at hw2
      have HW := Lib.hid hw2
      clear h hgf hgp hd hd1 hw2 hpq
      go_enter Tryd.func14, Tryd.ntmps14
      go_wp2_with fail
      refine (HS.out _).mono ?_
      rintro e w1 ⟨rfl, hb1⟩
      have HR1 := Lib.hid ((Blk.new w 32 #[.int .i64 0, .slice none 0 0]).below hb1 (by simp))
      have hb := ((((Ext.refl w).alloc (Obj.cells #[.int .i64 0, .slice none 0 0] 32)).below (Nat.le_refl _)).trans (hb1.mono (by simp)))
      have hx1 := ((Ext.refl w1).alloc (Obj.cells #[.int .i64 a, .int .i64 b, .int .i64 pl, .int .i64 n] 42)).alloc (Obj.cells #[.int .i64 p, .int .i64 q] 50)
      obtain ⟨W1, hW1⟩ : ∃ W1, (w1.alloc (Obj.cells #[.int .i64 a, .int .i64 b, .int .i64 pl, .int .i64 n] 42)).alloc (Obj.cells #[.int .i64 p, .int .i64 q] 50) = W1 := ⟨_, rfl⟩
      rw [hW1] at hx1
      have hsz : W1.heap.size = w1.heap.size + 1 + 1 := by rw [← hW1]; simp
      have HB1 := Lib.hid (hb.trans (hx1.below hb.size))
      have HR2 := Lib.hid (HR1.out.ext hx1)
      clear hb1 hb hx1
      go_wp2_with fail
      try rw [hW1]
      have hw := HW.out W1
      rw [hsz] at hw
      refine hw.mono ?_
      rintro e w2 ⟨rfl, rfl⟩
      have hx2 := (Ext.refl W1).alloc (Obj.cells #[.int .i64 p, .int .i64 q] 2)
      have C10 := Lib.hid (HB1.out.trans (hx2.below HB1.out.size))
      have R10 := Lib.hid (HR2.out.ext hx2)
      clear hw hW1 hsz hx2 HR2 HB1
      generalize W1.alloc (Obj.cells #[.int .i64 p, .int .i64 q] 2) = W3 at *
      have r0 := R10.out.rd 0 (v := .int .i64 0) rfl
      have r1 := R10.out.rd 1 (v := .slice none 0 0) rfl
      have zz0 := R10.out.frozen 0
      have zz1 := R10.out.frozen 1
      go_wp2_with fail
      refine bodyPost_ret (v := .tuple #[.agg #[.int .i64 0, .slice none 0 0], .slice none 0 0, .int .i64 2]) (by simp [results, Tryd.results14, go_sem, r0, r1, zz0, zz1]) rfl ⟨none, 0, none, 0, w.heap.size, Nat.le_refl _, ?_, rfl, ?_, fun h => absurd h (Nat.lt_irrefl _), fun h => absurd h (Nat.lt_irrefl _)⟩
      · first | exact C10.out.size | (have := C10.out.size; simp; omega)
      · first | exact C10.out | exact (C10.out.setCell (Nat.le_refl _) _).setCell (Nat.le_refl _) _ | exact C10.out.alloc C10.out.size _
    | true =>
      rw [hpq] at hw2
      have hbig : ¬ p * a ≤ 5 * (q * b) := by
        intro h2
        simp [numOk, hd, hpq, h2] at h
      simp only [facB, decide_eq_true_eq] at hpq
      obtain ⟨P, rfl⟩ : ∃ P : Nat, p = (P : Int) := ⟨p.toNat, by omega⟩
      obtain ⟨Q, rfl⟩ : ∃ Q : Nat, q = (Q : Int) := ⟨q.toNat, by omega⟩
      obtain ⟨x, y, z, m, rfl, rfl, rfl, rfl, hy, hy2, hx, hz, hm, hm1⟩ := digOk_nat hd
      have hpa2 : P * x ≤ 3 * 100 := Nat.mul_le_mul (by omega) hx
      have hqb2 : Q * y ≤ 3 * 20 := Nat.mul_le_mul (by omega) hy2
      have hbig2 : ¬ P * x ≤ 5 * (Q * y) := fun h2 => hbig (by exact_mod_cast h2)
      obtain ⟨pa, hpa⟩ : ∃ v, P * x = v := ⟨_, rfl⟩
      obtain ⟨qb, hqb⟩ : ∃ v, Q * y = v := ⟨_, rfl⟩
      rw [hpa] at hpa2 hbig2
      rw [hqb] at hqb2 hbig2
      have HT := Lib.hid (fun W => times_any P Q x y pa qb W hpa hqb (by omega) (by omega))
      have hcm := fun W => compareFrac_any (pa, qb) (5, 1) W (by show pa * 1 ≤ 100000; omega) (by show 5 * qb ≤ 100000; omega)
      simp only [fv, Nat.mul_one] at hcm
      have hcg : (0 : Int) < cmpI ((pa : Nat) : Int) ((5 * qb : Nat) : Int) := by rw [cmpI_gt (by omega)]; decide
      obtain ⟨cv, hcv⟩ : ∃ v, cmpI ((pa : Nat) : Int) ((5 * qb : Nat) : Int) = v := ⟨_, rfl⟩
      rw [hcv] at hcm hcg
      obtain ⟨pl, hpl⟩ : ∃ pl, z + 1 = pl := ⟨_, rfl⟩
      rw [hpl] at HS ⊢
      have HCM := Lib.hid hcm
      have HW := Lib.hid hw2
      clear h hgf hgp hd hd1 hw2 hcm hcv hpa hqb hbig hpl
      go_enter Tryd.func14, Tryd.ntmps14
      go_wp2_with fail
      refine (HS.out _).mono ?_
      rintro e w1 ⟨rfl, hb1⟩
      have HR1 := Lib.hid ((Blk.new w 32 #[.int .i64 0, .slice none 0 0]).below hb1 (by simp))
      have hb := ((((Ext.refl w).alloc (Obj.cells #[.int .i64 0, .slice none 0 0] 32)).below (Nat.le_refl _)).trans (hb1.mono (by simp)))
      have hx1 := ((Ext.refl w1).alloc (Obj.cells #[.int .i64 (x : Int), .int .i64 (y : Int), .int .i64 (pl : Int), .int .i64 (m : Int)] 42)).alloc (Obj.cells #[.int .i64 (P : Int), .int .i64 (Q : Int)] 50)
      have hS := (Blk.new w1 42 #[.int .i64 (x : Int), .int .i64 (y : Int), .int .i64 (pl : Int), .int .i64 (m : Int)]).ext ((Ext.refl _).alloc (Obj.cells #[.int .i64 (P : Int), .int .i64 (Q : Int)] 50))
      have hF := Blk.new (w1.alloc (Obj.cells #[.int .i64 (x : Int), .int .i64 (y : Int), .int .i64 (pl : Int), .int .i64 (m : Int)] 42)) 50 #[.int .i64 (P : Int), .int .i64 (Q : Int)]
      obtain ⟨W1, hW1⟩ : ∃ W1, (w1.alloc (Obj.cells #[.int .i64 (x : Int), .int .i64 (y : Int), .int .i64 (pl : Int), .int .i64 (m : Int)] 42)).alloc (Obj.cells #[.int .i64 (P : Int), .int .i64 (Q : Int)] 50) = W1 := ⟨_, rfl⟩
      rw [hW1] at hx1 hS hF
      rw [World.size_alloc] at hF
      have hsz : W1.heap.size = w1.heap.size + 1 + 1 := by rw [← hW1]; simp
      have HB1 := Lib.hid (hb.trans (hx1.below hb.size))
      have HR2 := Lib.hid (HR1.out.ext hx1)
      have HS2 := Lib.hid hS
      have HF2 := Lib.hid hF
      clear hb1 hb hx1 hS hF
      go_wp2_with fail
      try rw [hW1]
      have hw := HW.out W1
      rw [hsz] at hw
      refine hw.mono ?_
      rintro e w2 ⟨rfl, rfl⟩
      have hx2 := (Ext.refl W1).alloc (Obj.cells #[.int .i64 (P : Int), .int .i64 (Q : Int)] 2)
      have HB3 := Lib.hid (HB1.out.trans (hx2.below HB1.out.size))
      have HR3 := Lib.hid (HR2.out.ext hx2)
      have HS3 := Lib.hid (HS2.out.ext hx2)
      have HF3 := Lib.hid (HF2.out.ext hx2)
      clear hw hW1 hsz hx2 HR2 HS2 HF2 HB1
      generalize W1.alloc (Obj.cells #[.int .i64 (P : Int), .int .i64 (Q : Int)] 2) = W3 at *
      have s0 := HS3.out.rd 0 (v := .int .i64 (x : Int)) rfl
      have s1 := HS3.out.rd 1 (v := .int .i64 (y : Int)) rfl
      have s2 := HS3.out.rd 2 (v := .int .i64 (pl : Int)) rfl
      have s3 := HS3.out.rd 3 (v := .int .i64 (m : Int)) rfl
      have f0 := HF3.out.rd 0 (v := .int .i64 (P : Int)) rfl
      have f1 := HF3.out.rd 1 (v := .int .i64 (Q : Int)) rfl
      go_wp2_with fail
      refine (HT.out _).mono ?_
      rintro e w4 ⟨rfl, hx4⟩
      have HB4 := Lib.hid (HB3.out.trans (hx4.below HB3.out.size))
      have HR4 := Lib.hid (HR3.out.ext hx4)
      clear s0 s1 s2 s3 f0 f1 HB3 HR3 HS3 HF3 hx4
      go_wp2_with fail
      refine (HCM.out _).mono ?_
      rintro e w5 ⟨rfl, hx5⟩
      have C10 := Lib.hid (HB4.out.trans (hx5.below HB4.out.size))
      have R5 := Lib.hid (HR4.out.ext hx5)
      clear HB4 HR4 hx5
      have r0 := R5.out.rd 0 (v := .int .i64 0) rfl
      have r1 := R5.out.rd 1 (v := .slice none 0 0) rfl
      have zz0 := R5.out.frozen 0
      have zz1 := R5.out.frozen 1
      go_wp2_with fail
      refine bodyPost_ret (v := .tuple #[.agg #[.int .i64 0, .slice none 0 0], .slice none 0 0, .int .i64 2]) (by simp [results, Tryd.results14, go_sem, r0, r1, zz0, zz1]) rfl ⟨none, 0, none, 0, w.heap.size, Nat.le_refl _, ?_, rfl, ?_, fun h => absurd h (Nat.lt_irrefl _), fun h => absurd h (Nat.lt_irrefl _)⟩
      · first | exact C10.out.size | (have := C10.out.size; simp; omega)
      · first | exact C10.out | exact (C10.out.setCell (Nat.le_refl _) _).setCell (Nat.le_refl _) _ | exact C10.out.alloc C10.out.size _
end

section
set_option linter.unusedVariables false
set_option linter.unusedSimpArgs false
open Go.RowKit Go.Sort

set_option maxRecDepth 100000 in
set_option maxHeartbeats 4000000 in
theorem specNumberRow_ok (P Q x y z pl m : Nat) (w : World) (hP : 1 ≤ P ∧ P ≤ 3) (hQ : 1 ≤ Q ∧ Q ≤ 3) (hy : 0 < y) (hy2 : y ≤ 20) (hx : x ≤ 100) (hpl : pl = z + 1) (hz : z ≤ 1000) (hm : m ≤ 20) (hm1 : 1 ≤ m) (hf : fracB x y = true) (hpp : placeB pl m = true) (hle : P * x ≤ 5 * (Q * y)) (cc code : Int) (L : List Tl)
    (hM : ∀ W, Calls Tryd.prog 28 #[.int .i64 (P : Int), .int .i64 (Q : Int), .int .i64 (leastN (digsL x y z m) (m - 1)), .int .i64 (mostN (digsL x y z m) (m - 1)), .int .i64 (leastN (digsL (P * x) (Q * y) z m) (m - 1)), .int .i64 (mostN (digsL (P * x) (Q * y) z m) (m - 1))] W (SetRes W cc L code))
    (hL : code = 0 → Asc L ∧ L.length ≤ 16 ∧ ∀ k, k < m → ownT P Q x y z k ∈ L) (QQ : Ending → World → Prop) (hQ0 : code = 0 → ∀ e w', NRes w cc L (rowN L P Q x y z m) 0 e w' → QQ e w') (hQ1 : code ≠ 0 → ∀ e w', NRes w 0 [] [] code e w' → QQ e w') :
    Calls Tryd.prog 13 #[.int .i64 (P : Int), .int .i64 (Q : Int), .int .i64 (x : Int), .int .i64 (y : Int), .int .i64 (pl : Int), .int .i64 (m : Int)] w QQ := by
  have hpq : facB P Q = true := by simp only [facB, decide_eq_true_eq]; omega
  have h1 := fun W => l08Factor_any (P : Int) (Q : Int) W
  have h2 := fun W => l08Fraction_any (x : Int) (y : Int) W
  have h3 := fun W => l08Places_any (pl : Int) (m : Int) W
  rw [hpq] at h1
  rw [hf] at h2
  rw [hpp] at h3
  have H1 := Lib.hid h1
  have H2 := Lib.hid h2
  have H3 := Lib.hid h3
  clear h1 h2 h3 hpq hpp
  have hpa2 : P * x ≤ 3 * 100 := Nat.mul_le_mul hP.2 hx
  have hqb2 : Q * y ≤ 3 * 20 := Nat.mul_le_mul hQ.2 hy2
  have HOWN := Lib.hid (fun k => show ownT P Q x y z k = (carN P Q x y (z + k) + ((P : Int) - 1), digN x y (z + k), carN P Q x y (z + k + 1) + ((P : Int) - 1), digN (P * x) (Q * y) (z + k)) from rfl)
  have HCR := Lib.hid (fun k => car_range (p := P) (q := Q) (a := x) (b := y) (i := k) (by omega) (by omega) hy)
  have HDX := Lib.hid (fun k => dig_range (a := x) (b := y) (i := k) hy (by simp only [fracB, Bool.and_eq_true, decide_eq_true_eq] at hf; omega))
  have HDS := Lib.hid (fun k => dig_range (a := P * x) (b := Q * y) (i := k) (Nat.mul_pos (by omega) hy) hle)
  obtain ⟨pa, hpa⟩ : ∃ v, P * x = v := ⟨_, rfl⟩
  obtain ⟨qb, hqb⟩ : ∃ v, Q * y = v := ⟨_, rfl⟩
  rw [hpa] at hpa2 hle hM
  rw [hqb] at hqb2 hle hM
  have hqb0 : 0 < qb := by rw [← hqb]; exact Nat.mul_pos (by omega) hy
  have hw1 : IntKind.i64.wrap ((x : Int) * (P : Int)) = (pa : Int) := mulN x P pa (by rw [Nat.mul_comm]; exact hpa) (by omega)
  have hw4 : IntKind.i64.wrap ((y : Int) * (Q : Int)) = (qb : Int) := mulN y Q qb (by rw [Nat.mul_comm]; exact hqb) (by omega)
  obtain ⟨y5, hy5⟩ : ∃ v, 5 * y = v := ⟨_, rfl⟩
  obtain ⟨q5, hq5⟩ : ∃ v, y5 * Q = v := ⟨_, rfl⟩
  have hw2 : IntKind.i64.wrap ((5 : Int) * (y : Int)) = (y5 : Int) := by have := mulN 5 y y5 hy5 (by omega); simpa using this
  have hq5b : q5 = 5 * qb := by rw [← hq5, ← hy5, ← hqb, Nat.mul_assoc, Nat.mul_comm y Q]
  have hw3 : IntKind.i64.wrap ((y5 : Int) * (Q : Int)) = (q5 : Int) := mulN y5 Q q5 hq5 (by omega)
  have hng : ¬ (q5 : Int) < (pa : Int) := by omega
  have HDN := Lib.hid (fun W => l08Digits_any x y z pl m W hy (by omega) hpl hz hm (by omega))
  have HSN := Lib.hid (fun W => l08Digits_any pa qb z pl m W hqb0 (by omega) hpl hz hm (by omega))
  obtain ⟨m1, hm1e⟩ : ∃ m1, m1 = m + 1 := ⟨_, rfl⟩
  have HCN := Lib.hid (fun W => l08Carries_any P Q x y z pl m m1 W hP hQ hy hy2 hx hpl hz hm hm1e)
  have HM1 := Lib.hid hm1e
  have HEN := Lib.hid (fun (A : Option Addr) (c : Nat) W hA => l08Ends_any A m c (digsL x y z m) W hm1 (by omega) (digsL_len _ _ _ _) hA)
  have HES := Lib.hid (fun (A : Option Addr) (c : Nat) W hA => l08Ends_any A m c (digsL pa qb z m) W hm1 (by omega) (digsL_len _ _ _ _) hA)
  have HM := Lib.hid hM
  have HLL := Lib.hid hL
  have HQ0 := Lib.hid hQ0
  have HQ1 := Lib.hid hQ1
  have HF := Lib.hid (And.intro hpa hqb)
  have HPL := Lib.hid hpl
  clear hM hL hQ0 hQ1 hf hpl hpa hqb hy5 hq5 hq5b hle hm1e
  go_enter Tryd.func13, Tryd.ntmps13
  go_wp2_with fail
  refine (H1.out _).mono ?_
  rintro e w' ⟨rfl, rfl⟩
  go_wp2_with fail
  refine (H2.out _).mono ?_
  rintro e w' ⟨rfl, rfl⟩
  go_wp2_with fail
  refine (H3.out _).mono ?_
  rintro e w' ⟨rfl, rfl⟩
  have HX0 := Lib.hid (((Ext.refl w).alloc (Obj.cells #[.int .i64 0, .slice none 0 0] 32)).below (Nat.le_refl w.heap.size))
  have HR0 := Lib.hid (Blk.new w 32 #[.int .i64 0, .slice none 0 0])
  have HS0 := Lib.hid (show (w.alloc (Obj.cells #[.int .i64 0, .slice none 0 0] 32)).heap.size = w.heap.size + 1 by simp)
  obtain ⟨W0, hW0⟩ : ∃ W, w.alloc (Obj.cells #[.int .i64 0, .slice none 0 0] 32) = W := ⟨_, rfl⟩
  rw [hW0] at HX0 HR0 HS0 ⊢
  clear hW0
  go_wp2_with fail
  refine (HDN.out _).mono ?_
  rintro e w1 ⟨RN, pn, rfl, hb1, hn1⟩
  have K1 := Lib.hid (HX0.out.trans (hb1.mono HX0.out.size))
  have R1 := Lib.hid (HR0.out.below hb1 HR0.out.lt)
  have XN1 := Lib.hid hn1
  clear hb1 hn1
  go_wp2_with fail
  refine (HSN.out _).mono ?_
  rintro e w2 ⟨RS, ps, rfl, hb2, hn2⟩
  have K2 := Lib.hid (K1.out.trans (hb2.mono K1.out.size))
  have R2 := Lib.hid (R1.out.below hb2 R1.out.lt)
  have XN2 := Lib.hid (XN1.out.below hb2)
  have XS2 := Lib.hid hn2
  clear hb2 hn2
  go_wp2_with fail
  refine (HCN.out _).mono ?_
  rintro e w3 ⟨RC, pc, rfl, hb3, hn3⟩
  have K3 := Lib.hid (K2.out.trans (hb3.mono K2.out.size))
  have R3 := Lib.hid (R2.out.below hb3 R2.out.lt)
  have XN3 := Lib.hid (XN2.out.below hb3)
  have XS3 := Lib.hid (XS2.out.below hb3)
  have XC3 := Lib.hid hn3
  clear hb3 hn3
  go_wp2_with fail
  refine (HEN.out _ _ _ XN3.out.ir).mono ?_
  rintro e w4 ⟨rfl, hx4⟩
  have K4 := Lib.hid (K3.out.trans (hx4.below K3.out.size))
  have R4 := Lib.hid (R3.out.ext hx4)
  have XN4 := Lib.hid (XN3.out.ext hx4)
  have XS4 := Lib.hid (XS3.out.ext hx4)
  have XC4 := Lib.hid (XC3.out.ext hx4)
  clear hx4
  go_wp2_with fail
  refine (HES.out _ _ _ XS4.out.ir).mono ?_
  rintro e w5 ⟨rfl, hx5⟩
  have K5 := Lib.hid (K4.out.trans (hx5.below K4.out.size))
  have R5 := Lib.hid (R4.out.ext hx5)
  have XN5 := Lib.hid (XN4.out.ext hx5)
  have XS5 := Lib.hid (XS4.out.ext hx5)
  have XC5 := Lib.hid (XC4.out.ext hx5)
  clear hx5
  go_wp2_with fail
  refine (HM.out _).mono ?_
  unfold SetRes
  rintro e w6 ⟨RT, pt, rfl, hb6, ht6⟩
  have K6 := Lib.hid (K5.out.trans (hb6.mono K5.out.size))
  have R6 := Lib.hid (R5.out.below hb6 R5.out.lt)
  have XN6 := Lib.hid (XN5.out.below hb6)
  have XS6 := Lib.hid (XS5.out.below hb6)
  have XC6 := Lib.hid (XC5.out.below hb6)
  have XT6 := Lib.hid (ht6.low (show w.heap.size + 1 ≤ w5.heap.size from R5.out.lt))
  clear hb6 ht6
  have hx7 := (Ext.refl w6).alloc (Obj.cells #[.int .i64 cc, .slice RT L.length pt] 32)
  have N7 := Lib.hid (Blk.new w6 32 #[.int .i64 cc, .slice RT L.length pt])
  have K7 := Lib.hid (K6.out.trans (hx7.below K6.out.size))
  have R7 := Lib.hid (R6.out.ext hx7)
  have hlt := R7.out.lt
  have r0 := R7.out.rd 0 rfl
  have r1 := R7.out.rd 1 rfl
  have z0 := R7.out.frozen 0
  have z1 := R7.out.frozen 1
  by_cases hc : ¬ code = 0
  · have HQ := Lib.hid (HQ1.out hc)
    clear HQ0 HQ1 HLL
    go_wp2_with fail
    refine bodyPost_ret (v := .tuple #[.agg #[.int .i64 0, .slice none 0 0], .slice none 0 0, .int .i64 code]) (by simp [results, Tryd.results13, go_sem, r0, r1, z0, z1]) rfl (HQ.out _ _ ⟨none, 0, none, 0, w.heap.size, Nat.le_refl _, ?_, rfl, ?_, fun h => absurd h (Nat.lt_irrefl _), fun h => absurd h (Nat.lt_irrefl _)⟩)
    · exact ((K7.out.setCell (Nat.le_refl _) _).setCell (Nat.le_refl _) _).size
    · exact (K7.out.setCell (Nat.le_refl _) _).setCell (Nat.le_refl _) _
  · replace hc : code = 0 := Decidable.byContradiction hc
    obtain ⟨hasc, hl16, hmem⟩ := HLL.out hc
    have HQ := Lib.hid (HQ0.out hc)
    have HMEM := Lib.hid hmem
    have HASC := Lib.hid hasc
    subst hc
    clear HQ0 HQ1 HLL hasc hmem
    go_wp2_with fail
    have hx8 := hx7.alloc (Obj.cells #[] 2)
    have K8 := Lib.hid (K6.out.trans (hx8.below K6.out.size))
    have R8 := Lib.hid (R6.out.ext hx8)
    have N8 := Lib.hid (N7.out.ext ((Ext.refl _).alloc (Obj.cells #[] 2)))
    have XN8 := Lib.hid ((XN6.out.ir).ext hx8 (Nat.le_refl _))
    have XS8 := Lib.hid ((XS6.out.ir).ext hx8 (Nat.le_refl _))
    have XC8 := Lib.hid ((XC6.out.ir).ext hx8 (Nat.le_refl _))
    have XT8 := Lib.hid ((XT6.out.tr).ext hx8 (Nat.le_refl _))
    have XR8 := Lib.hid ((XT6.out.r).below (hx8.below (Nat.le_refl _)))
    have hO := World.ownsRow_made (base := w6.heap.size + 1) (e := 2) (size := 1) (w6.alloc (Obj.cells #[.int .i64 cc, .slice RT L.length pt] 32)) #[] 0 (by simp) (by unfold maxLen; omega) rfl
    rw [World.size_alloc] at hO
    have HO8 := Lib.hid hO
    have hs8 : ((w6.alloc (Obj.cells #[.int .i64 cc, .slice RT L.length pt] 32)).alloc (Obj.cells #[] 2)).heap.size = w6.heap.size + 2 := by simp
    clear hx7 hx8 hO hlt r0 r1 z0 z1 N7 K7 R7
    obtain ⟨W8, hW8⟩ : ∃ W, (w6.alloc (Obj.cells #[.int .i64 cc, .slice RT L.length pt] 32)).alloc (Obj.cells #[] 2) = W := ⟨_, rfl⟩
    rw [hW8] at K8 R8 N8 XN8 XS8 XC8 XT8 XR8 HO8 hs8
    try rw [hW8]
    obtain ⟨g7, hg7⟩ : ∃ g, g = w6.heap.size := ⟨_, rfl⟩
    rw [← hg7] at N8 HO8 hs8 XN8 XS8 XC8 XT8 XR8 ⊢
    have HG7 := Lib.hid (show w.heap.size < g7 by rw [hg7]; have := R6.out.lt; omega)
    clear hg7
    go_loopw [25, 24] (fun iv v wr => ∃ k : Nat, k ≤ m ∧ iv = .int .i64 k ∧ wr.ownsRow (g7 + 1) 2 1 v k (vis (rowN L P Q x y z k)) ∧ Below (g7 + 1) W8 wr) (fun iv _ _ => m - (intOf iv).toNat)
    case atStart => exact ⟨0, Nat.zero_le _, rfl, HO8.out, Below.refl _ _⟩
    case round =>
      obtain ⟨k, hk, rfl, hown, hb⟩ := hrel
      have HO := Lib.hid hown
      have HB := Lib.hid hb
      clear hown
      by_cases hlk : k < m
      · obtain ⟨bn, on, rfl, hbn, hcn⟩ := XN8.out (by rw [digsL_len]; omega)
        obtain ⟨bs, os, rfl, hbs, hcs⟩ := XS8.out (by rw [digsL_len]; omega)
        obtain ⟨bc, oc, rfl, hbc, hcc⟩ := XC8.out (by rw [carL_len]; have := HM1.out; omega)
        have cn := (hb.cell (p := ⟨bn, on + k, none⟩) (show bn < g7 + 1 by omega)).trans (hcn k (by rw [digsL_len]; omega))
        have cs := (hb.cell (p := ⟨bs, os + k, none⟩) (show bs < g7 + 1 by omega)).trans (hcs k (by rw [digsL_len]; omega))
        have c0 := (hb.cell (p := ⟨bc, oc + k, none⟩) (show bc < g7 + 1 by omega)).trans (hcc k (by rw [carL_len]; have := HM1.out; omega))
        have c1 := (hb.cell (p := ⟨bc, oc + (k + 1), none⟩) (show bc < g7 + 1 by omega)).trans (hcc (k + 1) (by rw [carL_len]; have := HM1.out; omega))
        rw [digsL_get _ _ _ hlk] at cn cs
        rw [carL_get _ _ _ _ _ (by have := HM1.out; omega)] at c0 c1
        have hr0 := HCR.out (z + k)
        have hr1 := HCR.out (z + (k + 1))
        have hTO := HOWN.out k
        rw [show z + k + 1 = z + (k + 1) by omega, HF.out.1, HF.out.2] at hTO
        generalize carN P Q x y (z + k) = u0 at *
        generalize carN P Q x y (z + (k + 1)) = u1 at *
        generalize digN x y (z + k) = dn at *
        generalize digN pa qb (z + k) = ds at *
        have w0 : IntKind.i64.wrap (u0 + (P : Int)) = u0 + (P : Int) := IntWalk.i64_in _ (by omega)
        have w0' : IntKind.i64.wrap (u0 + (P : Int) - 1) = u0 + (P : Int) - 1 := IntWalk.i64_in _ (by omega)
        have w1' : IntKind.i64.wrap (u1 + (P : Int)) = u1 + (P : Int) := IntWalk.i64_in _ (by omega)
        have w1'' : IntKind.i64.wrap (u1 + (P : Int) - 1) = u1 + (P : Int) - 1 := IntWalk.i64_in _ (by omega)
        have hTO2 : ownT P Q x y z k = (u0 + (P : Int) - 1, dn, u1 + (P : Int) - 1, ds) := by
          rw [hTO, show u0 + ((P : Int) - 1) = u0 + (P : Int) - 1 by omega, show u1 + ((P : Int) - 1) = u1 + (P : Int) - 1 by omega]
        have HTO := Lib.hid hTO2
        have hkm : (k : Int) < (m : Int) := by omega
        have hkm1 : (k : Int) < (m1 : Int) := by have := HM1.out; omega
        have hkm2 : (k : Int) + 1 < (m1 : Int) := by have := HM1.out; omega
        have hk1w : IntKind.i64.wrap ((k : Int) + 1) = (k : Int) + 1 := IntWalk.i64_in _ (by omega)
        have hk0 : (0 : Int) ≤ (k : Int) := by omega
        have hk01 : (0 : Int) ≤ (k : Int) + 1 := by omega
        clear hTO hTO2 hcn hcs hcc hb
        go_wp2_with fail
        go_region_held3 (fun w' => w'.cell? ⟨bn, on + k, none⟩ = some (.int .i64 dn) ∧ w'.cell? ⟨bs, os + k, none⟩ = some (.int .i64 ds) ∧ w'.cell? ⟨bc, oc + k, none⟩ = some (.int .i64 u0) ∧ w'.cell? ⟨bc, oc + (k + 1), none⟩ = some (.int .i64 u1))
          (first | exact ⟨cn, cs, c0, c1⟩ | go_keep)
          (fail)
        have B9 := Blk.new wr 56 #[.int .i64 (u0 + (P : Int) - 1), .int .i64 dn, .int .i64 (u1 + (P : Int) - 1), .int .i64 ds]
        have hx9 := ((Ext.refl wr).alloc (Obj.cells #[.int .i64 (u0 + (P : Int) - 1), .int .i64 dn, .int .i64 (u1 + (P : Int) - 1), .int .i64 ds] 56)).drew
        have B9' := Lib.hid (B9.ext (Ext.refl _).drew)
        have HO9 := Lib.hid (iown_ext HO.out hx9)
        have HB9 := Lib.hid (HB.out.trans (hx9.below (by have := HB.out.size; omega)))
        have HGG := Lib.hid (show g7 + 1 ≤ wr.heap.size by have := HB.out.size; omega)
        have HNE9 := Lib.hid (fun j (hj : u24.ownBlock = some j) => (HO.out.lt j hj).2)
        clear HO HB cn cs c0 c1 B9 hx9
        generalize (wr.alloc (Obj.cells #[.int .i64 (u0 + (P : Int) - 1), .int .i64 dn, .int .i64 (u1 + (P : Int) - 1), .int .i64 ds] 56)).drew = W9 at *
        generalize wr.heap.size = g9 at *
        obtain ⟨a0, ha0⟩ : ∃ a, a = u0 + (P : Int) - 1 := ⟨_, rfl⟩
        obtain ⟨a2, ha2⟩ : ∃ a, a = u1 + (P : Int) - 1 := ⟨_, rfl⟩
        rw [← ha0, ← ha2] at HTO B9'
        clear ha0 ha2 w0 w0' w1' w1'' hk1w hr0 hr1
        have hpos := posT_lt (HMEM.out k hlk)
        have HPO := Lib.hid (fun (i : Nat) (hi : i < L.length) => posT_only HASC.out (HMEM.out k hlk) hi)
        rw [HTO.out] at HPO hpos
        have HRN := Lib.hid (show rowN L P Q x y z (k + 1) = rowN L P Q x y z k ++ [((posT L (a0, dn, a2, ds) : Nat) : Int)] by rw [← HTO.out]; rfl)
        obtain ⟨ps9, hps9⟩ : ∃ p, p = posT L (a0, dn, a2, ds) := ⟨_, rfl⟩
        rw [← hps9] at HPO hpos HRN
        clear hps9
        go_wp2_with fail
        go_loopw [27, 24] (fun iv v wr => ∃ kk r : Nat, kk ≤ L.length ∧ iv = .int .i64 kk ∧ (kk ≤ ps9 ∧ r = k ∨ ps9 < kk ∧ r = k + 1) ∧ wr.ownsRow (g7 + 1) 2 1 v r (vis (rowN L P Q x y z r)) ∧ (∀ j, v.ownBlock = some j → j ≠ g9) ∧ Blk wr g9 56 #[.int .i64 a0, .int .i64 dn, .int .i64 a2, .int .i64 ds] ∧ Below (g7 + 1) W8 wr) (fun iv _ _ => L.length - (intOf iv).toNat)
        case atStart => exact ⟨0, k, Nat.zero_le _, rfl, .inl ⟨Nat.zero_le _, rfl⟩, HO9.out, fun j hj => by have := HNE9.out j hj; omega, B9'.out, HB9.out⟩
        case round =>
          obtain ⟨kk, r, hkk, rfl, hr, hown, hno, hbk, hb⟩ := hrel
          have HO := Lib.hid hown
          have HR := Lib.hid hr
          have HNO := Lib.hid hno
          have HK := Lib.hid hbk
          have HB := Lib.hid hb
          clear hown hr hno
          have N9 := N8.out.below hb (by omega)
          by_cases hlt : kk < L.length
          · obtain ⟨bt, ot, rfl, hbt, hct⟩ := XT8.out (by omega)
            have hc4 := hct kk hlt
            have HPK := Lib.hid (HPO.out kk hlt)
            obtain ⟨⟨y0, y1, y2, y3⟩, hY⟩ : ∃ v, v = L.getD kk T0 := ⟨_, rfl⟩
            rw [← hY] at hc4 HPK
            obtain ⟨q0, q1, q2, q3⟩ := hc4
            simp only at q0 q1 q2 q3
            replace q0 := (hb.cell (p := ⟨bt, ot + kk * 4, none⟩) (show bt < g7 + 1 by omega)).trans q0
            replace q1 := (hb.cell (p := ⟨bt, ot + kk * 4 + 1, none⟩) (show bt < g7 + 1 by omega)).trans q1
            replace q2 := (hb.cell (p := ⟨bt, ot + kk * 4 + 2, none⟩) (show bt < g7 + 1 by omega)).trans q2
            replace q3 := (hb.cell (p := ⟨bt, ot + kk * 4 + 3, none⟩) (show bt < g7 + 1 by omega)).trans q3
            have d0 := fun q os => (cell?_grow (wr.drewN q) os ⟨bt, ot + kk * 4, none⟩ (by have := World.block_lt_of_cell? wr _ q0; exact this)).trans q0
            have d1 := fun q os => (cell?_grow (wr.drewN q) os ⟨bt, ot + kk * 4 + 1, none⟩ (by have := World.block_lt_of_cell? wr _ q1; exact this)).trans q1
            have d2 := fun q os => (cell?_grow (wr.drewN q) os ⟨bt, ot + kk * 4 + 2, none⟩ (by have := World.block_lt_of_cell? wr _ q2; exact this)).trans q2
            have d3 := fun q os => (cell?_grow (wr.drewN q) os ⟨bt, ot + kk * 4 + 3, none⟩ (by have := World.block_lt_of_cell? wr _ q3; exact this)).trans q3
            have n0 := fun q os => N9.grown q os 0 (v := .int .i64 cc) rfl
            have n1 := fun q os => N9.grown q os 1 (v := .slice (some ⟨bt, ot, none⟩) L.length pt) rfl
            have t0 := fun q os => hbk.grown q os 0 (v := .int .i64 a0) rfl
            have t1 := fun q os => hbk.grown q os 1 (v := .int .i64 dn) rfl
            have t2 := fun q os => hbk.grown q os 2 (v := .int .i64 a2) rfl
            have t3 := fun q os => hbk.grown q os 3 (v := .int .i64 ds) rfl
            have n1' := N9.rd 1 rfl
            have hkl : (kk : Int) < (L.length : Int) := by omega
            have heq : ∀ w, (binOp .eql 56 (.agg #[.int .i64 y0, .int .i64 y1, .int .i64 y2, .int .i64 y3]) (.agg #[.int .i64 a0, .int .i64 dn, .int .i64 a2, .int .i64 ds])).run Tryd.prog w = .ok (.bool (eqT (y0, y1, y2, y3) (a0, dn, a2, ds))) w := fun w => eql_tile (y0, y1, y2, y3) (a0, dn, a2, ds) w
            clear hct hY q0 q1 q2 q3 hb N9 hbk
            by_cases hkp : kk = ps9
            · rw [(eqT_iffI _ _).2 (HPK.out.2 hkp)] at heq
              have HKP := Lib.hid hkp
              have hr9 : r = k := by rcases HR.out with h | h <;> omega
              clear hkp
              go_wp2_with fail
              refine wp_region_quiet_grown mixed (by kernel_rfl) ?_
              repeat (go_big_quiet_step ((fail)))
              refine wpQuiet_nil ?_
              intro _ hw'
              obtain ⟨⟨nq, osq⟩, hw''⟩ := hw'
              subst hw''
              clear d0 d1 d2 d3 n0 n1 t0 t1 t2 t3 n1' heq
              have hxe : Ext wr (grow (wr.drewN nq) osq) := ⟨nq, osq, rfl⟩
              have HOe := Lib.hid (iown_ext HO.out hxe)
              have HKe := Lib.hid (HK.out.ext hxe)
              have HBe := Lib.hid (HB.out.trans (hxe.below (by have := HB.out.size; omega)))
              clear hxe HO HK HB
              generalize grow (wr.drewN nq) osq = We at *
              subst hr9
              go_wp2_with (at_builtin; refine wpList_push rfl _ _ rfl (g7 + 1) _ r _ rfl (HOe.out.alloc _) We.heap.size (kk : Int) rfl (heap_alloc_new We _) ?c1 ?c2 ?c3 ?_)
              case c1 => unfold maxLen; omega
              case c2 => omega
              case c3 => have := HBe.out.size; simp; omega
              intro v' w3 hown' hgrow hat'
              rw [show vis (rowN L P Q x y z r) ++ [vi (kk : Int)] = vis (rowN L P Q x y z (r + 1)) by rw [HRN.out, vis_snoc, HKP.out]] at hown'
              have O3 := Lib.hid hown'
              have B3 := Lib.hid ((HBe.out.alloc (by have := HBe.out.size; omega) (Obj.cells #[.int .i64 (kk : Int)] 2)).grown hgrow (by have := HBe.out.size; simp; omega) (fun j hj => (HOe.out.lt j hj).1))
              have K3 := Lib.hid (show Blk w3 g9 56 #[.int .i64 a0, .int .i64 dn, .int .i64 a2, .int .i64 ds] from (hgrow.block g9 (by have := HKe.out.lt; simp; omega) (fun e => HNO.out g9 e.symm rfl)).trans (HKe.out.ext ((Ext.refl _).alloc _)))
              have NO3 := Lib.hid (show ∀ j, v'.ownBlock = some j → j ≠ g9 from fun j hj => by
                rcases hat' with h | h
                · exact HNO.out j (by rw [← h]; exact hj)
                · rw [h] at hj
                  have := HKe.out.lt
                  simp at hj
                  omega)
              clear hown' hgrow hat' HOe HBe HKe
              go_wp2_with fail
              go_roundw
              case rel => exact ⟨kk + 1, r + 1, by omega, by go_num, .inr ⟨by have := HKP.out; omega, rfl⟩, O3.out, NO3.out, K3.out, B3.out⟩
              case measure => simp [intOf]; omega
            · rw [show eqT (y0, y1, y2, y3) (a0, dn, a2, ds) = false by
                cases h : eqT (y0, y1, y2, y3) (a0, dn, a2, ds) with
                | false => rfl
                | true => exact absurd (HPK.out.1 ((eqT_iffI _ _).1 h)) hkp] at heq
              have HKP := Lib.hid hkp
              clear hkp
              go_wp2_with fail
              refine wp_region_quiet_grown mixed (by kernel_rfl) ?_
              repeat (go_big_quiet_step ((fail)))
              refine wpQuiet_nil ?_
              intro _ hw'
              obtain ⟨⟨nq, osq⟩, hw''⟩ := hw'
              subst hw''
              clear d0 d1 d2 d3 n0 n1 t0 t1 t2 t3 n1' heq
              have hxe : Ext wr (grow (wr.drewN nq) osq) := ⟨nq, osq, rfl⟩
              have HOe := Lib.hid (iown_ext HO.out hxe)
              have HKe := Lib.hid (HK.out.ext hxe)
              have HBe := Lib.hid (HB.out.trans (hxe.below (by have := HB.out.size; omega)))
              clear hxe HO HK HB
              go_wp2_with fail
              go_roundw
              case rel => exact ⟨kk + 1, r, by omega, by go_num, by have := HKP.out; rcases HR.out with h | h <;> omega, HOe.out, HNO.out, HKe.out, HBe.out⟩
              case measure => simp [intOf]; omega
          · obtain rfl : kk = L.length := by omega
            have hr9 : r = k + 1 := by rcases HR.out with h | h <;> omega
            subst hr9
            have n1' := N9.rd 1 rfl
            clear hb N9 hbk
            go_wp2_with fail
            go_roundw
            case rel => exact ⟨k + 1, by omega, by go_num, HO.out, HB.out⟩
            case measure => simp [intOf]; omega
      · obtain rfl : k = m := by omega
        obtain ⟨A2, cap2, rfl, hcap, htw⟩ := own_iwr HO.out (by rw [rowN_len])
        have HT := Lib.hid (htw.low (show g7 ≤ g7 + 1 by omega))
        have N9 := Lib.hid (N8.out.below hb (by omega))
        have R9 := Lib.hid (R8.out.below hb (by have := HG7.out; omega))
        have XR9 := Lib.hid (show TWr wr (w.heap.size + 1) g7 RT L from fun h0 => by
          obtain ⟨b', off', t', cs', e', h1', h2', h3', h4'⟩ := XR8.out h0
          exact ⟨b', off', t', cs', e', h1', h2', h3'.below hb (by omega), h4'⟩)
        have KK := Lib.hid (K8.out.trans (hb.mono (by have := HG7.out; omega)))
        have v0 := N9.out.rd 0 rfl
        have v1 := N9.out.rd 1 rfl
        have r0 := R9.out.rd 0 rfl
        have r1 := R9.out.rd 1 rfl
        have z0 := R9.out.frozen 0
        have z1 := R9.out.frozen 1
        have hlt := R9.out.lt
        have hsz := hb.size
        clear htw HO hb
        go_wp2_with fail
        refine bodyPost_ret (v := .tuple #[.agg #[.int .i64 cc, .slice RT L.length pt], .slice A2 k cap2, .int .i64 0]) (by simp [results, Tryd.results13, go_sem, r0, r1, z0, z1]) rfl (HQ.out _ _ ⟨RT, pt, A2, cap2, g7, by have := HG7.out; omega, ?_, by rw [rowN_len], ?_, ?_, ?_⟩)
        · first | (simp; omega) | omega
        · exact (KK.out.setCell (Nat.le_refl _) _).setCell (Nat.le_refl _) _
        · exact twr_far2 XR9.out (Nat.lt_succ_self _) (Nat.le_succ _)
        · exact iwr_far2 HT.out HG7.out
end

section
set_option linter.unusedVariables false
set_option linter.unusedSimpArgs false
open Go.RowKit Go.Sort

set_option maxRecDepth 100000 in
set_option maxHeartbeats 4000000 in
theorem specNumberRow_2 (p q a b pl n : Int) (w : World) (h : numOk p q a b pl n = false) :
    Calls Tryd.prog 13 #[.int .i64 p, .int .i64 q, .int .i64 a, .int .i64 b, .int .i64 pl, .int .i64 n] w (NRes w 0 [] [] 2) := by
  have h1 := fun W => l08Factor_any p q W
  have h2 := fun W => l08Fraction_any a b W
  have h3 := fun W => l08Places_any pl n W
  cases hp : facB p q with
  | false =>
    rw [hp] at h1
    have H1 := Lib.hid h1
    clear h1 h2 h3 h hp
    go_enter Tryd.func13, Tryd.ntmps13
    go_wp2_with fail
    refine (H1.out _).mono ?_
    rintro e w' ⟨rfl, rfl⟩
    have HX0 := Lib.hid (((Ext.refl w).alloc (Obj.cells #[.int .i64 0, .slice none 0 0] 32)).below (Nat.le_refl w.heap.size))
    have HR0 := Lib.hid (Blk.new w 32 #[.int .i64 0, .slice none 0 0])
    obtain ⟨W0, hW0⟩ : ∃ W, w.alloc (Obj.cells #[.int .i64 0, .slice none 0 0] 32) = W := ⟨_, rfl⟩
    rw [hW0] at HX0 HR0 ⊢
    have r0 := HR0.out.rd 0 rfl
    have r1 := HR0.out.rd 1 rfl
    have z0 := HR0.out.frozen 0
    have z1 := HR0.out.frozen 1
    have hlt := HR0.out.lt
    clear hW0
    go_wp2_with fail
    refine bodyPost_ret (v := .tuple #[.agg #[.int .i64 0, .slice none 0 0], .slice none 0 0, .int .i64 2]) (by simp [results, Tryd.results13, go_sem, r0, r1, z0, z1]) rfl ⟨none, 0, none, 0, w.heap.size, Nat.le_refl _, ?_, rfl, ?_, fun h => absurd h (Nat.lt_irrefl _), fun h => absurd h (Nat.lt_irrefl _)⟩
    · first | exact HX0.out.size | exact ((HX0.out.setCell (p := ⟨w.heap.size, 0, none⟩) (Nat.le_refl _) (.int .i64 0)).setCell (p := ⟨w.heap.size, 1, none⟩) (Nat.le_refl _) (.slice none 0 0)).size
    · first | exact HX0.out | exact (HX0.out.setCell (Nat.le_refl _) _).setCell (Nat.le_refl _) _
  | true =>
    rw [hp] at h1
    have H1 := Lib.hid h1
    cases hf : fracB a b with
    | false =>
      rw [hf] at h2
      have H2 := Lib.hid h2
      clear h1 h2 h3 h hp hf
      go_enter Tryd.func13, Tryd.ntmps13
      go_wp2_with fail
      refine (H1.out _).mono ?_
      rintro e w' ⟨rfl, rfl⟩
      have HX0 := Lib.hid (((Ext.refl w).alloc (Obj.cells #[.int .i64 0, .slice none 0 0] 32)).below (Nat.le_refl w.heap.size))
      have HR0 := Lib.hid (Blk.new w 32 #[.int .i64 0, .slice none 0 0])
      obtain ⟨W0, hW0⟩ : ∃ W, w.alloc (Obj.cells #[.int .i64 0, .slice none 0 0] 32) = W := ⟨_, rfl⟩
      rw [hW0] at HX0 HR0 ⊢
      have r0 := HR0.out.rd 0 rfl
      have r1 := HR0.out.rd 1 rfl
      have z0 := HR0.out.frozen 0
      have z1 := HR0.out.frozen 1
      have hlt := HR0.out.lt
      clear hW0
      go_wp2_with fail
      refine (H2.out _).mono ?_
      rintro e w' ⟨rfl, rfl⟩
      go_wp2_with fail
      refine bodyPost_ret (v := .tuple #[.agg #[.int .i64 0, .slice none 0 0], .slice none 0 0, .int .i64 2]) (by simp [results, Tryd.results13, go_sem, r0, r1, z0, z1]) rfl ⟨none, 0, none, 0, w.heap.size, Nat.le_refl _, ?_, rfl, ?_, fun h => absurd h (Nat.lt_irrefl _), fun h => absurd h (Nat.lt_irrefl _)⟩
      · first | exact HX0.out.size | exact ((HX0.out.setCell (p := ⟨w.heap.size, 0, none⟩) (Nat.le_refl _) (.int .i64 0)).setCell (p := ⟨w.heap.size, 1, none⟩) (Nat.le_refl _) (.slice none 0 0)).size
      · first | exact HX0.out | exact (HX0.out.setCell (Nat.le_refl _) _).setCell (Nat.le_refl _) _
    | true =>
      rw [hf] at h2
      have H2 := Lib.hid h2
      cases hpp : placeB pl n with
      | false =>
        rw [hpp] at h3
        have H3 := Lib.hid h3
        clear h1 h2 h3 h hp hf hpp
        go_enter Tryd.func13, Tryd.ntmps13
        go_wp2_with fail
        refine (H1.out _).mono ?_
        rintro e w' ⟨rfl, rfl⟩
        have HX0 := Lib.hid (((Ext.refl w).alloc (Obj.cells #[.int .i64 0, .slice none 0 0] 32)).below (Nat.le_refl w.heap.size))
        have HR0 := Lib.hid (Blk.new w 32 #[.int .i64 0, .slice none 0 0])
        obtain ⟨W0, hW0⟩ : ∃ W, w.alloc (Obj.cells #[.int .i64 0, .slice none 0 0] 32) = W := ⟨_, rfl⟩
        rw [hW0] at HX0 HR0 ⊢
        have r0 := HR0.out.rd 0 rfl
        have r1 := HR0.out.rd 1 rfl
        have z0 := HR0.out.frozen 0
        have z1 := HR0.out.frozen 1
        have hlt := HR0.out.lt
        clear hW0
        go_wp2_with fail
        refine (H2.out _).mono ?_
        rintro e w' ⟨rfl, rfl⟩
        go_wp2_with fail
        refine (H3.out _).mono ?_
        rintro e w' ⟨rfl, rfl⟩
        go_wp2_with fail
        refine bodyPost_ret (v := .tuple #[.agg #[.int .i64 0, .slice none 0 0], .slice none 0 0, .int .i64 2]) (by simp [results, Tryd.results13, go_sem, r0, r1, z0, z1]) rfl ⟨none, 0, none, 0, w.heap.size, Nat.le_refl _, ?_, rfl, ?_, fun h => absurd h (Nat.lt_irrefl _), fun h => absurd h (Nat.lt_irrefl _)⟩
        · first | exact HX0.out.size | exact ((HX0.out.setCell (p := ⟨w.heap.size, 0, none⟩) (Nat.le_refl _) (.int .i64 0)).setCell (p := ⟨w.heap.size, 1, none⟩) (Nat.le_refl _) (.slice none 0 0)).size
        · first | exact HX0.out | exact (HX0.out.setCell (Nat.le_refl _) _).setCell (Nat.le_refl _) _
      | true =>
        rw [hpp] at h3
        have H3 := Lib.hid h3
        have hbig : ¬ p * a ≤ 5 * (q * b) := by
          intro h2
          simp [numOk, digOk, hf, hpp, hp, h2] at h
        simp only [facB, decide_eq_true_eq] at hp
        have hd : digOk a b pl n = true := by simp [digOk, hf, hpp]
        obtain ⟨P, rfl⟩ : ∃ P : Nat, p = (P : Int) := ⟨p.toNat, by omega⟩
        obtain ⟨Q, rfl⟩ : ∃ Q : Nat, q = (Q : Int) := ⟨q.toNat, by omega⟩
        obtain ⟨x, y, z, m, rfl, rfl, rfl, rfl, hy, hy2, hx, hz, hm, hm1⟩ := digOk_nat hd
        have hpa2 : P * x ≤ 3 * 100 := Nat.mul_le_mul (by omega) hx
        have hqb2 : Q * y ≤ 3 * 20 := Nat.mul_le_mul (by omega) hy2
        have hbig2 : ¬ P * x ≤ 5 * (Q * y) := fun h2 => hbig (by exact_mod_cast h2)
        obtain ⟨pa, hpa⟩ : ∃ v, P * x = v := ⟨_, rfl⟩
        obtain ⟨qb, hqb⟩ : ∃ v, Q * y = v := ⟨_, rfl⟩
        rw [hpa] at hpa2 hbig2
        rw [hqb] at hqb2 hbig2
        have hw1 : IntKind.i64.wrap ((x : Int) * (P : Int)) = (pa : Int) := mulN x P pa (by rw [Nat.mul_comm]; exact hpa) (by omega)
        obtain ⟨y5, hy5⟩ : ∃ v, 5 * y = v := ⟨_, rfl⟩
        obtain ⟨q5, hq5⟩ : ∃ v, y5 * Q = v := ⟨_, rfl⟩
        have hw2 : IntKind.i64.wrap ((5 : Int) * (y : Int)) = (y5 : Int) := by have := mulN 5 y y5 hy5 (by omega); simpa using this
        have hq5b : q5 = 5 * qb := by rw [← hq5, ← hy5, ← hqb, Nat.mul_assoc, Nat.mul_comm y Q]
        have hw3 : IntKind.i64.wrap ((y5 : Int) * (Q : Int)) = (q5 : Int) := mulN y5 Q q5 hq5 (by omega)
        have hng : (q5 : Int) < (pa : Int) := by omega
        obtain ⟨pl, hpl⟩ : ∃ pl, z + 1 = pl := ⟨_, rfl⟩
        rw [hpl] at H3 ⊢
        clear h1 h2 h3 h hp hf hpp hd hpa hqb hbig hbig2 hy5 hq5 hq5b hpl
        go_enter Tryd.func13, Tryd.ntmps13
        go_wp2_with fail
        refine (H1.out _).mono ?_
        rintro e w' ⟨rfl, rfl⟩
        have HX0 := Lib.hid (((Ext.refl w).alloc (Obj.cells #[.int .i64 0, .slice none 0 0] 32)).below (Nat.le_refl w.heap.size))
        have HR0 := Lib.hid (Blk.new w 32 #[.int .i64 0, .slice none 0 0])
        obtain ⟨W0, hW0⟩ : ∃ W, w.alloc (Obj.cells #[.int .i64 0, .slice none 0 0] 32) = W := ⟨_, rfl⟩
        rw [hW0] at HX0 HR0 ⊢
        have r0 := HR0.out.rd 0 rfl
        have r1 := HR0.out.rd 1 rfl
        have z0 := HR0.out.frozen 0
        have z1 := HR0.out.frozen 1
        have hlt := HR0.out.lt
        clear hW0
        go_wp2_with fail
        refine (H2.out _).mono ?_
        rintro e w' ⟨rfl, rfl⟩
        go_wp2_with fail
        refine (H3.out _).mono ?_
        rintro e w' ⟨rfl, rfl⟩
        go_wp2_with fail
        refine bodyPost_ret (v := .tuple #[.agg #[.int .i64 0, .slice none 0 0], .slice none 0 0, .int .i64 2]) (by simp [results, Tryd.results13, go_sem, r0, r1, z0, z1]) rfl ⟨none, 0, none, 0, w.heap.size, Nat.le_refl _, ?_, rfl, ?_, fun h => absurd h (Nat.lt_irrefl _), fun h => absurd h (Nat.lt_irrefl _)⟩
        · first | exact HX0.out.size | exact ((HX0.out.setCell (p := ⟨w.heap.size, 0, none⟩) (Nat.le_refl _) (.int .i64 0)).setCell (p := ⟨w.heap.size, 1, none⟩) (Nat.le_refl _) (.slice none 0 0)).size
        · first | exact HX0.out | exact (HX0.out.setCell (Nat.le_refl _) _).setCell (Nat.le_refl _) _

/-- What the digits of a number ask of the multiplying set. -/
theorem mulDoor_digits (P Q x y z m : Nat) (hP : 1 ≤ P ∧ P ≤ 3) (hQ : 1 ≤ Q ∧ Q ≤ 3) (hy : 0 < y) (hm1 : 1 ≤ m) (hf : fracB x y = true) (hle : P * x ≤ 5 * (Q * y)) :
    ∃ cc L code, (∀ W, MulDoor (P : Int) (Q : Int) (leastN (digsL x y z m) (m - 1)) (mostN (digsL x y z m) (m - 1)) (leastN (digsL (P * x) (Q * y) z m) (m - 1)) (mostN (digsL (P * x) (Q * y) z m) (m - 1)) W = SetRes W cc L code) ∧
      (∀ W, MulRes (P : Int) (Q : Int) (mostN (digsL x y z m) (m - 1)) (mostN (digsL (P * x) (Q * y) z m) (m - 1)) (mulL (P : Int) (Q : Int) (leastN (digsL x y z m) (m - 1)) (mostN (digsL x y z m) (m - 1)) (leastN (digsL (P * x) (Q * y) z m) (m - 1)) (mostN (digsL (P * x) (Q * y) z m) (m - 1))) W = SetRes W cc L code) ∧
      (mulArgs (P : Int) (Q : Int) (leastN (digsL x y z m) (m - 1)) (mostN (digsL x y z m) (m - 1)) (leastN (digsL (P * x) (Q * y) z m) (m - 1)) (mostN (digsL (P * x) (Q * y) z m) (m - 1)) = true) ∧
      (code = 0 → Asc L ∧ L.length ≤ 16 ∧ ∀ k, k < m → ownT P Q x y z k ∈ L) := by
  obtain ⟨m, rfl⟩ : ∃ j, m = j + 1 := ⟨m - 1, by omega⟩
  have hxy : x ≤ 5 * y := by simp only [fracB, Bool.and_eq_true, decide_eq_true_eq] at hf; omega
  have hqy : 0 < Q * y := Nat.mul_pos (by omega) hy
  simp only [Nat.add_sub_cancel]
  have d1 : ∀ k, k ≤ m → 0 ≤ (digsL x y z (m + 1)).getD k 0 ∧ (digsL x y z (m + 1)).getD k 0 ≤ 5 := fun k hk => by rw [digsL_get _ _ _ (by omega)]; exact dig_range hy hxy
  have d2 : ∀ k, k ≤ m → 0 ≤ (digsL (P * x) (Q * y) z (m + 1)).getD k 0 ∧ (digsL (P * x) (Q * y) z (m + 1)).getD k 0 ≤ 5 := fun k hk => by rw [digsL_get _ _ _ (by omega)]; exact dig_range hqy hle
  have h1 := leastN_in d1
  have h2 := mostN_in d1
  have h3 := leastN_in d2
  have h4 := mostN_in d2
  have h5 := Int.le_trans (leastN_le (xs := digsL x y z (m + 1)) (Nat.zero_le m)) (mostN_ge (xs := digsL x y z (m + 1)) (Nat.zero_le m))
  have h6 := Int.le_trans (leastN_le (xs := digsL (P * x) (Q * y) z (m + 1)) (Nat.zero_le m)) (mostN_ge (xs := digsL (P * x) (Q * y) z (m + 1)) (Nat.zero_le m))
  have hmem := fun k (hk : k < m + 1) => ownT_mem (p := P) (q := Q) (a := x) (b := y) (z := z) (n := m) (k := k) (by omega) (by omega) hy (by omega)
  generalize leastN (digsL x y z (m + 1)) m = lo at *
  generalize mostN (digsL x y z (m + 1)) m = hi at *
  generalize leastN (digsL (P * x) (Q * y) z (m + 1)) m = un at *
  generalize mostN (digsL (P * x) (Q * y) z (m + 1)) m = ov at *
  have hma : mulArgs (P : Int) (Q : Int) lo hi un ov = true := by
    simp only [mulArgs, facB, Bool.and_eq_true, decide_eq_true_eq]
    omega
  by_cases hl : (mulL (P : Int) (Q : Int) lo hi un ov).length ≤ 16
  · refine ⟨mulC (P : Int) (Q : Int) hi ov, sortT (mulL (P : Int) (Q : Int) lo hi un ov), 0, fun W => ?_, fun W => ?_, hma, fun _ => ⟨sortT_asc _, Nat.le_trans (sortT_len _) hl, fun k hk => sortT_mem.2 (hmem k hk)⟩⟩
    · unfold MulDoor MulRes
      rw [if_pos hma, if_pos hl]
    · unfold MulRes
      rw [if_pos hl]
  · refine ⟨0, [], 3, fun W => ?_, fun W => ?_, hma, fun h => absurd h (by decide)⟩
    · unfold MulDoor MulRes
      rw [if_pos hma, if_neg hl]
    · unfold MulRes
      rw [if_neg hl]
/-- One answer of both doors where the arguments are good. -/
theorem numberRow_good (p q a b pl n : Int) (h : numOk p q a b pl n = true) :
    ∃ cc L ys code, L.length ≤ 16 ∧ ys.length ≤ 20 ∧ (∀ w, Calls Tryd.prog 14 #[.int .i64 p, .int .i64 q, .int .i64 a, .int .i64 b, .int .i64 pl, .int .i64 n] w (NRes w cc L ys code)) ∧
      (∀ w, Calls Tryd.prog 13 #[.int .i64 p, .int .i64 q, .int .i64 a, .int .i64 b, .int .i64 pl, .int .i64 n] w (NRes w cc L ys code)) := by
  simp only [numOk, Bool.and_eq_true, decide_eq_true_eq] at h
  obtain ⟨⟨hd, hp⟩, hle⟩ := h
  have hd1 := hd
  simp only [digOk, Bool.and_eq_true] at hd1
  simp only [facB, decide_eq_true_eq] at hp
  obtain ⟨P, rfl⟩ : ∃ P : Nat, p = (P : Int) := ⟨p.toNat, by omega⟩
  obtain ⟨Q, rfl⟩ : ∃ Q : Nat, q = (Q : Int) := ⟨q.toNat, by omega⟩
  obtain ⟨x, y, z, m, rfl, rfl, rfl, rfl, hy, hy2, hx, hz, hm, hm1⟩ := digOk_nat hd
  have hle2 : P * x ≤ 5 * (Q * y) := by exact_mod_cast hle
  have hP : 1 ≤ P ∧ P ≤ 3 := by omega
  have hQ : 1 ≤ Q ∧ Q ≤ 3 := by omega
  obtain ⟨cc, L, code, hD, hR, hA, hL⟩ := mulDoor_digits P Q x y z m hP hQ hy hm1 hd1.1 hle2
  have hM : ∀ W, Calls Tryd.prog 28 #[.int .i64 (P : Int), .int .i64 (Q : Int), .int .i64 (leastN (digsL x y z m) (m - 1)), .int .i64 (mostN (digsL x y z m) (m - 1)), .int .i64 (leastN (digsL (P * x) (Q * y) z m) (m - 1)), .int .i64 (mostN (digsL (P * x) (Q * y) z m) (m - 1))] W (SetRes W cc L code) := fun W => by
    rw [← hR W]
    simp only [mulArgs, facB, Bool.and_eq_true, decide_eq_true_eq] at hA
    exact l08Made_any _ _ _ _ _ _ _ _ _ W (by omega) (by omega) (by omega) (by omega) (by omega) (by omega) (by omega) (by omega) (by omega) (by omega) (by omega)
  by_cases hc : code = 0
  · subst hc
    refine ⟨cc, L, rowN L P Q x y z m, 0, (hL rfl).2.1, by rw [rowN_len]; exact hm, fun w => ?_, fun w => ?_⟩
    · exact implNumberRow_ok P Q x y z (z + 1) m w hP hQ hy hy2 hx rfl hz hm hm1 hd1.1 hd1.2 hle2 cc 0 L hD (fun h => (hL h).2) _ (fun _ e w' h => h) (fun h => absurd rfl h)
    · exact specNumberRow_ok P Q x y z (z + 1) m w hP hQ hy hy2 hx rfl hz hm hm1 hd1.1 hd1.2 hle2 cc 0 L hM hL _ (fun _ e w' h => h) (fun h => absurd rfl h)
  · refine ⟨0, [], [], code, by simp, by simp, fun w => ?_, fun w => ?_⟩
    · exact implNumberRow_ok P Q x y z (z + 1) m w hP hQ hy hy2 hx rfl hz hm hm1 hd1.1 hd1.2 hle2 cc code L hD (fun h => absurd h hc) _ (fun h => absurd h hc) (fun _ e w' h => h)
    · exact specNumberRow_ok P Q x y z (z + 1) m w hP hQ hy hy2 hx rfl hz hm hm1 hd1.1 hd1.2 hle2 cc code L hM (fun h => absurd h hc) _ (fun h => absurd h hc) (fun _ e w' h => h)
end
end Go.Proofs.YtnagpndclagfaaaDoor
