/- NumberRow: the program's door. -/
import Derived.Test.YtnagpndclagfaaaDoorNrB
import Derived.Test.YtnagpndclagfaaaDoorIt1
import Derived.Test.YtnagpndclagfaaaDoorMark2
import Derived.Test.YtnagpndclagfaaaDoorHeld
namespace Go.Proofs.YtnagpndclagfaaaDoor
set_option linter.unusedVariables false
set_option linter.unusedSimpArgs false
open Go.RowKit Go.Sort

/-- A set, a row and a code, the set's memory ahead of the row's. -/
def NRes (w : World) (c : Int) (us : List Tl) (ys : List Int) (code : Int) (e : Ending) (w' : World) : Prop :=
  ∃ R0 p0 R1 p1 mid, w.heap.size ≤ mid ∧ mid ≤ w'.heap.size ∧ e = .returned (.tuple #[.agg #[.int .i64 c, .slice R0 us.length p0], .slice R1 ys.length p1, .int .i64 code]) ∧ Below w.heap.size w w' ∧ TWr w' w.heap.size mid R0 us ∧ IWr w' mid w'.heap.size R1 ys
theorem twr_far2 {w : World} {lo hi k lo' : Nat} {A : Option Addr} {ts : List Tl} {x1 x2 : Value} (h : TWr w lo hi A ts) (hk : k < lo) (hl : lo' ≤ lo) : TWr ((w.setCell ⟨k, 0, none⟩ x1).setCell ⟨k, 1, none⟩ x2) lo' hi A ts := fun h0 => by
  obtain ⟨b, off, t, cs, e, h1, h2, hb, hc⟩ := h h0
  exact ⟨b, off, t, cs, e, by omega, h2, (hb.far (show b ≠ k by omega) _).far (show b ≠ k by omega) _, hc⟩
theorem iwr_far2 {w : World} {lo hi k : Nat} {A : Option Addr} {xs : List Int} {x1 x2 : Value} (h : IWr w lo hi A xs) (hk : k < lo) : IWr ((w.setCell ⟨k, 0, none⟩ x1).setCell ⟨k, 1, none⟩ x2) lo ((w.setCell ⟨k, 0, none⟩ x1).setCell ⟨k, 1, none⟩ x2).heap.size A xs := fun h0 => by
  obtain ⟨b, off, t, cs, e, h1, h2, hb, hc⟩ := h h0
  exact ⟨b, off, t, cs, e, h1, ((hb.far (show b ≠ k by omega) _).far (show b ≠ k by omega) _).lt, (hb.far (show b ≠ k by omega) _).far (show b ≠ k by omega) _, hc⟩
theorem cell_far2s {w : World} {k b o : Nat} {x1 x2 v : Value} (h : w.cell? ⟨b, o, none⟩ = some v) (hne : b ≠ k) : (((w.setCell ⟨k, 0, none⟩ x1).setCell ⟨k, 1, none⟩ x2)).cell? ⟨b, o, none⟩ = some v := by
  rw [World.cell?_setCell_far _ _ _ _ (Ne.symm hne), World.cell?_setCell_far _ _ _ _ (Ne.symm hne)]
  exact h
set_option maxRecDepth 100000 in
set_option maxHeartbeats 4000000 in
theorem implNumberRow_ok (P Q x y z pl m : Nat) (w : World) (hP : 1 ≤ P ∧ P ≤ 3) (hQ : 1 ≤ Q ∧ Q ≤ 3) (hy : 0 < y) (hy2 : y ≤ 20) (hx : x ≤ 100) (hpl : pl = z + 1) (hz : z ≤ 1000) (hm : m ≤ 20) (hm1 : 1 ≤ m) (hf : fracB x y = true) (hpp : placeB pl m = true) (hle : P * x ≤ 5 * (Q * y)) (cc code : Int) (L : List Tl) (hD : ∀ W, MulDoor (P : Int) (Q : Int) (leastN (digsL x y z m) (m - 1)) (mostN (digsL x y z m) (m - 1)) (leastN (digsL (P * x) (Q * y) z m) (m - 1)) (mostN (digsL (P * x) (Q * y) z m) (m - 1)) W = SetRes W cc L code) (hL : code = 0 → L.length ≤ 16 ∧ ∀ k, k < m → ownT P Q x y z k ∈ L) (QQ : Ending → World → Prop) (hQ0 : code = 0 → ∀ e w', NRes w cc L (rowN L P Q x y z m) 0 e w' → QQ e w') (hQ1 : code ≠ 0 → ∀ e w', NRes w 0 [] [] code e w' → QQ e w') :
    Calls Tryd.prog 14 #[.int .i64 (P : Int), .int .i64 (Q : Int), .int .i64 (x : Int), .int .i64 (y : Int), .int .i64 (pl : Int), .int .i64 (m : Int)] w QQ := by
  have hs := fun W => stretchOf_ok (x : Int) (y : Int) (pl : Int) (m : Int) W hf hpp
  have hw2 := fun W => areWithin2 1 3 (P : Int) (Q : Int) W
  rw [show decide (1 ≤ (P : Int) ∧ (P : Int) ≤ 3 ∧ 1 ≤ (Q : Int) ∧ (Q : Int) ≤ 3) = true from decide_eq_true (by omega)] at hw2
  have hpa2 : P * x ≤ 3 * 100 := Nat.mul_le_mul hP.2 hx
  have hqb2 : Q * y ≤ 3 * 20 := Nat.mul_le_mul hQ.2 hy2
  obtain ⟨pa, hpa⟩ : ∃ v, P * x = v := ⟨_, rfl⟩
  obtain ⟨qb, hqb⟩ : ∃ v, Q * y = v := ⟨_, rfl⟩
  rw [hpa] at hpa2 hle hD
  rw [hqb] at hqb2 hle hD
  have hqb0 : 0 < qb := by rw [← hqb]; exact Nat.mul_pos (by omega) hy
  have hsd := fun (A B : Option Addr) (c d : Nat) W0 W (hE : Ext W0 W) (hA : IR W0 W0.heap.size A _) (hB : IR W0 W0.heap.size B _) => setForDigits_any (P : Int) (Q : Int) A B m c m d (digsL x y z m) (digsL pa qb z m) W hm1 (by omega) hm1 (by omega) (digsL_len _ _ _ _) (digsL_len _ _ _ _) ((hA.ext hE (Nat.le_refl _)).more (hE.below (Nat.le_refl _)).size) ((hB.ext hE (Nat.le_refl _)).more (hE.below (Nat.le_refl _)).size)
  simp only [hD] at hsd
  unfold SetRes at hsd
  have HSD := Lib.hid hsd
  have HN := Lib.hid (fun W => digits_any x y z pl m W hy hpl hz hm (by omega))
  have HSO := Lib.hid (fun W => digits_any pa qb z pl m W hqb0 hpl hz hm (by omega))
  have HST := Lib.hid (fun W => stretchTimes_any P Q x y pa qb (pl : Int) (m : Int) W hpa hqb (by omega) (by omega))
  have HROW := Lib.hid (fun (c0 : Int) (A : Option Addr) (q : Nat) W hc hA => rowOfNumber_any P Q x y z pl m (m + 1) pa qb c0 A L.length q L W hP hQ hy hy2 hx hpl hz hm1 hm rfl hpa hqb (hL hc).1 rfl hA (hL hc).2 (fun k hk => ⟨dig_range hy (by simp only [fracB, Bool.and_eq_true, decide_eq_true_eq] at hf; omega), dig_range hqb0 hle⟩))
  have HQ0 := Lib.hid hQ0
  have HQ1 := Lib.hid hQ1
  clear hD hsd hL hQ0 hQ1
  have HT := Lib.hid (fun W => times_any P Q x y pa qb W hpa hqb (by omega) (by omega))
  have hcm := fun W => compareFrac_any (pa, qb) (5, 1) W (by show pa * 1 ≤ 100000; omega) (by show 5 * qb ≤ 100000; omega)
  simp only [fv, Nat.mul_one] at hcm
  have hc0 : cmpI ((pa : Nat) : Int) ((5 * qb : Nat) : Int) ≤ 0 := cmpI_le (by omega)
  obtain ⟨cv, hcv⟩ : ∃ v, cmpI ((pa : Nat) : Int) ((5 * qb : Nat) : Int) = v := ⟨_, rfl⟩
  rw [hcv] at hcm hc0
  have HCM := Lib.hid hcm
  have HS := Lib.hid hs
  have HW := Lib.hid hw2
  have HPL := Lib.hid hpl
  have HF := Lib.hid (And.intro hpa hqb)
  clear hs hw2 hf hpp hpl hcm hcv hpa hqb
  go_enter Tryd.func14, Tryd.ntmps14
  go_wp2_with fail
  refine (HS.out _).mono ?_
  rintro e w1 ⟨rfl, hb1⟩
  have HR1 := Lib.hid ((Blk.new w 32 #[.int .i64 0, .slice none 0 0]).below hb1 (by simp))
  have hb := ((((Ext.refl w).alloc (Obj.cells #[.int .i64 0, .slice none 0 0] 32)).below (Nat.le_refl _)).trans (hb1.mono (by simp)))
  have hx1 := ((Ext.refl w1).alloc (Obj.cells #[.int .i64 (x : Int), .int .i64 (y : Int), .int .i64 (pl : Int), .int .i64 (m : Int)] 42)).alloc (Obj.cells #[.int .i64 (P : Int), .int .i64 (Q : Int)] 50)
  have hS := (Blk.new w1 42 #[.int .i64 (x : Int), .int .i64 (y : Int), .int .i64 (pl : Int), .int .i64 (m : Int)]).ext ((Ext.refl _).alloc (Obj.cells #[.int .i64 (P : Int), .int .i64 (Q : Int)] 50))
  have hF := Blk.new (w1.alloc (Obj.cells #[.int .i64 (x : Int), .int .i64 (y : Int), .int .i64 (pl : Int), .int .i64 (m : Int)] 42)) 50 #[.int .i64 (P : Int), .int .i64 (Q : Int)]
  obtain ⟨W1, hW1⟩ : ∃ W1, (w1.alloc (Obj.cells #[.int .i64 (x : Int), .int .i64 (y : Int), .int .i64 (pl : Int), .int .i64 (m : Int)] 42)).alloc (Obj.cells #[.int .i64 (P : Int), .int .i64 (Q : Int)] 50) = W1 := ⟨_, rfl⟩
  rw [hW1] at hx1 hS hF
  rw [World.size_alloc] at hF
  have hsz : W1.heap.size = w1.heap.size + 1 + 1 := by rw [← hW1]; simp
  have HB1 := Lib.hid (hb.trans (hx1.below hb.size))
  have HR2 := Lib.hid (HR1.out.ext hx1)
  have HS2 := Lib.hid hS
  have HF2 := Lib.hid hF
  clear hb1 hb hx1 hS hF
  go_wp2_with fail
  try rw [hW1]
  have hw := HW.out W1
  rw [hsz] at hw
  refine hw.mono ?_
  rintro e w2 ⟨rfl, rfl⟩
  have hx2 := (Ext.refl W1).alloc (Obj.cells #[.int .i64 (P : Int), .int .i64 (Q : Int)] 2)
  have HB3 := Lib.hid (HB1.out.trans (hx2.below HB1.out.size))
  have HR3 := Lib.hid (HR2.out.ext hx2)
  have HS3 := Lib.hid (HS2.out.ext hx2)
  have HF3 := Lib.hid (HF2.out.ext hx2)
  clear hw hW1 hsz hx2 HR2 HS2 HF2 HB1
  generalize W1.alloc (Obj.cells #[.int .i64 (P : Int), .int .i64 (Q : Int)] 2) = W3 at *
  have s0 := HS3.out.rd 0 (v := .int .i64 (x : Int)) rfl
  have s1 := HS3.out.rd 1 (v := .int .i64 (y : Int)) rfl
  have s2 := HS3.out.rd 2 (v := .int .i64 (pl : Int)) rfl
  have s3 := HS3.out.rd 3 (v := .int .i64 (m : Int)) rfl
  have f0 := HF3.out.rd 0 (v := .int .i64 (P : Int)) rfl
  have f1 := HF3.out.rd 1 (v := .int .i64 (Q : Int)) rfl
  go_wp2_with fail
  refine (HT.out _).mono ?_
  rintro e w4 ⟨rfl, hx4⟩
  have HB4 := Lib.hid (HB3.out.trans (hx4.below HB3.out.size))
  have HR4 := Lib.hid (HR3.out.ext hx4)
  have HS4 := Lib.hid (HS3.out.ext hx4)
  have HF4 := Lib.hid (HF3.out.ext hx4)
  clear s0 s1 s2 s3 f0 f1 HB3 HR3 HS3 HF3 hx4
  have hcg : ¬ (0 : Int) < cv := by omega
  go_wp2_with fail
  refine (HCM.out _).mono ?_
  rintro e w5 ⟨rfl, hx5⟩
  have K5 := Lib.hid (HB4.out.trans (hx5.below HB4.out.size))
  have R5 := Lib.hid (HR4.out.ext hx5)
  have S5 := Lib.hid (HS4.out.ext hx5)
  have M5 := Lib.hid (HF4.out.ext hx5)
  clear HB4 HR4 HS4 HF4 hx5
  go_wp2_with fail
  have f5_0 := S5.out.rd 0 (v := .int .i64 (x : Int)) rfl
  have f5_1 := S5.out.rd 1 (v := .int .i64 (y : Int)) rfl
  have f5_2 := S5.out.rd 2 (v := .int .i64 (pl : Int)) rfl
  have f5_3 := S5.out.rd 3 (v := .int .i64 (m : Int)) rfl
  have f5_4 := M5.out.rd 0 (v := .int .i64 (P : Int)) rfl
  have f5_5 := M5.out.rd 1 (v := .int .i64 (Q : Int)) rfl
  have z5 := M5.out.lt
  have HRW := Lib.hid R5.out.lt
  go_region_held3 (fun w' => w'.cell? ⟨w1.heap.size, 0, none⟩ = some (.int .i64 (x : Int)) ∧ w'.cell? ⟨w1.heap.size, 1, none⟩ = some (.int .i64 (y : Int)) ∧ w'.cell? ⟨w1.heap.size, 2, none⟩ = some (.int .i64 (pl : Int)) ∧ w'.cell? ⟨w1.heap.size, 3, none⟩ = some (.int .i64 (m : Int)) ∧ w'.cell? ⟨w1.heap.size + 1, 0, none⟩ = some (.int .i64 (P : Int)) ∧ w'.cell? ⟨w1.heap.size + 1, 1, none⟩ = some (.int .i64 (Q : Int)))
    (first | with_reducible exact ⟨cell_far2s f9_0 (by have := HZ.out; omega), cell_far2s f9_1 (by have := HZ.out; omega), cell_far2s f9_2 (by have := HZ.out; omega), cell_far2s f9_3 (by have := HZ.out; omega), cell_far2s f9_4 (by have := HZ.out; omega), cell_far2s f9_5 (by have := HZ.out; omega)⟩ | exact ⟨f5_0, f5_1, f5_2, f5_3, f5_4, f5_5⟩ | exact ⟨f6_0, f6_1, f6_2, f6_3, f6_4, f6_5⟩ | exact ⟨f7_0, f7_1, f7_2, f7_3, f7_4, f7_5⟩ | exact ⟨f8_0, f8_1, f8_2, f8_3, f8_4, f8_5⟩ | exact ⟨f9_0, f9_1, f9_2, f9_3, f9_4, f9_5⟩ | go_keep)
    (first
    | (go_at_call 22; (with_reducible refine (HN.out _).mono ?_); rintro e w6 ⟨RN, pn, rfl, hb, hw⟩; have hbw : Below w5.heap.size w5 w6 := (by first | exact hb | exact ((Ext.refl w5).drew.below (Nat.le_refl _)).trans (hb.mono (by simp)) | exact (((Ext.refl w5).alloc _).below (Nat.le_refl _)).trans (hb.mono (by simp)) | exact (((Ext.refl w5).drew.alloc _).below (Nat.le_refl _)).trans (hb.mono (by simp)) | exact (((Ext.refl w5).alloc _).drew.below (Nat.le_refl _)).trans (hb.mono (by simp))); have R6 := Lib.hid (Blk.below R5.out hbw R5.out.lt); have S6 := Lib.hid (Blk.below S5.out hbw S5.out.lt); have M6 := Lib.hid (Blk.below M5.out hbw M5.out.lt); have K6 := Lib.hid (K5.out.trans (hbw.mono K5.out.size)); have B6 := Lib.hid hbw; (first | (have NB6 := Lib.hid (Blk.below NB5.out hbw NB5.out.lt)) | (have NB6 := Lib.hid (Blk.below ((Blk.new w5 32 #[.int .i64 0, .slice none 0 0]).ext ((Ext.refl _).drew)) hb (by simp))) | (have NB6 := Lib.hid (Blk.below (Blk.new w5 32 #[.int .i64 0, .slice none 0 0]) hb (by simp))) | skip); have XN6 := Lib.hid hw; have f6_0 := S6.out.rd 0 (v := .int .i64 (x : Int)) rfl; have f6_1 := S6.out.rd 1 (v := .int .i64 (y : Int)) rfl; have f6_2 := S6.out.rd 2 (v := .int .i64 (pl : Int)) rfl; have f6_3 := S6.out.rd 3 (v := .int .i64 (m : Int)) rfl; have f6_4 := M6.out.rd 0 (v := .int .i64 (P : Int)) rfl; have f6_5 := M6.out.rd 1 (v := .int .i64 (Q : Int)) rfl; clear hb hbw hw)
    | (go_at_call 32; (with_reducible refine (HST.out _).mono ?_); rintro e w7 ⟨rfl, hb⟩; have hbw : Below w6.heap.size w6 w7 := (by first | exact hb | exact ((Ext.refl w6).drew.below (Nat.le_refl _)).trans (hb.mono (by simp)) | exact (((Ext.refl w6).alloc _).below (Nat.le_refl _)).trans (hb.mono (by simp)) | exact (((Ext.refl w6).drew.alloc _).below (Nat.le_refl _)).trans (hb.mono (by simp)) | exact (((Ext.refl w6).alloc _).drew.below (Nat.le_refl _)).trans (hb.mono (by simp))); have R7 := Lib.hid (Blk.below R6.out hbw R6.out.lt); have S7 := Lib.hid (Blk.below S6.out hbw S6.out.lt); have M7 := Lib.hid (Blk.below M6.out hbw M6.out.lt); have K7 := Lib.hid (K6.out.trans (hbw.mono K6.out.size)); have B7 := Lib.hid hbw; (first | (have NB7 := Lib.hid (Blk.below NB6.out hbw NB6.out.lt)) | (have NB7 := Lib.hid (Blk.below ((Blk.new w6 32 #[.int .i64 0, .slice none 0 0]).ext ((Ext.refl _).drew)) hb (by simp))) | (have NB7 := Lib.hid (Blk.below (Blk.new w6 32 #[.int .i64 0, .slice none 0 0]) hb (by simp))) | skip); have XN7 := Lib.hid (XN6.out.below hbw); have f7_0 := S7.out.rd 0 (v := .int .i64 (x : Int)) rfl; have f7_1 := S7.out.rd 1 (v := .int .i64 (y : Int)) rfl; have f7_2 := S7.out.rd 2 (v := .int .i64 (pl : Int)) rfl; have f7_3 := S7.out.rd 3 (v := .int .i64 (m : Int)) rfl; have f7_4 := M7.out.rd 0 (v := .int .i64 (P : Int)) rfl; have f7_5 := M7.out.rd 1 (v := .int .i64 (Q : Int)) rfl; clear hb hbw)
    | (go_at_call 22; (with_reducible refine (HSO.out _).mono ?_); rintro e w8 ⟨RS, ps, rfl, hb, hw⟩; have hbw : Below w7.heap.size w7 w8 := (by first | exact hb | exact ((Ext.refl w7).drew.below (Nat.le_refl _)).trans (hb.mono (by simp)) | exact (((Ext.refl w7).alloc _).below (Nat.le_refl _)).trans (hb.mono (by simp)) | exact (((Ext.refl w7).drew.alloc _).below (Nat.le_refl _)).trans (hb.mono (by simp)) | exact (((Ext.refl w7).alloc _).drew.below (Nat.le_refl _)).trans (hb.mono (by simp))); have R8 := Lib.hid (Blk.below R7.out hbw R7.out.lt); have S8 := Lib.hid (Blk.below S7.out hbw S7.out.lt); have M8 := Lib.hid (Blk.below M7.out hbw M7.out.lt); have K8 := Lib.hid (K7.out.trans (hbw.mono K7.out.size)); have B8 := Lib.hid hbw; (first | (have NB8 := Lib.hid (Blk.below NB7.out hbw NB7.out.lt)) | (have NB8 := Lib.hid (Blk.below ((Blk.new w7 32 #[.int .i64 0, .slice none 0 0]).ext ((Ext.refl _).drew)) hb (by simp))) | (have NB8 := Lib.hid (Blk.below (Blk.new w7 32 #[.int .i64 0, .slice none 0 0]) hb (by simp))) | skip); have XN8 := Lib.hid (XN7.out.below hbw); have XS8 := Lib.hid hw; have f8_0 := S8.out.rd 0 (v := .int .i64 (x : Int)) rfl; have f8_1 := S8.out.rd 1 (v := .int .i64 (y : Int)) rfl; have f8_2 := S8.out.rd 2 (v := .int .i64 (pl : Int)) rfl; have f8_3 := S8.out.rd 3 (v := .int .i64 (m : Int)) rfl; have f8_4 := M8.out.rd 0 (v := .int .i64 (P : Int)) rfl; have f8_5 := M8.out.rd 1 (v := .int .i64 (Q : Int)) rfl; clear hb hbw hw)
    | (go_at_call 31; (with_reducible refine (HSD.out RN RS pn ps w8 _ (by first | exact Ext.refl _ | exact (Ext.refl _).alloc _) XN8.out.ir XS8.out.ir).mono ?_); rintro e w9 ⟨RT, pt, rfl, hb, hw⟩; have hbw : Below w8.heap.size w8 w9 := (by first | exact hb | exact ((Ext.refl w8).drew.below (Nat.le_refl _)).trans (hb.mono (by simp)) | exact (((Ext.refl w8).alloc _).below (Nat.le_refl _)).trans (hb.mono (by simp)) | exact (((Ext.refl w8).drew.alloc _).below (Nat.le_refl _)).trans (hb.mono (by simp)) | exact (((Ext.refl w8).alloc _).drew.below (Nat.le_refl _)).trans (hb.mono (by simp))); have R9 := Lib.hid (Blk.below R8.out hbw R8.out.lt); have S9 := Lib.hid (Blk.below S8.out hbw S8.out.lt); have M9 := Lib.hid (Blk.below M8.out hbw M8.out.lt); have K9 := Lib.hid (K8.out.trans (hbw.mono K8.out.size)); have B9 := Lib.hid hbw; (first | (have NB9 := Lib.hid (Blk.below NB8.out hbw NB8.out.lt)) | (have NB9 := Lib.hid (Blk.below ((Blk.new w8 32 #[.int .i64 0, .slice none 0 0]).ext ((Ext.refl _).drew)) hb (by simp))) | (have NB9 := Lib.hid (Blk.below (Blk.new w8 32 #[.int .i64 0, .slice none 0 0]) hb (by simp))) | skip); have XT9 := Lib.hid hw; have f9_0 := S9.out.rd 0 (v := .int .i64 (x : Int)) rfl; have f9_1 := S9.out.rd 1 (v := .int .i64 (y : Int)) rfl; have f9_2 := S9.out.rd 2 (v := .int .i64 (pl : Int)) rfl; have f9_3 := S9.out.rd 3 (v := .int .i64 (m : Int)) rfl; have f9_4 := M9.out.rd 0 (v := .int .i64 (P : Int)) rfl; have f9_5 := M9.out.rd 1 (v := .int .i64 (Q : Int)) rfl; (first | (have y0 := NB9.out.rd 0 (v := .int .i64 0) rfl; have y1 := NB9.out.rd 1 (v := .slice none 0 0) rfl; have x0 := NB9.out.frozen 0; have x1 := NB9.out.frozen 1) | skip); have HZ := Lib.hid (And.intro B6.out.size (And.intro B7.out.size (And.intro B8.out.size z5))); clear hb hbw hw))
  all_goals
    have HSZ5 := Lib.hid (And.intro K5.out.size (And.intro B6.out.size (And.intro B7.out.size (And.intro B8.out.size (And.intro B9.out.size z5)))))
    first
    | (have T10 : Hid (Blk ((w9.setCell ⟨w8.heap.size, 0, none⟩ (.int .i64 cc)).setCell ⟨w8.heap.size, 1, none⟩ (.slice RT L.length pt)) w8.heap.size 32 #[.int .i64 cc, .slice RT L.length pt]) := Lib.hid ((NB9.out.set_ 0 _).set_ 1 _)
       have C10 := Lib.hid (((K9.out).setCell (p := ⟨w8.heap.size, 0, none⟩) (by have := HSZ5.out; first | omega | (simp; omega)) (.int .i64 cc)).setCell (p := ⟨w8.heap.size, 1, none⟩) (by have := HSZ5.out; first | omega | (simp; omega)) (.slice RT L.length pt))
       have X10 := Lib.hid (((XT9.out.far (p := ⟨w8.heap.size, 0, none⟩) (by have := B8.out.size; first | (simp; omega) | simp | omega) (.int .i64 cc)).far (p := ⟨w8.heap.size, 1, none⟩) (by have := B8.out.size; first | (simp; omega) | simp | omega) (.slice RT L.length pt)).low (show w5.heap.size ≤ _ by have := HSZ5.out; first | omega | (simp; omega)))
       have S10 := Lib.hid ((S9.out.far (p := ⟨w8.heap.size, 0, none⟩) (by have := HSZ5.out; show _ ≠ _; dsimp only; omega) (.int .i64 cc)).far (p := ⟨w8.heap.size, 1, none⟩) (by have := HSZ5.out; show _ ≠ _; dsimp only; omega) (.slice RT L.length pt))
       have M10 := Lib.hid ((M9.out.far (p := ⟨w8.heap.size, 0, none⟩) (by have := HSZ5.out; show _ ≠ _; dsimp only; omega) (.int .i64 cc)).far (p := ⟨w8.heap.size, 1, none⟩) (by have := HSZ5.out; show _ ≠ _; dsimp only; omega) (.slice RT L.length pt))
       have R10 := Lib.hid ((R9.out.far (p := ⟨w8.heap.size, 0, none⟩) (by have := HSZ5.out; have := HRW.out; show _ ≠ _; dsimp only; omega) (.int .i64 cc)).far (p := ⟨w8.heap.size, 1, none⟩) (by have := HSZ5.out; have := HRW.out; show _ ≠ _; dsimp only; omega) (.slice RT L.length pt))
       have HG := Lib.hid (show w.heap.size < w8.heap.size by have := HSZ5.out; have := HRW.out; omega)
       obtain ⟨W10, hW10⟩ : ∃ W, W = ((w9.setCell ⟨w8.heap.size, 0, none⟩ (.int .i64 cc)).setCell ⟨w8.heap.size, 1, none⟩ (.slice RT L.length pt)) := ⟨_, rfl⟩
       rw [← hW10] at T10 C10 X10 S10 M10 R10 ⊢
       obtain ⟨g, hg⟩ : ∃ g, g = w8.heap.size := ⟨_, rfl⟩
       rw [← hg] at T10 HG ⊢
       clear hW10 hg y0 y1 x0 x1)
    | (have T10 : Hid (Blk ((w9.setCell ⟨w7.heap.size, 0, none⟩ (.int .i64 cc)).setCell ⟨w7.heap.size, 1, none⟩ (.slice RT L.length pt)) w7.heap.size 32 #[.int .i64 cc, .slice RT L.length pt]) := Lib.hid ((NB9.out.set_ 0 _).set_ 1 _)
       have C10 := Lib.hid (((K9.out).setCell (p := ⟨w7.heap.size, 0, none⟩) (by have := HSZ5.out; first | omega | (simp; omega)) (.int .i64 cc)).setCell (p := ⟨w7.heap.size, 1, none⟩) (by have := HSZ5.out; first | omega | (simp; omega)) (.slice RT L.length pt))
       have X10 := Lib.hid (((XT9.out.far (p := ⟨w7.heap.size, 0, none⟩) (by have := NB8.out.lt; first | (simp; omega) | simp | omega) (.int .i64 cc)).far (p := ⟨w7.heap.size, 1, none⟩) (by have := NB8.out.lt; first | (simp; omega) | simp | omega) (.slice RT L.length pt)).low (show w5.heap.size ≤ _ by have := HSZ5.out; first | omega | (simp; omega)))
       have S10 := Lib.hid ((S9.out.far (p := ⟨w7.heap.size, 0, none⟩) (by have := HSZ5.out; show _ ≠ _; dsimp only; omega) (.int .i64 cc)).far (p := ⟨w7.heap.size, 1, none⟩) (by have := HSZ5.out; show _ ≠ _; dsimp only; omega) (.slice RT L.length pt))
       have M10 := Lib.hid ((M9.out.far (p := ⟨w7.heap.size, 0, none⟩) (by have := HSZ5.out; show _ ≠ _; dsimp only; omega) (.int .i64 cc)).far (p := ⟨w7.heap.size, 1, none⟩) (by have := HSZ5.out; show _ ≠ _; dsimp only; omega) (.slice RT L.length pt))
       have R10 := Lib.hid ((R9.out.far (p := ⟨w7.heap.size, 0, none⟩) (by have := HSZ5.out; have := HRW.out; show _ ≠ _; dsimp only; omega) (.int .i64 cc)).far (p := ⟨w7.heap.size, 1, none⟩) (by have := HSZ5.out; have := HRW.out; show _ ≠ _; dsimp only; omega) (.slice RT L.length pt))
       have HG := Lib.hid (show w.heap.size < w7.heap.size by have := HSZ5.out; have := HRW.out; omega)
       obtain ⟨W10, hW10⟩ : ∃ W, W = ((w9.setCell ⟨w7.heap.size, 0, none⟩ (.int .i64 cc)).setCell ⟨w7.heap.size, 1, none⟩ (.slice RT L.length pt)) := ⟨_, rfl⟩
       rw [← hW10] at T10 C10 X10 S10 M10 R10 ⊢
       obtain ⟨g, hg⟩ : ∃ g, g = w7.heap.size := ⟨_, rfl⟩
       rw [← hg] at T10 HG ⊢
       clear hW10 hg y0 y1 x0 x1)
    | (have T10 : Hid (Blk ((w9.setCell ⟨w6.heap.size, 0, none⟩ (.int .i64 cc)).setCell ⟨w6.heap.size, 1, none⟩ (.slice RT L.length pt)) w6.heap.size 32 #[.int .i64 cc, .slice RT L.length pt]) := Lib.hid ((NB9.out.set_ 0 _).set_ 1 _)
       have C10 := Lib.hid (((K9.out).setCell (p := ⟨w6.heap.size, 0, none⟩) (by have := HSZ5.out; first | omega | (simp; omega)) (.int .i64 cc)).setCell (p := ⟨w6.heap.size, 1, none⟩) (by have := HSZ5.out; first | omega | (simp; omega)) (.slice RT L.length pt))
       have X10 := Lib.hid (((XT9.out.far (p := ⟨w6.heap.size, 0, none⟩) (by have := NB8.out.lt; first | (simp; omega) | simp | omega) (.int .i64 cc)).far (p := ⟨w6.heap.size, 1, none⟩) (by have := NB8.out.lt; first | (simp; omega) | simp | omega) (.slice RT L.length pt)).low (show w5.heap.size ≤ _ by have := HSZ5.out; first | omega | (simp; omega)))
       have S10 := Lib.hid ((S9.out.far (p := ⟨w6.heap.size, 0, none⟩) (by have := HSZ5.out; show _ ≠ _; dsimp only; omega) (.int .i64 cc)).far (p := ⟨w6.heap.size, 1, none⟩) (by have := HSZ5.out; show _ ≠ _; dsimp only; omega) (.slice RT L.length pt))
       have M10 := Lib.hid ((M9.out.far (p := ⟨w6.heap.size, 0, none⟩) (by have := HSZ5.out; show _ ≠ _; dsimp only; omega) (.int .i64 cc)).far (p := ⟨w6.heap.size, 1, none⟩) (by have := HSZ5.out; show _ ≠ _; dsimp only; omega) (.slice RT L.length pt))
       have R10 := Lib.hid ((R9.out.far (p := ⟨w6.heap.size, 0, none⟩) (by have := HSZ5.out; have := HRW.out; show _ ≠ _; dsimp only; omega) (.int .i64 cc)).far (p := ⟨w6.heap.size, 1, none⟩) (by have := HSZ5.out; have := HRW.out; show _ ≠ _; dsimp only; omega) (.slice RT L.length pt))
       have HG := Lib.hid (show w.heap.size < w6.heap.size by have := HSZ5.out; have := HRW.out; omega)
       obtain ⟨W10, hW10⟩ : ∃ W, W = ((w9.setCell ⟨w6.heap.size, 0, none⟩ (.int .i64 cc)).setCell ⟨w6.heap.size, 1, none⟩ (.slice RT L.length pt)) := ⟨_, rfl⟩
       rw [← hW10] at T10 C10 X10 S10 M10 R10 ⊢
       obtain ⟨g, hg⟩ : ∃ g, g = w6.heap.size := ⟨_, rfl⟩
       rw [← hg] at T10 HG ⊢
       clear hW10 hg y0 y1 x0 x1)
    | (have T10 : Hid (Blk ((w9.setCell ⟨w5.heap.size, 0, none⟩ (.int .i64 cc)).setCell ⟨w5.heap.size, 1, none⟩ (.slice RT L.length pt)) w5.heap.size 32 #[.int .i64 cc, .slice RT L.length pt]) := Lib.hid ((NB9.out.set_ 0 _).set_ 1 _)
       have C10 := Lib.hid (((K9.out).setCell (p := ⟨w5.heap.size, 0, none⟩) (by have := HSZ5.out; first | omega | (simp; omega)) (.int .i64 cc)).setCell (p := ⟨w5.heap.size, 1, none⟩) (by have := HSZ5.out; first | omega | (simp; omega)) (.slice RT L.length pt))
       have X10 := Lib.hid (((XT9.out.far (p := ⟨w5.heap.size, 0, none⟩) (by have := NB8.out.lt; first | (simp; omega) | simp | omega) (.int .i64 cc)).far (p := ⟨w5.heap.size, 1, none⟩) (by have := NB8.out.lt; first | (simp; omega) | simp | omega) (.slice RT L.length pt)).low (show w5.heap.size ≤ _ by have := HSZ5.out; first | omega | (simp; omega)))
       have S10 := Lib.hid ((S9.out.far (p := ⟨w5.heap.size, 0, none⟩) (by have := HSZ5.out; show _ ≠ _; dsimp only; omega) (.int .i64 cc)).far (p := ⟨w5.heap.size, 1, none⟩) (by have := HSZ5.out; show _ ≠ _; dsimp only; omega) (.slice RT L.length pt))
       have M10 := Lib.hid ((M9.out.far (p := ⟨w5.heap.size, 0, none⟩) (by have := HSZ5.out; show _ ≠ _; dsimp only; omega) (.int .i64 cc)).far (p := ⟨w5.heap.size, 1, none⟩) (by have := HSZ5.out; show _ ≠ _; dsimp only; omega) (.slice RT L.length pt))
       have R10 := Lib.hid ((R9.out.far (p := ⟨w5.heap.size, 0, none⟩) (by have := HSZ5.out; have := HRW.out; show _ ≠ _; dsimp only; omega) (.int .i64 cc)).far (p := ⟨w5.heap.size, 1, none⟩) (by have := HSZ5.out; have := HRW.out; show _ ≠ _; dsimp only; omega) (.slice RT L.length pt))
       have HG := Lib.hid (show w.heap.size < w5.heap.size by have := HSZ5.out; have := HRW.out; omega)
       obtain ⟨W10, hW10⟩ : ∃ W, W = ((w9.setCell ⟨w5.heap.size, 0, none⟩ (.int .i64 cc)).setCell ⟨w5.heap.size, 1, none⟩ (.slice RT L.length pt)) := ⟨_, rfl⟩
       rw [← hW10] at T10 C10 X10 S10 M10 R10 ⊢
       obtain ⟨g, hg⟩ : ∃ g, g = w5.heap.size := ⟨_, rfl⟩
       rw [← hg] at T10 HG ⊢
       clear hW10 hg y0 y1 x0 x1)
    | (have T10 := Lib.hid (Blk.new w9 32 #[.int .i64 cc, .slice RT L.length pt])
       have hx10 := (Ext.refl w9).alloc (Obj.cells #[.int .i64 cc, .slice RT L.length pt] 32)
       have C10 := Lib.hid (K9.out.trans (hx10.below K9.out.size))
       have X10 := Lib.hid ((XT9.out.ext hx10).low (show w5.heap.size ≤ _ by have := HSZ5.out; first | omega | (simp; omega)))
       have S10 := Lib.hid (S9.out.ext hx10)
       have M10 := Lib.hid (M9.out.ext hx10)
       have R10 := Lib.hid (R9.out.ext hx10)
       have HG := Lib.hid (show w.heap.size < w9.heap.size by have := HSZ5.out; have := HRW.out; omega)
       obtain ⟨W10, hW10⟩ : ∃ W, W = w9.alloc (Obj.cells #[.int .i64 cc, .slice RT L.length pt] 32) := ⟨_, rfl⟩
       rw [← hW10] at hx10 T10 C10 X10 S10 M10 R10 ⊢
       obtain ⟨g, hg⟩ : ∃ g, g = w9.heap.size := ⟨_, rfl⟩
       rw [← hg] at T10 HG ⊢
       clear hW10 hg hx10)
    clear f5_0 f5_1 f5_2 f5_3 f5_4 f5_5 f6_0 f6_1 f6_2 f6_3 f6_4 f6_5 f7_0 f7_1 f7_2 f7_3 f7_4 f7_5 f8_0 f8_1 f8_2 f8_3 f8_4 f8_5 f9_0 f9_1 f9_2 f9_3 f9_4 f9_5
    have f0 := S10.out.rd 0 (v := .int .i64 (x : Int)) rfl
    have f1 := S10.out.rd 1 (v := .int .i64 (y : Int)) rfl
    have f2 := S10.out.rd 2 (v := .int .i64 (pl : Int)) rfl
    have f3 := S10.out.rd 3 (v := .int .i64 (m : Int)) rfl
    have f4 := M10.out.rd 0 (v := .int .i64 (P : Int)) rfl
    have f5 := M10.out.rd 1 (v := .int .i64 (Q : Int)) rfl
    have t0 := T10.out.rd 0 (v := .int .i64 cc) rfl
    have t1 := T10.out.rd 1 (v := .slice RT L.length pt) rfl
    have r0 := R10.out.rd 0 (v := .int .i64 0) rfl
    have r1 := R10.out.rd 1 (v := .slice none 0 0) rfl
    have zz0 := R10.out.frozen 0
    have zz1 := R10.out.frozen 1
    have HNE := Lib.hid (And.intro HG.out (And.intro HRW.out (And.intro HSZ5.out HR1.out.lt)))
    by_cases hc : code = 0
    · subst hc
      go_wp2_with fail
      go_region_held3 (fun w' => w'.cell? ⟨g, 0, none⟩ = some (.int .i64 cc) ∧ w'.cell? ⟨g, 1, none⟩ = some (.slice RT L.length pt) ∧ w'.cell? ⟨w1.heap.size, 0, none⟩ = some (.int .i64 (x : Int)) ∧ w'.cell? ⟨w1.heap.size, 1, none⟩ = some (.int .i64 (y : Int)) ∧ w'.cell? ⟨w1.heap.size, 2, none⟩ = some (.int .i64 (pl : Int)) ∧ w'.cell? ⟨w1.heap.size, 3, none⟩ = some (.int .i64 (m : Int)) ∧ w'.cell? ⟨w1.heap.size + 1, 0, none⟩ = some (.int .i64 (P : Int)) ∧ w'.cell? ⟨w1.heap.size + 1, 1, none⟩ = some (.int .i64 (Q : Int)))
        (first | with_reducible exact ⟨cell_far2s u0 (by have := HNE.out; omega), cell_far2s u1 (by have := HNE.out; omega), cell_far2s u2 (by have := HNE.out; omega), cell_far2s u3 (by have := HNE.out; omega), cell_far2s u4 (by have := HNE.out; omega), cell_far2s u5 (by have := HNE.out; omega), cell_far2s u6 (by have := HNE.out; omega), cell_far2s u7 (by have := HNE.out; omega)⟩ | exact ⟨t0, t1, f0, f1, f2, f3, f4, f5⟩ | exact ⟨u0, u1, u2, u3, u4, u5, u6, u7⟩ | go_keep)
        (first
        | (go_at_call 33; (with_reducible refine (HROW.out cc RT pt _ (by first | rfl | trivial) (by first | exact X10.out.tr | exact (X10.out.ext (Ext.refl _).drew).tr)).mono ?_); rintro e w11 ⟨RR, pr, rfl, hb, hw⟩; have hbw : Below W10.heap.size W10 w11 := (by first | exact hb | exact ((Ext.refl W10).drew.below (Nat.le_refl _)).trans (hb.mono (by simp))); have T11 := Lib.hid (Blk.below T10.out hbw T10.out.lt); have S11 := Lib.hid (Blk.below S10.out hbw S10.out.lt); have M11 := Lib.hid (Blk.below M10.out hbw M10.out.lt); have R11 := Lib.hid (Blk.below R10.out hbw R10.out.lt); have C11 := Lib.hid (C10.out.trans (hbw.mono C10.out.size)); have X11 := Lib.hid (X10.out.r.below hbw); have Y11 := Lib.hid (show IWr w11 W10.heap.size w11.heap.size RR _ from hw); have B11 := Lib.hid hbw; have u0 := T11.out.rd 0 (v := .int .i64 cc) rfl; have u1 := T11.out.rd 1 (v := .slice RT L.length pt) rfl; have u2 := S11.out.rd 0 (v := .int .i64 (x : Int)) rfl; have u3 := S11.out.rd 1 (v := .int .i64 (y : Int)) rfl; have u4 := S11.out.rd 2 (v := .int .i64 (pl : Int)) rfl; have u5 := S11.out.rd 3 (v := .int .i64 (m : Int)) rfl; have u6 := M11.out.rd 0 (v := .int .i64 (P : Int)) rfl; have u7 := M11.out.rd 1 (v := .int .i64 (Q : Int)) rfl; have v0 := R11.out.rd 0 (v := .int .i64 0) rfl; have v1 := R11.out.rd 1 (v := .slice none 0 0) rfl; have vz0 := R11.out.frozen 0; have vz1 := R11.out.frozen 1; clear hb hbw hw))
      all_goals
        go_wp2_with fail
        refine bodyPost_ret (v := .tuple #[.agg #[.int .i64 cc, .slice RT L.length pt], .slice RR m pr, .int .i64 0]) (by simp [results, Tryd.results14, go_sem, v0, v1, vz0, vz1]) rfl (HQ0.out (by first | rfl | trivial) _ _ ⟨RT, pt, RR, pr, W10.heap.size, C10.out.size, ?_, by rw [rowN_len], ?_, ?_, ?_⟩)
        · have := B11.out.size; first | (simp; omega) | simpa using this
        · exact (C11.out.setCell (Nat.le_refl _) _).setCell (Nat.le_refl _) _
        · exact twr_far2 X11.out (by have := HNE.out; omega) (by have := HNE.out; omega)
        · exact iwr_far2 Y11.out (by have := HNE.out; have := T10.out.lt; omega)
    · go_wp2_with fail
      refine bodyPost_ret (v := .tuple #[.agg #[.int .i64 0, .slice none 0 0], .slice none 0 0, .int .i64 code]) (by simp [results, Tryd.results14, go_sem, r0, r1, zz0, zz1]) rfl (HQ1.out hc _ _ ⟨none, 0, none, 0, w.heap.size, Nat.le_refl _, ?_, rfl, ?_, fun h => absurd h (Nat.lt_irrefl _), fun h => absurd h (Nat.lt_irrefl _)⟩)
      · first | exact C10.out.size | (have := C10.out.size; simp; omega)
      · first | exact C10.out | exact (C10.out.setCell (Nat.le_refl _) _).setCell (Nat.le_refl _) _ | exact C10.out.alloc C10.out.size _
end Go.Proofs.YtnagpndclagfaaaDoor
