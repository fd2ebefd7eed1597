/- MultiplyingSet: both doors. -/
import Derived.Test.YtplbjnnicmcpdaaMu2
namespace Go.Proofs.Ytplbjnnicmcpdaa
set_option linter.unusedVariables false
set_option linter.unusedSimpArgs false
open Go.RowKit Go.Sort

def facB (p q : Int) : Bool := decide (1 ≤ p ∧ p ≤ 3 ∧ 1 ≤ q ∧ q ≤ 3)
def mulArgs (p q m n u v : Int) : Bool := facB p q && decide (0 ≤ m ∧ m ≤ 5) && decide (m ≤ n ∧ n ≤ 5) && decide (0 ≤ u ∧ u ≤ 5) && decide (u ≤ v ∧ v ≤ 5)
def mulL (p q m n u v : Int) : List Tl := lsL p q m u (v - u + 1).toNat (n - m + 1).toNat (p + q - 1).toNat
def MulDoor (p q m n u v : Int) (w : World) : Ending → World → Prop := if mulArgs p q m n u v = true then MulRes p q n v (mulL p q m n u v) w else SetRes w 0 [] 2
theorem l08Factor_any (p q : Int) (w : World) : Calls Try.prog 37 #[.int .i64 p, .int .i64 q] w fun e w' => e = .returned (.bool (facB p q)) ∧ w' = w := by
  have hb : facB p q = (decide (1 ≤ p ∧ p ≤ 3) && decide (1 ≤ q ∧ q ≤ 3)) := by
    rw [Bool.eq_iff_iff]; simp [facB]; omega
  rw [hb]
  have H1 := Lib.hid (fun W => l01In_any p 1 3 W)
  have H2 := Lib.hid (fun W => l01In_any q 1 3 W)
  clear hb
  generalize decide (1 ≤ p ∧ p ≤ 3) = o1 at *
  generalize decide (1 ≤ q ∧ q ≤ 3) = o2 at *
  cases o1 with
  | false =>
    go_enter Try.func37, Try.ntmps37
    go_wp2_with fail
    refine (H1.out _).mono ?_
    rintro e w' ⟨rfl, rfl⟩
    go_wp2_with fail
    go_ret
    exact ⟨rfl, rfl⟩
  | true =>
    go_enter Try.func37, Try.ntmps37
    go_wp2_with fail
    refine (H1.out _).mono ?_
    rintro e w' ⟨rfl, rfl⟩
    go_wp2_with fail
    refine (H2.out _).mono ?_
    rintro e w' ⟨rfl, rfl⟩
    go_wp2_with fail
    go_ret
    exact ⟨by simp, rfl⟩
set_option maxRecDepth 100000 in
set_option maxHeartbeats 2000000 in
theorem specMulSet_any (p q m n u v : Int) (w : World) : Calls Try.prog 14 #[.int .i64 p, .int .i64 q, .int .i64 m, .int .i64 n, .int .i64 u, .int .i64 v] w (MulDoor p q m n u v w) := by
  have hmade : mulArgs p q m n u v = true → ∀ W, Calls Try.prog 38 #[.int .i64 p, .int .i64 q, .int .i64 m, .int .i64 n, .int .i64 u, .int .i64 v] W (MulRes p q n v (mulL p q m n u v) W) := fun h W => by
    simp only [mulArgs, facB, Bool.and_eq_true, decide_eq_true_eq] at h
    exact l08Made_any p q m n u v _ _ _ W (by omega) (by omega) (by omega) (by omega) (by omega) (by omega) (by omega) (by omega) (by omega) (by omega) (by omega)
  have HM := Lib.hid hmade
  have H1 := Lib.hid (fun W => l08Factor_any p q W)
  have H2 := Lib.hid (fun W => l01In_any m 0 5 W)
  have H3 := Lib.hid (fun W => l01In_any n m 5 W)
  have H4 := Lib.hid (fun W => l01In_any u 0 5 W)
  have H5 := Lib.hid (fun W => l01In_any v u 5 W)
  clear hmade
  unfold MulDoor
  unfold mulArgs at HM ⊢
  generalize mulL p q m n u v = L at *
  generalize facB p q = o1 at *
  generalize decide (0 ≤ m ∧ m ≤ 5) = o2 at *
  generalize decide (m ≤ n ∧ n ≤ 5) = o3 at *
  generalize decide (0 ≤ u ∧ u ≤ 5) = o4 at *
  generalize decide (u ≤ v ∧ v ≤ 5) = o5 at *
  have HX := Lib.hid (((Ext.refl w).alloc (Obj.cells #[.int .i64 0, .slice none 0 0] 31)).below (Nat.le_refl w.heap.size))
  go_enter Try.func14, Try.ntmps14
  go_wp2_with fail
  refine (H1.out _).mono ?_
  rintro e w' ⟨rfl, rfl⟩
  cases o1 with
  | false =>
    go_wp2_with fail
    refine bodyPost_ret (v := .tuple #[.agg #[.int .i64 0, .slice none 0 0], .int .i64 2]) (by simp [results, Try.results14, go_sem]) rfl ⟨none, 0, rfl, HX.out, fun h => absurd h (Nat.lt_irrefl _)⟩
  | true =>
    go_wp2_with fail
    refine (H2.out _).mono ?_
    rintro e w' ⟨rfl, rfl⟩
    cases o2 with
    | false =>
      go_wp2_with fail
      refine bodyPost_ret (v := .tuple #[.agg #[.int .i64 0, .slice none 0 0], .int .i64 2]) (by simp [results, Try.results14, go_sem]) rfl ⟨none, 0, rfl, HX.out, fun h => absurd h (Nat.lt_irrefl _)⟩
    | true =>
      go_wp2_with fail
      refine (H3.out _).mono ?_
      rintro e w' ⟨rfl, rfl⟩
      cases o3 with
      | false =>
        go_wp2_with fail
        refine bodyPost_ret (v := .tuple #[.agg #[.int .i64 0, .slice none 0 0], .int .i64 2]) (by simp [results, Try.results14, go_sem]) rfl ⟨none, 0, rfl, HX.out, fun h => absurd h (Nat.lt_irrefl _)⟩
      | true =>
        go_wp2_with fail
        refine (H4.out _).mono ?_
        rintro e w' ⟨rfl, rfl⟩
        cases o4 with
        | false =>
          go_wp2_with fail
          refine bodyPost_ret (v := .tuple #[.agg #[.int .i64 0, .slice none 0 0], .int .i64 2]) (by simp [results, Try.results14, go_sem]) rfl ⟨none, 0, rfl, HX.out, fun h => absurd h (Nat.lt_irrefl _)⟩
        | true =>
          go_wp2_with fail
          refine (H5.out _).mono ?_
          rintro e w' ⟨rfl, rfl⟩
          cases o5 with
          | false =>
            go_wp2_with fail
            refine bodyPost_ret (v := .tuple #[.agg #[.int .i64 0, .slice none 0 0], .int .i64 2]) (by simp [results, Try.results14, go_sem]) rfl ⟨none, 0, rfl, HX.out, fun h => absurd h (Nat.lt_irrefl _)⟩
          | true =>
            have HM2 := Lib.hid (HM.out (by first | rfl | trivial))
            clear HM
            go_wp2_with fail
            have HB0 := Lib.hid (Blk.new w 31 #[.int .i64 0, .slice none 0 0])
            refine (HM2.out _).mono ?_
            unfold MulRes
            by_cases h16 : L.length ≤ 16
            · rw [if_pos h16]
              rintro e w1 ⟨A, cap, rfl, hb, htw⟩
              have hbw := HB0.out.below hb (by simp)
              have HT := Lib.hid htw
              have HB1 := Lib.hid (HX.out.trans (hb.mono (by simp)))
              have qq0 := hbw.rd 0 rfl
              have qq1 := hbw.rd 1 rfl
              have zz0 := hbw.frozen 0
              have zz1 := hbw.frozen 1
              have hne : w.heap.size ≠ w1.heap.size := by have := hb.size; simp at this; omega
              have hlt : w.heap.size < w1.heap.size := by have := hb.size; simp at this; omega
              clear hb htw hbw
              go_wp2_with fail
              refine bodyPost_ret (v := .tuple #[.agg #[.int .i64 (mulC p q n v), .slice A (sortT L).length cap], .int .i64 0]) (by simp [results, Try.results14, go_sem, qq0, qq1, zz0, zz1, hlt]) rfl ?_
              unfold MulRes
              rw [if_pos h16]
              refine ⟨A, cap, rfl, ?_, ?_⟩
              · exact ((HB1.out.setCell (by simp) _).setCell (by simp) _).alloc (by simp; omega) _
              · exact (((HT.out.far (by simp) _).far (by simp) _).ext ((Ext.refl _).alloc _)).low (by simp)
            · rw [if_neg h16]
              rintro e w1 ⟨A, cap, rfl, hb, htw⟩
              have hbw := HB0.out.below hb (by simp)
              have HT := Lib.hid htw
              have HB1 := Lib.hid (HX.out.trans (hb.mono (by simp)))
              have qq0 := hbw.rd 0 rfl
              have qq1 := hbw.rd 1 rfl
              have zz0 := hbw.frozen 0
              have zz1 := hbw.frozen 1
              have hne : w.heap.size ≠ w1.heap.size := by have := hb.size; simp at this; omega
              have hlt : w.heap.size < w1.heap.size := by have := hb.size; simp at this; omega
              clear hb htw hbw
              go_wp2_with fail
              refine bodyPost_ret (v := .tuple #[.agg #[.int .i64 0, .slice A ([] : List Tl).length cap], .int .i64 3]) (by simp [results, Try.results14, go_sem, qq0, qq1, zz0, zz1, hlt]) rfl ?_
              unfold MulRes
              rw [if_neg h16]
              refine ⟨A, cap, rfl, ?_, ?_⟩
              · exact ((HB1.out.setCell (by simp) _).setCell (by simp) _).alloc (by simp; omega) _
              · exact (((HT.out.far (by simp) _).far (by simp) _).ext ((Ext.refl _).alloc _)).low (by simp)
end Go.Proofs.Ytplbjnnicmcpdaa
