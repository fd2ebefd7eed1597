/- The exact law over CarriesOf: walked. -/
import Derived.Test.YtplbjnnicmcpdaaDoorCr2
import Derived.Test.YtplbjnnicmcpdaaDoorMark2
import Derived.Deep.RegionHeld3
import Derived.Deep.RegionLaw
import Derived.Deep.DeepCutAuto
namespace Go.Proofs.YtplbjnnicmcpdaaDoor
set_option linter.unusedVariables false
set_option linter.unusedSimpArgs false
open Go.RowKit Go.Sort

set_option maxRecDepth 100000 in
set_option maxHeartbeats 4000000 in
theorem lawCarriesOf_core (i0 : Int) (i1 : Int) (i2 : Int) (i3 : Int) (i4 : Int) (i5 : Int) (w : World)  (ys0 : List Int) (r1 : Int) (hus0 : ys0.length ≤ 65536)
    (hspec : True → ∀ (W : World) , Calls Tryd.prog 11 #[.int .i64 i0, .int .i64 i1, .int .i64 i2, .int .i64 i3, .int .i64 i4, .int .i64 i5] W (fun e w' => ∃ R0 p0, e = .returned (.tuple #[.slice R0 ys0.length p0, .int .i64 r1]) ∧ Below W.heap.size W w' ∧ IWr w' W.heap.size w'.heap.size R0 ys0))
    (himpl : True → ∀ (W : World), Below w.heap.size w W → Calls Tryd.prog 12 #[.int .i64 i0, .int .i64 i1, .int .i64 i2, .int .i64 i3, .int .i64 i4, .int .i64 i5] W (fun e w' => ∃ R0 p0, e = .returned (.tuple #[.slice R0 ys0.length p0, .int .i64 r1]) ∧ Below W.heap.size W w' ∧ IWr w' W.heap.size w'.heap.size R0 ys0)) :
    Calls Tryd.prog 4 #[.int .i64 i0, .int .i64 i1, .int .i64 i2, .int .i64 i3, .int .i64 i4, .int .i64 i5] w fun e w' => e = .returned (.bool true) ∧ Below w.heap.size w w' := by
  have HS := Lib.hid (hspec trivial)
  have HI := Lib.hid (himpl trivial)
  clear hspec himpl 
  generalize hm0 : ys0.length = m0 at *
  have HM0 := Lib.hid hm0
  clear hm0
  have hcc1 : (r1 != r1) = false := by simp
  have hkn : ¬ (1 < 0) := by omega
  have hkm0 : ¬ (1 + (m0 : Int) < 0) := by omega
  go_enter Tryd.func4, Tryd.ntmps4
  go_wp2_with fail
  have K0 := Lib.hid (Below.refl w.heap.size w)
  refine (HS.out _ ).mono ?_
  rintro e w1 ⟨B1_0_, cap1_0, rfl, hb, hw0⟩
  have s1 := hb.size
  have t1_0 := Lib.hid hw0
  have K1 := Lib.hid (K0.out.trans (hb.mono K0.out.size))
  clear K0
  clear hb hw0
  go_wp2_with fail
  refine (HI.out _ K1.out).mono ?_
  rintro e w2 ⟨B2_0_, cap2_0, rfl, hb, hw0⟩
  have s2 := hb.size
  have t2_0 := Lib.hid hw0
  have K2 := Lib.hid (K1.out.trans (hb.mono K1.out.size))
  have T1_0_2 := Lib.hid (t1_0.out.below hb)
  clear K1 t1_0
  clear hb hw0
  go_wp2_with fail
  refine (eqInt64S_any B2_0_ B1_0_ m0 m0 _ _ ys0 ys0 _ (by omega) HM0.out HM0.out t2_0.out.ir T1_0_2.out.ir).mono ?_
  rw [decide_eq_true (rfl : ys0 = ys0)]
  rintro e w3 ⟨rfl, hx⟩
  have s3 := (hx.below (Nat.le_refl _)).size
  have K3 := Lib.hid (K2.out.trans (hx.below K2.out.size))
  have T1_0_3 := Lib.hid (T1_0_2.out.ext hx)
  have T2_0_3 := Lib.hid (t2_0.out.ext hx)
  clear K2 T1_0_2 t2_0
  clear hx
  go_wp2_with fail
  refine (markInt64S_any B2_0_ m0 _ (1) ys0 _ _ _ (by omega) (by omega) (by omega) HM0.out T2_0_3.out).mono ?_
  rintro e w4 ⟨rfl, ho, hw⟩
  have s4 := ho.size
  have t4 := Lib.hid hw
  have K4 := Lib.hid (K3.out.trans (ho.below (by omega) K3.out.size))
  have T1_0_4 := Lib.hid (T1_0_3.out.only ho (by omega))
  clear K3 T1_0_3
  clear ho hw T2_0_3
  go_wp2_with fail
  refine (heldInt64S_any B2_0_ m0 _ (1) _ (by omega) (by omega) (by omega) t4.out.ir).mono ?_
  rintro e w5 ⟨rfl, hx⟩
  have s5 := (hx.below (Nat.le_refl _)).size
  have K5 := Lib.hid (K4.out.trans (hx.below K4.out.size))
  have T1_0_5 := Lib.hid (T1_0_4.out.ext hx)
  have T2_0_5 := Lib.hid (t4.out.ext hx)
  clear K4 T1_0_4 t4
  clear hx
  go_wp2_with fail
  refine (HI.out _ K5.out).mono ?_
  rintro e w6 ⟨B6_0_, cap6_0, rfl, hb, hw0⟩
  have s6 := hb.size
  have t6_0 := Lib.hid hw0
  have K6 := Lib.hid (K5.out.trans (hb.mono K5.out.size))
  have T1_0_6 := Lib.hid (T1_0_5.out.below hb)
  have T2_0_6 := Lib.hid (T2_0_5.out.below hb)
  clear K5 T1_0_5 T2_0_5
  clear hb hw0
  go_wp2_with fail
  refine (eqInt64S_any B6_0_ B1_0_ m0 m0 _ _ ys0 ys0 _ (by omega) HM0.out HM0.out t6_0.out.ir T1_0_6.out.ir).mono ?_
  rw [decide_eq_true (rfl : ys0 = ys0)]
  rintro e w7 ⟨rfl, hx⟩
  have s7 := (hx.below (Nat.le_refl _)).size
  have K7 := Lib.hid (K6.out.trans (hx.below K6.out.size))
  have T1_0_7 := Lib.hid (T1_0_6.out.ext hx)
  have T2_0_7 := Lib.hid (T2_0_6.out.ext hx)
  have T6_0_7 := Lib.hid (t6_0.out.ext hx)
  clear K6 T1_0_6 T2_0_6 t6_0
  clear hx
  go_wp2_with fail
  refine (heldInt64S_any B2_0_ m0 _ (1) _ (by omega) (by omega) (by omega) T2_0_7.out.ir).mono ?_
  rintro e w8 ⟨rfl, hx⟩
  have s8 := (hx.below (Nat.le_refl _)).size
  have K8 := Lib.hid (K7.out.trans (hx.below K7.out.size))
  have T1_0_8 := Lib.hid (T1_0_7.out.ext hx)
  have T2_0_8 := Lib.hid (T2_0_7.out.ext hx)
  have T6_0_8 := Lib.hid (T6_0_7.out.ext hx)
  clear K7 T1_0_7 T2_0_7 T6_0_7
  clear hx
  go_wp2_with fail
  go_ret
  exact ⟨rfl, K8.out⟩
theorem law_CarriesOf (i0 i1 i2 i3 i4 i5 : Int) (pf pp : Addr) (w : World) (hgf : w.cell? ⟨1, 0, none⟩ = some (errV pf)) (hgp : w.cell? ⟨0, 0, none⟩ = some (errV pp)) :
    Calls Tryd.prog 4 #[.int .i64 i0, .int .i64 i1, .int .i64 i2, .int .i64 i3, .int .i64 i4, .int .i64 i5] w fun e w' => e = .returned (.bool true) ∧ Below w.heap.size w w' := by
  cases h : carOk i0 i1 i2 i3 i4 i5 with
  | true =>
    refine lawCarriesOf_core i0 i1 i2 i3 i4 i5 w (carV i0 i1 i2 i3 i4 i5) 0 ?_ (fun _ W => (specCarries_any i0 i1 i2 i3 i4 i5 W).mono fun e w' hh => hh.1 h) (fun _ W _ => implCarries_0 i0 i1 i2 i3 i4 i5 W h)
    have hd : digOk i2 i3 i4 i5 = true := by simp only [carOk, Bool.and_eq_true] at h; exact h.1
    obtain ⟨x, y, z, m, rfl, rfl, rfl, rfl, hy, hy2, hx, hz, hm, hm1⟩ := digOk_nat hd
    unfold carV
    rw [carL_len]
    simp
    omega
  | false =>
    exact lawCarriesOf_core i0 i1 i2 i3 i4 i5 w [] 2 (by simp) (fun _ W => (specCarries_any i0 i1 i2 i3 i4 i5 W).mono fun e w' hh => hh.2 h)
      (fun _ W hW => implCarries_2 i0 i1 i2 i3 i4 i5 pf pp W h ((hW.cell (p := ⟨1, 0, none⟩) (lt_of_cell2 hgf)).trans hgf) ((hW.cell (p := ⟨0, 0, none⟩) (lt_of_cell2 hgp)).trans hgp))
end Go.Proofs.YtplbjnnicmcpdaaDoor
