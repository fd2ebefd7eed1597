/- The exact law over ClassesOf: walked. -/
import Derived.Test.YtfhdgilddnndcaaCl2
import Derived.Test.YtfhdgilddnndcaaMark2
import Derived.Deep.RegionHeld3
import Derived.Deep.RegionLaw
import Derived.Deep.DeepCutAuto
namespace Go.Proofs.Ytfhdgilddnndcaa
set_option linter.unusedVariables false
set_option linter.unusedSimpArgs false
open Go.RowKit Go.Sort

set_option maxRecDepth 100000 in
set_option maxHeartbeats 4000000 in
theorem lawClassesOf_core (i0 : Int) (w : World)  (us0 : List Tl) (r1 : Int) (hus0 : us0.length ≤ 65536)
    (hspec : True → ∀ (W : World) , Calls Try.prog 40 #[.int .i64 i0] W (fun e w' => ∃ R0 p0, e = .returned (.tuple #[.slice R0 us0.length p0, .int .i64 r1]) ∧ Below W.heap.size W w' ∧ TW w' W.heap.size R0 us0))
    (himpl : True → ∀ (W : World) , Calls Try.prog 41 #[.int .i64 i0] W (fun e w' => ∃ R0 p0, e = .returned (.tuple #[.slice R0 us0.length p0, .int .i64 r1]) ∧ Below W.heap.size W w' ∧ TW w' W.heap.size R0 us0)) :
    Calls Try.prog 9 #[.int .i64 i0] w fun e w' => e = .returned (.bool true) ∧ Below w.heap.size w w' := by
  have HS := Lib.hid (hspec trivial)
  have HI := Lib.hid (himpl trivial)
  clear hspec himpl 
  generalize hm0 : us0.length = m0 at *
  have HM0 := Lib.hid hm0
  clear hm0
  have hcc1 : (r1 != r1) = false := by simp
  have hkn : ¬ (1 < 0) := by omega
  have hkm0 : ¬ (1 + 4 * (m0 : Int) < 0) := by omega
  go_enter Try.func9, Try.ntmps9
  go_wp2_with fail
  have K0 := Lib.hid (Below.refl w.heap.size w)
  refine (HS.out _ ).mono ?_
  rintro e w1 ⟨B1_0_, cap1_0, rfl, hb, hw0⟩
  have s1 := hb.size
  have t1_0 := Lib.hid hw0.r
  have K1 := Lib.hid (K0.out.trans (hb.mono K0.out.size))
  clear K0
  clear hb hw0
  go_wp2_with fail
  refine (HI.out _ ).mono ?_
  rintro e w2 ⟨B2_0_, cap2_0, rfl, hb, hw0⟩
  have s2 := hb.size
  have t2_0 := Lib.hid hw0.r
  have K2 := Lib.hid (K1.out.trans (hb.mono K1.out.size))
  have T1_0_2 := Lib.hid (t1_0.out.below hb)
  clear K1 t1_0
  clear hb hw0
  go_wp2_with fail
  refine (eqTileS_any B2_0_ B1_0_ m0 m0 _ _ us0 us0 _ (by omega) HM0.out HM0.out t2_0.out.tr T1_0_2.out.tr).mono ?_
  rw [decide_eq_true (rfl : us0 = us0)]
  rintro e w3 ⟨rfl, hx⟩
  have s3 := (hx.below (Nat.le_refl _)).size
  have K3 := Lib.hid (K2.out.trans (hx.below K2.out.size))
  have T1_0_3 := Lib.hid (T1_0_2.out.ext hx)
  have T2_0_3 := Lib.hid (t2_0.out.ext hx)
  clear K2 T1_0_2 t2_0
  clear hx
  go_wp2_with fail
  refine (markTileS_any B2_0_ m0 _ (1) us0 _ _ _ (by omega) (by omega) (by omega) HM0.out T2_0_3.out).mono ?_
  rintro e w4 ⟨rfl, ho, hw⟩
  have s4 := ho.size
  have t4 := Lib.hid hw
  have K4 := Lib.hid (K3.out.trans (ho.below (by omega) K3.out.size))
  have T1_0_4 := Lib.hid (T1_0_3.out.only ho (by omega))
  clear K3 T1_0_3
  clear ho hw T2_0_3
  go_wp2_with fail
  refine (heldTileS_any B2_0_ m0 _ (1) _ (by omega) (by omega) (by omega) t4.out.tr).mono ?_
  rintro e w5 ⟨rfl, hx⟩
  have s5 := (hx.below (Nat.le_refl _)).size
  have K5 := Lib.hid (K4.out.trans (hx.below K4.out.size))
  have T1_0_5 := Lib.hid (T1_0_4.out.ext hx)
  have T2_0_5 := Lib.hid (t4.out.ext hx)
  clear K4 T1_0_4 t4
  clear hx
  go_wp2_with fail
  refine (HI.out _ ).mono ?_
  rintro e w6 ⟨B6_0_, cap6_0, rfl, hb, hw0⟩
  have s6 := hb.size
  have t6_0 := Lib.hid hw0.r
  have K6 := Lib.hid (K5.out.trans (hb.mono K5.out.size))
  have T1_0_6 := Lib.hid (T1_0_5.out.below hb)
  have T2_0_6 := Lib.hid (T2_0_5.out.below hb)
  clear K5 T1_0_5 T2_0_5
  clear hb hw0
  go_wp2_with fail
  refine (eqTileS_any B6_0_ B1_0_ m0 m0 _ _ us0 us0 _ (by omega) HM0.out HM0.out t6_0.out.tr T1_0_6.out.tr).mono ?_
  rw [decide_eq_true (rfl : us0 = us0)]
  rintro e w7 ⟨rfl, hx⟩
  have s7 := (hx.below (Nat.le_refl _)).size
  have K7 := Lib.hid (K6.out.trans (hx.below K6.out.size))
  have T1_0_7 := Lib.hid (T1_0_6.out.ext hx)
  have T2_0_7 := Lib.hid (T2_0_6.out.ext hx)
  have T6_0_7 := Lib.hid (t6_0.out.ext hx)
  clear K6 T1_0_6 T2_0_6 t6_0
  clear hx
  go_wp2_with fail
  refine (heldTileS_any B2_0_ m0 _ (1) _ (by omega) (by omega) (by omega) T2_0_7.out.tr).mono ?_
  rintro e w8 ⟨rfl, hx⟩
  have s8 := (hx.below (Nat.le_refl _)).size
  have K8 := Lib.hid (K7.out.trans (hx.below K7.out.size))
  have T1_0_8 := Lib.hid (T1_0_7.out.ext hx)
  have T2_0_8 := Lib.hid (T2_0_7.out.ext hx)
  have T6_0_8 := Lib.hid (T6_0_7.out.ext hx)
  clear K7 T1_0_7 T2_0_7 T6_0_7
  clear hx
  go_wp2_with fail
  go_ret
  exact ⟨rfl, K8.out⟩
theorem law_ClassesOf (i0 : Int) (w : World) :
    Calls Try.prog 9 #[.int .i64 i0] w fun e w' => e = .returned (.bool true) ∧ Below w.heap.size w w' := by
  by_cases h : 1 ≤ i0 ∧ i0 ≤ 4
  · obtain ⟨C, rfl⟩ : ∃ C : Nat, i0 = (C : Int) := ⟨i0.toNat, by omega⟩
    exact lawClassesOf_core (C : Int) w (clsL C (C ^ 4)) 0 (by have := clsL_len C (C ^ 4); have := pow_six (C := C) (k := 4) (by omega) (by omega); omega) (fun _ W => specClassesOf_0 C W (by omega) (by omega)) (fun _ W => implClassesOf_0 C W (by omega) (by omega))
  · exact lawClassesOf_core i0 w [] 2 (by simp) (fun _ W => specClassesOf_2 i0 W h) (fun _ W => implClassesOf_2 i0 W h)
end Go.Proofs.Ytfhdgilddnndcaa
