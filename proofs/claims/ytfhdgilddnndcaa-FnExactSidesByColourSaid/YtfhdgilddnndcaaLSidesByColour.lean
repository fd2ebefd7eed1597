/- The exact law over SidesByColour: walked. -/
import Derived.Test.YtfhdgilddnndcaaTn9
import Derived.Test.YtfhdgilddnndcaaMark2
import Derived.Test.YtfhdgilddnndcaaInts
import Derived.Deep.RegionHeld3
import Derived.Deep.RegionLaw
import Derived.Deep.DeepCutAuto
namespace Go.Proofs.Ytfhdgilddnndcaa
set_option linter.unusedVariables false
set_option linter.unusedSimpArgs false
open Go.RowKit Go.Sort

set_option maxRecDepth 100000 in
set_option maxHeartbeats 4000000 in
theorem lawSidesByColour_core (A0 : Option Addr) (n0 q0 : Nat) (ts0 : List Tl) (w : World) (hn0 : n0 ≤ 9223372036854775807) (hl0 : ts0.length = n0) (hA0 : TR w w.heap.size A0 ts0) (ys0 : List Int) (r1 : Int) (hus0 : ys0.length ≤ 65536)
    (hspec : n0 ≤ 1048576 → ∀ (W : World) (B0 : Option Addr) (e0 : Nat), n0 ≤ e0 → TR W W.heap.size B0 ts0 → Calls Try.prog 35 #[.slice B0 n0 e0] W (fun e w' => ∃ R0 p0, e = .returned (.tuple #[.slice R0 ys0.length p0, .int .i64 r1]) ∧ Below W.heap.size W w' ∧ IWr w' W.heap.size w'.heap.size R0 ys0))
    (himpl : n0 ≤ 1048576 → ∀ (W : World) (B0 : Option Addr) (e0 : Nat), n0 ≤ e0 → TR W W.heap.size B0 ts0 → Calls Try.prog 36 #[.slice B0 n0 e0] W (fun e w' => ∃ R0 p0, e = .returned (.tuple #[.slice R0 ys0.length p0, .int .i64 r1]) ∧ Below W.heap.size W w' ∧ IWr w' W.heap.size w'.heap.size R0 ys0)) :
    Calls Try.prog 8 #[.slice A0 n0 q0] w fun e w' => e = .returned (.bool true) ∧ Below w.heap.size w w' := by
  have hsz0 : (0 : Int) ≤ 1048576 → ∀ W, Calls Try.prog 15 #[.slice A0 n0 q0, .int .i64 1048576] W _ := fun h W => szTileS_any A0 n0 q0 1048576 W hn0 h (by omega)
  by_cases hbig0 : (1048576 : Int) < n0
  · replace hsz0 := hsz0 (by omega)
    simp only [if_pos hbig0] at hsz0
    clear hspec himpl
    go_enter Try.func8, Try.ntmps8
    go_wp2_with fail
    have K0 := Lib.hid (Below.refl w.heap.size w)
    refine (hsz0 _).mono ?_
    rintro e w1 ⟨rfl, hx⟩
    have s1 := (hx.below (Nat.le_refl _)).size
    have K1 := Lib.hid (K0.out.trans (hx.below K0.out.size))
    clear K0
    clear hx
    go_wp2_with fail
    go_ret
    exact ⟨rfl, K1.out⟩
  · skip
    replace hsz0 := hsz0 (by omega)
    simp only [if_neg hbig0] at hsz0
    have hneg0 : ¬ (1048576 - (n0 : Int) < 0) := by omega
    have hn'0 : n0 ≤ 1048576 := by omega
    have hts0 : ∀ W, Below w.heap.size w W → Calls Try.prog 17 #[.slice A0 n0 q0] W _ := fun W hW => toTileS_any A0 n0 q0 ts0 W hn'0 hl0 ((hA0.below hW (Nat.le_refl _)).more hW.size)
    have HT0 := Lib.hid hts0
    have HL0 := Lib.hid hl0
    have HS := Lib.hid (hspec hn'0)
    have HI := Lib.hid (himpl hn'0)
    clear hspec himpl hts0 hA0 hl0
    generalize hm0 : ys0.length = m0 at *
    have HM0 := Lib.hid hm0
    clear hm0
    have hcc1 : (r1 != r1) = false := by simp
    have hkn : ¬ (1 + 4 * (n0 : Int) < 0) := by omega
    have hkm0 : ¬ (1 + (m0 : Int) < 0) := by omega
    go_enter Try.func8, Try.ntmps8
    go_wp2_with fail
    have K0 := Lib.hid (Below.refl w.heap.size w)
    refine (hsz0 _).mono ?_
    rintro e w1 ⟨rfl, hx⟩
    have s1 := (hx.below (Nat.le_refl _)).size
    have K1 := Lib.hid (K0.out.trans (hx.below K0.out.size))
    clear K0
    clear hx
    go_wp2_with fail
    refine (HT0.out _ K1.out).mono ?_
    rintro e w2 ⟨A_2, rfl, hb, hw⟩
    have s2 := hb.size
    have t2 := Lib.hid hw.r
    have K2 := Lib.hid (K1.out.trans (hb.mono K1.out.size))
    clear K1
    clear hb hw
    go_wp2_with fail
    refine (HS.out _ A_2 _ (Nat.le_refl _) t2.out.tr).mono ?_
    rintro e w3 ⟨B3_0_, cap3_0, rfl, hb, hw0⟩
    have s3 := hb.size
    have t3_0 := Lib.hid hw0
    have K3 := Lib.hid (K2.out.trans (hb.mono K2.out.size))
    have T2_3 := Lib.hid (t2.out.below hb)
    clear K2 t2
    clear hb hw0
    clear T2_3
    go_wp2_with fail
    refine (HT0.out _ K3.out).mono ?_
    rintro e w4 ⟨A_4, rfl, hb, hw⟩
    have s4 := hb.size
    have t4 := Lib.hid hw.r
    have K4 := Lib.hid (K3.out.trans (hb.mono K3.out.size))
    have T3_0_4 := Lib.hid (t3_0.out.below hb)
    clear K3 t3_0
    clear hb hw
    go_wp2_with fail
    refine (HI.out _ A_4 _ (Nat.le_refl _) t4.out.tr).mono ?_
    rintro e w5 ⟨B5_0_, cap5_0, rfl, hb, hw0⟩
    have s5 := hb.size
    have t5_0 := Lib.hid hw0
    have K5 := Lib.hid (K4.out.trans (hb.mono K4.out.size))
    have T3_0_5 := Lib.hid (T3_0_4.out.below hb)
    have T4_5 := Lib.hid (t4.out.below hb)
    clear K4 T3_0_4 t4
    clear hb hw0
    go_wp2_with fail
    refine (eqInt64S_any B5_0_ B3_0_ m0 m0 _ _ ys0 ys0 _ (by omega) HM0.out HM0.out t5_0.out.ir T3_0_5.out.ir).mono ?_
    rw [decide_eq_true (rfl : ys0 = ys0)]
    rintro e w6 ⟨rfl, hx⟩
    have s6 := (hx.below (Nat.le_refl _)).size
    have K6 := Lib.hid (K5.out.trans (hx.below K5.out.size))
    have T3_0_6 := Lib.hid (T3_0_5.out.ext hx)
    have T4_6 := Lib.hid (T4_5.out.ext hx)
    have T5_0_6 := Lib.hid (t5_0.out.ext hx)
    clear K5 T3_0_5 T4_5 t5_0
    clear hx
    go_wp2_with fail
    refine (HT0.out _ K6.out).mono ?_
    rintro e w7 ⟨A_7, rfl, hb, hw⟩
    have s7 := hb.size
    have t7 := Lib.hid hw.r
    have K7 := Lib.hid (K6.out.trans (hb.mono K6.out.size))
    have T3_0_7 := Lib.hid (T3_0_6.out.below hb)
    have T4_7 := Lib.hid (T4_6.out.below hb)
    have T5_0_7 := Lib.hid (T5_0_6.out.below hb)
    clear K6 T3_0_6 T4_6 T5_0_6
    clear hb hw
    go_wp2_with fail
    refine (eqTileS_any A_4 A_7 n0 n0 _ _ ts0 ts0 _ (by omega) HL0.out HL0.out T4_7.out.tr t7.out.tr).mono ?_
    rw [decide_eq_true (rfl : ts0 = ts0)]
    rintro e w8 ⟨rfl, hx⟩
    have s8 := (hx.below (Nat.le_refl _)).size
    have K8 := Lib.hid (K7.out.trans (hx.below K7.out.size))
    have T3_0_8 := Lib.hid (T3_0_7.out.ext hx)
    have T4_8 := Lib.hid (T4_7.out.ext hx)
    have T5_0_8 := Lib.hid (T5_0_7.out.ext hx)
    have T7_8 := Lib.hid (t7.out.ext hx)
    clear K7 T3_0_7 T4_7 T5_0_7 t7
    clear hx
    clear T7_8
    go_wp2_with fail
    refine (markTileS_any A_4 n0 _ (1) ts0 _ _ _ (by omega) (by omega) (by omega) HL0.out T4_8.out).mono ?_
    rintro e w9 ⟨rfl, ho, hw⟩
    have s9 := ho.size
    have t9 := Lib.hid hw
    have K9 := Lib.hid (K8.out.trans (ho.below (by omega) K8.out.size))
    have T3_0_9 := Lib.hid (T3_0_8.out.only ho (by omega))
    have T5_0_9 := Lib.hid (T5_0_8.out.only ho (by omega))
    clear K8 T3_0_8 T5_0_8
    clear ho hw T4_8
    go_wp2_with fail
    refine (eqInt64S_any B5_0_ B3_0_ m0 m0 _ _ ys0 ys0 _ (by omega) HM0.out HM0.out T5_0_9.out.ir T3_0_9.out.ir).mono ?_
    rw [decide_eq_true (rfl : ys0 = ys0)]
    rintro e w10 ⟨rfl, hx⟩
    have s10 := (hx.below (Nat.le_refl _)).size
    have K10 := Lib.hid (K9.out.trans (hx.below K9.out.size))
    have T3_0_10 := Lib.hid (T3_0_9.out.ext hx)
    have T4_10 := Lib.hid (t9.out.ext hx)
    have T5_0_10 := Lib.hid (T5_0_9.out.ext hx)
    clear K9 T3_0_9 t9 T5_0_9
    clear hx
    go_wp2_with fail
    refine (markInt64S_any B5_0_ m0 _ (1) ys0 _ _ _ (by omega) (by omega) (by omega) HM0.out T5_0_10.out).mono ?_
    rintro e w11 ⟨rfl, ho, hw⟩
    have s11 := ho.size
    have t11 := Lib.hid hw
    have K11 := Lib.hid (K10.out.trans (ho.below (by omega) K10.out.size))
    have T3_0_11 := Lib.hid (T3_0_10.out.only ho (by omega))
    have T4_11 := Lib.hid (T4_10.out.only ho (by omega))
    clear K10 T3_0_10 T4_10
    clear ho hw T5_0_10
    go_wp2_with fail
    refine (heldInt64S_any B5_0_ m0 _ (1) _ (by omega) (by omega) (by omega) t11.out.ir).mono ?_
    rintro e w12 ⟨rfl, hx⟩
    have s12 := (hx.below (Nat.le_refl _)).size
    have K12 := Lib.hid (K11.out.trans (hx.below K11.out.size))
    have T3_0_12 := Lib.hid (T3_0_11.out.ext hx)
    have T4_12 := Lib.hid (T4_11.out.ext hx)
    have T5_0_12 := Lib.hid (t11.out.ext hx)
    clear K11 T3_0_11 T4_11 t11
    clear hx
    go_wp2_with fail
    refine (HT0.out _ K12.out).mono ?_
    rintro e w13 ⟨A_13, rfl, hb, hw⟩
    have s13 := hb.size
    have t13 := Lib.hid hw.r
    have K13 := Lib.hid (K12.out.trans (hb.mono K12.out.size))
    have T3_0_13 := Lib.hid (T3_0_12.out.below hb)
    have T4_13 := Lib.hid (T4_12.out.below hb)
    have T5_0_13 := Lib.hid (T5_0_12.out.below hb)
    clear K12 T3_0_12 T4_12 T5_0_12
    clear hb hw
    go_wp2_with fail
    refine (HI.out _ A_13 _ (Nat.le_refl _) t13.out.tr).mono ?_
    rintro e w14 ⟨B14_0_, cap14_0, rfl, hb, hw0⟩
    have s14 := hb.size
    have t14_0 := Lib.hid hw0
    have K14 := Lib.hid (K13.out.trans (hb.mono K13.out.size))
    have T3_0_14 := Lib.hid (T3_0_13.out.below hb)
    have T4_14 := Lib.hid (T4_13.out.below hb)
    have T5_0_14 := Lib.hid (T5_0_13.out.below hb)
    have T13_14 := Lib.hid (t13.out.below hb)
    clear K13 T3_0_13 T4_13 T5_0_13 t13
    clear hb hw0
    clear T13_14
    go_wp2_with fail
    refine (eqInt64S_any B14_0_ B3_0_ m0 m0 _ _ ys0 ys0 _ (by omega) HM0.out HM0.out t14_0.out.ir T3_0_14.out.ir).mono ?_
    rw [decide_eq_true (rfl : ys0 = ys0)]
    rintro e w15 ⟨rfl, hx⟩
    have s15 := (hx.below (Nat.le_refl _)).size
    have K15 := Lib.hid (K14.out.trans (hx.below K14.out.size))
    have T3_0_15 := Lib.hid (T3_0_14.out.ext hx)
    have T4_15 := Lib.hid (T4_14.out.ext hx)
    have T5_0_15 := Lib.hid (T5_0_14.out.ext hx)
    have T14_0_15 := Lib.hid (t14_0.out.ext hx)
    clear K14 T3_0_14 T4_14 T5_0_14 t14_0
    clear hx
    go_wp2_with fail
    refine (heldInt64S_any B5_0_ m0 _ (1) _ (by omega) (by omega) (by omega) T5_0_15.out.ir).mono ?_
    rintro e w16 ⟨rfl, hx⟩
    have s16 := (hx.below (Nat.le_refl _)).size
    have K16 := Lib.hid (K15.out.trans (hx.below K15.out.size))
    have T3_0_16 := Lib.hid (T3_0_15.out.ext hx)
    have T4_16 := Lib.hid (T4_15.out.ext hx)
    have T5_0_16 := Lib.hid (T5_0_15.out.ext hx)
    have T14_0_16 := Lib.hid (T14_0_15.out.ext hx)
    clear K15 T3_0_15 T4_15 T5_0_15 T14_0_15
    clear hx
    go_wp2_with fail
    go_ret
    exact ⟨rfl, K16.out⟩
theorem law_SidesByColour (A0 : Option Addr) (n0 q0 : Nat) (ts0 : List Tl) (w : World) (hn0 : n0 ≤ 9223372036854775807) (hl0 : ts0.length = n0) (hA0 : TR w w.heap.size A0 ts0) :
    Calls Try.prog 8 #[.slice A0 n0 q0] w fun e w' => e = .returned (.bool true) ∧ Below w.heap.size w w' := by
  by_cases h : n0 ≤ 70 ∧ allOk 6 ts0 = true
  · exact lawSidesByColour_core A0 n0 q0 ts0 w hn0 hl0 hA0 (sidesL ts0) 0 (by rw [sidesL_len]; omega) (fun hs W B e _ hB => specSides_0 B n0 e ts0 W h.1 hl0 hB h.2) (fun hs W B e _ hB => implSides_0 B n0 e ts0 W h.1 hl0 hB h.2)
  · have h2 : n0 ≤ 70 → allOk 6 ts0 = false := fun h1 => by
      cases h3 : allOk 6 ts0 with
      | false => rfl
      | true => exact absurd ⟨h1, h3⟩ h
    exact lawSidesByColour_core A0 n0 q0 ts0 w hn0 hl0 hA0 [] 2 (by simp) (fun hs W B e _ hB => specSides_2 B n0 e ts0 W hs hl0 hB h2) (fun hs W B e _ hB => implSides_2 B n0 e ts0 W hs hl0 hB h2)
end Go.Proofs.Ytfhdgilddnndcaa
