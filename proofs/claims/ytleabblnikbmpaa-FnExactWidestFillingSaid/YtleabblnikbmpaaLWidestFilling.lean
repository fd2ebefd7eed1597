/- The exact law over WidestFilling: walked. -/
import Derived.Test.YtleabblnikbmpaaTw3
import Derived.Test.YtleabblnikbmpaaTw4
import Derived.Test.YtleabblnikbmpaaMark2
import Derived.Test.YtleabblnikbmpaaHeld
import Derived.Test.YtleabblnikbmpaaInts
import Derived.Deep.RegionHeld3
import Derived.Deep.RegionLaw
import Derived.Deep.DeepCutAuto
namespace Go.Proofs.Ytleabblnikbmpaa
set_option linter.unusedVariables false
set_option linter.unusedSimpArgs false
open Go.RowKit Go.Sort

set_option maxRecDepth 100000 in
set_option maxHeartbeats 4000000 in
theorem lawWidestFilling_core (c0 : Int) (A0 : Option Addr) (n0 q0 : Nat) (ts0 : List Tl) (i1 : Int) (w : World) (hn0 : n0 ≤ 9223372036854775807) (hl0 : ts0.length = n0) (hA0 : TR w w.heap.size A0 ts0) (r0 : Int) (r1 : Int) 
    (hspec : n0 ≤ 1048576 → ∀ (W : World) (B0 : Option Addr) (e0 : Nat), n0 ≤ e0 → TR W W.heap.size B0 ts0 → Calls Try.prog 49 #[.agg #[.int .i64 c0, .slice B0 n0 e0], .int .i64 i1] W (fun e w' => e = .returned (.tuple #[.int .i64 r0, .int .i64 r1]) ∧ Below W.heap.size W w'))
    (himpl : n0 ≤ 1048576 → ∀ (W : World) (B0 : Option Addr) (e0 : Nat), n0 ≤ e0 → TR W W.heap.size B0 ts0 → Calls Try.prog 50 #[.agg #[.int .i64 c0, .slice B0 n0 e0], .int .i64 i1] W (fun e w' => e = .returned (.tuple #[.int .i64 r0, .int .i64 r1]) ∧ Below W.heap.size W w')) :
    Calls Try.prog 15 #[.agg #[.int .i64 c0, .slice A0 n0 q0], .int .i64 i1] w fun e w' => e = .returned (.bool true) ∧ Below w.heap.size w w' := by
  have hsz0 : (0 : Int) ≤ 1048576 → ∀ W, Calls Try.prog 16 #[.agg #[.int .i64 c0, .slice A0 n0 q0], .int .i64 1048576] W _ := fun h W => szSet_any c0 A0 n0 q0 1048576 W hn0 h (by omega)
  by_cases hbig0 : (1048576 : Int) < n0
  · replace hsz0 := hsz0 (by omega)
    simp only [if_pos hbig0] at hsz0
    clear hspec himpl
    go_enter Try.func15, Try.ntmps15
    go_wp2_with fail
    have hx0 : Ext w (w.alloc (Obj.cells #[.int .i64 c0, .slice A0 n0 q0] 24)) := ((Ext.refl w).alloc _)
    have b00 : Blk (w.alloc (Obj.cells #[.int .i64 c0, .slice A0 n0 q0] 24)) w.heap.size 24 #[.int .i64 c0, .slice A0 n0 q0] := (Blk.new w 24 #[.int .i64 c0, .slice A0 n0 q0])
    have s0 : w.heap.size + 1 ≤ (w.alloc (Obj.cells #[.int .i64 c0, .slice A0 n0 q0] 24)).heap.size := by simp
    have K0 := Lib.hid (hx0.below (Nat.le_refl _))
    have C00 := Lib.hid b00
    clear hx0 b00
    generalize (w.alloc (Obj.cells #[.int .i64 c0, .slice A0 n0 q0] 24)) = w0 at *
    refine (hsz0 _).mono ?_
    rintro e w1 ⟨rfl, hx⟩
    have s1 := (hx.below (Nat.le_refl _)).size
    have K1 := Lib.hid (K0.out.trans (hx.below K0.out.size))
    have Ba0_1 := Lib.hid (C00.out.ext hx)
    clear K0 C00
    clear hx
    have ra0_0 := Ba0_1.out.rd 0 rfl
    have ra0_1 := Ba0_1.out.rd 1 rfl
    go_wp2_with fail
    clear ra0_0 ra0_1
    go_ret
    exact ⟨rfl, K1.out⟩
  · skip
    replace hsz0 := hsz0 (by omega)
    simp only [if_neg hbig0] at hsz0
    have hneg0 : ¬ (1048576 - (n0 : Int) < 0) := by omega
    have hn'0 : n0 ≤ 1048576 := by omega
    have hts0 : ∀ W, Below w.heap.size w W → Calls Try.prog 18 #[.agg #[.int .i64 c0, .slice A0 n0 q0]] W _ := fun W hW => toSet_any c0 A0 n0 q0 ts0 W hn'0 hl0 ((hA0.below hW (Nat.le_refl _)).more hW.size)
    have HT0 := Lib.hid hts0
    have HL0 := Lib.hid hl0
    have HS := Lib.hid (hspec hn'0)
    have HI := Lib.hid (himpl hn'0)
    clear hspec himpl hts0 hA0 hl0
    have hcc0 : (r0 != r0) = false := by simp
    have hcc1 : (r1 != r1) = false := by simp
    go_enter Try.func15, Try.ntmps15
    go_wp2_with fail
    have hx0 : Ext w (w.alloc (Obj.cells #[.int .i64 c0, .slice A0 n0 q0] 24)) := ((Ext.refl w).alloc _)
    have b00 : Blk (w.alloc (Obj.cells #[.int .i64 c0, .slice A0 n0 q0] 24)) w.heap.size 24 #[.int .i64 c0, .slice A0 n0 q0] := (Blk.new w 24 #[.int .i64 c0, .slice A0 n0 q0])
    have s0 : w.heap.size + 1 ≤ (w.alloc (Obj.cells #[.int .i64 c0, .slice A0 n0 q0] 24)).heap.size := by simp
    have K0 := Lib.hid (hx0.below (Nat.le_refl _))
    have C00 := Lib.hid b00
    clear hx0 b00
    generalize (w.alloc (Obj.cells #[.int .i64 c0, .slice A0 n0 q0] 24)) = w0 at *
    refine (hsz0 _).mono ?_
    rintro e w1 ⟨rfl, hx⟩
    have s1 := (hx.below (Nat.le_refl _)).size
    have K1 := Lib.hid (K0.out.trans (hx.below K0.out.size))
    have Ba0_1 := Lib.hid (C00.out.ext hx)
    clear K0 C00
    clear hx
    have ra0_0 := Ba0_1.out.rd 0 rfl
    have ra0_1 := Ba0_1.out.rd 1 rfl
    go_wp2_with fail
    clear ra0_0 ra0_1
    refine (HT0.out _ K1.out).mono ?_
    rintro e w2 ⟨A_2, rfl, hb, hw⟩
    have s2 := hb.size
    have t2 := Lib.hid hw.r
    have K2 := Lib.hid (K1.out.trans (hb.mono K1.out.size))
    have Ba0_2 := Lib.hid (Ba0_1.out.below hb Ba0_1.out.lt)
    clear K1 Ba0_1
    clear hb hw
    have ra0_0 := Ba0_2.out.rd 0 rfl
    have ra0_1 := Ba0_2.out.rd 1 rfl
    go_wp2_with fail
    clear ra0_0 ra0_1
    refine (HS.out _ A_2 _ (Nat.le_refl _) t2.out.tr).mono ?_
    rintro e w3 ⟨rfl, hb⟩
    have s3 := hb.size
    have K3 := Lib.hid (K2.out.trans (hb.mono K2.out.size))
    have Ba0_3 := Lib.hid (Ba0_2.out.below hb Ba0_2.out.lt)
    have T2_3 := Lib.hid (t2.out.below hb)
    clear K2 Ba0_2 t2
    clear hb
    clear T2_3
    have ra0_0 := Ba0_3.out.rd 0 rfl
    have ra0_1 := Ba0_3.out.rd 1 rfl
    go_wp2_with fail
    clear ra0_0 ra0_1
    refine (HT0.out _ K3.out).mono ?_
    rintro e w4 ⟨A_4, rfl, hb, hw⟩
    have s4 := hb.size
    have t4 := Lib.hid hw.r
    have K4 := Lib.hid (K3.out.trans (hb.mono K3.out.size))
    have Ba0_4 := Lib.hid (Ba0_3.out.below hb Ba0_3.out.lt)
    clear K3 Ba0_3
    clear hb hw
    have ra0_0 := Ba0_4.out.rd 0 rfl
    have qa0_0 := (Ba0_4.out.ext ((Ext.refl _).alloc (Obj.cells #[.int .i64 c0, .slice A_4 n0 n0] 30))).rd 0 rfl
    have ra0_1 := Ba0_4.out.rd 1 rfl
    have qa0_1 := (Ba0_4.out.ext ((Ext.refl _).alloc (Obj.cells #[.int .i64 c0, .slice A_4 n0 n0] 30))).rd 1 rfl
    go_wp2_with fail
    clear ra0_0 qa0_0 ra0_1 qa0_1
    have hx : Ext w4 (w4.alloc (Obj.cells #[.int .i64 c0, .slice A_4 n0 n0] 30)) := (Ext.refl _).alloc _
    have sa5 : w4.heap.size + 1 ≤ (w4.alloc (Obj.cells #[.int .i64 c0, .slice A_4 n0 n0] 30)).heap.size := by simp
    have b5 := Lib.hid (Blk.new w4 30 #[.int .i64 c0, .slice A_4 n0 n0])
    generalize w4.alloc (Obj.cells #[.int .i64 c0, .slice A_4 n0 n0] 30) = w5 at *
    have K5 := Lib.hid (K4.out.trans (hx.below K4.out.size))
    have Ba0_5 := Lib.hid (Ba0_4.out.ext hx)
    have T4_5 := Lib.hid (t4.out.ext hx)
    clear K4 Ba0_4 t4
    clear hx
    refine (HI.out _ A_4 _ (Nat.le_refl _) T4_5.out.tr).mono ?_
    rintro e w6 ⟨rfl, hb⟩
    have s6 := hb.size
    have K6 := Lib.hid (K5.out.trans (hb.mono K5.out.size))
    have Ba0_6 := Lib.hid (Ba0_5.out.below hb Ba0_5.out.lt)
    have B5_6 := Lib.hid (b5.out.below hb b5.out.lt)
    have T4_6 := Lib.hid (T4_5.out.below hb)
    clear K5 Ba0_5 b5 T4_5
    clear hb
    have ra0_0 := Ba0_6.out.rd 0 rfl
    have ra0_1 := Ba0_6.out.rd 1 rfl
    have r5_0 := B5_6.out.rd 0 rfl
    have r5_1 := B5_6.out.rd 1 rfl
    go_wp2_with fail
    clear ra0_0 ra0_1 r5_0 r5_1
    have ra0_0 := Ba0_6.out.rd 0 rfl
    have ra0_1 := Ba0_6.out.rd 1 rfl
    have r5_0 := B5_6.out.rd 0 rfl
    have r5_1 := B5_6.out.rd 1 rfl
    go_region_held3 (fun w' => w'.cell? ⟨w.heap.size, 0, none⟩ = some (.int .i64 c0) ∧ w'.cell? ⟨w.heap.size, 1, none⟩ = some (.slice A0 n0 q0) ∧ w'.cell? ⟨w4.heap.size, 0, none⟩ = some (.int .i64 c0) ∧ w'.cell? ⟨w4.heap.size, 1, none⟩ = some (.slice A_4 n0 n0))
      (first | exact ⟨ka0_0, ka0_1, k5_0, k5_1⟩ | exact ⟨la0_0, la0_1, l5_0, l5_1⟩ | go_keep)
      (first
        | (go_at_call 18; refine (HT0.out _ K6.out.drew).mono ?_; rintro e w7 ⟨A_7, rfl, hb, hw⟩; have s7 := hb.size; simp only [World.size_drew] at s7; have t7 := Lib.hid hw.r; have K7 := Lib.hid (K6.out.drew.trans (hb.mono K6.out.size)); have Ba0_7 := Lib.hid (Blk.below (w := w6.drew) Ba0_6.out hb Ba0_6.out.lt); have B5_7 := Lib.hid (Blk.below (w := w6.drew) B5_6.out hb B5_6.out.lt); have T4_7 := Lib.hid (TWr.below (w := w6.drew) T4_6.out hb); clear K6 Ba0_6 B5_6 T4_6; clear hb hw; have ka0_0 := Ba0_7.out.rd 0 rfl; have ka0_1 := Ba0_7.out.rd 1 rfl; have k5_0 := B5_7.out.rd 0 rfl; have k5_1 := B5_7.out.rd 1 rfl)
        | (go_at_call 20; refine (eqSet_any c0 c0 A_4 A_7 n0 n0 _ _ ts0 ts0 _ (by omega) HL0.out HL0.out T4_7.out.tr t7.out.tr).mono ?_; rw [decide_eq_true (⟨rfl, rfl⟩ : c0 = c0 ∧ ts0 = ts0)]; rintro e w8 ⟨rfl, hx⟩; have s8 := (hx.below (Nat.le_refl _)).size; clear ka0_0 ka0_1 k5_0 k5_1; have K8 := Lib.hid (K7.out.trans (hx.below K7.out.size)); have Ba0_8 := Lib.hid (Ba0_7.out.ext hx); have B5_8 := Lib.hid (B5_7.out.ext hx); have T4_8 := Lib.hid (T4_7.out.ext hx); have T7_8 := Lib.hid (t7.out.ext hx); clear K7 Ba0_7 B5_7 T4_7 t7; clear hx; have la0_0 := Ba0_8.out.rd 0 rfl; have la0_1 := Ba0_8.out.rd 1 rfl; have l5_0 := B5_8.out.rd 0 rfl; have l5_1 := B5_8.out.rd 1 rfl))
    clear la0_0 la0_1 l5_0 l5_1 ra0_0 ra0_1 r5_0 r5_1
    clear T7_8
    have ra0_0 := Ba0_8.out.rd 0 rfl
    have ra0_1 := Ba0_8.out.rd 1 rfl
    have r5_0 := B5_8.out.rd 0 rfl
    have r5_1 := B5_8.out.rd 1 rfl
    go_wp2_with fail
    clear ra0_0 ra0_1 r5_0 r5_1
    go_ret
    exact ⟨rfl, K8.out⟩
theorem law_WidestFilling (c0 : Int) (A0 : Option Addr) (n0 q0 : Nat) (ts0 : List Tl) (i1 : Int) (w : World) (hn0 : n0 ≤ 9223372036854775807) (hl0 : ts0.length = n0) (hA0 : TR w w.heap.size A0 ts0) :
    Calls Try.prog 15 #[.agg #[.int .i64 c0, .slice A0 n0 q0], .int .i64 i1] w fun e w' => e = .returned (.bool true) ∧ Below w.heap.size w w' := by
  by_cases hz : tcCode c0 ts0 i1 true = 0
  · obtain ⟨hs, h1, h3, -⟩ := tcCode_zero hz
    have hcc := isSet_col hs
    obtain ⟨C, rfl⟩ : ∃ C : Nat, c0 = (C : Int) := ⟨c0.toNat, by omega⟩
    obtain ⟨h, rfl⟩ : ∃ h : Nat, i1 = (h : Int) := ⟨i1.toNat, by omega⟩
    have hk := isK (h := h) hs (by omega)
    by_cases hla : (lastL (edgesL (C : Int) ts0 h)).length = 0
    · have hno : fwdAny (KK C ts0 h) (KK C ts0 h).length = false := by
        cases hf : fwdAny (KK C ts0 h) (KK C ts0 h).length with
        | false => rfl
        | true => exact absurd ((last_fwd hk).2 hf) (lastL_nil.1 hla)
      obtain ⟨r, hr, hr1, hr2⟩ := wd_least hno
      exact lawWidestFilling_core (C : Int) A0 n0 q0 ts0 (h : Int) w hn0 hl0 hA0 (r : Int) 0
        (fun _ W B0 e0 _ hB0 => specWidest_end C B0 n0 e0 ts0 h W hl0 hB0 hs (by omega) (by omega) r hr hr1 hr2)
        (fun _ W B0 e0 _ hB0 => implWidest_end C B0 n0 e0 ts0 h W hl0 hB0 hs (by omega) (by omega) r hla hr hr1 hr2)
    · have hex : ∃ k, lastT (edgesL (C : Int) ts0 h) k := by
        rcases Classical.em (∃ k, lastT (edgesL (C : Int) ts0 h) k) with h1 | h1
        · exact h1
        · exact absurd (lastL_nil.2 h1) hla
      exact lawWidestFilling_core (C : Int) A0 n0 q0 ts0 (h : Int) w hn0 hl0 hA0 0 4
        (fun _ W B0 e0 _ hB0 => specWidest_last C B0 n0 e0 ts0 h W hl0 hB0 hs (by omega) (by omega) (last_always hk hex))
        (fun _ W B0 e0 _ hB0 => implWidest_last C B0 n0 e0 ts0 h W hl0 hB0 hs (by omega) (by omega) (by omega))
  · exact lawWidestFilling_core c0 A0 n0 q0 ts0 i1 w hn0 hl0 hA0 0 (tcCode c0 ts0 i1 true)
      (fun h W B0 e0 _ hB0 => specWidest_no c0 B0 n0 e0 ts0 i1 W h hl0 hB0 hz)
      (fun h W B0 e0 _ hB0 => implWidest_no c0 B0 n0 e0 ts0 i1 W h hl0 hB0 hz)
end Go.Proofs.Ytleabblnikbmpaa
