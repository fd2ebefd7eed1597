/- Whether rows are a filling: the program's side. -/
import Derived.Test.YtjoaoimebdkpaaaFil3
namespace Go.Proofs.Ytjoaoimebdkpaaa
set_option linter.unusedVariables false
set_option linter.unusedSimpArgs false
open Go.RowKit Go.Sort

set_option maxRecDepth 100000 in
set_option maxHeartbeats 1000000 in
theorem fits_south (c0 : Int) (A : Option Addr) (n c : Nat) (ts : List Tl) (i k : Nat) (w : World) (hn : n ≤ 1048576) (hl : ts.length = n) (hi : i < n) (hk : k < n) (hA : TR w w.heap.size A ts) :
    Calls Try.prog 115 #[.agg #[.int .i64 c0, .slice A n c], .int .i64 i, .int .i64 3, .int .i64 k] w fun e w' => e = .returned (.bool (decide ((ts.getD i T0).2.2.2 = (ts.getD k T0).2.1))) ∧ Ext w w' := by
  have hi3 : (i : Int) < (n : Int) := by omega
  have hk3 : (k : Int) < (n : Int) := by omega
  obtain ⟨b, o, rfl, -, ht⟩ := hA (by omega)
  have hx : Ext w (w.alloc (.cells #[.int .i64 c0, .slice (some ⟨b, o, none⟩) n c] 32)) := (Ext.refl w).alloc _
  have hlt : b < w.heap.size := by
    obtain ⟨b', o', e, h, _⟩ := hA (by omega)
    cases e
    exact h
  have ti : (w.alloc (.cells #[.int .i64 c0, .slice (some ⟨b, o, none⟩) n c] 32)).cell? ⟨b, o + i * 4 + 3, none⟩ = _ := (World.cell?_alloc_lt w _ _ hlt).trans (ht i (by omega)).2.2.2
  have tk : (w.alloc (.cells #[.int .i64 c0, .slice (some ⟨b, o, none⟩) n c] 32)).cell? ⟨b, o + k * 4 + 1, none⟩ = _ := (World.cell?_alloc_lt w _ _ hlt).trans (ht k (by omega)).2.1
  generalize (ts.getD i T0).2.2.2 = e at ti ⊢
  generalize (ts.getD k T0).2.1 = f at tk ⊢
  have r1 := (Blk.new w 32 #[.int .i64 c0, .slice (some ⟨b, o, none⟩) n c]).rd 1 rfl
  clear hA ht hx
  go_enter Try.func115, Try.ntmps115
  go_wp2_with fail
  go_quiet (fail)
  clear ti tk r1
  go_wp2_with fail
  go_ret
  exact ⟨ret_b (by rw [Bool.eq_iff_iff]; simp; exact eq_comm), by repeat (first | exact Ext.refl _ | refine Ext.drewN ?_ _ | refine Ext.alloc ?_ _)⟩

theorem BoolRes.mk {w w' : World} {r : Bool} {code : Int} {e : Ending} (he : e = .returned (.tuple #[.bool r, .int .i64 code])) (hb : Below w.heap.size w w') : BoolRes w r code e w' := ⟨he, hb⟩
def fillAns (c0 : Int) (ts : List Tl) (rs : List (List Int)) : Bool := isSet c0 ts && (rowsOk ts rs && goodB ts rs)
theorem fa1 {c0 : Int} {ts : List Tl} {rs : List (List Int)} (hs : isSet c0 ts = false) : fillAns c0 ts rs = false := by simp [fillAns, hs]
theorem fa2 {c0 : Int} {ts : List Tl} {rs : List (List Int)} (h : rowsOk ts rs = false) : fillAns c0 ts rs = false := by simp [fillAns, h]
theorem fa0 {c0 : Int} {ts : List Tl} {rs : List (List Int)} (hs : isSet c0 ts = true) (h : rowsOk ts rs = true) : fillAns c0 ts rs = goodB ts rs := by simp [fillAns, hs, h]

set_option maxRecDepth 100000 in
set_option maxHeartbeats 8000000 in
theorem implFilling_any (c0 : Int) (A : Option Addr) (n c : Nat) (ts : List Tl) (B : Option Addr) (m d : Nat) (rs : List (List Int)) (w : World) (hn : n ≤ 1048576) (hl : ts.length = n) (hA : TR w w.heap.size A ts) (hm : m ≤ 1048576) (hlr : rs.length = m) (hB : IRR w w.heap.size B rs) (hrow : ∀ k, k < m → (rs.getD k []).length ≤ 1048576) :
    Calls Try.prog 63 #[.agg #[.int .i64 c0, .slice A n c], .slice B m d] w (BoolRes w (fillAns c0 ts rs) (fillCode c0 ts rs)) := by
  have his : ∀ W, Ext w W → Calls Try.prog 80 #[.agg #[.int .i64 c0, .slice A n c]] W _ := fun W hW => isSet_any c0 A n c ts W (by omega) hl ((hA.ext hW (Nat.le_refl _)).more (hW.below (Nat.le_refl _)).size)
  have har : ∀ W, Ext w W → Calls Try.prog 117 #[.agg #[.int .i64 c0, .slice A n c], .slice B m d] W _ := fun W hW => areRows_any c0 A n c ts B m d rs W hn hl hm hlr ((hB.ext hW (Nat.le_refl _)).more (hW.below (Nat.le_refl _)).size) hrow
  have HI := Lib.hid his
  have HR := Lib.hid har
  clear his har
  generalize hz : fillCode c0 ts rs = z
  have HZ := Lib.hid hz
  clear hz
  generalize ha : fillAns c0 ts rs = r
  have HA := Lib.hid ha
  clear ha
  cases hs : isSet c0 ts with
  | false =>
    rw [hs] at HI
    have HS := Lib.hid hs
    clear hs
    go_enter Try.func63, Try.ntmps63
    go_wp2_with fail
    refine (HI.out _ ((Ext.refl w).alloc _)).mono ?_
    rintro e w1 ⟨rfl, hx⟩
    have HX := Lib.hid (((Ext.refl w).alloc _).trans hx)
    clear hx
    go_wp2_with fail
    go_ret2
    exact BoolRes.mk (by rw [← HZ.out, ← HA.out, fc1 HS.out, fa1 HS.out]; rfl) (HX.out.below (Nat.le_refl _))
  | true =>
    rw [hs] at HI
    have HS := Lib.hid hs
    clear hs
    cases hok : rowsOk ts rs with
    | false =>
      rw [hok] at HR
      have HK := Lib.hid hok
      clear hok
      go_enter Try.func63, Try.ntmps63
      go_wp2_with fail
      refine (HI.out _ ((Ext.refl w).alloc _)).mono ?_
      rintro e w1 ⟨rfl, hx⟩
      have hb := (Blk.new w 32 #[.int .i64 c0, .slice A n c]).ext hx
      have r0 := hb.rd 0 rfl
      have r1 := hb.rd 1 rfl
      have HX := Lib.hid (((Ext.refl w).alloc _).trans hx)
      clear hx hb
      go_wp2_with fail
      refine (HR.out _ HX.out).mono ?_
      rintro e w2 ⟨rfl, hx⟩
      have HX2 := Lib.hid (HX.out.trans hx)
      clear hx r0 r1
      go_wp2_with fail
      go_ret2
      exact BoolRes.mk (by rw [← HZ.out, ← HA.out, fc2 HS.out HK.out, fa2 HK.out]; rfl) (HX2.out.below (Nat.le_refl _))
    | true =>
      rw [hok] at HR
      have hm1 : 1 ≤ m ∧ m ≤ 8 := by
        have h := hok
        simp only [rowsOk, Bool.and_eq_true, decide_eq_true_eq] at h
        omega
      obtain ⟨hm1, hm8⟩ := hm1
      obtain ⟨b, o, rfl, hb0, hcr⟩ := hB (by omega)
      go_enter Try.func63, Try.ntmps63
      have HOK := Lib.hid hok
      clear hok
      go_wp2_with fail
      refine (HI.out _ ((Ext.refl w).alloc _)).mono ?_
      rintro e w1 ⟨rfl, hx⟩
      have hb := (Blk.new w 32 #[.int .i64 c0, .slice A n c]).ext hx
      have r0 := hb.rd 0 rfl
      have r1 := hb.rd 1 rfl
      have HX := Lib.hid (((Ext.refl w).alloc _).trans hx)
      have HB := Lib.hid hb
      clear hx hb
      go_wp2_with fail
      refine (HR.out _ HX.out).mono ?_
      rintro e w2 ⟨rfl, hx⟩
      have HX2 := Lib.hid (HX.out.trans hx)
      have HB2 := Lib.hid (HB.out.ext hx)
      clear hx r0 r1 HB HX HI HR
      go_wp2_with fail
      go_loopw [19] (fun i wr => ∃ k : Nat, k ≤ m ∧ i = .int .i64 k ∧ (∀ y x, y < k → x < (rs.getD y []).length → cellGood ts rs y x = true) ∧ Ext w2 wr) (fun i _ => m - (intOf i).toNat)
      case atStart => exact ⟨0, Nat.zero_le _, rfl, fun _ _ hj => absurd hj (Nat.not_lt_zero _), Ext.refl _⟩
      case round =>
        obtain ⟨k, hk, rfl, heq, hx⟩ := hrel
        have H := Lib.hid heq
        have HX3 := Lib.hid hx
        clear heq hx
        by_cases hlt : k < m
        · obtain ⟨Q, q, hcQ, hqq, hir⟩ := hcr k (by omega)
          have hok := HOK.out
          have hE0 := HX2.out.trans HX3.out
          have ek0 := ((hE0.below (Nat.le_refl _)).cell (p := ⟨b, o + k, none⟩) hb0).trans hcQ
          generalize hMk : (rs.getD k []).length = mk at ek0 hcQ
          have HMK := Lib.hid hMk
          have hmk8 : mk ≤ 8 := by have h := rowsOk_same hok (y := k) (by omega); simp only [rowsOk, Bool.and_eq_true, decide_eq_true_eq] at hok; omega
          clear hMk hok hE0
          obtain ⟨wo, rfl⟩ : ∃ wo : World, wo = wr := ⟨_, rfl⟩
          go_wp2_with fail
          clear ek0
          go_loopw [26] (fun i wr => ∃ x : Nat, x ≤ mk ∧ i = .int .i64 x ∧ (∀ j, j < x → cellGood ts rs k j = true) ∧ Ext wo wr) (fun i _ => mk - (intOf i).toNat)
          case atStart => exact ⟨0, Nat.zero_le _, rfl, fun j hj => absurd hj (Nat.not_lt_zero _), Ext.refl _⟩
          case round =>
            obtain ⟨x, hxk, rfl, heqx, hx⟩ := hrel
            have HXX := Lib.hid heqx
            have hE := HX2.out.trans (HX3.out.trans hx)
            have HE := Lib.hid hE
            have HX4 := Lib.hid hx
            have hbx2 := HB2.out.ext (HX3.out.trans hx)
            have HBX := Lib.hid hbx2
            clear heqx hx hbx2
            by_cases hlx : x < mk
            · have hok := HOK.out
              obtain ⟨bx, ox, hQe, hbx, hcx⟩ := hir (by rw [HMK.out]; omega)
              subst hQe
              have q1 := ((hE.below (Nat.le_refl _)).cell (p := ⟨bx, ox + x, none⟩) hbx).trans (hcx x (by rw [HMK.out]; omega))
              have hin := rowsOk_in hok (y := k) (x := x) (by omega) (by rw [HMK.out]; omega)
              have eT : tat ts rs k x = ts.getD ((rs.getD k []).getD x 0).toNat T0 := rfl
              generalize (rs.getD k []).getD x 0 = v at q1 hin eT
              rw [hl] at hin
              obtain ⟨i, rfl⟩ : ∃ i : Nat, v = (i : Int) := ⟨v.toNat, by omega⟩
              rw [Int.toNat_natCast] at eT
              have hi : i < n := by omega
              have hfitE : ∀ j1, j1 < n → ∀ W, Ext wr W → Calls Try.prog 115 #[.agg #[.int .i64 c0, .slice A n c], .int .i64 (j1 : Int), .int .i64 2, .int .i64 (i : Int)] W _ := fun j1 hj1 W hW => fits_east c0 A n c ts j1 i W hn hl hj1 hi ((hA.ext (HE.out.trans hW) (Nat.le_refl _)).more ((HE.out.trans hW).below (Nat.le_refl _)).size)
              have hfitS : ∀ j2, j2 < n → ∀ W, Ext wr W → Calls Try.prog 115 #[.agg #[.int .i64 c0, .slice A n c], .int .i64 (j2 : Int), .int .i64 3, .int .i64 (i : Int)] W _ := fun j2 hj2 W hW => fits_south c0 A n c ts j2 i W hn hl hj2 hi ((hA.ext (HE.out.trans hW) (Nat.le_refl _)).more ((HE.out.trans hW).below (Nat.le_refl _)).size)
              rcases k with _ | k
              · rcases x with _ | x
                · skip
                  have hk9 : (0 : Int) < (m : Int) := by omega
                  simp only [Nat.add_zero] at q1
                  have hx9 : (0 : Int) < (mk : Int) := by omega
                  have hcg : cellGood ts rs 0 0 = (true) := by
                    unfold cellGood
                    simp
                  have HG : Hid (cellGood ts rs 0 0 = true) := Lib.hid (by rw [hcg])
                  clear hcx hE hir hcr hA hok hcQ hfitE hfitS hrow eT hcg
                  as_aux_lemma =>
                    have s0 := fun q os => HBX.out.grown q os 0 (v := .int .i64 c0) rfl
                    have s1 := fun q os => HBX.out.grown q os 1 (v := .slice A n c) rfl
                    skip
                    go_wp2_with fail
                    refine wp_region_quiet_grown mixed (by kernel_rfl) ?_
                    repeat (go_big_quiet_step ((fail)))
                    refine wpQuiet_nil ?_
                    intro _ hw'
                    obtain ⟨⟨nq, osq⟩, hw''⟩ := hw'
                    subst hw''
                    clear s0 s1 q1
                    go_wp2_with fail
                    refine ⟨⟨0 + 1, by omega, by go_num, ?_, HX4.out.trans ⟨nq, osq, rfl⟩⟩, by simp [intOf]; omega⟩
                    intro j hj
                    by_cases hjx : j = 0
                    · subst hjx
                      exact HG.out
                    · exact HXX.out j (by omega)
                · skip
                  have hk9 : (0 : Int) < (m : Int) := by omega
                  have hx9 : (x : Int) + 1 < (mk : Int) := by omega
                  have hx8 : (x : Int) < (mk : Int) := by omega
                  have hx7 : (0 : Int) ≤ (x : Int) + 1 := by omega
                  have pe := ((hE.below (Nat.le_refl _)).cell (p := ⟨bx, ox + x, none⟩) hbx).trans (hcx x (by rw [HMK.out]; omega))
                  have hin1 := rowsOk_in hok (y := 0) (x := x) (by omega) (by rw [HMK.out]; omega)
                  have eT1 : tat ts rs 0 x = ts.getD ((rs.getD 0 []).getD x 0).toNat T0 := rfl
                  generalize (rs.getD 0 []).getD x 0 = v1 at pe hin1 eT1
                  rw [hl] at hin1
                  obtain ⟨j1, rfl⟩ : ∃ j1 : Nat, v1 = (j1 : Int) := ⟨v1.toNat, by omega⟩
                  rw [Int.toNat_natCast] at eT1
                  have hfE := hfitE j1 (by omega)
                  rw [← eT1, ← eT] at hfE
                  have hcg : cellGood ts rs 0 (x + 1) = (decide ((tat ts rs 0 x).2.2.1 = (tat ts rs 0 (x + 1)).1)) := by
                    unfold cellGood
                    simp
                  generalize hr1 : decide ((tat ts rs 0 x).2.2.1 = (tat ts rs 0 (x + 1)).1) = r1 at hfE hcg
                  unfold Ext at hfE
                  cases r1 with
                  | true =>
                    have HG : Hid (cellGood ts rs 0 (x + 1) = true) := Lib.hid (by rw [hcg])
                    have HFE := Lib.hid hfE
                    clear hcx hE hir hcr hA hok hcQ hfitE hfitS hrow eT eT1 hr1 hcg hfE
                    as_aux_lemma =>
                      have s0 := fun q os => HBX.out.grown q os 0 (v := .int .i64 c0) rfl
                      have s1 := fun q os => HBX.out.grown q os 1 (v := .slice A n c) rfl
                      have peg := fun q os => (cell?_grow (wr.drewN q) os ⟨bx, ox + x, none⟩ (by have := World.block_lt_of_cell? wr _ pe; exact this)).trans pe
                      clear pe
                      have hwx : IntKind.i64.wrap (x : Int) = (x : Int) := IntWalk.i64_in _ (by omega)
                      go_wp2_with fail
                      refine wp_region_quiet_grown mixed (by kernel_rfl) ?_
                      repeat (go_big_quiet_step (((first | (go_at_call 115; with_reducible refine Calls.grown_of (HFE.out _ ⟨_, _, rfl⟩))))))
                      refine wpQuiet_nil ?_
                      intro _ hw'
                      obtain ⟨⟨nq, osq⟩, hw''⟩ := hw'
                      subst hw''
                      clear s0 s1 q1 peg hwx
                      go_wp2_with fail
                      refine ⟨⟨x + 1 + 1, by omega, by go_num, ?_, HX4.out.trans ⟨nq, osq, rfl⟩⟩, by simp [intOf]; omega⟩
                      intro j hj
                      by_cases hjx : j = x + 1
                      · subst hjx
                        exact HG.out
                      · exact HXX.out j (by omega)
                  | false =>
                    have HG : Hid (cellGood ts rs 0 (x + 1) = false) := Lib.hid (by rw [hcg])
                    have HFE := Lib.hid hfE
                    clear hcx hE hir hcr hA hok hcQ hfitE hfitS hrow eT eT1 hr1 hcg hfE
                    as_aux_lemma =>
                      have s0 := fun q os => HBX.out.grown q os 0 (v := .int .i64 c0) rfl
                      have s1 := fun q os => HBX.out.grown q os 1 (v := .slice A n c) rfl
                      have peg := fun q os => (cell?_grow (wr.drewN q) os ⟨bx, ox + x, none⟩ (by have := World.block_lt_of_cell? wr _ pe; exact this)).trans pe
                      clear pe
                      have hwx : IntKind.i64.wrap (x : Int) = (x : Int) := IntWalk.i64_in _ (by omega)
                      go_wp2_with fail
                      refine wp_region_quiet_grown mixed (by kernel_rfl) ?_
                      repeat (go_big_quiet_step (((first | (go_at_call 115; with_reducible refine Calls.grown_of (HFE.out _ ⟨_, _, rfl⟩))))))
                      refine wpQuiet_nil ?_
                      intro _ hw'
                      obtain ⟨⟨nq, osq⟩, hw''⟩ := hw'
                      subst hw''
                      clear s0 s1 q1 peg hwx
                      go_wp2_with fail
                      go_ret2
                      exact BoolRes.mk (by rw [← HZ.out, ← HA.out, fc0 HS.out HOK.out, fa0 HS.out HOK.out, goodB_at (y := 0) (x := x + 1) (by omega) (by rw [HMK.out]; omega) HG.out]; rfl) ((HE.out.trans ⟨nq, osq, rfl⟩).below (Nat.le_refl _))
              · rcases x with _ | x
                · skip
                  have hk9 : (k : Int) + 1 < (m : Int) := by omega
                  have hk8 : (k : Int) < (m : Int) := by omega
                  have hk7 : (0 : Int) ≤ (k : Int) + 1 := by omega
                  simp only [Nat.add_zero] at q1
                  have hx9 : (0 : Int) < (mk : Int) := by omega
                  obtain ⟨Q1, q1', hc1, hq1, hir1⟩ := hcr k (by omega)
                  have hsame1 := rowsOk_same hok (y := k) (by omega)
                  have hsame2 := rowsOk_same hok (y := k + 1) (by omega)
                  rw [HMK.out] at hsame2
                  have hlen1 : (rs.getD k []).length = mk := by rw [hsame1, ← hsame2]
                  rw [hlen1] at hc1 hq1
                  obtain ⟨by1, oy1, hQ1, hby1, hcy⟩ := hir1 (by rw [hlen1]; omega)
                  subst hQ1
                  have ph := ((hE.below (Nat.le_refl _)).cell (p := ⟨b, o + k, none⟩) hb0).trans hc1
                  have pc := ((hE.below (Nat.le_refl _)).cell (p := ⟨by1, oy1 + 0, none⟩) hby1).trans (hcy 0 (by rw [hlen1]; omega))
                  have hin2 := rowsOk_in hok (y := k) (x := 0) (by omega) (by rw [hlen1]; omega)
                  have eT2 : tat ts rs k 0 = ts.getD ((rs.getD k []).getD 0 0).toNat T0 := rfl
                  generalize (rs.getD k []).getD 0 0 = v2 at pc hin2 eT2
                  rw [hl] at hin2
                  obtain ⟨j2, rfl⟩ : ∃ j2 : Nat, v2 = (j2 : Int) := ⟨v2.toNat, by omega⟩
                  rw [Int.toNat_natCast] at eT2
                  have hfS := hfitS j2 (by omega)
                  rw [← eT2, ← eT] at hfS
                  simp only [Nat.add_zero] at pc
                  have hcg : cellGood ts rs (k + 1) 0 = (decide ((tat ts rs k 0).2.2.2 = (tat ts rs (k + 1) 0).2.1)) := by
                    unfold cellGood
                    simp
                  generalize hr2 : decide ((tat ts rs k 0).2.2.2 = (tat ts rs (k + 1) 0).2.1) = r2 at hfS hcg
                  unfold Ext at hfS
                  cases r2 with
                  | true =>
                    have HG : Hid (cellGood ts rs (k + 1) 0 = true) := Lib.hid (by rw [hcg])
                    have HFS := Lib.hid hfS
                    clear hcx hE hir hcr hA hok hcQ hfitE hfitS hrow eT hc1 hir1 hcy hsame1 hsame2 hlen1 eT2 hr2 hcg hfS
                    as_aux_lemma =>
                      have s0 := fun q os => HBX.out.grown q os 0 (v := .int .i64 c0) rfl
                      have s1 := fun q os => HBX.out.grown q os 1 (v := .slice A n c) rfl
                      have phg := fun q os => (cell?_grow (wr.drewN q) os ⟨b, o + k, none⟩ (by have := World.block_lt_of_cell? wr _ ph; exact this)).trans ph
                      have pcg := fun q os => (cell?_grow (wr.drewN q) os ⟨by1, oy1, none⟩ (by have := World.block_lt_of_cell? wr _ pc; exact this)).trans pc
                      clear ph pc
                      have hwk : IntKind.i64.wrap (k : Int) = (k : Int) := IntWalk.i64_in _ (by omega)
                      go_wp2_with fail
                      refine wp_region_quiet_grown mixed (by kernel_rfl) ?_
                      repeat (go_big_quiet_step (((first | (go_at_call 115; with_reducible refine Calls.grown_of (HFS.out _ ⟨_, _, rfl⟩))))))
                      refine wpQuiet_nil ?_
                      intro _ hw'
                      obtain ⟨⟨nq, osq⟩, hw''⟩ := hw'
                      subst hw''
                      clear s0 s1 q1 phg pcg hwk
                      go_wp2_with fail
                      refine ⟨⟨0 + 1, by omega, by go_num, ?_, HX4.out.trans ⟨nq, osq, rfl⟩⟩, by simp [intOf]; omega⟩
                      intro j hj
                      by_cases hjx : j = 0
                      · subst hjx
                        exact HG.out
                      · exact HXX.out j (by omega)
                  | false =>
                    have HG : Hid (cellGood ts rs (k + 1) 0 = false) := Lib.hid (by rw [hcg])
                    have HFS := Lib.hid hfS
                    clear hcx hE hir hcr hA hok hcQ hfitE hfitS hrow eT hc1 hir1 hcy hsame1 hsame2 hlen1 eT2 hr2 hcg hfS
                    as_aux_lemma =>
                      have s0 := fun q os => HBX.out.grown q os 0 (v := .int .i64 c0) rfl
                      have s1 := fun q os => HBX.out.grown q os 1 (v := .slice A n c) rfl
                      have phg := fun q os => (cell?_grow (wr.drewN q) os ⟨b, o + k, none⟩ (by have := World.block_lt_of_cell? wr _ ph; exact this)).trans ph
                      have pcg := fun q os => (cell?_grow (wr.drewN q) os ⟨by1, oy1, none⟩ (by have := World.block_lt_of_cell? wr _ pc; exact this)).trans pc
                      clear ph pc
                      have hwk : IntKind.i64.wrap (k : Int) = (k : Int) := IntWalk.i64_in _ (by omega)
                      go_wp2_with fail
                      refine wp_region_quiet_grown mixed (by kernel_rfl) ?_
                      repeat (go_big_quiet_step (((first | (go_at_call 115; with_reducible refine Calls.grown_of (HFS.out _ ⟨_, _, rfl⟩))))))
                      refine wpQuiet_nil ?_
                      intro _ hw'
                      obtain ⟨⟨nq, osq⟩, hw''⟩ := hw'
                      subst hw''
                      clear s0 s1 q1 phg pcg hwk
                      go_wp2_with fail
                      go_ret2
                      exact BoolRes.mk (by rw [← HZ.out, ← HA.out, fc0 HS.out HOK.out, fa0 HS.out HOK.out, goodB_at (y := k + 1) (x := 0) (by omega) (by rw [HMK.out]; omega) HG.out]; rfl) ((HE.out.trans ⟨nq, osq, rfl⟩).below (Nat.le_refl _))
                · skip
                  have hk9 : (k : Int) + 1 < (m : Int) := by omega
                  have hk8 : (k : Int) < (m : Int) := by omega
                  have hk7 : (0 : Int) ≤ (k : Int) + 1 := by omega
                  have hx9 : (x : Int) + 1 < (mk : Int) := by omega
                  have hx8 : (x : Int) < (mk : Int) := by omega
                  have hx7 : (0 : Int) ≤ (x : Int) + 1 := by omega
                  have pe := ((hE.below (Nat.le_refl _)).cell (p := ⟨bx, ox + x, none⟩) hbx).trans (hcx x (by rw [HMK.out]; omega))
                  have hin1 := rowsOk_in hok (y := (k + 1)) (x := x) (by omega) (by rw [HMK.out]; omega)
                  have eT1 : tat ts rs (k + 1) x = ts.getD ((rs.getD (k + 1) []).getD x 0).toNat T0 := rfl
                  generalize (rs.getD (k + 1) []).getD x 0 = v1 at pe hin1 eT1
                  rw [hl] at hin1
                  obtain ⟨j1, rfl⟩ : ∃ j1 : Nat, v1 = (j1 : Int) := ⟨v1.toNat, by omega⟩
                  rw [Int.toNat_natCast] at eT1
                  have hfE := hfitE j1 (by omega)
                  rw [← eT1, ← eT] at hfE
                  obtain ⟨Q1, q1', hc1, hq1, hir1⟩ := hcr k (by omega)
                  have hsame1 := rowsOk_same hok (y := k) (by omega)
                  have hsame2 := rowsOk_same hok (y := k + 1) (by omega)
                  rw [HMK.out] at hsame2
                  have hlen1 : (rs.getD k []).length = mk := by rw [hsame1, ← hsame2]
                  rw [hlen1] at hc1 hq1
                  obtain ⟨by1, oy1, hQ1, hby1, hcy⟩ := hir1 (by rw [hlen1]; omega)
                  subst hQ1
                  have ph := ((hE.below (Nat.le_refl _)).cell (p := ⟨b, o + k, none⟩) hb0).trans hc1
                  have pc := ((hE.below (Nat.le_refl _)).cell (p := ⟨by1, oy1 + (x + 1), none⟩) hby1).trans (hcy (x + 1) (by rw [hlen1]; omega))
                  have hin2 := rowsOk_in hok (y := k) (x := (x + 1)) (by omega) (by rw [hlen1]; omega)
                  have eT2 : tat ts rs k (x + 1) = ts.getD ((rs.getD k []).getD (x + 1) 0).toNat T0 := rfl
                  generalize (rs.getD k []).getD (x + 1) 0 = v2 at pc hin2 eT2
                  rw [hl] at hin2
                  obtain ⟨j2, rfl⟩ : ∃ j2 : Nat, v2 = (j2 : Int) := ⟨v2.toNat, by omega⟩
                  rw [Int.toNat_natCast] at eT2
                  have hfS := hfitS j2 (by omega)
                  rw [← eT2, ← eT] at hfS
                  have hcg : cellGood ts rs (k + 1) (x + 1) = (decide ((tat ts rs (k + 1) x).2.2.1 = (tat ts rs (k + 1) (x + 1)).1) && decide ((tat ts rs k (x + 1)).2.2.2 = (tat ts rs (k + 1) (x + 1)).2.1)) := by
                    unfold cellGood
                    simp
                  generalize hr1 : decide ((tat ts rs (k + 1) x).2.2.1 = (tat ts rs (k + 1) (x + 1)).1) = r1 at hfE hcg
                  generalize hr2 : decide ((tat ts rs k (x + 1)).2.2.2 = (tat ts rs (k + 1) (x + 1)).2.1) = r2 at hfS hcg
                  unfold Ext at hfE hfS
                  cases r1 with
                  | false =>
                    have HG : Hid (cellGood ts rs (k + 1) (x + 1) = false) := Lib.hid (by rw [hcg]; rfl)
                    have HFE := Lib.hid hfE
                    have HFS := Lib.hid hfS
                    clear hcx hE hir hcr hA hok hcQ hfitE hfitS hrow eT eT1 hr1 hc1 hir1 hcy hsame1 hsame2 hlen1 eT2 hr2 hcg hfE hfS
                    as_aux_lemma =>
                      have s0 := fun q os => HBX.out.grown q os 0 (v := .int .i64 c0) rfl
                      have s1 := fun q os => HBX.out.grown q os 1 (v := .slice A n c) rfl
                      have peg := fun q os => (cell?_grow (wr.drewN q) os ⟨bx, ox + x, none⟩ (by have := World.block_lt_of_cell? wr _ pe; exact this)).trans pe
                      have phg := fun q os => (cell?_grow (wr.drewN q) os ⟨b, o + k, none⟩ (by have := World.block_lt_of_cell? wr _ ph; exact this)).trans ph
                      have pcg := fun q os => (cell?_grow (wr.drewN q) os ⟨by1, oy1 + (x + 1), none⟩ (by have := World.block_lt_of_cell? wr _ pc; exact this)).trans pc
                      clear pe ph pc
                      have hwx : IntKind.i64.wrap (x : Int) = (x : Int) := IntWalk.i64_in _ (by omega)
                      have hwk : IntKind.i64.wrap (k : Int) = (k : Int) := IntWalk.i64_in _ (by omega)
                      go_wp2_with fail
                      refine wp_region_quiet_grown mixed (by kernel_rfl) ?_
                      repeat (go_big_quiet_step (((first | (go_at_call 115; with_reducible refine Calls.grown_of (HFE.out _ ⟨_, _, rfl⟩))))))
                      refine wpQuiet_nil ?_
                      intro _ hw'
                      obtain ⟨⟨nq, osq⟩, hw''⟩ := hw'
                      subst hw''
                      clear s0 s1 q1 peg hwx phg pcg hwk
                      go_wp2_with fail
                      go_ret2
                      exact BoolRes.mk (by rw [← HZ.out, ← HA.out, fc0 HS.out HOK.out, fa0 HS.out HOK.out, goodB_at (y := k + 1) (x := x + 1) (by omega) (by rw [HMK.out]; omega) HG.out]; rfl) ((HE.out.trans ⟨nq, osq, rfl⟩).below (Nat.le_refl _))
                  | true =>
                    cases r2 with
                    | true =>
                      have HG : Hid (cellGood ts rs (k + 1) (x + 1) = true) := Lib.hid (by rw [hcg]; rfl)
                      have HFE := Lib.hid hfE
                      have HFS := Lib.hid hfS
                      clear hcx hE hir hcr hA hok hcQ hfitE hfitS hrow eT eT1 hr1 hc1 hir1 hcy hsame1 hsame2 hlen1 eT2 hr2 hcg hfE hfS
                      as_aux_lemma =>
                        have s0 := fun q os => HBX.out.grown q os 0 (v := .int .i64 c0) rfl
                        have s1 := fun q os => HBX.out.grown q os 1 (v := .slice A n c) rfl
                        have peg := fun q os => (cell?_grow (wr.drewN q) os ⟨bx, ox + x, none⟩ (by have := World.block_lt_of_cell? wr _ pe; exact this)).trans pe
                        have phg := fun q os => (cell?_grow (wr.drewN q) os ⟨b, o + k, none⟩ (by have := World.block_lt_of_cell? wr _ ph; exact this)).trans ph
                        have pcg := fun q os => (cell?_grow (wr.drewN q) os ⟨by1, oy1 + (x + 1), none⟩ (by have := World.block_lt_of_cell? wr _ pc; exact this)).trans pc
                        clear pe ph pc
                        have hwx : IntKind.i64.wrap (x : Int) = (x : Int) := IntWalk.i64_in _ (by omega)
                        have hwk : IntKind.i64.wrap (k : Int) = (k : Int) := IntWalk.i64_in _ (by omega)
                        go_wp2_with fail
                        refine wp_region_quiet_grown mixed (by kernel_rfl) ?_
                        repeat (go_big_quiet_step (((first | (go_at_call 115; with_reducible refine Calls.grown_of (HFE.out _ ⟨_, _, rfl⟩)) | (go_at_call 115; with_reducible refine Calls.grown_of (HFS.out _ ⟨_, _, rfl⟩))))))
                        refine wpQuiet_nil ?_
                        intro _ hw'
                        obtain ⟨⟨nq, osq⟩, hw''⟩ := hw'
                        subst hw''
                        clear s0 s1 q1 peg hwx phg pcg hwk
                        go_wp2_with fail
                        refine ⟨⟨x + 1 + 1, by omega, by go_num, ?_, HX4.out.trans ⟨nq, osq, rfl⟩⟩, by simp [intOf]; omega⟩
                        intro j hj
                        by_cases hjx : j = x + 1
                        · subst hjx
                          exact HG.out
                        · exact HXX.out j (by omega)
                    | false =>
                      have HG : Hid (cellGood ts rs (k + 1) (x + 1) = false) := Lib.hid (by rw [hcg]; rfl)
                      have HFE := Lib.hid hfE
                      have HFS := Lib.hid hfS
                      clear hcx hE hir hcr hA hok hcQ hfitE hfitS hrow eT eT1 hr1 hc1 hir1 hcy hsame1 hsame2 hlen1 eT2 hr2 hcg hfE hfS
                      as_aux_lemma =>
                        have s0 := fun q os => HBX.out.grown q os 0 (v := .int .i64 c0) rfl
                        have s1 := fun q os => HBX.out.grown q os 1 (v := .slice A n c) rfl
                        have peg := fun q os => (cell?_grow (wr.drewN q) os ⟨bx, ox + x, none⟩ (by have := World.block_lt_of_cell? wr _ pe; exact this)).trans pe
                        have phg := fun q os => (cell?_grow (wr.drewN q) os ⟨b, o + k, none⟩ (by have := World.block_lt_of_cell? wr _ ph; exact this)).trans ph
                        have pcg := fun q os => (cell?_grow (wr.drewN q) os ⟨by1, oy1 + (x + 1), none⟩ (by have := World.block_lt_of_cell? wr _ pc; exact this)).trans pc
                        clear pe ph pc
                        have hwx : IntKind.i64.wrap (x : Int) = (x : Int) := IntWalk.i64_in _ (by omega)
                        have hwk : IntKind.i64.wrap (k : Int) = (k : Int) := IntWalk.i64_in _ (by omega)
                        go_wp2_with fail
                        refine wp_region_quiet_grown mixed (by kernel_rfl) ?_
                        repeat (go_big_quiet_step (((first | (go_at_call 115; with_reducible refine Calls.grown_of (HFE.out _ ⟨_, _, rfl⟩)) | (go_at_call 115; with_reducible refine Calls.grown_of (HFS.out _ ⟨_, _, rfl⟩))))))
                        refine wpQuiet_nil ?_
                        intro _ hw'
                        obtain ⟨⟨nq, osq⟩, hw''⟩ := hw'
                        subst hw''
                        clear s0 s1 q1 peg hwx phg pcg hwk
                        go_wp2_with fail
                        go_ret2
                        exact BoolRes.mk (by rw [← HZ.out, ← HA.out, fc0 HS.out HOK.out, fa0 HS.out HOK.out, goodB_at (y := k + 1) (x := x + 1) (by omega) (by rw [HMK.out]; omega) HG.out]; rfl) ((HE.out.trans ⟨nq, osq, rfl⟩).below (Nat.le_refl _))
            · clear hE
              go_wp2_with fail
              go_roundw
              case rel =>
                refine ⟨k + 1, by omega, by go_num, ?_, HX3.out.trans HX4.out⟩
                intro y x hy hx
                by_cases hyk : y = k
                · subst hyk
                  exact HXX.out x (by rw [HMK.out] at hx; omega)
                · exact H.out y x (by omega) hx
              case measure => simp [intOf]; omega
        · go_wp2_with fail
          go_ret2
          exact BoolRes.mk (by rw [← HZ.out, ← HA.out, fc0 HS.out HOK.out, fa0 HS.out HOK.out, goodB_all (fun y x hy hx => H.out y x (by omega) hx)]; rfl) ((HX2.out.trans HX3.out).below (Nat.le_refl _))
end Go.Proofs.Ytjoaoimebdkpaaa
