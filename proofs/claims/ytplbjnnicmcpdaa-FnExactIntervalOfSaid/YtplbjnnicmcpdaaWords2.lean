/- The model's two words of a row. -/
import Derived.Test.YtplbjnnicmcpdaaWords0
import Derived.Deep.RegionHeld3
namespace Go.Proofs.Ytplbjnnicmcpdaa
set_option linter.unusedVariables false
set_option linter.unusedSimpArgs false
open Go.RowKit Go.Sort

set_option maxRecDepth 100000 in
set_option maxHeartbeats 2000000 in
theorem l02Words_any (c0 : Int) (A : Option Addr) (n c : Nat) (ts : List Tl) (B : Option Addr) (m d : Nat) (xs : List Int) (w : World) (hn : n ≤ 1048576) (hl : ts.length = n) (hA : TR w w.heap.size A ts) (hm : m ≤ 1048576) (hlx : xs.length = m) (hB : IR w w.heap.size B xs) (hal : allT ts xs = true) :
    Calls Try.prog 67 #[.agg #[.int .i64 c0, .slice A n c], .slice B m d] w fun e w' => ∃ R0 p0 R1 p1, e = .returned (.tuple #[.slice R0 (colN ts xs).length p0, .slice R1 (colS ts xs).length p1]) ∧ Below w.heap.size w w' ∧ IWr w' w.heap.size w'.heap.size R0 (colN ts xs) ∧ IWr w' w.heap.size w'.heap.size R1 (colS ts xs) := by
  go_enter Try.func67, Try.ntmps67
  go_wp2_with fail
  obtain ⟨W0, hW0⟩ : ∃ W0, w.alloc (Obj.cells #[.int .i64 c0, .slice A n c] 31) = W0 := ⟨_, rfl⟩
  have hs0 : W0.heap.size = w.heap.size + 1 := by rw [← hW0]; simp
  have hE : Ext w W0 := by rw [← hW0]; exact (Ext.refl w).alloc _
  have hB0 : Blk W0 w.heap.size 31 #[.int .i64 c0, .slice A n c] := by rw [← hW0]; exact Blk.new w _ _
  rw [hW0]
  have o6 : ((W0.alloc (Obj.cells #[] 2)).alloc (Obj.cells #[] 2)).ownsRow W0.heap.size 2 1 (.slice (some ⟨w.heap.size + 1, 0, none⟩) 0 0) 0 (vis []) := by
    have := (World.ownsRow_made (base := W0.heap.size) (e := 2) (size := 1) W0 #[] 0 (Nat.le_refl _) (by unfold maxLen; omega) rfl).alloc (Obj.cells #[] 2)
    rw [hs0] at this ⊢
    exact this
  have o7 : ((W0.alloc (Obj.cells #[] 2)).alloc (Obj.cells #[] 2)).ownsRow W0.heap.size 2 1 (.slice (some ⟨w.heap.size + 1 + 1, 0, none⟩) 0 0) 0 (vis []) := by
    have := World.ownsRow_made (base := W0.heap.size) (e := 2) (size := 1) (W0.alloc (Obj.cells #[] 2)) #[] 0 (by simp) (by unfold maxLen; omega) rfl
    rw [show (W0.alloc (Obj.cells #[] 2)).heap.size = w.heap.size + 1 + 1 by simp [hs0]] at this
    exact this
  have b67 : Below W0.heap.size W0 ((W0.alloc (Obj.cells #[] 2)).alloc (Obj.cells #[] 2)) := ((Below.refl _ _).alloc (Nat.le_refl _) _).alloc (by simp) _
  have HH := Lib.hid (And.intro hs0 (And.intro hE hB0))
  have HI := Lib.hid (And.intro o6 (And.intro o7 b67))
  clear hW0 hs0 hE hB0 o6 o7 b67
  go_loopw [6, 7, 8] (fun v u i wr => ∃ k g h : Nat, k ≤ m ∧ i = .int .i64 k ∧ wr.ownsRow W0.heap.size 2 1 v k (vis ((colN ts xs).take k)) ∧ wr.ownsRow W0.heap.size 2 1 u k (vis ((colS ts xs).take k)) ∧ v.ownBlock = some g ∧ u.ownBlock = some h ∧ g ≠ h ∧ Below W0.heap.size W0 wr) (fun _ _ i _ => m - (intOf i).toNat)
  case atStart => exact ⟨0, w.heap.size + 1, w.heap.size + 1 + 1, Nat.zero_le _, rfl, HI.out.1, HI.out.2.1, rfl, rfl, by omega, HI.out.2.2⟩
  case round =>
    obtain ⟨k, g, h, hk, rfl, hown, hown2, hg, hh, hgh, hb⟩ := hrel
    have HO := Lib.hid hown
    have HP := Lib.hid hown2
    have HB := Lib.hid hb
    have HG := Lib.hid hg
    have HGH := Lib.hid hh
    have hE := HH.out.2.1.below (Nat.le_refl _)
    have hE2 := hE.trans (hb.mono (by have := HH.out.1; omega))
    by_cases hlt : k < m
    · obtain ⟨bx, ox, rfl, -, hcx⟩ := (hB.below hE2 (Nat.le_refl _)) (by omega)
      have q1 := hcx k (by omega)
      have hx := allT_in hal (k := k) (by omega)
      have EY := Lib.hid (colN_at ts (xs := xs) (k := k) (by omega))
      have EZ := Lib.hid (colS_at ts (xs := xs) (k := k) (by omega))
      generalize xs.getD k 0 = x at q1 hx EY EZ
      simp only [inT, decide_eq_true_eq, hl] at hx
      obtain ⟨j, rfl⟩ : ∃ j : Nat, x = (j : Int) := ⟨x.toNat, by omega⟩
      have hj3 : (j : Int) < (n : Int) := by omega
      obtain ⟨b, o, rfl, -, ht⟩ := (hA.below hE2 (Nat.le_refl _)) (by omega)
      have tj := (ht j (by omega)).2.1
      have tk := (ht j (by omega)).2.2.2
      simp only [Int.toNat_natCast] at EY EZ
      generalize (ts.getD j T0).2.1 = y at tj EY
      generalize (ts.getD j T0).2.2.2 = z at tk EZ
      have r1 := (HH.out.2.2.below hb HH.out.2.2.lt).rd 1 rfl
      have l0 : w.heap.size < W0.heap.size := by have := HH.out.1; omega
      have hbl : b < w.heap.size := by
        obtain ⟨b', o', e, h1, _⟩ := hA (by omega)
        cases e
        exact h1
      have hbx : bx < w.heap.size := by
        obtain ⟨b', o', e, h1, _⟩ := hB (by omega)
        cases e
        exact h1
      clear hown hown2 hg hh hb hA hB hcx ht hE hE2 hx
      have n0 : some w.heap.size = u6.ownBlock → False := fun e => by have := (HO.out.lt _ e.symm).1; omega
      have n1 : some bx = u6.ownBlock → False := fun e => by have := (HO.out.lt _ e.symm).1; omega
      have n2 : some b = u6.ownBlock → False := fun e => by have := (HO.out.lt _ e.symm).1; omega
      have N6 := Lib.hid (And.intro n0 (And.intro n1 n2))
      clear n0 n1 n2
      go_wp2_with fail
      go_region_held3 (fun w' => w'.cell? ⟨w.heap.size, 1, none⟩ = some (.slice (some ⟨b, o, none⟩) n c) ∧ w'.cell? ⟨bx, ox + k, none⟩ = some (.int .i64 (j : Int)) ∧ w'.cell? ⟨b, o + j * 4 + 1, none⟩ = some (.int .i64 y) ∧ w'.cell? ⟨b, o + j * 4 + 3, none⟩ = some (.int .i64 z))
        (first | go_keep | exact ⟨hgrow3.cell (by go_simp) N6.out.1, hgrow3.cell (by go_simp) N6.out.2.1, hgrow3.cell (by go_simp) N6.out.2.2, hgrow3.cell (by go_simp) N6.out.2.2⟩)
        (first | (refine step_push (by rfl) _ _ (by rfl) W0.heap.size _ k _ (by rfl) (HO.out.alloc _).drew wr.heap.size y (by rfl) (heap_alloc_new wr _) (by unfold maxLen; omega) (by omega) (by have := HB.out.size; simp; omega) ?_; intro v3 w3 hown3 hgrow3 hat3))
      obtain ⟨r1', q1', tj', tk'⟩ : w3.cell? ⟨w.heap.size, 1, none⟩ = some (.slice (some ⟨b, o, none⟩) n c) ∧ w3.cell? ⟨bx, ox + k, none⟩ = some (.int .i64 (j : Int)) ∧ w3.cell? ⟨b, o + j * 4 + 1, none⟩ = some (.int .i64 y) ∧ w3.cell? ⟨b, o + j * 4 + 3, none⟩ = some (.int .i64 z) := by assumption
      have hl7 := HP.out.lt h HGH.out
      have O3 := Lib.hid (istep (us := colN ts xs) (k := k) (y := y) (by rw [colN_len]; omega) EY.out.symm hown3)
      have P3 := Lib.hid (((HP.out.alloc (Obj.cells #[.int .i64 y] 2)).drew).kept hgrow3 (.inr (by rw [HG.out, HGH.out]; intro e; cases e; exact hgh rfl)))
      have B3 := Lib.hid (((HB.out.alloc HB.out.size _).drew).grown hgrow3 (by have := HB.out.size; simp; omega) (fun j hj => (HO.out.lt j hj).1))
      have G3 : ∃ g3, v3.ownBlock = some g3 ∧ g3 ≠ h := by
        rcases hat3 with e | e
        · exact ⟨g, e.trans HG.out, hgh⟩
        · exact ⟨_, e, by simp; omega⟩
      obtain ⟨g3, hg3, hgh3⟩ := G3
      have HG3 := Lib.hid hg3
      have n0 : some w.heap.size = u7.ownBlock → False := fun e => by have := (HP.out.lt _ e.symm).1; omega
      have n1 : some bx = u7.ownBlock → False := fun e => by have := (HP.out.lt _ e.symm).1; omega
      have n2 : some b = u7.ownBlock → False := fun e => by have := (HP.out.lt _ e.symm).1; omega
      have N7 := Lib.hid (And.intro n0 (And.intro n1 n2))
      clear n0 n1 n2 hown3 hgrow3 hat3 hg3 HO HP HB HG q1 tj tk r1 N6
      go_wp2_with fail
      go_region_held3 (fun w' => w'.cell? ⟨w.heap.size, 1, none⟩ = some (.slice (some ⟨b, o, none⟩) n c) ∧ w'.cell? ⟨bx, ox + k, none⟩ = some (.int .i64 (j : Int)) ∧ w'.cell? ⟨b, o + j * 4 + 1, none⟩ = some (.int .i64 y) ∧ w'.cell? ⟨b, o + j * 4 + 3, none⟩ = some (.int .i64 z))
        (first | go_keep | exact ⟨hgrow4.cell (by go_simp) N7.out.1, hgrow4.cell (by go_simp) N7.out.2.1, hgrow4.cell (by go_simp) N7.out.2.2, hgrow4.cell (by go_simp) N7.out.2.2⟩)
        (first | (refine step_push (by rfl) _ _ (by rfl) W0.heap.size _ k _ (by rfl) (P3.out.alloc _).drew w3.heap.size z (by rfl) (heap_alloc_new w3 _) (by unfold maxLen; omega) (by omega) (by have := B3.out.size; simp; omega) ?_; intro v4 w4 hown4 hgrow4 hat4))
      have hl6 := O3.out.lt g3 HG3.out
      have P4 := Lib.hid (istep (us := colS ts xs) (k := k) (y := z) (by rw [colS_len]; omega) EZ.out.symm hown4)
      have O4 := Lib.hid (((O3.out.alloc (Obj.cells #[.int .i64 z] 2)).drew).kept hgrow4 (.inr (by rw [HG3.out, HGH.out]; intro e; cases e; exact hgh3 rfl)))
      have B4 := Lib.hid (((B3.out.alloc B3.out.size _).drew).grown hgrow4 (by have := B3.out.size; simp; omega) (fun j hj => (P3.out.lt j hj).1))
      have G4 : ∃ h4, v4.ownBlock = some h4 ∧ g3 ≠ h4 := by
        rcases hat4 with e | e
        · exact ⟨h, e.trans HGH.out, hgh3⟩
        · exact ⟨_, e, by simp; omega⟩
      clear hown4 hgrow4 hat4 q1' tj' tk' r1' N7 P3 O3 B3
      obtain ⟨h4, hh4, hgh4⟩ := G4
      have HH4 := Lib.hid hh4
      clear hh4
      go_wp2_with fail
      go_roundw
      case rel => exact ⟨k + 1, g3, h4, by omega, by go_num, O4.out, P4.out, HG3.out, HH4.out, hgh4, B4.out⟩
      case measure => simp [intOf]; omega
    · clear hown hown2 hb hA hB hE hE2
      have hm1 := HO.out
      have hm2 := HP.out
      obtain rfl : k = m := by omega
      rw [List.take_of_length_le (by rw [colN_len]; omega)] at hm1
      rw [List.take_of_length_le (by rw [colS_len]; omega)] at hm2
      obtain ⟨A2, cap2, rfl, hcap2, htw2⟩ := own_iwr hm1 (by rw [colN_len]; omega)
      obtain ⟨A3, cap3, rfl, hcap3, htw3⟩ := own_iwr hm2 (by rw [colS_len]; omega)
      have HT := Lib.hid htw2
      have HT3 := Lib.hid htw3
      clear hm1 hm2 htw2 htw3 HO HP hg hh
      go_wp2_with fail
      go_ret2
      exact ⟨A2, cap2, A3, cap3, by rw [colN_len, colS_len, hlx]; rfl, (HH.out.2.1.below (Nat.le_refl _)).trans (HB.out.mono (by have := HH.out.1; omega)), HT.out.low (by have := HH.out.1; omega), HT3.out.low (by have := HH.out.1; omega)⟩
end Go.Proofs.Ytplbjnnicmcpdaa
