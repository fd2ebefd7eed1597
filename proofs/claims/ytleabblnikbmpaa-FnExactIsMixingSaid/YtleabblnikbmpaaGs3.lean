/- Strong parts; the program's side. -/
import Derived.Test.YtleabblnikbmpaaGs2
import Derived.Lib.Hide
namespace Go.Proofs.Ytleabblnikbmpaa
set_option linter.unusedVariables false
set_option linter.unusedSimpArgs false
open Go.RowKit Go.Sort

/-- The words below k that are in a strong part with i. -/
def partK (Q : Rel) (i k : Nat) : List Int := ((List.range k).filter fun j => Q i j && Q j i).map fun j : Nat => (j : Int)
theorem partK_yes {Q : Rel} {i k : Nat} (h : (Q i k && Q k i) = true) : partK Q i (k + 1) = partK Q i k ++ [(k : Int)] := by
  simp [partK, List.range_succ, List.filter_append, h]
theorem partK_no {Q : Rel} {i k : Nat} (h : (Q i k && Q k i) = false) : partK Q i (k + 1) = partK Q i k := by
  simp [partK, List.range_succ, List.filter_append, h]
theorem partK_le (Q : Rel) (i k : Nat) : (partK Q i k).length ≤ k := by
  unfold partK
  rw [List.length_map]
  exact Nat.le_trans (List.length_filter_le _ _) (by rw [List.length_range]; exact Nat.le_refl _)
theorem partK_head (Q : Rel) {n i : Nat} (hi : i < n) : isFirst Q i = (decide (0 < (partK Q i n).length) && decide ((partK Q i n).getD 0 0 = (i : Int))) := by
  rw [← head_first hi]
  have e : partK Q i n = (partOf Q n i).map fun j : Nat => (j : Int) := rfl
  rw [e, List.length_map]
  by_cases h : 0 < (partOf Q n i).length
  · have e2 : ((partOf Q n i).map fun j : Nat => (j : Int)).getD 0 0 = (((partOf Q n i).getD 0 0 : Nat) : Int) := by simp [List.getD, h]
    rw [e2]
    by_cases h2 : (partOf Q n i).getD 0 0 = i
    · rw [decide_eq_true h2, decide_eq_true (by omega : (((partOf Q n i).getD 0 0 : Nat) : Int) = (i : Int))]
    · rw [decide_eq_false h2, decide_eq_false (by omega : ¬ (((partOf Q n i).getD 0 0 : Nat) : Int) = (i : Int))]
  · rw [decide_eq_false h]; rfl
theorem partsL_len (Q : Rel) (n m : Nat) : (partsL Q n m).length ≤ m := by
  unfold partsL
  rw [List.length_map]
  exact Nat.le_trans (List.length_filter_le _ _) (by rw [List.length_range]; exact Nat.le_refl _)

set_option maxRecDepth 100000 in
set_option maxHeartbeats 1000000 in
theorem strongParts_any (A : Option Addr) (n c : Nat) (f : Nat → Nat → Int) (w : World) (hn : n ≤ 40) (hA : IRR w w.heap.size A (matL n f)) :
    Calls Try.prog 66 #[.slice A n c] w fun e w' => ∃ T p, e = .returned (.slice T (partsL (fwR (relF f) n) n n).length p) ∧ Below w.heap.size w w' ∧ IWW w' w.heap.size w'.heap.size T (partsL (fwR (relF f) n) n n) := by
  have hcw := connectedWords_any A n c f w hn hA
  generalize fwR (relF f) n = Q at *
  have HCW := Lib.hid hcw
  clear hcw hA
  go_enter Try.func66, Try.ntmps66
  go_wp2_with fail
  refine HCW.out.mono ?_
  rintro e W1 ⟨b, G, q, rfl, hb1, hmat⟩
  have HM := Lib.hid hmat
  have B1 := Lib.hid hb1
  have hsz1 := hb1.size
  clear hb1 hmat
  go_wp2_with fail
  go_loopw [4, 12] (fun v ii wr => ∃ i : Nat, i ≤ n ∧ ii = .int .i64 i ∧ OwnRR wr W1.heap.size v (partsL Q n i) ∧ Below W1.heap.size W1 wr) (fun _ ii _ => n - (intOf ii).toNat)
  case atStart => exact ⟨0, Nat.zero_le _, rfl, OwnRR.nil _ _, Below.refl _ _⟩
  case round =>
    obtain ⟨i, hi, rfl, hown, hb⟩ := hrel
    have HO := Lib.hid hown
    have HB := Lib.hid hb
    have hszw := hb.size
    clear hown hb
    by_cases hlt : i < n
    · have hlt3 : (i : Int) < (n : Int) := by omega
      obtain ⟨WR, hWR⟩ : ∃ W1, W1 = wr := ⟨_, rfl⟩
      subst hWR
      go_wp2_with fail
      go_loopw [6, 17] (fun v kk wr => ∃ k : Nat, k ≤ n ∧ kk = .int .i64 k ∧ wr.ownsRow WR.heap.size 2 1 v (partK Q i k).length (vis (partK Q i k)) ∧ Below WR.heap.size WR wr) (fun _ kk _ => n - (intOf kk).toNat)
      case atStart => exact ⟨0, Nat.zero_le _, rfl, World.ownsRow_nil _ _ _ _, Below.refl _ _⟩
      case round =>
        obtain ⟨k, hk, rfl, hown, hb⟩ := hrel
        have HO2 := Lib.hid hown
        have HB2 := Lib.hid hb
        have hszk := hb.size
        have hle := partK_le Q i k
        by_cases hltk : k < n
        · have hltk3 : (k : Int) < (n : Int) := by omega
          have hmm := HM.out.below (HB.out.trans (hb.mono hszw))
          have e1 := hmm.cell i hlt
          have e2 := hmm.cell k hltk
          have s1 := (hmm.at_ hlt hltk).1
          have s2 := (hmm.at_ hltk hlt).1
          simp only [Nat.zero_add] at e1 e2 s1 s2
          have HY := Lib.hid (fun h => partK_yes (Q := Q) (i := i) (k := k) h)
          have HN := Lib.hid (fun h => partK_no (Q := Q) (i := i) (k := k) h)
          obtain ⟨xs, hxs⟩ : ∃ xs, xs = partK Q i k := ⟨_, rfl⟩
          rw [← hxs] at HY HN HO2 hle
          generalize Q i k = u1 at *
          generalize Q k i = u2 at *
          clear hmm hown hb hxs
          cases u1 with
          | false =>
            have HO3 := Lib.hid (show wr.ownsRow WR.heap.size 2 1 _ (partK Q i (k + 1)).length (vis (partK Q i (k + 1))) by rw [HN.out rfl]; exact HO2.out)
            go_wp2_with fail
            go_roundw
            case rel => first | exact ⟨k + 1, by omega, by go_num, HO3.out, HB2.out⟩ | ((repeat apply Exists.intro); exact ⟨⟨k + 1, by omega, by go_num, HO3.out, HB2.out⟩, rfl⟩)
            case measure => simp [intOf]; omega
          | true =>
            cases u2 with
            | false =>
              have HO3 := Lib.hid (show wr.ownsRow WR.heap.size 2 1 _ (partK Q i (k + 1)).length (vis (partK Q i (k + 1))) by rw [HN.out rfl]; exact HO2.out)
              go_wp2_with fail
              go_roundw
              case rel => first | exact ⟨k + 1, by omega, by go_num, HO3.out, HB2.out⟩ | ((repeat apply Exists.intro); exact ⟨⟨k + 1, by omega, by go_num, HO3.out, HB2.out⟩, rfl⟩)
              case measure => simp [intOf]; omega
            | true =>
              go_wp2_with (at_builtin; refine wpList_push1 rfl _ _ rfl WR.heap.size _ xs rfl (own_belowA HO2.out (((Ext.refl _).alloc _).below (Nat.le_refl _))) wr.heap.size (k : Int) rfl (heap_alloc_new wr _) ?c1 ?c2 ?_)
              case c1 => omega
              case c2 => simp; omega
              intro v' w3 hown' hgrow _
              have O3 := Lib.hid (show w3.ownsRow WR.heap.size 2 1 v' (partK Q i (k + 1)).length (vis (partK Q i (k + 1))) by rw [HY.out rfl]; simpa using hown')
              have B3 := Lib.hid ((HB2.out.alloc hszk _).grown hgrow (by simp; omega) (fun j hj => (HO2.out.lt j hj).1))
              clear hown' hgrow
              go_wp2_with fail
              go_roundw
              case rel => first | exact ⟨k + 1, by omega, by go_num, O3.out, B3.out⟩ | ((repeat apply Exists.intro); exact ⟨⟨k + 1, by omega, by go_num, O3.out, B3.out⟩, rfl⟩)
              case measure => simp [intOf]; omega
        · obtain rfl : k = n := by omega
          have HPH := Lib.hid (partK_head Q hlt)
          have HPE := Lib.hid (show (partOf Q k i).map (fun j : Nat => (j : Int)) = partK Q i k from rfl)
          have HY := Lib.hid (fun h => partsL_yes (Q := Q) (n := k) (m := i) h)
          have HN := Lib.hid (fun h => partsL_no (Q := Q) (n := k) (m := i) h)
          have hpl := partsL_len Q k i
          rw [HPE.out] at HY
          obtain ⟨xs, hxs⟩ : ∃ xs, xs = partK Q i k := ⟨_, rfl⟩
          rw [← hxs] at HY hown HPH hle
          clear hxs
          obtain ⟨A2, cap2, rfl, hcap, hw2⟩ := own_iwr hown rfl
          have HW2 := Lib.hid hw2
          have HBF := Lib.hid (HB.out.trans (hb.mono hszw))
          have HORR := Lib.hid (HO.out.below hb)
          by_cases h0 : 0 < xs.length
          · obtain ⟨bx, ox, rfl, -, hcx⟩ := hw2.ir h0
            have q0 := hcx 0 h0
            rw [Nat.add_zero] at q0
            have h03 : (0 : Int) < (xs.length : Int) := by omega
            have HPH2 := Lib.hid (show isFirst Q i = decide (xs.getD 0 0 = (i : Int)) by rw [HPH.out, decide_eq_true h0, Bool.true_and])
            generalize xs.getD 0 0 = y at q0 HPH2
            clear hown hb hw2 hcx
            by_cases hy : y = (i : Int)
            · have HPL := Lib.hid (HY.out (by rw [HPH2.out, decide_eq_true hy]))
              subst hy
              generalize hacc : partsL Q k i = acc at *
              have HAC := Lib.hid hacc
              clear hacc
              go_wp2_with (at_builtin; refine wpList_pushR rfl _ _ rfl W1.heap.size _ acc rfl WR HO.out (HB2.out.trans ((((Ext.refl wr).alloc _).below (Nat.le_refl wr.heap.size)).mono hszk)) wr.heap.size (some ⟨bx, ox, none⟩) xs.length cap2 xs rfl (heap_alloc_new wr _) ((HW2.out.ext ((Ext.refl _).alloc _)).up (by simp)) rfl hcap (by omega) hszw ?_)
              intro v' w3 hown' hgrow _ hb3
              have O3 := Lib.hid (show OwnRR w3 W1.heap.size v' (partsL Q k (i + 1)) by rw [HPL.out]; exact hown')
              have B3 := Lib.hid ((HBF.out.alloc (by omega) _).trans hb3)
              clear hown' hgrow hb3
              go_wp2_with fail
              go_roundw
              case rel => first | exact ⟨i + 1, by omega, by go_num, O3.out, B3.out⟩ | ((repeat apply Exists.intro); exact ⟨⟨i + 1, by omega, by go_num, O3.out, B3.out⟩, rfl⟩)
              case measure => simp [intOf]; omega
            · have O3 := Lib.hid (show OwnRR wr W1.heap.size _ (partsL Q k (i + 1)) by rw [HN.out (by rw [HPH2.out, decide_eq_false hy])]; exact HORR.out)
              have hyb : (y == (i : Int)) = false := by simpa using hy
              go_wp2_with fail
              go_roundw
              case rel => first | exact ⟨i + 1, by omega, by go_num, O3.out, HBF.out⟩ | ((repeat apply Exists.intro); exact ⟨⟨i + 1, by omega, by go_num, O3.out, HBF.out⟩, rfl⟩)
              case measure => simp [intOf]; omega
          · have O3 := Lib.hid (show OwnRR wr W1.heap.size _ (partsL Q k (i + 1)) by rw [HN.out (by rw [HPH.out, decide_eq_false h0]; rfl)]; exact HORR.out)
            have h03 : ¬ (0 : Int) < (xs.length : Int) := by omega
            clear hown hb hw2
            go_wp2_with fail
            go_roundw
            case rel => first | exact ⟨i + 1, by omega, by go_num, O3.out, HBF.out⟩ | ((repeat apply Exists.intro); exact ⟨⟨i + 1, by omega, by go_num, O3.out, HBF.out⟩, rfl⟩)
            case measure => simp [intOf]; omega
    · obtain rfl : i = n := by omega
      obtain ⟨T, p, rfl, -, hiww⟩ := HO.out.done
      have HI := Lib.hid (hiww.up_ hsz1 (Nat.le_refl _))
      have HBF := Lib.hid (B1.out.trans (HB.out.mono hsz1))
      clear hiww HO
      go_wp2_with fail
      go_ret
      first | exact ⟨T, p, rfl, HBF.out, HI.out⟩ | exact ⟨T, ⟨p, rfl⟩, HBF.out, HI.out⟩
end Go.Proofs.Ytleabblnikbmpaa
