/- Plans with -1 alone: the model's. -/
import Derived.Test.YtjbnmkiidongmaaAppR
import Derived.Lib.Hide
namespace Go.Proofs.Ytjbnmkiidongmaa
set_option linter.unusedVariables false
set_option linter.unusedSimpArgs false
open Go.RowKit Go.Sort

/-- Rows of -1 alone. -/
def freeRows (h w : Nat) : List (List Int) := List.replicate h (List.replicate w (-1))
theorem freeRows_len (h w : Nat) : (freeRows h w).length = h := by simp [freeRows]
theorem freeRows_at {h w k : Nat} (hk : k < h) : (freeRows h w).getD k [] = List.replicate w (-1) := by simp [freeRows, List.getD, hk]
theorem freeRows_succ (h w : Nat) : freeRows h w ++ [List.replicate w (-1)] = freeRows (h + 1) w := by simp [freeRows, List.replicate_succ']
theorem minus_succ (k : Nat) : vis (List.replicate k (-1)) ++ [vi (-1)] = vis (List.replicate (k + 1) (-1)) := by simp [vis, List.replicate_succ']

set_option maxRecDepth 100000 in
set_option maxHeartbeats 1000000 in
theorem l03Free_any (h m : Nat) (w : World) (hh : h ≤ 8) (hm : m ≤ 8) :
    Calls Try.prog 60 #[.int .i64 (h : Int), .int .i64 (m : Int)] w fun e w' => ∃ A cap, e = .returned (.slice A h cap) ∧ Below w.heap.size w w' ∧ IWW w' w.heap.size w'.heap.size A (freeRows h m) := by
  go_enter Try.func60, Try.ntmps60
  go_wp2_with fail
  go_loopw [5, 6] (fun v i wr => ∃ k : Nat, k ≤ h ∧ i = .int .i64 k ∧ OwnRR wr w.heap.size v (freeRows k m) ∧ Below w.heap.size w wr) (fun _ i _ => h - (intOf i).toNat)
  case atStart => exact ⟨0, Nat.zero_le _, rfl, OwnRR.made w _ (Nat.le_refl _), (Below.refl _ _).alloc (Nat.le_refl _) _⟩
  case round =>
    obtain ⟨k, hk, rfl, hown, hb⟩ := hrel
    have HO := Lib.hid hown
    have HB := Lib.hid hb
    clear hown hb
    by_cases hlt : k < h
    · obtain ⟨W1, hW1⟩ : ∃ W1, W1 = wr := ⟨_, rfl⟩
      subst hW1
      go_wp2_with fail
      go_loopw [7, 8] (fun v i wr => ∃ j : Nat, j ≤ m ∧ i = .int .i64 j ∧ wr.ownsRow W1.heap.size 2 1 v j (vis (List.replicate j (-1))) ∧ Below W1.heap.size W1 wr) (fun _ i _ => m - (intOf i).toNat)
      case atStart => exact ⟨0, Nat.zero_le _, rfl, World.ownsRow_made (base := W1.heap.size) (e := 2) (size := 1) W1 #[] 0 (Nat.le_refl _) (by unfold maxLen; omega) rfl, (Below.refl _ _).alloc (Nat.le_refl _) _⟩
      case round =>
        obtain ⟨j, hj, rfl, hown, hb⟩ := hrel
        have HO2 := Lib.hid hown
        have HB2 := Lib.hid hb
        clear hown hb
        by_cases hlt2 : j < m
        · go_wp2_with (at_builtin; refine wpList_push rfl _ _ rfl W1.heap.size _ j _ rfl (HO2.out.alloc _) wr.heap.size (-1) rfl (heap_alloc_new wr _) ?c1 ?c2 ?c3 ?_)
          case c1 => unfold maxLen; omega
          case c2 => omega
          case c3 => have := HB2.out.size; simp; omega
          intro v' w3 hown' hgrow _
          have O3 := Lib.hid ((minus_succ j) ▸ hown')
          have B3 := Lib.hid ((HB2.out.alloc HB2.out.size _).grown hgrow (by have := HB2.out.size; simp; omega) (fun j hj => (HO2.out.lt j hj).1))
          clear hown' hgrow HO2 HB2
          go_wp2_with fail
          go_roundw
          case rel => exact ⟨j + 1, by omega, by go_num, O3.out, B3.out⟩
          case measure => simp [intOf]; omega
        · obtain rfl : j = m := by omega
          obtain ⟨A2, cap2, rfl, hcap, htw⟩ := own_iwr HO2.out (by simp)
          have HT := Lib.hid htw
          clear htw HO2
          go_wp2_with (at_builtin; refine wpList_pushR rfl _ _ rfl w.heap.size _ (freeRows k j) rfl W1 HO.out (HB2.out.alloc HB2.out.size _) wr.heap.size A2 j cap2 (List.replicate j (-1)) rfl (heap_alloc_new wr _) ?c1 ?c2 hcap ?c3 HB.out.size ?_)
          case c1 => exact (HT.out.ext ((Ext.refl _).alloc _)).up (by simp)
          case c2 => simp
          case c3 => rw [freeRows_len]; omega
          intro v' w3 hown' hgrow hlt3 hbel
          have O3 := Lib.hid ((freeRows_succ k j) ▸ hown')
          have B3 := Lib.hid (HB.out.trans (((HB2.out.mono HB.out.size).alloc (by have := HB2.out.size; have := HB.out.size; omega) _).trans hbel))
          clear hown' hgrow hbel HO HB HB2 HT
          go_wp2_with fail
          go_roundw
          case rel => exact ⟨k + 1, by omega, by go_num, O3.out, B3.out⟩
          case measure => simp [intOf]; omega
    · obtain rfl : k = h := by omega
      obtain ⟨A2, cap2, rfl, hcap, htw⟩ := HO.out.done
      rw [freeRows_len] at hcap ⊢
      have HT := Lib.hid htw
      clear htw HO
      go_wp2_with fail
      go_ret
      exact ⟨A2, cap2, rfl, HB.out, HT.out⟩
end Go.Proofs.Ytjbnmkiidongmaa
