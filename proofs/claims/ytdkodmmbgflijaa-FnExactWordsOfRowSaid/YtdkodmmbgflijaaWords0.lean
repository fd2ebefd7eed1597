/- The words of a row, on both sides. -/
import Derived.Test.YtdkodmmbgflijaaRow2
import Derived.Test.YtdkodmmbgflijaaAppI
import Derived.Outline
namespace Go.Proofs.Ytdkodmmbgflijaa
set_option linter.unusedVariables false
set_option linter.unusedSimpArgs false
open Go.RowKit Go.Sort

/-- The north colours of the tiles with these numbers. -/
def colN (ts : List Tl) (xs : List Int) : List Int := xs.map fun x => (ts.getD x.toNat T0).2.1
theorem colN_len (ts : List Tl) (xs : List Int) : (colN ts xs).length = xs.length := by simp [colN]
theorem colN_at (ts : List Tl) {xs : List Int} {k : Nat} (hk : k < xs.length) : (colN ts xs).getD k 0 = (ts.getD (xs.getD k 0).toNat T0).2.1 := by simp [colN, List.getD, hk]
set_option maxRecDepth 100000 in
set_option maxHeartbeats 1000000 in
theorem coloursAt_N (c0 : Int) (A : Option Addr) (n c : Nat) (ts : List Tl) (B : Option Addr) (m d : Nat) (xs : List Int) (w : World) (hn : n ≤ 1048576) (hl : ts.length = n) (hA : TR w w.heap.size A ts) (hm : m ≤ 1048576) (hlx : xs.length = m) (hB : IR w w.heap.size B xs) (hal : allT ts xs = true) :
    Calls Try.prog 78 #[.agg #[.int .i64 c0, .slice A n c], .slice B m d, .int .i64 1] w fun e w' => ∃ A' cap, e = .returned (.slice A' (colN ts xs).length cap) ∧ Below w.heap.size w w' ∧ IWr w' w.heap.size w'.heap.size A' (colN ts xs) := by
  go_enter Try.func78, Try.ntmps78
  go_wp2_with fail
  obtain ⟨W0, hW0⟩ : ∃ W0, w.alloc (Obj.cells #[.int .i64 c0, .slice A n c] 29) = W0 := ⟨_, rfl⟩
  have hs0 : W0.heap.size = w.heap.size + 1 := by rw [← hW0]; simp
  have hE : Ext w W0 := by rw [← hW0]; exact (Ext.refl w).alloc _
  have hB0 : Blk W0 w.heap.size 29 #[.int .i64 c0, .slice A n c] := by rw [← hW0]; exact Blk.new w _ _
  have HH := Lib.hid (And.intro hs0 (And.intro hE hB0))
  rw [hW0]
  clear hW0 hs0 hE hB0
  go_loopw [7, 12] (fun v i wr => ∃ k : Nat, k ≤ m ∧ i = .int .i64 k ∧ wr.ownsRow W0.heap.size 2 1 v k (vis ((colN ts xs).take k)) ∧ Below W0.heap.size W0 wr) (fun _ i _ => m - (intOf i).toNat)
  case atStart => exact ⟨0, Nat.zero_le _, rfl, World.ownsRow_nil _ _ _ _, Below.refl _ _⟩
  case round =>
    obtain ⟨k, hk, rfl, hown, hb⟩ := hrel
    have HO := Lib.hid hown
    have HB := Lib.hid hb
    have hE := HH.out.2.1.below (Nat.le_refl _)
    have hE2 := hE.trans (hb.mono (by have := HH.out.1; omega))
    by_cases hlt : k < m
    · obtain ⟨bx, ox, rfl, -, hcx⟩ := (hB.below hE2 (Nat.le_refl _)) (by omega)
      have q1 := hcx k (by omega)
      have hx := allT_in hal (k := k) (by omega)
      have EY := Lib.hid (colN_at ts (xs := xs) (k := k) (by omega))
      generalize xs.getD k 0 = x at q1 hx EY
      simp only [inT, decide_eq_true_eq, hl] at hx
      obtain ⟨j, rfl⟩ : ∃ j : Nat, x = (j : Int) := ⟨x.toNat, by omega⟩
      have hj3 : (j : Int) < (n : Int) := by omega
      obtain ⟨b, o, rfl, -, ht⟩ := (hA.below hE2 (Nat.le_refl _)) (by omega)
      have tj := (ht j (by omega)).2.1
      simp only [Int.toNat_natCast] at EY
      generalize (ts.getD j T0).2.1 = y at tj EY
      have r1 := (HH.out.2.2.below hb HH.out.2.2.lt).rd 1 rfl
      clear hown hb hA hB hcx ht hE hE2 hx
      go_wp2_with (at_builtin; refine wpList_push rfl _ _ rfl W0.heap.size _ k _ rfl (HO.out.alloc _) wr.heap.size y rfl (heap_alloc_new wr _) ?c1 ?c2 ?c3 ?_)
      case c1 => unfold maxLen; omega
      case c2 => omega
      case c3 => have := HB.out.size; simp; omega
      intro v' w3 hown' hgrow _
      have O3 := Lib.hid (istep (us := colN ts xs) (k := k) (y := y) (by rw [colN_len]; omega) EY.out.symm hown')
      have B3 := Lib.hid ((HB.out.alloc HB.out.size _).grown hgrow (by have := HB.out.size; simp; omega) (fun j hj => (HO.out.lt j hj).1))
      clear hown' hgrow HO HB q1 tj r1
      go_wp2_with fail
      go_roundw
      case rel => exact ⟨k + 1, by omega, by go_num, O3.out, B3.out⟩
      case measure => simp [intOf]; omega
    · clear hown hb hA hB hE hE2
      have hmk := HO.out
      obtain rfl : k = m := by omega
      rw [List.take_of_length_le (by rw [colN_len]; omega)] at hmk
      obtain ⟨A2, cap2, rfl, hcap, htw⟩ := own_iwr hmk (by rw [colN_len]; omega)
      have HT := Lib.hid htw
      clear hmk htw HO
      go_wp2_with fail
      go_ret
      exact ⟨A2, cap2, by rw [colN_len, hlx]; rfl, (HH.out.2.1.below (Nat.le_refl _)).trans (HB.out.mono (by have := HH.out.1; omega)), HT.out.low (by have := HH.out.1; omega)⟩

/-- The south colours of the tiles with these numbers. -/
def colS (ts : List Tl) (xs : List Int) : List Int := xs.map fun x => (ts.getD x.toNat T0).2.2.2
theorem colS_len (ts : List Tl) (xs : List Int) : (colS ts xs).length = xs.length := by simp [colS]
theorem colS_at (ts : List Tl) {xs : List Int} {k : Nat} (hk : k < xs.length) : (colS ts xs).getD k 0 = (ts.getD (xs.getD k 0).toNat T0).2.2.2 := by simp [colS, List.getD, hk]
set_option maxRecDepth 100000 in
set_option maxHeartbeats 1000000 in
theorem coloursAt_S (c0 : Int) (A : Option Addr) (n c : Nat) (ts : List Tl) (B : Option Addr) (m d : Nat) (xs : List Int) (w : World) (hn : n ≤ 1048576) (hl : ts.length = n) (hA : TR w w.heap.size A ts) (hm : m ≤ 1048576) (hlx : xs.length = m) (hB : IR w w.heap.size B xs) (hal : allT ts xs = true) :
    Calls Try.prog 78 #[.agg #[.int .i64 c0, .slice A n c], .slice B m d, .int .i64 3] w fun e w' => ∃ A' cap, e = .returned (.slice A' (colS ts xs).length cap) ∧ Below w.heap.size w w' ∧ IWr w' w.heap.size w'.heap.size A' (colS ts xs) := by
  go_enter Try.func78, Try.ntmps78
  go_wp2_with fail
  obtain ⟨W0, hW0⟩ : ∃ W0, w.alloc (Obj.cells #[.int .i64 c0, .slice A n c] 29) = W0 := ⟨_, rfl⟩
  have hs0 : W0.heap.size = w.heap.size + 1 := by rw [← hW0]; simp
  have hE : Ext w W0 := by rw [← hW0]; exact (Ext.refl w).alloc _
  have hB0 : Blk W0 w.heap.size 29 #[.int .i64 c0, .slice A n c] := by rw [← hW0]; exact Blk.new w _ _
  have HH := Lib.hid (And.intro hs0 (And.intro hE hB0))
  rw [hW0]
  clear hW0 hs0 hE hB0
  go_loopw [7, 12] (fun v i wr => ∃ k : Nat, k ≤ m ∧ i = .int .i64 k ∧ wr.ownsRow W0.heap.size 2 1 v k (vis ((colS ts xs).take k)) ∧ Below W0.heap.size W0 wr) (fun _ i _ => m - (intOf i).toNat)
  case atStart => exact ⟨0, Nat.zero_le _, rfl, World.ownsRow_nil _ _ _ _, Below.refl _ _⟩
  case round =>
    obtain ⟨k, hk, rfl, hown, hb⟩ := hrel
    have HO := Lib.hid hown
    have HB := Lib.hid hb
    have hE := HH.out.2.1.below (Nat.le_refl _)
    have hE2 := hE.trans (hb.mono (by have := HH.out.1; omega))
    by_cases hlt : k < m
    · obtain ⟨bx, ox, rfl, -, hcx⟩ := (hB.below hE2 (Nat.le_refl _)) (by omega)
      have q1 := hcx k (by omega)
      have hx := allT_in hal (k := k) (by omega)
      have EY := Lib.hid (colS_at ts (xs := xs) (k := k) (by omega))
      generalize xs.getD k 0 = x at q1 hx EY
      simp only [inT, decide_eq_true_eq, hl] at hx
      obtain ⟨j, rfl⟩ : ∃ j : Nat, x = (j : Int) := ⟨x.toNat, by omega⟩
      have hj3 : (j : Int) < (n : Int) := by omega
      obtain ⟨b, o, rfl, -, ht⟩ := (hA.below hE2 (Nat.le_refl _)) (by omega)
      have tj := (ht j (by omega)).2.2.2
      simp only [Int.toNat_natCast] at EY
      generalize (ts.getD j T0).2.2.2 = y at tj EY
      have r1 := (HH.out.2.2.below hb HH.out.2.2.lt).rd 1 rfl
      clear hown hb hA hB hcx ht hE hE2 hx
      go_wp2_with (at_builtin; refine wpList_push rfl _ _ rfl W0.heap.size _ k _ rfl (HO.out.alloc _) wr.heap.size y rfl (heap_alloc_new wr _) ?c1 ?c2 ?c3 ?_)
      case c1 => unfold maxLen; omega
      case c2 => omega
      case c3 => have := HB.out.size; simp; omega
      intro v' w3 hown' hgrow _
      have O3 := Lib.hid (istep (us := colS ts xs) (k := k) (y := y) (by rw [colS_len]; omega) EY.out.symm hown')
      have B3 := Lib.hid ((HB.out.alloc HB.out.size _).grown hgrow (by have := HB.out.size; simp; omega) (fun j hj => (HO.out.lt j hj).1))
      clear hown' hgrow HO HB q1 tj r1
      go_wp2_with fail
      go_roundw
      case rel => exact ⟨k + 1, by omega, by go_num, O3.out, B3.out⟩
      case measure => simp [intOf]; omega
    · clear hown hb hA hB hE hE2
      have hmk := HO.out
      obtain rfl : k = m := by omega
      rw [List.take_of_length_le (by rw [colS_len]; omega)] at hmk
      obtain ⟨A2, cap2, rfl, hcap, htw⟩ := own_iwr hmk (by rw [colS_len]; omega)
      have HT := Lib.hid htw
      clear hmk htw HO
      go_wp2_with fail
      go_ret
      exact ⟨A2, cap2, by rw [colS_len, hlx]; rfl, (HH.out.2.1.below (Nat.le_refl _)).trans (HB.out.mono (by have := HH.out.1; omega)), HT.out.low (by have := HH.out.1; omega)⟩

end Go.Proofs.Ytdkodmmbgflijaa
