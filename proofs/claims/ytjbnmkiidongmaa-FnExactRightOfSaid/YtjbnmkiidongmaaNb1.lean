/- Neighbours: the model's side. -/
import Derived.Test.YtjbnmkiidongmaaNumM
import Derived.Test.YtjbnmkiidongmaaInts
import Derived.Test.YtjbnmkiidongmaaAppI
import Derived.Lib.Hide
namespace Go.Proofs.Ytjbnmkiidongmaa
set_option linter.unusedVariables false
set_option linter.unusedSimpArgs false
open Go.RowKit Go.Sort

/-- Those of the first k numbers for which fb holds. -/
def nbl (fb : Nat → Bool) (k : Nat) : List Int := ((List.range k).filter fb).map fun (j : Nat) => (j : Int)
theorem nbl_yes {fb : Nat → Bool} {k : Nat} (h : fb k = true) : nbl fb (k + 1) = nbl fb k ++ [(k : Int)] := by simp [nbl, List.range_succ, List.filter_append, h]
theorem nbl_no {fb : Nat → Bool} {k : Nat} (h : fb k = false) : nbl fb (k + 1) = nbl fb k := by simp [nbl, List.range_succ, List.filter_append, h]
theorem nbl_le (fb : Nat → Bool) (k : Nat) : (nbl fb k).length ≤ k := by
  have := List.length_filter_le fb (List.range k)
  simpa [nbl] using this
def fitE (ts : List Tl) (i k : Nat) : Bool := decide ((ts.getD i T0).2.2.1 = (ts.getD k T0).1)
def fitS (ts : List Tl) (i k : Nat) : Bool := decide ((ts.getD i T0).2.2.2 = (ts.getD k T0).2.1)
theorem numCode_ok {c0 : Int} {ts : List Tl} {i : Int} (h : numCode c0 ts i = 0) : isSet c0 ts = true ∧ 0 ≤ i ∧ i < ts.length := by
  unfold numCode at h
  split at h
  · rename_i hs
    split at h
    · rename_i hi
      exact ⟨hs, hi⟩
    · cases h
  · cases h

set_option maxRecDepth 100000 in
set_option maxHeartbeats 2000000 in
theorem specRight_0 (c0 : Int) (A : Option Addr) (n c : Nat) (ts : List Tl) (i : Nat) (w : World) (hn : n ≤ 1048576) (hl : ts.length = n) (hA : TR w w.heap.size A ts) (hc0 : numCode c0 ts (i : Int) = 0) :
    Calls Try.prog 35 #[.agg #[.int .i64 c0, .slice A n c], .int .i64 (i : Int)] w fun e w' => ∃ R p, e = .returned (.tuple #[.slice R (nbl (fitE ts i) n).length p, .int .i64 0]) ∧ Below w.heap.size w w' ∧ IWr w' w.heap.size w'.heap.size R (nbl (fitE ts i) n) := by
  have hi := (numCode_ok hc0).2.2
  rw [hl] at hi
  have hi' : i < n := by omega
  have hnum : ∀ W, Ext w W → Calls Try.prog 74 #[.agg #[.int .i64 c0, .slice A n c], .int .i64 (i : Int)] W _ := fun W hW => l01Numbers_any c0 A n c ts i W hn hl ((hA.ext hW (Nat.le_refl _)).more (hW.below (Nat.le_refl _)).size)
  rw [hc0] at hnum
  have HN := Lib.hid hnum
  clear hnum
  go_enter Try.func35, Try.ntmps35
  go_wp2_with fail
  refine (HN.out _ ((Ext.refl w).alloc _)).mono ?_
  rintro e W0 ⟨rfl, hx⟩
  have hE := ((Ext.refl w).alloc (Obj.cells #[.int .i64 c0, .slice A n c] 35)).trans hx
  have hB0 : Blk W0 w.heap.size 35 #[.int .i64 c0, .slice A n c] := (Blk.new w _ _).ext hx
  have hs0 : w.heap.size < W0.heap.size := hB0.lt
  have HH := Lib.hid (And.intro hE hB0)
  clear hx hE hB0
  go_wp2_with fail
  go_loopw [7, 8] (fun v i' wr => ∃ k : Nat, k ≤ n ∧ i' = .int .i64 k ∧ wr.ownsRow W0.heap.size 2 1 v (nbl (fitE ts i) k).length (vis (nbl (fitE ts i) k)) ∧ Below W0.heap.size W0 wr) (fun _ i' _ => n - (intOf i').toNat)
  case atStart => exact ⟨0, Nat.zero_le _, rfl, show _ from World.ownsRow_made (base := W0.heap.size) (e := 2) (size := 1) W0 #[] 0 (Nat.le_refl _) (by unfold maxLen; omega) rfl, (Below.refl _ _).alloc (Nat.le_refl _) _⟩
  case round =>
    obtain ⟨k, hk, rfl, hown, hb⟩ := hrel
    have HO := Lib.hid hown
    have HB := Lib.hid hb
    have r1 := (HH.out.2.below hb HH.out.2.lt).rd 1 rfl
    by_cases hlt : k < n
    · obtain ⟨b, o, rfl, -, ht⟩ := ((hA.ext HH.out.1 (Nat.le_refl _)).below hb (by omega)) (by omega)
      have ti := (ht i (by omega)).2.2.1
      have tk := (ht k (by omega)).1
      have hfb : fitE ts i k = decide ((ts.getD i T0).2.2.1 = (ts.getD k T0).1) := rfl
      generalize (ts.getD i T0).2.2.1 = y at ti hfb
      generalize (ts.getD k T0).1 = x at tk hfb
      have HF := Lib.hid hfb
      have hle := nbl_le (fitE ts i) k
      clear hown hb hA ht hfb
      by_cases hxy : x = y
      · subst hxy
        have hdx : decide (x = x) = true := decide_eq_true rfl
        have HY := Lib.hid (nbl_yes (HF.out.trans hdx))
        clear hdx
        generalize hN : nbl (fitE ts i) k = ys at HO HY hle
        have HNN := Lib.hid hN
        clear hN
        go_wp2_with fail
        go_quiet (fail)
        clear ti tk r1
        go_wp2_with (at_builtin; refine wpList_push rfl _ _ rfl W0.heap.size _ ys.length _ rfl (((iown_ext HO.out ((Ext.refl _).drewN _))).alloc _) _ (k : Int) rfl (heap_alloc_new _ _) ?c1 ?c2 ?c3 ?_)
        case c1 => unfold maxLen; omega
        case c2 => omega
        case c3 => have := HB.out.size; simp; omega
        intro v' w3 hown' hgrow _
        rw [show vis ys ++ [vi (k : Int)] = vis (ys ++ [(k : Int)]) by simp [vis], ← HY.out, show ys.length + 1 = (nbl (fitE ts i) (k + 1)).length by rw [HY.out]; simp] at hown'
        have O3 := Lib.hid hown'
        have B3 := Lib.hid (((HB.out.trans (((Ext.refl _).drewN _).below HB.out.size)).alloc (by have := HB.out.size; simp; omega) _).grown hgrow (by have := HB.out.size; simp; omega) (fun j hj => (HO.out.lt j hj).1))
        have hlen : (nbl (fitE ts i) (k + 1)).length = ys.length + 1 := by rw [HY.out]; simp
        have HLEN := Lib.hid hlen
        clear hown' hgrow HO HB hlen
        go_wp2_with fail
        go_roundw
        case rel => exact ⟨k + 1, by omega, by go_num, O3.out, B3.out⟩
        case measure => simp [intOf]; omega
      · have hdx : decide (y = x) = false := decide_eq_false (fun e => hxy e.symm)
        have HY := Lib.hid (nbl_no (HF.out.trans hdx))
        have hxy2 : decide (x = y) = false := decide_eq_false hxy
        clear hdx
        go_wp2_with fail
        go_quiet (fail)
        clear ti tk r1
        go_wp2_with fail
        have hE2 := (Ext.refl wr).drewN 0
        go_roundw
        case rel => exact ⟨k + 1, by omega, by go_num, by rw [HY.out]; exact iown_ext HO.out ((Ext.refl _).drewN _), HB.out.trans (((Ext.refl _).drewN _).below HB.out.size)⟩
        case measure => simp [intOf]; omega
    · obtain rfl : k = n := by omega
      clear hown hb hA
      obtain ⟨A2, cap2, rfl, hcap, htw⟩ := own_iwr HO.out rfl
      have HT := Lib.hid htw
      clear htw HO
      go_wp2_with fail
      go_ret2
      exact ⟨A2, cap2, rfl, (HH.out.1.below (Nat.le_refl _)).trans (HB.out.mono (by omega)), HT.out.low (by omega)⟩

set_option maxHeartbeats 1000000 in
theorem specRight_no (c0 : Int) (A : Option Addr) (n c : Nat) (ts : List Tl) (i z : Int) (w : World) (hn : n ≤ 1048576) (hl : ts.length = n) (hA : TR w w.heap.size A ts) (hz : numCode c0 ts i = z) (hz0 : z ≠ 0) :
    Calls Try.prog 35 #[.agg #[.int .i64 c0, .slice A n c], .int .i64 i] w fun e w' => ∃ R p, e = .returned (.tuple #[.slice R ([] : List Int).length p, .int .i64 z]) ∧ Below w.heap.size w w' ∧ IWr w' w.heap.size w'.heap.size R [] := by
  have hnum : ∀ W, Ext w W → Calls Try.prog 74 #[.agg #[.int .i64 c0, .slice A n c], .int .i64 i] W _ := fun W hW => l01Numbers_any c0 A n c ts i W hn hl ((hA.ext hW (Nat.le_refl _)).more (hW.below (Nat.le_refl _)).size)
  rw [hz] at hnum
  have HN := Lib.hid hnum
  clear hnum hA hz
  have hzb : (z != 0) = true := by simpa using hz0
  go_enter Try.func35, Try.ntmps35
  go_wp2_with fail
  refine (HN.out _ ((Ext.refl w).alloc _)).mono ?_
  rintro e W0 ⟨rfl, hx⟩
  have HX := Lib.hid (((Ext.refl w).alloc (Obj.cells #[.int .i64 c0, .slice A n c] 35)).trans hx)
  clear hx
  go_wp2_with fail
  go_ret2
  exact ⟨none, 0, rfl, HX.out.below (Nat.le_refl _), fun h => absurd h (by simp)⟩

set_option maxRecDepth 100000 in
set_option maxHeartbeats 2000000 in
theorem specBelow_0 (c0 : Int) (A : Option Addr) (n c : Nat) (ts : List Tl) (i : Nat) (w : World) (hn : n ≤ 1048576) (hl : ts.length = n) (hA : TR w w.heap.size A ts) (hc0 : numCode c0 ts (i : Int) = 0) :
    Calls Try.prog 37 #[.agg #[.int .i64 c0, .slice A n c], .int .i64 (i : Int)] w fun e w' => ∃ R p, e = .returned (.tuple #[.slice R (nbl (fitS ts i) n).length p, .int .i64 0]) ∧ Below w.heap.size w w' ∧ IWr w' w.heap.size w'.heap.size R (nbl (fitS ts i) n) := by
  have hi := (numCode_ok hc0).2.2
  rw [hl] at hi
  have hi' : i < n := by omega
  have hnum : ∀ W, Ext w W → Calls Try.prog 74 #[.agg #[.int .i64 c0, .slice A n c], .int .i64 (i : Int)] W _ := fun W hW => l01Numbers_any c0 A n c ts i W hn hl ((hA.ext hW (Nat.le_refl _)).more (hW.below (Nat.le_refl _)).size)
  rw [hc0] at hnum
  have HN := Lib.hid hnum
  clear hnum
  go_enter Try.func37, Try.ntmps37
  go_wp2_with fail
  refine (HN.out _ ((Ext.refl w).alloc _)).mono ?_
  rintro e W0 ⟨rfl, hx⟩
  have hE := ((Ext.refl w).alloc (Obj.cells #[.int .i64 c0, .slice A n c] 35)).trans hx
  have hB0 : Blk W0 w.heap.size 35 #[.int .i64 c0, .slice A n c] := (Blk.new w _ _).ext hx
  have hs0 : w.heap.size < W0.heap.size := hB0.lt
  have HH := Lib.hid (And.intro hE hB0)
  clear hx hE hB0
  go_wp2_with fail
  go_loopw [7, 8] (fun v i' wr => ∃ k : Nat, k ≤ n ∧ i' = .int .i64 k ∧ wr.ownsRow W0.heap.size 2 1 v (nbl (fitS ts i) k).length (vis (nbl (fitS ts i) k)) ∧ Below W0.heap.size W0 wr) (fun _ i' _ => n - (intOf i').toNat)
  case atStart => exact ⟨0, Nat.zero_le _, rfl, show _ from World.ownsRow_made (base := W0.heap.size) (e := 2) (size := 1) W0 #[] 0 (Nat.le_refl _) (by unfold maxLen; omega) rfl, (Below.refl _ _).alloc (Nat.le_refl _) _⟩
  case round =>
    obtain ⟨k, hk, rfl, hown, hb⟩ := hrel
    have HO := Lib.hid hown
    have HB := Lib.hid hb
    have r1 := (HH.out.2.below hb HH.out.2.lt).rd 1 rfl
    by_cases hlt : k < n
    · obtain ⟨b, o, rfl, -, ht⟩ := ((hA.ext HH.out.1 (Nat.le_refl _)).below hb (by omega)) (by omega)
      have ti := (ht i (by omega)).2.2.2
      have tk := (ht k (by omega)).2.1
      have hfb : fitS ts i k = decide ((ts.getD i T0).2.2.2 = (ts.getD k T0).2.1) := rfl
      generalize (ts.getD i T0).2.2.2 = y at ti hfb
      generalize (ts.getD k T0).2.1 = x at tk hfb
      have HF := Lib.hid hfb
      have hle := nbl_le (fitS ts i) k
      clear hown hb hA ht hfb
      by_cases hxy : x = y
      · subst hxy
        have hdx : decide (x = x) = true := decide_eq_true rfl
        have HY := Lib.hid (nbl_yes (HF.out.trans hdx))
        clear hdx
        generalize hN : nbl (fitS ts i) k = ys at HO HY hle
        have HNN := Lib.hid hN
        clear hN
        go_wp2_with fail
        go_quiet (fail)
        clear ti tk r1
        go_wp2_with (at_builtin; refine wpList_push rfl _ _ rfl W0.heap.size _ ys.length _ rfl (((iown_ext HO.out ((Ext.refl _).drewN _))).alloc _) _ (k : Int) rfl (heap_alloc_new _ _) ?c1 ?c2 ?c3 ?_)
        case c1 => unfold maxLen; omega
        case c2 => omega
        case c3 => have := HB.out.size; simp; omega
        intro v' w3 hown' hgrow _
        rw [show vis ys ++ [vi (k : Int)] = vis (ys ++ [(k : Int)]) by simp [vis], ← HY.out, show ys.length + 1 = (nbl (fitS ts i) (k + 1)).length by rw [HY.out]; simp] at hown'
        have O3 := Lib.hid hown'
        have B3 := Lib.hid (((HB.out.trans (((Ext.refl _).drewN _).below HB.out.size)).alloc (by have := HB.out.size; simp; omega) _).grown hgrow (by have := HB.out.size; simp; omega) (fun j hj => (HO.out.lt j hj).1))
        have hlen : (nbl (fitS ts i) (k + 1)).length = ys.length + 1 := by rw [HY.out]; simp
        have HLEN := Lib.hid hlen
        clear hown' hgrow HO HB hlen
        go_wp2_with fail
        go_roundw
        case rel => exact ⟨k + 1, by omega, by go_num, O3.out, B3.out⟩
        case measure => simp [intOf]; omega
      · have hdx : decide (y = x) = false := decide_eq_false (fun e => hxy e.symm)
        have HY := Lib.hid (nbl_no (HF.out.trans hdx))
        have hxy2 : decide (x = y) = false := decide_eq_false hxy
        clear hdx
        go_wp2_with fail
        go_quiet (fail)
        clear ti tk r1
        go_wp2_with fail
        have hE2 := (Ext.refl wr).drewN 0
        go_roundw
        case rel => exact ⟨k + 1, by omega, by go_num, by rw [HY.out]; exact iown_ext HO.out ((Ext.refl _).drewN _), HB.out.trans (((Ext.refl _).drewN _).below HB.out.size)⟩
        case measure => simp [intOf]; omega
    · obtain rfl : k = n := by omega
      clear hown hb hA
      obtain ⟨A2, cap2, rfl, hcap, htw⟩ := own_iwr HO.out rfl
      have HT := Lib.hid htw
      clear htw HO
      go_wp2_with fail
      go_ret2
      exact ⟨A2, cap2, rfl, (HH.out.1.below (Nat.le_refl _)).trans (HB.out.mono (by omega)), HT.out.low (by omega)⟩

set_option maxHeartbeats 1000000 in
theorem specBelow_no (c0 : Int) (A : Option Addr) (n c : Nat) (ts : List Tl) (i z : Int) (w : World) (hn : n ≤ 1048576) (hl : ts.length = n) (hA : TR w w.heap.size A ts) (hz : numCode c0 ts i = z) (hz0 : z ≠ 0) :
    Calls Try.prog 37 #[.agg #[.int .i64 c0, .slice A n c], .int .i64 i] w fun e w' => ∃ R p, e = .returned (.tuple #[.slice R ([] : List Int).length p, .int .i64 z]) ∧ Below w.heap.size w w' ∧ IWr w' w.heap.size w'.heap.size R [] := by
  have hnum : ∀ W, Ext w W → Calls Try.prog 74 #[.agg #[.int .i64 c0, .slice A n c], .int .i64 i] W _ := fun W hW => l01Numbers_any c0 A n c ts i W hn hl ((hA.ext hW (Nat.le_refl _)).more (hW.below (Nat.le_refl _)).size)
  rw [hz] at hnum
  have HN := Lib.hid hnum
  clear hnum hA hz
  have hzb : (z != 0) = true := by simpa using hz0
  go_enter Try.func37, Try.ntmps37
  go_wp2_with fail
  refine (HN.out _ ((Ext.refl w).alloc _)).mono ?_
  rintro e W0 ⟨rfl, hx⟩
  have HX := Lib.hid (((Ext.refl w).alloc (Obj.cells #[.int .i64 c0, .slice A n c] 35)).trans hx)
  clear hx
  go_wp2_with fail
  go_ret2
  exact ⟨none, 0, rfl, HX.out.below (Nat.le_refl _), fun h => absurd h (by simp)⟩
end Go.Proofs.Ytjbnmkiidongmaa
