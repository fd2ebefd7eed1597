/- Whether a set is determined at a corner: the model's side. -/
import Derived.Test.YtjbnmkiidongmaaNum
import Derived.Test.YtjbnmkiidongmaaIs
import Derived.BigRegion
import Derived.Lib.Hide
namespace Go.Proofs.Ytjbnmkiidongmaa
set_option linter.unusedVariables false
set_option linter.unusedSimpArgs false
open Go.RowKit Go.Sort

/-- The colour of a side. -/
def colT (t : Tl) (a : Nat) : Int := match a with | 0 => t.1 | 1 => t.2.1 | 2 => t.2.2.1 | _ => t.2.2.2
theorem Cell4.at {w : World} {b o : Nat} {t : Tl} (h : Cell4 w b o t) {a : Nat} (ha : a < 4) : w.cell? ⟨b, o + a, none⟩ = some (.int .i64 (colT t a)) := by
  obtain rfl | rfl | rfl | rfl : a = 0 ∨ a = 1 ∨ a = 2 ∨ a = 3 := by omega
  · exact h.1
  · exact h.2.1
  · exact h.2.2.1
  · exact h.2.2.2
theorem ret_bi {a b : Bool} {k k' : Int} (h : a = b) (h2 : k = k') : Ending.returned (.tuple #[.bool a, .int .i64 k]) = .returned (.tuple #[.bool b, .int .i64 k']) := by rw [h, h2]
def sameAt (ts : List Tl) (a b i k : Nat) : Bool := decide (colT (ts.getD i T0) a = colT (ts.getD k T0) a) && decide (colT (ts.getD i T0) b = colT (ts.getD k T0) b)
/-- No two tiles have the same colours at a and b. -/
def detB (ts : List Tl) (a b : Nat) : Bool := (List.range ts.length).all fun i => (List.range i).all fun k => !sameAt ts a b i k
theorem detB_at {ts : List Tl} {a b i k : Nat} (hi : i < ts.length) (hk : k < i) (h : sameAt ts a b i k = true) : detB ts a b = false := by
  unfold detB
  rw [List.all_eq_false]
  refine ⟨i, List.mem_range.2 hi, ?_⟩
  rw [Bool.not_eq_true, List.all_eq_false]
  exact ⟨k, List.mem_range.2 hk, by simp [h]⟩
theorem detB_all {ts : List Tl} {a b : Nat} (h : ∀ i k, i < ts.length → k < i → sameAt ts a b i k = false) : detB ts a b = true :=
  List.all_eq_true.2 fun i hi => List.all_eq_true.2 fun k hk => by rw [h i k (List.mem_range.1 hi) (List.mem_range.1 hk)]; rfl

theorem det_step {ts : List Tl} {i j k x : Nat} (h : ∀ x', x' < x → sameAt ts i j k x' = false) (h2 : sameAt ts i j k x = false) : ∀ x', x' < x + 1 → sameAt ts i j k x' = false := fun x' hx => by
  by_cases e : x' = x
  · rw [e]; exact h2
  · exact h x' (by omega)
theorem det_row {ts : List Tl} {i j k : Nat} (h : ∀ y, y < k → ∀ x, x < y → sameAt ts i j y x = false) (h2 : ∀ x', x' < k → sameAt ts i j k x' = false) : ∀ y, y < k + 1 → ∀ x, x < y → sameAt ts i j y x = false := fun y hy => by
  by_cases e : y = k
  · rw [e]; exact h2
  · exact h y (by omega)
set_option maxRecDepth 100000 in
set_option maxHeartbeats 4000000 in
theorem specDet_0 (c0 : Int) (A : Option Addr) (n c : Nat) (ts : List Tl) (i : Nat) (w : World) (hn : n ≤ 1048576) (hl : ts.length = n) (hA : TR w w.heap.size A ts) (hs : isSet c0 ts = true) (hi : i < 4) :
    Calls Try.prog 33 #[.agg #[.int .i64 c0, .slice A n c], .int .i64 (i : Int)] w fun e w' => e = .returned (.tuple #[.bool (detB ts i ((i + 1) % 4)), .int .i64 0]) ∧ Ext w w' := by
  have his : ∀ W, Ext w W → Calls Try.prog 68 #[.agg #[.int .i64 c0, .slice A n c]] W _ := fun W hW => l01Is_any c0 A n c ts W (by omega) hl ((hA.ext hW (Nat.le_refl _)).more (hW.below (Nat.le_refl _)).size)
  rw [hs] at his
  have HI := Lib.hid his
  have hin := fun W => l01In_any (i : Int) 0 3 W
  rw [decide_eq_true (show (0 : Int) ≤ (i : Int) ∧ (i : Int) ≤ 3 by omega)] at hin
  clear his hs
  obtain ⟨j, hj, hj4⟩ : ∃ j, (i + 1) % 4 = j ∧ j < 4 := ⟨_, rfl, Nat.mod_lt _ (by omega)⟩
  rw [hj]
  have hjr : IntKind.i64.wrap (Int.tmod ((i : Int) + 1) 4) = (j : Int) := by
    obtain rfl | rfl | rfl | rfl : i = 0 ∨ i = 1 ∨ i = 2 ∨ i = 3 := by omega
    all_goals (subst hj; decide)
  go_enter Try.func33, Try.ntmps33
  go_wp2_with fail
  refine (HI.out _ ((Ext.refl w).alloc _)).mono ?_
  rintro e w1 ⟨rfl, hx⟩
  have HB1 := Lib.hid ((Blk.new w 35 #[.int .i64 c0, .slice A n c]).ext hx)
  have HX := Lib.hid (((Ext.refl w).alloc _).trans hx)
  clear hx
  go_wp2_with fail
  refine (hin _).mono ?_
  rintro e w1' ⟨rfl, rfl⟩
  clear hin
  have hii : (0 : Int) ≤ (i : Int) ∧ (i : Int) ≤ 3 := by omega
  have r1 := HB1.out.rd 1 rfl
  have hj5 : ((i : Int) + 1) % 4 = (j : Int) := by omega
  go_wp2_with fail
  rw [hj5]
  clear r1 hjr hj5
  go_loopw [8] (fun ii wr => ∃ k : Nat, k ≤ n ∧ ii = .int .i64 k ∧ (∀ y, y < k → ∀ x, x < y → sameAt ts i j y x = false) ∧ Ext w1' wr) (fun ii _ => n - (intOf ii).toNat)
  case atStart => exact ⟨0, Nat.zero_le _, rfl, fun j hj => absurd hj (Nat.not_lt_zero _), Ext.refl _⟩
  case round =>
    obtain ⟨k, hk, rfl, heq, hE⟩ := hrel
    have H := Lib.hid heq
    have HE := Lib.hid hE
    clear heq hE
    have r1 := (HB1.out.ext HE.out).rd 1 rfl
    by_cases hlt : k < n
    · obtain ⟨W1, hW1⟩ : ∃ W1, W1 = wr := ⟨_, rfl⟩
      subst hW1
      go_wp2_with fail
      clear r1
      go_loopw [9] (fun ii wr => ∃ x : Nat, x ≤ k ∧ ii = .int .i64 x ∧ (∀ x', x' < x → sameAt ts i j k x' = false) ∧ Ext W1 wr) (fun ii _ => k - (intOf ii).toNat)
      case atStart => exact ⟨0, Nat.zero_le _, rfl, fun j hj => absurd hj (Nat.not_lt_zero _), Ext.refl _⟩
      case round =>
        obtain ⟨x, hx, rfl, heq, hE⟩ := hrel
        have H2 := Lib.hid heq
        have HE2 := Lib.hid hE
        clear heq hE
        by_cases hlx : x < k
        · obtain ⟨b, o, rfl, hbl, ht⟩ := (hA.ext ((HX.out.trans HE.out).trans HE2.out) (Nat.le_refl _)) (by omega)
          have r1 := (HB1.out.ext (HE.out.trans HE2.out)).rd 1 rfl
          have p1 := (ht k (by omega)).at hi
          have p2 := (ht x (by omega)).at hi
          have p3 := (ht k (by omega)).at hj4
          have p4 := (ht x (by omega)).at hj4
          have hse : sameAt ts i j k x = (decide (colT (ts.getD k T0) i = colT (ts.getD x T0) i) && decide (colT (ts.getD k T0) j = colT (ts.getD x T0) j)) := rfl
          generalize colT (ts.getD k T0) i = y1 at p1 hse
          generalize colT (ts.getD x T0) i = y2 at p2 hse
          generalize colT (ts.getD k T0) j = y3 at p3 hse
          generalize colT (ts.getD x T0) j = y4 at p4 hse
          have HSE := Lib.hid hse
          have g1 : (i : Int) < 4 := by omega
          have g2 : (j : Int) < 4 := by omega
          clear ht hse hA
          by_cases e1 : y1 = y2
          · subst e1
            have hb1 : (y1 == y1) = true := by simp
            by_cases e2 : y3 = y4
            · subst e2
              have hb2 : (y3 == y3) = true := by simp
              go_wp2_with fail
              go_quiet (fail)
              clear p1 p2 p3 p4 r1
              go_wp2_with fail
              go_ret2
              exact ⟨ret_bi (detB_at (i := k) (k := x) (by omega) hlx (by rw [HSE.out]; simp)).symm rfl, ((HX.out.trans HE.out).trans HE2.out).trans ((Ext.refl _).drewN _)⟩
            · have hb2 : (y3 == y4) = false := by simp [e2]
              go_wp2_with fail
              go_quiet (fail)
              clear p1 p2 p3 p4 r1
              go_wp2_with fail
              go_roundw
              case rel =>
                first | exact ⟨x + 1, by omega, by go_num, det_step H2.out (by rw [HSE.out]; simp [e2]), HE2.out.trans ((Ext.refl _).drewN _)⟩ | ((repeat apply Exists.intro); exact ⟨⟨x + 1, by omega, by go_num, det_step H2.out (by rw [HSE.out]; simp [e2]), HE2.out.trans ((Ext.refl _).drewN _)⟩, rfl⟩)
              case measure => simp [intOf]; omega
          · have hb1 : (y1 == y2) = false := by simp [e1]
            go_wp2_with fail
            go_quiet (fail)
            clear p1 p2 p3 p4 r1
            go_wp2_with fail
            go_roundw
            case rel =>
              first | exact ⟨x + 1, by omega, by go_num, det_step H2.out (by rw [HSE.out]; simp [e1]), HE2.out.trans ((Ext.refl _).drewN _)⟩ | ((repeat apply Exists.intro); exact ⟨⟨x + 1, by omega, by go_num, det_step H2.out (by rw [HSE.out]; simp [e1]), HE2.out.trans ((Ext.refl _).drewN _)⟩, rfl⟩)
            case measure => simp [intOf]; omega
        · obtain rfl : x = k := by omega
          go_wp2_with fail
          go_roundw
          case rel =>
            first | exact ⟨x + 1, by omega, by go_num, det_row H.out H2.out, HE.out.trans HE2.out⟩ | ((repeat apply Exists.intro); exact ⟨⟨x + 1, by omega, by go_num, det_row H.out H2.out, HE.out.trans HE2.out⟩, rfl⟩)
          case measure => simp [intOf]; omega
    · go_wp2_with fail
      go_ret2
      exact ⟨ret_bi (detB_all (fun y x hy hx => H.out y (by omega) x hx)).symm rfl, HX.out.trans HE.out⟩
end Go.Proofs.Ytjbnmkiidongmaa
