/- The factors of a set: both sides. -/
import Derived.Test.YtplbjnnicmcpdaaBb1
import Derived.Test.YtplbjnnicmcpdaaGd1
import Derived.Test.YtplbjnnicmcpdaaAppR
namespace Go.Proofs.Ytplbjnnicmcpdaa
set_option linter.unusedVariables false
set_option linter.unusedSimpArgs false
open Go.RowKit Go.Sort

def facOk (ts : List Tl) (p q : Nat) : Bool := decide (Nat.gcd p q = 1) && balUpto ts (p : Int) (q : Int) ts.length
/-- The factors p by 1 to p by j. -/
def facQ (ts : List Tl) (p : Nat) : Nat → List (List Int)
  | 0 => []
  | j + 1 => facQ ts p j ++ (if facOk ts p (j + 1) = true then [[(p : Int), ((j + 1 : Nat) : Int)]] else [])
/-- The factors with p in 1 to i. -/
def facP (ts : List Tl) : Nat → List (List Int)
  | 0 => []
  | i + 1 => facP ts i ++ facQ ts (i + 1) 5
theorem facQ_len (ts : List Tl) (p : Nat) : ∀ j, (facQ ts p j).length ≤ j
  | 0 => by simp [facQ]
  | j + 1 => by
    have := facQ_len ts p j
    simp only [facQ, List.length_append]
    split <;> simp <;> omega
theorem facP_len (ts : List Tl) : ∀ i, (facP ts i).length ≤ i * 5
  | 0 => by simp [facP]
  | i + 1 => by
    have := facP_len ts i
    have := facQ_len ts (i + 1) 5
    simp only [facP, List.length_append]
    omega
theorem facQ_yes {ts : List Tl} {p j y : Nat} (hy : y = j + 1) (h1 : Nat.gcd p y = 1) (h2 : balUpto ts (p : Int) (y : Int) ts.length = true) : facQ ts p y = facQ ts p j ++ [[(p : Int), (y : Int)]] := by
  subst hy
  simp only [facQ, facOk, h1, h2, decide_true, Bool.and_self, if_true]
theorem facQ_no {ts : List Tl} {p j y : Nat} (hy : y = j + 1) (h : Nat.gcd p y ≠ 1 ∨ balUpto ts (p : Int) (y : Int) ts.length = false) : facQ ts p y = facQ ts p j := by
  subst hy
  have : facOk ts p (j + 1) = false := by
    rcases h with h | h
    · simp only [facOk, decide_eq_false h, Bool.false_and]
    · simp only [facOk, h, Bool.and_false]
  simp only [facQ, this, Bool.false_eq_true, if_false, List.append_nil]
theorem iwr_two (W : World) (x y : Int) : IWr (W.alloc (Obj.cells #[.int .i64 x, .int .i64 y] 2)) W.heap.size (W.alloc (Obj.cells #[.int .i64 x, .int .i64 y] 2)).heap.size (some ⟨W.heap.size, 0, none⟩) [x, y] := fun _ =>
  ⟨_, 0, _, _, rfl, Nat.le_refl _, by simp, Blk.new W _ _, fun k hk => by
    simp only [List.length_cons, List.length_nil] at hk
    obtain rfl | rfl : k = 0 ∨ k = 1 := by omega
    all_goals simp⟩
theorem IWr.up2 {w : World} {lo hi hi' : Nat} {A : Option Addr} {xs : List Int} (h : IWr w lo hi A xs) (hl : hi ≤ hi') : IWr w lo hi' A xs := fun h0 => by
  obtain ⟨b, off, t, cs, e, h1, h2, r⟩ := h h0
  exact ⟨b, off, t, cs, e, h1, by omega, r⟩

theorem IWW.lo2 {w : World} {lo lo' hi : Nat} {A : Option Addr} {rs : List (List Int)} (h : IWW w lo hi A rs) (hl : lo' ≤ lo) : IWW w lo' hi A rs := fun h0 => by
  obtain ⟨b, off, t, cs, Q, q, e, h1, h2, h3, h4, h5⟩ := h h0
  exact ⟨b, off, t, cs, Q, q, e, Nat.le_trans hl h1, h2, h3, fun k hk => ⟨(h4 k hk).1, (h4 k hk).2.1, (h4 k hk).2.2.1.low hl, (h4 k hk).2.2.2⟩, h5⟩
set_option maxRecDepth 100000 in
set_option maxHeartbeats 2000000 in
theorem implFactors_0 (c0 : Int) (A : Option Addr) (n c : Nat) (ts : List Tl) (w : World) (hn : n ≤ 1048576) (hl : ts.length = n) (hA : TR w w.heap.size A ts) (hset : isSet c0 ts = true) :
    Calls Try.prog 26 #[.agg #[.int .i64 c0, .slice A n c]] w fun e w' => ∃ R p, e = .returned (.tuple #[.slice R (facP ts 5).length p, .int .i64 0]) ∧ Below w.heap.size w w' ∧ IWW w' w.heap.size w'.heap.size R (facP ts 5) := by
  have his : ∀ W, Ext w W → Calls Try.prog 52 #[.agg #[.int .i64 c0, .slice A n c]] W _ := fun W hW => isSet_any c0 A n c ts W (by omega) hl ((hA.ext hW (Nat.le_refl _)).more (hW.below (Nat.le_refl _)).size)
  have hba := fun (x y : Nat) (hx : 1 ≤ x ∧ x ≤ 5) (hy : 1 ≤ y ∧ y ≤ 5) W (hW : Below w.heap.size w W) => balances_any (x : Int) (y : Int) c0 A n c ts W hn hl ((hA.below hW (Nat.le_refl _)).more hW.size) (small_set hset) (by omega) (by omega)
  rw [hset] at his
  have HI := Lib.hid his
  have HBA := Lib.hid hba
  have HL := Lib.hid hl
  clear his hba hA hset hl
  go_enter Try.func26, Try.ntmps26
  go_wp2_with fail
  refine (HI.out _ ((Ext.refl w).alloc _)).mono ?_
  rintro e w1 ⟨rfl, hx⟩
  have HS := Lib.hid ((Blk.new w 31 #[.int .i64 c0, .slice A n c]).ext hx)
  have HX := Lib.hid ((((Ext.refl w).alloc _).trans hx).below (Nat.le_refl _))
  clear hx
  go_wp2_with fail
  go_loopw [4, 5] (fun v p wr => ∃ i x : Nat, Hid (x = i + 1) ∧ i ≤ 5 ∧ p = .int .i64 (x : Int) ∧ OwnRR wr w1.heap.size v (facP ts i) ∧ Below w1.heap.size w1 wr) (fun _ p _ => 6 - (intOf p).toNat)
  case atStart => exact ⟨0, 1, Lib.hid rfl, by omega, rfl, OwnRR.nil _ _, Below.refl _ _⟩
  case round =>
    obtain ⟨i, x, HXI, hi, rfl, hown, hb⟩ := hrel
    have HO := Lib.hid hown
    have HB := Lib.hid hb
    clear hown hb
    by_cases hlt : i < 5
    · obtain ⟨W1, hW1⟩ : ∃ W1, W1 = wr := ⟨_, rfl⟩
      subst hW1
      have hx5 : (x : Int) ≤ 5 := by have := HXI.out; omega
      go_wp2_with fail
      go_loopw [4, 6] (fun v q wr => ∃ j y : Nat, Hid (y = j + 1) ∧ j ≤ 5 ∧ q = .int .i64 (y : Int) ∧ OwnRR wr w1.heap.size v (facP ts i ++ facQ ts x j) ∧ Below w1.heap.size w1 wr) (fun _ q _ => 6 - (intOf q).toNat)
      case atStart => exact ⟨0, 1, Lib.hid rfl, by omega, rfl, by simp only [facQ, List.append_nil]; exact HO.out, HB.out⟩
      case round =>
        obtain ⟨j, y, HYJ, hj, rfl, hown, hb⟩ := hrel
        have HO2 := Lib.hid hown
        have HB2 := Lib.hid hb
        by_cases hlt2 : j < 5
        · have hy5 : (y : Int) ≤ 5 := by have := HYJ.out; omega
          have HG := Lib.hid (fun W => commonDivisor_any x y W (by omega) (by omega))
          have HYES := Lib.hid (facQ_yes (ts := ts) (p := x) HYJ.out)
          have HNO := Lib.hid (facQ_no (ts := ts) (p := x) HYJ.out)
          have hsb := HS.out.below hb HS.out.lt
          have r0 := hsb.rd 0 rfl
          have r1 := hsb.rd 1 rfl
          have HC := Lib.hid (fun W (hW : Below w1.heap.size w1 W) => HBA.out x y (by have := HXI.out; omega) (by have := HYJ.out; omega) W (HX.out.trans (hW.mono HX.out.size)))
          have HLL := Lib.hid (Nat.add_le_add (facP_len ts i) (facQ_len ts x j))
          rw [HL.out] at HYES HNO
          generalize Nat.gcd x y = g at *
          clear hown hb hsb
          go_wp2_with fail
          refine (HG.out _).mono ?_
          rintro e w2 ⟨rfl, hx2⟩
          have HX2 := Lib.hid (HB2.out.trans (hx2.below HB2.out.size))
          have HW2 := Lib.hid (hx2.below (Nat.le_refl _))
          replace r0 := hx2.cell_ r0
          replace r1 := hx2.cell_ r1
          clear hx2
          by_cases hg : g = 1
          · subst hg
            go_wp2_with fail
            refine (HC.out _ HX2.out).mono ?_
            rintro e w3 ⟨rfl, hb3⟩
            have HX3 := Lib.hid (HX2.out.trans (hb3.mono HX2.out.size))
            have HW3 := Lib.hid (HW2.out.trans (hb3.mono HW2.out.size))
            clear hb3 r0 r1
            generalize balUpto ts (x : Int) (y : Int) n = b at *
            cases b with
            | false =>
              have HE := Lib.hid (HNO.out (.inr rfl))
              go_wp2_with fail
              go_roundw
              case rel => exact ⟨j + 1, y + 1, Lib.hid (by have := HYJ.out; omega), by omega, by go_num, by rw [← HYJ.out, HE.out]; exact HO2.out.below HW3.out, HX3.out⟩
              case measure => have := HYJ.out; simp [intOf]; omega
            | true =>
              have HE := Lib.hid (HYES.out (by first | rfl | trivial) (by first | rfl | trivial))
              go_wp2_with (at_builtin; refine wpList_pushR rfl _ _ rfl w1.heap.size _ (facP ts i ++ facQ ts x j) rfl wr HO2.out ((HW3.out.alloc HW3.out.size _).alloc (by have := HW3.out.size; simp; omega) _) (w3.heap.size + 1) (some ⟨w3.heap.size, 0, none⟩) 2 2 [(x : Int), (y : Int)] rfl (by have := heap_alloc_new (w3.alloc (Obj.cells #[.int .i64 (x : Int), .int .i64 (y : Int)] 2)) (Obj.cells #[.slice (some ⟨w3.heap.size, 0, none⟩) 2 2] 22); rw [World.size_alloc] at this; exact this) ?c1 rfl (Nat.le_refl _) (by rw [List.length_append]; have := HLL.out; omega) HB2.out.size ?_)
              case c1 => exact (((iwr_two w3 _ _).ext ((Ext.refl _).alloc _)).up2 (by simp)).low HW3.out.size
              intro v' w' h1 h2 h3 h4
              rw [← HE.out] at h1
              have N1 := Lib.hid h1
              have N2 := Lib.hid (((HX3.out.alloc HX3.out.size (Obj.cells #[.int .i64 (x : Int), .int .i64 (y : Int)] 2)).alloc (by have := HX3.out.size; simp; omega) (Obj.cells #[.slice (some ⟨w3.heap.size, 0, none⟩) 2 2] 22)).trans h4)
              clear h1 h2 h3 h4
              go_wp2_with fail
              go_roundw
              case rel => exact ⟨j + 1, y + 1, Lib.hid (by have := HYJ.out; omega), by omega, by go_num, by rw [← HYJ.out]; exact N1.out, N2.out⟩
              case measure => have := HYJ.out; simp [intOf]; omega
          · have HE := Lib.hid (HNO.out (.inl hg))
            have hg1 : ((g : Int) == 1) = false := by rw [beq_eq_false_iff_ne]; omega
            clear r0 r1
            go_wp2_with fail
            go_roundw
            case rel => exact ⟨j + 1, y + 1, Lib.hid (by have := HYJ.out; omega), by omega, by go_num, by rw [← HYJ.out, HE.out]; exact HO2.out.below HW2.out, HX2.out⟩
            case measure => have := HYJ.out; simp [intOf]; omega
        · obtain rfl : j = 5 := by omega
          have hy5 : ¬ (y : Int) ≤ 5 := by have := HYJ.out; omega
          have HE := Lib.hid (show facP ts (i + 1) = facP ts i ++ facQ ts x 5 by rw [HXI.out]; rfl)
          clear hown hb
          go_wp2_with fail
          go_roundw
          case rel => exact ⟨i + 1, x + 1, Lib.hid (by have := HXI.out; omega), by omega, by go_num, by rw [HE.out]; exact HO2.out, HB2.out⟩
          case measure => have := HXI.out; simp [intOf]; omega
    · obtain rfl : i = 5 := by omega
      have hx5 : ¬ (x : Int) ≤ 5 := by have := HXI.out; omega
      obtain ⟨A2, cap2, rfl, hcap, htw⟩ := HO.out.done
      have HT := Lib.hid htw
      clear htw HO
      go_wp2_with fail
      go_ret2
      exact ⟨A2, ⟨cap2, rfl⟩, HX.out.trans (HB.out.mono HX.out.size), HT.out.lo2 HX.out.size⟩
theorem implFactors_1 (c0 : Int) (A : Option Addr) (n c : Nat) (ts : List Tl) (w : World) (hn : n ≤ 1048576) (hl : ts.length = n) (hA : TR w w.heap.size A ts) (hset : isSet c0 ts = false) :
    Calls Try.prog 26 #[.agg #[.int .i64 c0, .slice A n c]] w fun e w' => ∃ R p, e = .returned (.tuple #[.slice R ([] : List (List Int)).length p, .int .i64 1]) ∧ Below w.heap.size w w' ∧ IWW w' w.heap.size w'.heap.size R [] := by
  have his : ∀ W, Ext w W → Calls Try.prog 52 #[.agg #[.int .i64 c0, .slice A n c]] W _ := fun W hW => isSet_any c0 A n c ts W (by omega) hl ((hA.ext hW (Nat.le_refl _)).more (hW.below (Nat.le_refl _)).size)
  rw [hset] at his
  have HI := Lib.hid his
  clear his hA hset hl
  go_enter Try.func26, Try.ntmps26
  go_wp2_with fail
  refine (HI.out _ ((Ext.refl w).alloc _)).mono ?_
  rintro e w1 ⟨rfl, hx⟩
  have HX := Lib.hid ((((Ext.refl w).alloc _).trans hx).below (Nat.le_refl _))
  clear hx
  go_wp2_with fail
  go_ret2
  first | exact ⟨none, ⟨0, rfl⟩, HX.out, fun h0 => absurd h0 (Nat.lt_irrefl _)⟩ | exact ⟨none, 0, rfl, HX.out, fun h0 => absurd h0 (Nat.lt_irrefl _)⟩

set_option maxRecDepth 100000 in
set_option maxHeartbeats 2000000 in
theorem specFactors_0 (c0 : Int) (A : Option Addr) (n c : Nat) (ts : List Tl) (w : World) (hn : n ≤ 1048576) (hl : ts.length = n) (hA : TR w w.heap.size A ts) (hset : isSet c0 ts = true) :
    Calls Try.prog 25 #[.agg #[.int .i64 c0, .slice A n c]] w fun e w' => ∃ R p, e = .returned (.tuple #[.slice R (facP ts 5).length p, .int .i64 0]) ∧ Below w.heap.size w w' ∧ IWW w' w.heap.size w'.heap.size R (facP ts 5) := by
  have his : ∀ W, Ext w W → Calls Try.prog 45 #[.agg #[.int .i64 c0, .slice A n c]] W _ := fun W hW => l01Is_any c0 A n c ts W (by omega) hl ((hA.ext hW (Nat.le_refl _)).more (hW.below (Nat.le_refl _)).size)
  have hba := fun (x y : Nat) (hx : 1 ≤ x ∧ x ≤ 5) (hy : 1 ≤ y ∧ y ≤ 5) W (hW : Below w.heap.size w W) => l08Balanced_any (x : Int) (y : Int) c0 A n c ts W hn hl ((hA.below hW (Nat.le_refl _)).more hW.size) (small_set hset) (by omega) (by omega)
  rw [hset] at his
  have HI := Lib.hid his
  have HBA := Lib.hid hba
  have HL := Lib.hid hl
  clear his hba hA hset hl
  go_enter Try.func25, Try.ntmps25
  go_wp2_with fail
  refine (HI.out _ ((Ext.refl w).alloc _)).mono ?_
  rintro e w1 ⟨rfl, hx⟩
  have HS := Lib.hid ((Blk.new w 31 #[.int .i64 c0, .slice A n c]).ext hx)
  have HX := Lib.hid ((((Ext.refl w).alloc _).trans hx).below (Nat.le_refl _))
  clear hx
  go_wp2_with fail
  go_loopw [4, 5] (fun v p wr => ∃ i x : Nat, Hid (x = i + 1) ∧ i ≤ 5 ∧ p = .int .i64 (x : Int) ∧ OwnRR wr w1.heap.size v (facP ts i) ∧ Below w1.heap.size w1 wr) (fun _ p _ => 6 - (intOf p).toNat)
  case atStart => exact ⟨0, 1, Lib.hid rfl, by omega, rfl, OwnRR.made _ _ (Nat.le_refl _), (Below.refl _ _).alloc (Nat.le_refl _) _⟩
  case round =>
    obtain ⟨i, x, HXI, hi, rfl, hown, hb⟩ := hrel
    have HO := Lib.hid hown
    have HB := Lib.hid hb
    clear hown hb
    by_cases hlt : i < 5
    · obtain ⟨W1, hW1⟩ : ∃ W1, W1 = wr := ⟨_, rfl⟩
      subst hW1
      have hx5 : (x : Int) ≤ 5 := by have := HXI.out; omega
      go_wp2_with fail
      go_loopw [4, 6] (fun v q wr => ∃ j y : Nat, Hid (y = j + 1) ∧ j ≤ 5 ∧ q = .int .i64 (y : Int) ∧ OwnRR wr w1.heap.size v (facP ts i ++ facQ ts x j) ∧ Below w1.heap.size w1 wr) (fun _ q _ => 6 - (intOf q).toNat)
      case atStart => exact ⟨0, 1, Lib.hid rfl, by omega, rfl, by simp only [facQ, List.append_nil]; exact HO.out, HB.out⟩
      case round =>
        obtain ⟨j, y, HYJ, hj, rfl, hown, hb⟩ := hrel
        have HO2 := Lib.hid hown
        have HB2 := Lib.hid hb
        by_cases hlt2 : j < 5
        · have hy5 : (y : Int) ≤ 5 := by have := HYJ.out; omega
          have HG := Lib.hid (fun W => l06Gcd_any x y W (by omega) (by omega))
          have HYES := Lib.hid (facQ_yes (ts := ts) (p := x) HYJ.out)
          have HNO := Lib.hid (facQ_no (ts := ts) (p := x) HYJ.out)
          have hsb := HS.out.below hb HS.out.lt
          have r0 := hsb.rd 0 rfl
          have r1 := hsb.rd 1 rfl
          have HC := Lib.hid (fun W (hW : Below w1.heap.size w1 W) => HBA.out x y (by have := HXI.out; omega) (by have := HYJ.out; omega) W (HX.out.trans (hW.mono HX.out.size)))
          have HLL := Lib.hid (Nat.add_le_add (facP_len ts i) (facQ_len ts x j))
          rw [HL.out] at HYES HNO
          generalize Nat.gcd x y = g at *
          clear hown hb hsb
          go_wp2_with fail
          refine (HG.out _).mono ?_
          rintro e w2 ⟨rfl, hx2⟩
          have HX2 := Lib.hid (HB2.out.trans (hx2.below HB2.out.size))
          have HW2 := Lib.hid (hx2.below (Nat.le_refl _))
          replace r0 := hx2.cell_ r0
          replace r1 := hx2.cell_ r1
          clear hx2
          by_cases hg : g = 1
          · subst hg
            go_wp2_with fail
            refine (HC.out _ HX2.out).mono ?_
            rintro e w3 ⟨rfl, hb3⟩
            have HX3 := Lib.hid (HX2.out.trans (hb3.mono HX2.out.size))
            have HW3 := Lib.hid (HW2.out.trans (hb3.mono HW2.out.size))
            clear hb3 r0 r1
            generalize balUpto ts (x : Int) (y : Int) n = b at *
            cases b with
            | false =>
              have HE := Lib.hid (HNO.out (.inr rfl))
              go_wp2_with fail
              go_roundw
              case rel => exact ⟨j + 1, y + 1, Lib.hid (by have := HYJ.out; omega), by omega, by go_num, by rw [← HYJ.out, HE.out]; exact HO2.out.below HW3.out, HX3.out⟩
              case measure => have := HYJ.out; simp [intOf]; omega
            | true =>
              have HE := Lib.hid (HYES.out (by first | rfl | trivial) (by first | rfl | trivial))
              go_wp2_with (at_builtin; refine wpList_pushR rfl _ _ rfl w1.heap.size _ (facP ts i ++ facQ ts x j) rfl wr HO2.out ((HW3.out.alloc HW3.out.size _).alloc (by have := HW3.out.size; simp; omega) _) (w3.heap.size + 1) (some ⟨w3.heap.size, 0, none⟩) 2 2 [(x : Int), (y : Int)] rfl (by have := heap_alloc_new (w3.alloc (Obj.cells #[.int .i64 (x : Int), .int .i64 (y : Int)] 2)) (Obj.cells #[.slice (some ⟨w3.heap.size, 0, none⟩) 2 2] 22); rw [World.size_alloc] at this; exact this) ?c1 rfl (Nat.le_refl _) (by rw [List.length_append]; have := HLL.out; omega) HB2.out.size ?_)
              case c1 => exact (((iwr_two w3 _ _).ext ((Ext.refl _).alloc _)).up2 (by simp)).low HW3.out.size
              intro v' w' h1 h2 h3 h4
              rw [← HE.out] at h1
              have N1 := Lib.hid h1
              have N2 := Lib.hid (((HX3.out.alloc HX3.out.size (Obj.cells #[.int .i64 (x : Int), .int .i64 (y : Int)] 2)).alloc (by have := HX3.out.size; simp; omega) (Obj.cells #[.slice (some ⟨w3.heap.size, 0, none⟩) 2 2] 22)).trans h4)
              clear h1 h2 h3 h4
              go_wp2_with fail
              go_roundw
              case rel => exact ⟨j + 1, y + 1, Lib.hid (by have := HYJ.out; omega), by omega, by go_num, by rw [← HYJ.out]; exact N1.out, N2.out⟩
              case measure => have := HYJ.out; simp [intOf]; omega
          · have HE := Lib.hid (HNO.out (.inl hg))
            have hg1 : ((g : Int) == 1) = false := by rw [beq_eq_false_iff_ne]; omega
            clear r0 r1
            go_wp2_with fail
            go_roundw
            case rel => exact ⟨j + 1, y + 1, Lib.hid (by have := HYJ.out; omega), by omega, by go_num, by rw [← HYJ.out, HE.out]; exact HO2.out.below HW2.out, HX2.out⟩
            case measure => have := HYJ.out; simp [intOf]; omega
        · obtain rfl : j = 5 := by omega
          have hy5 : ¬ (y : Int) ≤ 5 := by have := HYJ.out; omega
          have HE := Lib.hid (show facP ts (i + 1) = facP ts i ++ facQ ts x 5 by rw [HXI.out]; rfl)
          clear hown hb
          go_wp2_with fail
          go_roundw
          case rel => exact ⟨i + 1, x + 1, Lib.hid (by have := HXI.out; omega), by omega, by go_num, by rw [HE.out]; exact HO2.out, HB2.out⟩
          case measure => have := HXI.out; simp [intOf]; omega
    · obtain rfl : i = 5 := by omega
      have hx5 : ¬ (x : Int) ≤ 5 := by have := HXI.out; omega
      obtain ⟨A2, cap2, rfl, hcap, htw⟩ := HO.out.done
      have HT := Lib.hid htw
      clear htw HO
      go_wp2_with fail
      go_ret2
      exact ⟨A2, ⟨cap2, rfl⟩, HX.out.trans (HB.out.mono HX.out.size), HT.out.lo2 HX.out.size⟩
theorem specFactors_1 (c0 : Int) (A : Option Addr) (n c : Nat) (ts : List Tl) (w : World) (hn : n ≤ 1048576) (hl : ts.length = n) (hA : TR w w.heap.size A ts) (hset : isSet c0 ts = false) :
    Calls Try.prog 25 #[.agg #[.int .i64 c0, .slice A n c]] w fun e w' => ∃ R p, e = .returned (.tuple #[.slice R ([] : List (List Int)).length p, .int .i64 1]) ∧ Below w.heap.size w w' ∧ IWW w' w.heap.size w'.heap.size R [] := by
  have his : ∀ W, Ext w W → Calls Try.prog 45 #[.agg #[.int .i64 c0, .slice A n c]] W _ := fun W hW => l01Is_any c0 A n c ts W (by omega) hl ((hA.ext hW (Nat.le_refl _)).more (hW.below (Nat.le_refl _)).size)
  rw [hset] at his
  have HI := Lib.hid his
  clear his hA hset hl
  go_enter Try.func25, Try.ntmps25
  go_wp2_with fail
  refine (HI.out _ ((Ext.refl w).alloc _)).mono ?_
  rintro e w1 ⟨rfl, hx⟩
  have HX := Lib.hid ((((Ext.refl w).alloc _).trans hx).below (Nat.le_refl _))
  clear hx
  go_wp2_with fail
  go_ret2
  first | exact ⟨none, ⟨0, rfl⟩, HX.out, fun h0 => absurd h0 (Nat.lt_irrefl _)⟩ | exact ⟨none, 0, rfl, HX.out, fun h0 => absurd h0 (Nat.lt_irrefl _)⟩
end Go.Proofs.Ytplbjnnicmcpdaa
