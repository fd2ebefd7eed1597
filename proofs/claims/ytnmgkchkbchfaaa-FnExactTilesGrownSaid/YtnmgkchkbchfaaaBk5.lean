/- Corners of tiles: both sides. -/
import Derived.Test.YtnmgkchkbchfaaaBk4
import Derived.Test.YtnmgkchkbchfaaaAppI
namespace Go.Proofs.Ytnmgkchkbchfaaa
set_option linter.unusedVariables false
set_option linter.unusedSimpArgs false
open Go.RowKit Go.Sort

/-- The number of the corner after so many steps. -/
def cor (bs : List (List Int)) (i : Nat) : Nat → Nat
  | 0 => i
  | k + 1 => (bAt bs (cor bs i k) 0).toNat
/-- The corners after 0, 1, .., k steps. -/
def corL (bs : List (List Int)) (i : Nat) : Nat → List Int
  | 0 => [(i : Int)]
  | k + 1 => corL bs i k ++ [((cor bs i (k + 1) : Nat) : Int)]
theorem corL_len (bs : List (List Int)) (i : Nat) : ∀ k, (corL bs i k).length = k + 1
  | 0 => rfl
  | k + 1 => by simp only [corL, List.length_append, corL_len bs i k, List.length_cons, List.length_nil]
theorem cor_lt {ts : List Tl} {bs : List (List Int)} (h : bOk ts bs = true) {i : Nat} (hi : i < bs.length) : ∀ k, cor bs i k < bs.length
  | 0 => hi
  | k + 1 => by
    obtain ⟨v, h1, h2⟩ := bOk_nat h (cor_lt h hi k) (show 0 < 4 by omega)
    simp only [cor]
    omega
theorem cor_at {ts : List Tl} {bs : List (List Int)} (h : bOk ts bs = true) {i : Nat} (hi : i < bs.length) (k : Nat) : bAt bs (cor bs i k) 0 = ((cor bs i (k + 1) : Nat) : Int) := by
  obtain ⟨v, h1, h2⟩ := bOk_nat h (cor_lt h hi k) (show 0 < 4 by omega)
  simp only [cor]
  omega
theorem corL_get (bs : List (List Int)) (i : Nat) : ∀ {k j : Nat}, j ≤ k → (corL bs i k).getD j 0 = ((cor bs i j : Nat) : Int)
  | 0, j, h => by
    obtain rfl : j = 0 := by omega
    rfl
  | k + 1, j, h => by
    simp only [corL, List.getD]
    by_cases hj : j = k + 1
    · subst hj
      rw [List.getElem?_append_right (by rw [corL_len]; omega), corL_len]
      simp
    · rw [List.getElem?_append_left (by rw [corL_len]; omega)]
      exact corL_get bs i (show j ≤ k by omega)
theorem own_built1 (w : World) (base : Nat) (x : Int) (hb : base ≤ w.heap.size) : (w.alloc (.cells #[.int .i64 x] 2)).ownsRow base 2 1 (.slice (some ⟨w.heap.size, 0, none⟩) 1 1) 1 (vis [x]) :=
  ⟨by simp [vis], .inr ⟨w.heap.size, 1, #[.int .i64 x], rfl, hb, heap_alloc_new w _, Nat.le_refl _, by unfold maxLen; omega, rfl, by simp [vis, vi]⟩⟩
/-- The numbers in a block's cell in memory: an int of the list of blocks. -/
theorem tr_first {w : World} {B : Nat} {A : Option Addr} {bs : List (List Int)} (h : TR w B A (blkL bs)) {k : Nat} (hk : k < bs.length) : ∃ b off, A = some ⟨b, off, none⟩ ∧ b < B ∧ w.cell? ⟨b, off + k * 4, none⟩ = some (.int .i64 (bAt bs k 0)) ∧ w.cell? ⟨b, off + k * 4 + 1, none⟩ = some (.int .i64 (bAt bs k 1)) ∧ w.cell? ⟨b, off + k * 4 + 2, none⟩ = some (.int .i64 (bAt bs k 2)) ∧ w.cell? ⟨b, off + k * 4 + 3, none⟩ = some (.int .i64 (bAt bs k 3)) := by
  obtain ⟨b, off, e, hb, hc⟩ := h (by rw [blkL_len]; omega)
  have h4 := hc k (by rw [blkL_len]; omega)
  rw [blkL_get hk] at h4
  exact ⟨b, off, e, hb, h4.1, h4.2.1, h4.2.2.1, h4.2.2.2⟩

/-- A list of numbers and a code. -/
def LiRes (w : World) (ys : List Int) (code : Int) (e : Ending) (w' : World) : Prop := ∃ R p, e = .returned (.tuple #[.slice R ys.length p, .int .i64 code]) ∧ Below w.heap.size w w' ∧ IWr w' w.heap.size w'.heap.size R ys

set_option maxRecDepth 100000 in
set_option maxHeartbeats 2000000 in
theorem l09Corners_any (ts : List Tl) (B : Option Addr) (m d : Nat) (bs : List (List Int)) (i s : Nat) (w : World) (hm : m ≤ 1048576) (hlr : bs.length = m) (hB : IRR w w.heap.size B bs) (hok : bOk ts bs = true) (hi : i < m) (hs : s ≤ 1048576) :
    Calls Try.prog 71 #[.slice B m d, .int .i64 (i : Int), .int .i64 (s : Int)] w fun e w' => ∃ R cap, e = .returned (.slice R (s + 1) cap) ∧ Below w.heap.size w w' ∧ IWr w' w.heap.size w'.heap.size R (corL bs i s) := by
  have HF := Lib.hid (fun k hk => ((bOk_facts hok).2 k hk).1)
  have HL := Lib.hid (cor_lt hok (i := i) (by omega))
  have HAT := Lib.hid (cor_at hok (i := i) (by omega))
  clear hok
  go_enter Try.func71, Try.ntmps71
  go_wp2_with fail
  have HO0 := Lib.hid (own_built1 w w.heap.size (i : Int) (Nat.le_refl _))
  have HB0 := Lib.hid (((Ext.refl w).alloc (Obj.cells #[.int .i64 (i : Int)] 2)).below (Nat.le_refl w.heap.size))
  generalize w.alloc (Obj.cells #[.int .i64 (i : Int)] 2) = W0 at *
  go_loopw [1, 2, 7] (fun iv nv v wr => ∃ k : Nat, k ≤ s ∧ iv = .int .i64 ((cor bs i k : Nat) : Int) ∧ nv = .int .i64 ((s : Int) - (k : Int)) ∧ wr.ownsRow w.heap.size 2 1 v (k + 1) (vis (corL bs i k)) ∧ Below w.heap.size w wr) (fun _ nv _ _ => (intOf nv).toNat)
  case atStart => exact ⟨0, Nat.zero_le _, rfl, by simp, HO0.out, HB0.out⟩
  case round =>
    obtain ⟨k, hk, rfl, rfl, hown, hb⟩ := hrel
    have HO := Lib.hid hown
    have HB := Lib.hid hb
    clear hown
    by_cases hlt : k < s
    · have hcl := HL.out k
      obtain ⟨b, o, rfl, hb0, hcr⟩ := hB (by omega)
      obtain ⟨Q, q, hcQ, hqq, hir⟩ := hcr (cor bs i k) (by omega)
      have h4 := HF.out (cor bs i k) (by omega)
      obtain ⟨bx, ox, hQe, hbx, hcx⟩ := hir (by omega)
      subst hQe
      have e1 := (hb.cell (p := ⟨b, o + cor bs i k, none⟩) hb0).trans hcQ
      have q1 := (hb.cell (p := ⟨bx, ox + 0, none⟩) hbx).trans (hcx 0 (by omega))
      rw [show (bs.getD (cor bs i k) []).getD 0 0 = bAt bs (cor bs i k) 0 from rfl, HAT.out k, Nat.add_zero] at q1
      rw [h4] at e1
      have HCL := Lib.hid (show corL bs i (k + 1) = corL bs i k ++ [((cor bs i (k + 1) : Nat) : Int)] from rfl)
      generalize cor bs i k = x at *
      obtain ⟨y, hy⟩ : ∃ y, y = cor bs i (k + 1) := ⟨_, rfl⟩
      rw [← hy] at q1 HCL
      have HY := Lib.hid hy
      have hgt : (0 : Int) < (s : Int) - (k : Int) := by omega
      have hwk : IntKind.i64.wrap ((s : Int) - (k : Int) - 1) = (s : Int) - (k : Int) - 1 := IntWalk.i64_in _ (by omega)
      clear hb hcr hir hcx hcQ hqq h4 hy
      go_wp2_with (at_builtin; refine wpList_push rfl _ _ rfl w.heap.size _ (k + 1) _ rfl (HO.out.alloc _) wr.heap.size (y : Int) rfl (heap_alloc_new wr _) ?c1 ?c2 ?c3 ?_)
      case c1 => unfold maxLen; omega
      case c2 => omega
      case c3 => have := HB.out.size; simp; omega
      intro v' w3 hown' hgrow _
      rw [show vis (corL bs i k) ++ [vi (y : Int)] = vis (corL bs i (k + 1)) by rw [HCL.out, vis_snoc]] at hown'
      have O3 := Lib.hid hown'
      have B3 := Lib.hid ((HB.out.alloc HB.out.size _).grown hgrow (by have := HB.out.size; simp; omega) (fun j hj => (HO.out.lt j hj).1))
      clear hown' hgrow HO HB e1 q1
      go_wp2_with fail
      go_roundw
      case rel => exact ⟨k + 1, by omega, by rw [HY.out], by go_num, O3.out, B3.out⟩
      case measure => simp [intOf]; omega
    · obtain rfl : k = s := by omega
      have hgt : ¬ (0 : Int) < (k : Int) - (k : Int) := by omega
      obtain ⟨A2, cap2, rfl, hcap, htw⟩ := own_iwr HO.out (by rw [corL_len])
      have HT := Lib.hid htw
      clear htw HO hB hb
      go_wp2_with fail
      go_ret
      first | exact ⟨A2, cap2, rfl, HB.out, HT.out⟩ | exact ⟨A2, ⟨cap2, rfl⟩, HB.out, HT.out⟩

set_option maxRecDepth 100000 in
set_option maxHeartbeats 2000000 in
theorem specCornersOf_any (c0 : Int) (A : Option Addr) (n c : Nat) (ts : List Tl) (B : Option Addr) (m d : Nat) (bs : List (List Int)) (i s : Int) (w : World) (hn : n ≤ 1048576) (hl : ts.length = n) (hA : TR w w.heap.size A ts) (hm : m ≤ 1048576) (hlr : bs.length = m) (hB : IRR w w.heap.size B bs) (hrow : ∀ k, k < m → (bs.getD k []).length ≤ 1048576) :
    Calls Try.prog 40 #[.agg #[.int .i64 c0, .slice A n c], .slice B m d, .int .i64 i, .int .i64 s] w fun e w' => (sCode c0 ts bs i s 20 = 0 → LiRes w (corL bs i.toNat s.toNat) 0 e w') ∧ (sCode c0 ts bs i s 20 ≠ 0 → LiRes w [] (sCode c0 ts bs i s 20) e w') := by
  have HC := Lib.hid (l09Tile_any c0 A n c ts B m d bs i s 20 (w.alloc (Obj.cells #[.int .i64 c0, .slice A n c] 32)) hn hl ((hA.ext ((Ext.refl w).alloc _) (Nat.le_refl _)).more (((Ext.refl w).alloc _).below (Nat.le_refl _)).size) hm hlr ((hB.ext ((Ext.refl w).alloc _) (Nat.le_refl _)).more (((Ext.refl w).alloc _).below (Nat.le_refl _)).size) hrow)
  unfold LiRes
  by_cases hz : sCode c0 ts bs i s 20 = 0
  · obtain ⟨hf, hs9⟩ := gc_zero hz
    obtain ⟨hb0, hi9⟩ := gc_zero hf
    obtain ⟨hset, hok⟩ := bCode_zero hb0
    have hlen := bCode_len hb0
    simp only [decide_eq_true_eq] at hs9 hi9
    obtain ⟨I, rfl⟩ : ∃ I : Nat, i = (I : Int) := ⟨i.toNat, by omega⟩
    obtain ⟨S9, rfl⟩ : ∃ S9 : Nat, s = (S9 : Int) := ⟨s.toNat, by omega⟩
    have HK := Lib.hid (fun W (hW : Ext w W) => l09Corners_any ts B m d bs I S9 W hm hlr ((hB.ext hW (Nat.le_refl _)).more (hW.below (Nat.le_refl _)).size) hok (by omega) (by omega))
    rw [hz] at HC ⊢
    simp only [ne_eq, not_true_eq_false, false_implies, and_true, forall_const, Int.toNat_natCast, corL_len]
    clear hz hf hs9 hb0 hi9 hset hok hlen
    go_enter Try.func40, Try.ntmps40
    go_wp2_with fail
    refine HC.out.mono ?_
    rintro e w1 ⟨rfl, hx⟩
    have HX := Lib.hid (((Ext.refl w).alloc _).trans hx)
    clear hx
    go_wp2_with fail
    refine (HK.out _ HX.out).mono ?_
    rintro e w3 ⟨R, cap, rfl, hb3, hw3⟩
    have HB3 := Lib.hid ((HX.out.below (Nat.le_refl _)).trans (hb3.mono (HX.out.below (Nat.le_refl _)).size))
    have HW3 := Lib.hid (hw3.low (HX.out.below (Nat.le_refl _)).size)
    clear hb3 hw3
    go_wp2_with fail
    go_ret2
    first | exact ⟨R, cap, rfl, HB3.out, HW3.out⟩ | exact ⟨R, ⟨cap, rfl⟩, HB3.out, HW3.out⟩
  · simp only [ne_eq, hz, not_false_eq_true, false_implies, true_and, forall_const]
    generalize sCode c0 ts bs i s 20 = cd at *
    go_enter Try.func40, Try.ntmps40
    go_wp2_with fail
    refine HC.out.mono ?_
    rintro e w1 ⟨rfl, hx⟩
    have HX := Lib.hid (((Ext.refl w).alloc _).trans hx)
    clear hx
    go_wp2_with fail
    go_ret2
    first | exact ⟨none, 0, rfl, HX.out.below (Nat.le_refl _), fun h => absurd h (Nat.lt_irrefl _)⟩ | exact ⟨none, ⟨0, rfl⟩, HX.out.below (Nat.le_refl _), fun h => absurd h (Nat.lt_irrefl _)⟩

set_option maxRecDepth 100000 in
set_option maxHeartbeats 4000000 in
theorem implCornersOf_any (c0 : Int) (A : Option Addr) (n c : Nat) (ts : List Tl) (B : Option Addr) (m d : Nat) (bs : List (List Int)) (i s : Int) (w : World) (hn : n ≤ 1048576) (hl : ts.length = n) (hA : TR w w.heap.size A ts) (hm : m ≤ 1048576) (hlr : bs.length = m) (hB : IRR w w.heap.size B bs) (hrow : ∀ k, k < m → (bs.getD k []).length ≤ 1048576) :
    Calls Try.prog 41 #[.agg #[.int .i64 c0, .slice A n c], .slice B m d, .int .i64 i, .int .i64 s] w fun e w' => (sCode c0 ts bs i s 20 = 0 → LiRes w (corL bs i.toNat s.toNat) 0 e w') ∧ (sCode c0 ts bs i s 20 ≠ 0 → LiRes w [] (sCode c0 ts bs i s 20) e w') := by
  have HC := Lib.hid (fun QQ => growthBySteps_any c0 A n c ts B m d bs i s 20 (w.alloc (Obj.cells #[.int .i64 c0, .slice A n c] 32)) hn hl ((hA.ext ((Ext.refl w).alloc _) (Nat.le_refl _)).more (((Ext.refl w).alloc _).below (Nat.le_refl _)).size) hm hlr ((hB.ext ((Ext.refl w).alloc _) (Nat.le_refl _)).more (((Ext.refl w).alloc _).below (Nat.le_refl _)).size) hrow QQ)
  have HX0 := Lib.hid (((Ext.refl w).alloc (Obj.cells #[.int .i64 c0, .slice A n c] 32)).below (Nat.le_refl w.heap.size))
  unfold LiRes
  by_cases hz : sCode c0 ts bs i s 20 = 0
  · obtain ⟨hf, hs9⟩ := gc_zero hz
    obtain ⟨hb0, hi9⟩ := gc_zero hf
    obtain ⟨hset, hok⟩ := bCode_zero hb0
    have hlen := bCode_len hb0
    simp only [decide_eq_true_eq] at hs9 hi9
    obtain ⟨I, rfl⟩ : ∃ I : Nat, i = (I : Int) := ⟨i.toNat, by omega⟩
    obtain ⟨S9, rfl⟩ : ∃ S9 : Nat, s = (S9 : Int) := ⟨s.toNat, by omega⟩
    have HL := Lib.hid (cor_lt hok (i := I) (by omega))
    have HAT := Lib.hid (cor_at hok (i := I) (by omega))
    have hS9 : S9 ≤ 20 := by omega
    have HZ := Lib.hid hz
    simp only [hz, ne_eq, not_true_eq_false, false_implies, and_true, forall_const, Int.toNat_natCast, corL_len]
    clear hz hf hs9 hb0 hi9 hset hok hA hB
    go_enter Try.func41, Try.ntmps41
    go_wp2_with fail
    refine HC.out _ ?_ ?_
    · intro _ e w1 ⟨G, g, he, hb1, htw⟩
      subst he
      rw [blkL_len, hlr]
      have K1 := Lib.hid (HX0.out.trans (hb1.mono HX0.out.size))
      have HT := Lib.hid htw
      have hlow : w.heap.size + 1 ≤ w1.heap.size := by have := hb1.size; simpa using this
      have hx2 := (Ext.refl w1).alloc (Obj.cells #[.int .i64 c0, .slice A n c, .slice G m g] 61)
      have hx3 := hx2.alloc (Obj.cells #[.int .i64 (I : Int)] 2)
      have N3 := Lib.hid ((Blk.new w1 61 #[.int .i64 c0, .slice A n c, .slice G m g]).ext ((Ext.refl _).alloc (Obj.cells #[.int .i64 (I : Int)] 2)))
      have hO := own_built1 (w1.alloc (Obj.cells #[.int .i64 c0, .slice A n c, .slice G m g] 61)) (w1.heap.size + 1) (I : Int) (by simp)
      rw [World.size_alloc] at hO
      have HO0 := Lib.hid hO
      have T3 := Lib.hid ((HT.out.tr).ext hx3 (Nat.le_refl _))
      have K3 := Lib.hid (K1.out.trans (hx3.below K1.out.size))
      have hs3 : ((w1.alloc (Obj.cells #[.int .i64 c0, .slice A n c, .slice G m g] 61)).alloc (Obj.cells #[.int .i64 (I : Int)] 2)).heap.size = w1.heap.size + 2 := by simp
      clear hb1 htw hx2 hx3 hO
      go_wp2_with fail
      generalize (w1.alloc (Obj.cells #[.int .i64 c0, .slice A n c, .slice G m g] 61)).alloc (Obj.cells #[.int .i64 (I : Int)] 2) = W3 at *
      generalize w1.heap.size = g9 at *
      go_loopw [2, 12, 27] (fun iv v kv wr => ∃ k : Nat, k ≤ S9 ∧ kv = .int .i64 (k : Int) ∧ iv = .int .i64 ((cor bs I k : Nat) : Int) ∧ wr.ownsRow (g9 + 1) 2 1 v (k + 1) (vis (corL bs I k)) ∧ Below (g9 + 1) W3 wr) (fun _ _ kv _ => S9 - (intOf kv).toNat)
      case atStart => exact ⟨0, Nat.zero_le _, rfl, rfl, HO0.out, Below.refl _ _⟩
      case round =>
        obtain ⟨k, hk, rfl, rfl, hown, hb⟩ := hrel
        have HO := Lib.hid hown
        have HB := Lib.hid hb
        have KR := Lib.hid (K3.out.trans (hb.mono (by omega)))
        clear hown
        by_cases hlt : k < S9
        · have hcl := HL.out k
          have NR := Lib.hid (N3.out.below hb (Nat.lt_succ_self _))
          obtain ⟨bG, oG, hGe, hbG, q1, -, -, -⟩ := tr_first T3.out hcl
          subst hGe
          replace q1 := (hb.cell (p := ⟨bG, oG + cor bs I k * 4, none⟩) (show bG < g9 + 1 by omega)).trans q1
          rw [HAT.out k] at q1
          have e2 := NR.out.rd 2 rfl
          have HCL := Lib.hid (show corL bs I (k + 1) = corL bs I k ++ [((cor bs I (k + 1) : Nat) : Int)] from rfl)
          generalize cor bs I k = x at *
          obtain ⟨y, hy⟩ : ∃ y, y = cor bs I (k + 1) := ⟨_, rfl⟩
          rw [← hy] at q1 HCL
          have HY := Lib.hid hy
          clear hb hy
          go_wp2_with (at_builtin; refine wpList_push rfl _ _ rfl (g9 + 1) _ (k + 1) _ rfl (HO.out.alloc _) wr.heap.size (y : Int) rfl (heap_alloc_new wr _) ?c1 ?c2 ?c3 ?_)
          case c1 => unfold maxLen; omega
          case c2 => omega
          case c3 => have := HB.out.size; simp; omega
          intro v' w3 hown' hgrow _
          rw [show vis (corL bs I k) ++ [vi (y : Int)] = vis (corL bs I (k + 1)) by rw [HCL.out, vis_snoc]] at hown'
          have O3 := Lib.hid hown'
          have B3 := Lib.hid ((HB.out.alloc (by have := HB.out.size; omega) (Obj.cells #[.int .i64 (y : Int)] 2)).grown hgrow (by have := HB.out.size; simp; omega) (fun j hj => (HO.out.lt j hj).1))
          clear hown' hgrow HO HB e2 q1
          go_wp2_with fail
          go_roundw
          case rel => exact ⟨k + 1, by omega, by go_num, by rw [HY.out], O3.out, B3.out⟩
          case measure => simp [intOf]; omega
        · obtain rfl : k = S9 := by omega
          obtain ⟨A2, cap2, rfl, hcap, htw⟩ := own_iwr HO.out (by rw [corL_len])
          have HT2 := Lib.hid (htw.low (show w.heap.size ≤ g9 + 1 by omega))
          clear htw HO hb
          go_wp2_with fail
          go_ret2
          first | exact ⟨A2, cap2, rfl, KR.out, HT2.out⟩ | exact ⟨A2, ⟨cap2, rfl⟩, KR.out, HT2.out⟩
    · intro h
      exact absurd HZ.out h
  · have HZ := Lib.hid hz
    simp only [ne_eq, hz, not_false_eq_true, false_implies, true_and, forall_const]
    generalize sCode c0 ts bs i s 20 = cd at *
    go_enter Try.func41, Try.ntmps41
    go_wp2_with fail
    refine HC.out _ ?_ ?_
    · intro h
      exact absurd h HZ.out
    · intro _ e w1 ⟨he, hb1⟩
      subst he
      have K1 := Lib.hid (HX0.out.trans (hb1.mono HX0.out.size))
      have hx2 := (Ext.refl w1).alloc (Obj.cells #[.int .i64 0, .slice none 0 0, .slice none 0 0] 61)
      have K2 := Lib.hid (K1.out.trans (hx2.below K1.out.size))
      clear hb1 hx2
      go_wp2_with fail
      go_ret2
      first | exact ⟨none, 0, rfl, K2.out, fun h => absurd h (Nat.lt_irrefl _)⟩ | exact ⟨none, ⟨0, rfl⟩, K2.out, fun h => absurd h (Nat.lt_irrefl _)⟩
end Go.Proofs.Ytnmgkchkbchfaaa
