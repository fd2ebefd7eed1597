/- GrowTile: both sides. -/
import Derived.Test.YtnmgkchkbchfaaaBkB
namespace Go.Proofs.Ytnmgkchkbchfaaa
set_option linter.unusedVariables false
set_option linter.unusedSimpArgs false
open Go.RowKit Go.Sort

/-- A list of one row of one number, newly built. -/
theorem iww_one (w : World) (x : Int) : IWW ((w.alloc (Obj.cells #[.int .i64 x] 2)).alloc (Obj.cells #[.slice (some ⟨w.heap.size, 0, none⟩) 1 1] 44)) w.heap.size ((w.alloc (Obj.cells #[.int .i64 x] 2)).alloc (Obj.cells #[.slice (some ⟨w.heap.size, 0, none⟩) 1 1] 44)).heap.size (some ⟨w.heap.size + 1, 0, none⟩) [[x]] := fun _ => by
  have h1 := (Blk.new w 2 #[.int .i64 x]).ext ((Ext.refl _).alloc (Obj.cells #[.slice (some ⟨w.heap.size, 0, none⟩) 1 1] 44))
  have h2 := Blk.new (w.alloc (Obj.cells #[.int .i64 x] 2)) 44 #[.slice (some ⟨w.heap.size, 0, none⟩) 1 1]
  rw [World.size_alloc] at h2
  refine ⟨_, 0, _, _, fun _ => some ⟨w.heap.size, 0, none⟩, fun _ => 1, rfl, by omega, by simp only [World.size_alloc]; omega, h2, fun k hk => ?_, fun j k hjk hk => ?_⟩
  · obtain rfl : k = 0 := by simpa using hk
    refine ⟨rfl, Nat.le_refl _, fun _ => ⟨_, 0, _, _, rfl, Nat.le_refl _, by simp only [World.size_alloc]; omega, h1, fun j hj => ?_⟩, fun c u e _ => by cases e; omega⟩
    obtain rfl : j = 0 := by simpa using hj
    rfl
  · simp at hk
    omega
theorem rows_one (m : Nat) (i : Nat) (hi : i < m) : ∀ k, k < ([[(i : Int)]] : List (List Int)).length → (([[(i : Int)]] : List (List Int)).getD k []).length ≤ 8 ∧ inN m (([[(i : Int)]] : List (List Int)).getD k []) := fun k hk => by
  obtain rfl : k = 0 := by simpa using hk
  refine ⟨by simp, fun j hj => ?_⟩
  obtain rfl : j = 0 := by simpa using hj
  show 0 ≤ (i : Int) ∧ (i : Int) < (m : Int)
  omega

set_option maxRecDepth 100000 in
set_option maxHeartbeats 4000000 in
theorem specGrowTile_any (c0 : Int) (A : Option Addr) (n c : Nat) (ts : List Tl) (B : Option Addr) (m d : Nat) (bs : List (List Int)) (i s : Int) (w : World) (hn : n ≤ 1048576) (hl : ts.length = n) (hA : TR w w.heap.size A ts) (hm : m ≤ 1048576) (hlr : bs.length = m) (hB : IRR w w.heap.size B bs) (hrow : ∀ k, k < m → (bs.getD k []).length ≤ 1048576) :
    Calls Try.prog 31 #[.agg #[.int .i64 c0, .slice A n c], .slice B m d, .int .i64 i, .int .i64 s] w (fun e w' => (sCode c0 ts bs i s 3 = 0 → GrRes w (gN bs [[((i.toNat : Nat) : Int)]] s.toNat) 0 e w') ∧ (sCode c0 ts bs i s 3 ≠ 0 → GrRes w [] (sCode c0 ts bs i s 3) e w')) := by
  have HC := Lib.hid (l09Tile_any c0 A n c ts B m d bs i s 3 (w.alloc (Obj.cells #[.int .i64 c0, .slice A n c] 32)) hn hl ((hA.ext ((Ext.refl w).alloc _) (Nat.le_refl _)).more (((Ext.refl w).alloc _).below (Nat.le_refl _)).size) hm hlr ((hB.ext ((Ext.refl w).alloc _) (Nat.le_refl _)).more (((Ext.refl w).alloc _).below (Nat.le_refl _)).size) hrow)
  unfold GrRes
  by_cases hz : sCode c0 ts bs i s 3 = 0
  · obtain ⟨hf, hs9⟩ := gc_zero hz
    obtain ⟨hb0, hi9⟩ := gc_zero hf
    obtain ⟨hset, hok⟩ := bCode_zero hb0
    have hlen := bCode_len hb0
    simp only [decide_eq_true_eq] at hs9 hi9
    obtain ⟨I, rfl⟩ : ∃ I : Nat, i = (I : Int) := ⟨i.toNat, by omega⟩
    obtain ⟨S9, rfl⟩ : ∃ S9 : Nat, s = (S9 : Int) := ⟨s.toNat, by omega⟩
    have hIm : I < m := by omega
    have hS9 : S9 ≤ 3 := by omega
    have HGB := Lib.hid (GB_of (rs := [[(I : Int)]]) hok hlr (by simp) (rows_one m I hIm) hS9)
    have HGR := Lib.hid (fun (E : Option Addr) (rd : Nat) (k : Nat) (hk : k ≤ S9) (W : World) (hW : Below w.heap.size w W) (hE : IRR W W.heap.size E (gN bs [[(I : Int)]] k)) => l09Grow_any ts B m d bs E _ rd (gN bs [[(I : Int)]] k) W hm hlr ((hB.below hW (Nat.le_refl _)).more hW.size) hok (HGB.out k hk).1 rfl hE (HGB.out k hk).2)
    have HZ := Lib.hid hz
    simp only [hz, ne_eq, not_true_eq_false, false_implies, and_true, forall_const, Int.toNat_natCast]
    rw [hz] at HC
    clear hz hf hs9 hb0 hi9 hset hok hlen hA hB
    go_enter Try.func31, Try.ntmps31
    go_wp2_with fail
    refine HC.out.mono ?_
    rintro e w1 ⟨rfl, hx⟩
    have HX := Lib.hid (((Ext.refl w).alloc (Obj.cells #[.int .i64 c0, .slice A n c] 32)).trans hx)
    clear hx
    go_wp2_with fail
    have HI := Lib.hid (iww_one w1 (I : Int))
    have HX2 := Lib.hid ((HX.out.alloc (Obj.cells #[.int .i64 (I : Int)] 2)).alloc (Obj.cells #[.slice (some ⟨w1.heap.size, 0, none⟩) 1 1] 44))
    have HS1 := Lib.hid (show w.heap.size ≤ w1.heap.size from (HX.out.below (Nat.le_refl _)).size)
    generalize (w1.alloc (Obj.cells #[.int .i64 (I : Int)] 2)).alloc (Obj.cells #[.slice (some ⟨w1.heap.size, 0, none⟩) 1 1] 44) = W2 at *
    generalize hg1 : w1.heap.size = g1 at *
    go_loopw [3, 11] (fun nv v wr => ∃ (k : Nat) (R : Option Addr) (q : Nat), k ≤ S9 ∧ nv = .int .i64 ((S9 : Int) - (k : Int)) ∧ v = .slice R (gN bs [[(I : Int)]] k).length q ∧ IWW wr w.heap.size wr.heap.size R (gN bs [[(I : Int)]] k) ∧ Below w.heap.size w wr) (fun nv _ _ => (intOf nv).toNat)
    case atStart => exact ⟨0, some ⟨g1 + 1, 0, none⟩, 1, Nat.zero_le _, by simp, rfl, HI.out.lowF HS1.out, HX2.out.below (Nat.le_refl _)⟩
    case round =>
      obtain ⟨k, R, q, hk, rfl, rfl, hw, hb⟩ := hrel
      have HW := Lib.hid hw
      have HB := Lib.hid hb
      clear hw hb
      by_cases hlt : k < S9
      · have hgt : (0 : Int) < (S9 : Int) - (k : Int) := by omega
        have hwk : IntKind.i64.wrap ((S9 : Int) - (k : Int) - 1) = (S9 : Int) - (k : Int) - 1 := IntWalk.i64_in _ (by omega)
        have HCALL := Lib.hid (HGR.out R q k (by omega) wr HB.out HW.out.irr)
        have HNX := Lib.hid (show gN bs [[(I : Int)]] (k + 1) = growR bs (gN bs [[(I : Int)]] k) from rfl)
        generalize growR bs (gN bs [[(I : Int)]] k) = nx at *
        generalize (gN bs [[(I : Int)]] k).length = L at *
        go_wp2_with fail
        refine HCALL.out.mono ?_
        rintro e w3 ⟨R3, q3, rfl, -, hb3, hw3⟩
        have HW3 := Lib.hid (show IWW w3 w.heap.size w3.heap.size R3 (gN bs [[(I : Int)]] (k + 1)) by rw [HNX.out]; exact hw3.lowF HB.out.size)
        have HB3 := Lib.hid (HB.out.trans (hb3.mono HB.out.size))
        clear hb3 hw3
        go_wp2_with fail
        go_roundw
        case rel => exact ⟨k + 1, R3, q3, by omega, by go_num, by rw [HNX.out], HW3.out, HB3.out⟩
        case measure => simp [intOf]; omega
      · obtain rfl : k = S9 := by omega
        have hgt : ¬ (0 : Int) < (k : Int) - (k : Int) := by omega
        go_wp2_with fail
        go_ret2
        first | exact ⟨R, q, rfl, HB.out, HW.out⟩ | exact ⟨R, ⟨q, rfl⟩, HB.out, HW.out⟩
  · simp only [ne_eq, hz, not_false_eq_true, false_implies, true_and, forall_const]
    generalize sCode c0 ts bs i s 3 = cd at *
    clear hA hB
    go_enter Try.func31, Try.ntmps31
    go_wp2_with fail
    refine HC.out.mono ?_
    rintro e w1 ⟨rfl, hx⟩
    have KK := Lib.hid ((((Ext.refl w).alloc _).trans hx).below (Nat.le_refl _))
    clear hx
    go_wp2_with fail
    go_ret2
    first | exact ⟨none, 0, rfl, KK.out, fun h => absurd h (Nat.lt_irrefl _)⟩ | exact ⟨none, ⟨0, rfl⟩, KK.out, fun h => absurd h (Nat.lt_irrefl _)⟩

set_option maxRecDepth 100000 in
set_option maxHeartbeats 4000000 in
theorem implGrowTile_any (c0 : Int) (A : Option Addr) (n c : Nat) (ts : List Tl) (B : Option Addr) (m d : Nat) (bs : List (List Int)) (i s : Int) (w : World) (hn : n ≤ 1048576) (hl : ts.length = n) (hA : TR w w.heap.size A ts) (hm : m ≤ 1048576) (hlr : bs.length = m) (hB : IRR w w.heap.size B bs) (hrow : ∀ k, k < m → (bs.getD k []).length ≤ 1048576) :
    Calls Try.prog 32 #[.agg #[.int .i64 c0, .slice A n c], .slice B m d, .int .i64 i, .int .i64 s] w (fun e w' => (sCode c0 ts bs i s 3 = 0 → GrRes w (gN bs [[((i.toNat : Nat) : Int)]] s.toNat) 0 e w') ∧ (sCode c0 ts bs i s 3 ≠ 0 → GrRes w [] (sCode c0 ts bs i s 3) e w')) := by
  have HC := Lib.hid (fun QQ => growthBySteps_any c0 A n c ts B m d bs i s 3 (w.alloc (Obj.cells #[.int .i64 c0, .slice A n c] 32)) hn hl ((hA.ext ((Ext.refl w).alloc _) (Nat.le_refl _)).more (((Ext.refl w).alloc _).below (Nat.le_refl _)).size) hm hlr ((hB.ext ((Ext.refl w).alloc _) (Nat.le_refl _)).more (((Ext.refl w).alloc _).below (Nat.le_refl _)).size) hrow QQ)
  have HX0 := Lib.hid (((Ext.refl w).alloc (Obj.cells #[.int .i64 c0, .slice A n c] 32)).below (Nat.le_refl w.heap.size))
  unfold GrRes
  by_cases hz : sCode c0 ts bs i s 3 = 0
  · obtain ⟨hf, hs9⟩ := gc_zero hz
    obtain ⟨hb0, hi9⟩ := gc_zero hf
    obtain ⟨hset, hok⟩ := bCode_zero hb0
    have hlen := bCode_len hb0
    simp only [decide_eq_true_eq] at hs9 hi9
    obtain ⟨I, rfl⟩ : ∃ I : Nat, i = (I : Int) := ⟨i.toNat, by omega⟩
    obtain ⟨S9, rfl⟩ : ∃ S9 : Nat, s = (S9 : Int) := ⟨s.toNat, by omega⟩
    have hIm : I < m := by omega
    have hS9 : S9 ≤ 3 := by omega
    have HGB := Lib.hid (GB_of (rs := [[(I : Int)]]) hok hlr (by simp) (rows_one m I hIm) hS9)
    have HGR := Lib.hid (fun (G : Option Addr) (g lo : Nat) (E : Option Addr) (W : World) (hG : TR W W.heap.size G (blkL bs)) (hlo : lo ≤ W.heap.size) (hI : IWW W lo W.heap.size E [[(I : Int)]]) => grown_any ts c0 A n c G m g bs E 1 1 [[(I : Int)]] S9 lo W hm hlr hG rfl (Nat.le_refl _) hI.irr HGB.out (by omega) hlo (.inr hI))
    have HZ := Lib.hid hz
    simp only [hz, ne_eq, not_true_eq_false, false_implies, and_true, forall_const, Int.toNat_natCast]
    clear hz hf hs9 hb0 hi9 hset hok hlen hA hB
    go_enter Try.func32, Try.ntmps32
    go_wp2_with fail
    refine HC.out _ ?_ (fun h => absurd HZ.out h)
    intro _ e w1 ⟨G, g, he, hb1, htw⟩
    subst he
    rw [blkL_len, hlr]
    have K1 := Lib.hid (HX0.out.trans (hb1.mono HX0.out.size))
    have hx2 := (Ext.refl w1).alloc (Obj.cells #[.int .i64 c0, .slice A n c, .slice G m g] 61)
    have N2 := Lib.hid (Blk.new w1 61 #[.int .i64 c0, .slice A n c, .slice G m g])
    have n0 := N2.out.rd 0 rfl
    have n1 := N2.out.rd 1 rfl
    have n2 := N2.out.rd 2 rfl
    have hx3 := hx2.alloc (Obj.cells #[.int .i64 (I : Int)] 2)
    have hx4 := hx3.alloc (Obj.cells #[.slice (some ⟨w1.heap.size + 1, 0, none⟩) 1 1] 44)
    have HI := iww_one (w1.alloc (Obj.cells #[.int .i64 c0, .slice A n c, .slice G m g] 61)) (I : Int)
    have HS1 := hx2.below (Nat.le_refl w1.heap.size)
    rw [World.size_alloc] at HI
    have T4 := Lib.hid (((htw.tr).ext hx4 (Nat.le_refl _)).more (hx4.below (Nat.le_refl _)).size)
    have K4 := Lib.hid (K1.out.trans (hx4.below K1.out.size))
    have HI4 := Lib.hid (HI.lowF (show w.heap.size ≤ w1.heap.size + 1 by have := K1.out.size; omega))
    have HCALL := HGR.out G g w.heap.size (some ⟨w1.heap.size + 1 + 1, 0, none⟩) _ T4.out K4.out.size HI4.out
    have HCC := Lib.hid HCALL
    clear hb1 htw hx2 hx3 hx4 HI HS1 HCALL
    go_wp2_with fail
    refine HCC.out.mono ?_
    rintro e w5 ⟨R, q, rfl, -, hb5, -, hw5⟩
    have HB5 := Lib.hid (K4.out.trans (hb5.mono K4.out.size))
    have HW5 := Lib.hid hw5
    clear hb5 hw5 n0 n1 n2
    go_wp2_with fail
    go_ret2
    first | exact ⟨R, q, rfl, HB5.out, HW5.out⟩ | exact ⟨R, ⟨q, rfl⟩, HB5.out, HW5.out⟩
  · have HZ := Lib.hid hz
    simp only [ne_eq, hz, not_false_eq_true, false_implies, true_and, forall_const]
    generalize sCode c0 ts bs i s 3 = cd at *
    clear hA hB
    go_enter Try.func32, Try.ntmps32
    go_wp2_with fail
    refine HC.out _ (fun h => absurd h HZ.out) ?_
    intro _ e w1 ⟨he, hb1⟩
    subst he
    have K1 := Lib.hid (HX0.out.trans (hb1.mono HX0.out.size))
    have hx2 := (Ext.refl w1).alloc (Obj.cells #[.int .i64 0, .slice none 0 0, .slice none 0 0] 61)
    have KK := Lib.hid (K1.out.trans (hx2.below K1.out.size))
    clear hb1 hx2
    go_wp2_with fail
    go_ret2
    first | exact ⟨none, 0, rfl, KK.out, fun h => absurd h (Nat.lt_irrefl _)⟩ | exact ⟨none, ⟨0, rfl⟩, KK.out, fun h => absurd h (Nat.lt_irrefl _)⟩
end Go.Proofs.Ytnmgkchkbchfaaa
