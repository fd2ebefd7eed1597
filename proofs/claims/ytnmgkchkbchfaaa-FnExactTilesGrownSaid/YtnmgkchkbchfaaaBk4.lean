/- Lists of blocks: the model's codes with a number, steps, rows. -/
import Derived.Test.YtnmgkchkbchfaaaBk1
import Derived.Test.YtnmgkchkbchfaaaBk3
namespace Go.Proofs.Ytnmgkchkbchfaaa
set_option linter.unusedVariables false
set_option linter.unusedSimpArgs false
open Go.RowKit Go.Sort

set_option maxRecDepth 100000 in
set_option maxHeartbeats 4000000 in
theorem l09Tile_any (c0 : Int) (A : Option Addr) (n c : Nat) (ts : List Tl) (B : Option Addr) (m d : Nat) (bs : List (List Int)) (i s hi : Int) (w : World) (hn : n ≤ 1048576) (hl : ts.length = n) (hA : TR w w.heap.size A ts) (hm : m ≤ 1048576) (hlr : bs.length = m) (hB : IRR w w.heap.size B bs) (hrow : ∀ k, k < m → (bs.getD k []).length ≤ 1048576) :
    Calls Try.prog 66 #[.agg #[.int .i64 c0, .slice A n c], .slice B m d, .int .i64 i, .int .i64 s, .int .i64 hi] w fun e w' => e = .returned (.int .i64 (sCode c0 ts bs i s hi)) ∧ Ext w w' := by
  have HC := Lib.hid (fun W (hW : Ext w W) => l09Code_any c0 A n c ts B m d bs W hn hl ((hA.ext hW (Nat.le_refl _)).more (hW.below (Nat.le_refl _)).size) hm hlr ((hB.ext hW (Nat.le_refl _)).more (hW.below (Nat.le_refl _)).size) hrow)
  have hlen := bCode_len (c0 := c0) (ts := ts) (bs := bs)
  unfold sCode fCode
  generalize hcd : bCode c0 ts bs = cd at *
  by_cases hz : cd = 0
  · have hmn : m = n := by rw [← hlr, ← hl]; exact hlen hz
    subst hz
    have hwr : IntKind.i64.wrap ((m : Int) - 1) = (m : Int) - 1 := IntWalk.i64_in _ (by omega)
    have h1 := fun W => l01In_any i 0 ((m : Int) - 1) W
    have h2 := fun W => l01In_any s 0 hi W
    rw [show decide (0 ≤ i ∧ i ≤ (m : Int) - 1) = decide (0 ≤ i ∧ i < (ts.length : Int)) by rw [decide_eq_decide, hl]; omega] at h1
    generalize decide (0 ≤ i ∧ i < (ts.length : Int)) = o1 at *
    generalize decide (0 ≤ s ∧ s ≤ hi) = o2 at *
    have H1 := Lib.hid h1
    have H2 := Lib.hid h2
    clear h1 h2 hcd hmn hlen
    cases o1 with
    | false =>
      rw [gc_two rfl, gc_no (by decide)]
      go_enter Try.func66, Try.ntmps66
      go_wp2_with fail
      refine (HC.out _ ((Ext.refl w).alloc _)).mono ?_
      rintro e w1 ⟨rfl, hx⟩
      have HX := Lib.hid (((Ext.refl w).alloc _).trans hx)
      clear hx
      go_wp2_with fail
      refine (H1.out _).mono ?_
      rintro e w2 ⟨rfl, rfl⟩
      go_wp2_with fail
      go_ret
      exact ⟨rfl, HX.out⟩
    | true =>
      rw [gc_yes rfl]
      cases o2 with
      | false =>
        rw [gc_two rfl]
        go_enter Try.func66, Try.ntmps66
        go_wp2_with fail
        refine (HC.out _ ((Ext.refl w).alloc _)).mono ?_
        rintro e w1 ⟨rfl, hx⟩
        have HX := Lib.hid (((Ext.refl w).alloc _).trans hx)
        clear hx
        go_wp2_with fail
        refine (H1.out _).mono ?_
        rintro e w2 ⟨rfl, rfl⟩
        go_wp2_with fail
        refine (H2.out _).mono ?_
        rintro e w2 ⟨rfl, rfl⟩
        go_wp2_with fail
        go_ret
        exact ⟨rfl, HX.out⟩
      | true =>
        rw [gc_yes rfl]
        go_enter Try.func66, Try.ntmps66
        go_wp2_with fail
        refine (HC.out _ ((Ext.refl w).alloc _)).mono ?_
        rintro e w1 ⟨rfl, hx⟩
        have HX := Lib.hid (((Ext.refl w).alloc _).trans hx)
        clear hx
        go_wp2_with fail
        refine (H1.out _).mono ?_
        rintro e w2 ⟨rfl, rfl⟩
        go_wp2_with fail
        refine (H2.out _).mono ?_
        rintro e w2 ⟨rfl, rfl⟩
        go_wp2_with fail
        go_ret
        exact ⟨rfl, HX.out⟩
  · rw [gc_no hz, gc_no hz]
    clear hcd hlen
    go_enter Try.func66, Try.ntmps66
    go_wp2_with fail
    refine (HC.out _ ((Ext.refl w).alloc _)).mono ?_
    rintro e w1 ⟨rfl, hx⟩
    have HX := Lib.hid (((Ext.refl w).alloc _).trans hx)
    clear hx
    go_wp2_with fail
    go_ret
    exact ⟨rfl, HX.out⟩

set_option maxRecDepth 100000 in
set_option maxHeartbeats 4000000 in
theorem l09Given_any (c0 : Int) (A : Option Addr) (n c : Nat) (ts : List Tl) (B : Option Addr) (m d : Nat) (bs : List (List Int)) (E : Option Addr) (r rd : Nat) (rs : List (List Int)) (w : World) (hn : n ≤ 1048576) (hl : ts.length = n) (hA : TR w w.heap.size A ts) (hm : m ≤ 1048576) (hlr : bs.length = m) (hB : IRR w w.heap.size B bs) (hrow : ∀ k, k < m → (bs.getD k []).length ≤ 1048576)
    (hr : r ≤ 1048576) (hlq : rs.length = r) (hE : IRR w w.heap.size E rs) (hrow2 : ∀ k, k < r → (rs.getD k []).length ≤ 1048576) :
    Calls Try.prog 59 #[.agg #[.int .i64 c0, .slice A n c], .slice B m d, .slice E r rd] w fun e w' => e = .returned (.int .i64 (rCode c0 ts bs rs)) ∧ Ext w w' := by
  have HC := Lib.hid (fun W (hW : Ext w W) => l09Code_any c0 A n c ts B m d bs W hn hl ((hA.ext hW (Nat.le_refl _)).more (hW.below (Nat.le_refl _)).size) hm hlr ((hB.ext hW (Nat.le_refl _)).more (hW.below (Nat.le_refl _)).size) hrow)
  have HR := Lib.hid (fun W (hW : Ext w W) => l01Rows_any c0 A n c ts E r rd rs W hn hl ((hA.ext hW (Nat.le_refl _)).more (hW.below (Nat.le_refl _)).size) hr hlq ((hE.ext hW (Nat.le_refl _)).more (hW.below (Nat.le_refl _)).size) hrow2)
  have hfc : bCode c0 ts bs = 0 → fillCode c0 ts rs = gCode9 0 (rowsOk ts rs) := fun h => by
    unfold fillCode
    rw [if_pos (bCode_zero h).1]
    rfl
  unfold rCode
  generalize bCode c0 ts bs = cd at *
  generalize fillCode c0 ts rs = fc at *
  generalize rowsOk ts rs = ro at *
  by_cases hz : cd = 0
  · subst hz
    rw [← hfc rfl]
    clear hfc
    go_enter Try.func59, Try.ntmps59
    go_wp2_with fail
    refine (HC.out _ ((Ext.refl w).alloc _)).mono ?_
    rintro e w1 ⟨rfl, hx⟩
    have HX := Lib.hid (((Ext.refl w).alloc (.cells #[.int .i64 c0, .slice A n c] 32)).trans hx)
    have HB1 := (Blk.new w 32 #[.int .i64 c0, .slice A n c]).ext hx
    have r0 := HB1.rd 0 rfl
    have r1 := HB1.rd 1 rfl
    clear hx HB1
    go_wp2_with fail
    refine (HR.out _ HX.out).mono ?_
    rintro e w2 ⟨rfl, hx⟩
    have HX2 := Lib.hid (HX.out.trans hx)
    clear hx r0 r1
    go_wp2_with fail
    go_ret
    exact ⟨rfl, HX2.out⟩
  · rw [gc_no hz]
    clear hfc
    go_enter Try.func59, Try.ntmps59
    go_wp2_with fail
    refine (HC.out _ ((Ext.refl w).alloc _)).mono ?_
    rintro e w1 ⟨rfl, hx⟩
    have HX := Lib.hid (((Ext.refl w).alloc _).trans hx)
    clear hx
    go_wp2_with fail
    go_ret
    exact ⟨rfl, HX.out⟩
end Go.Proofs.Ytnmgkchkbchfaaa
