/- The program's CountRows. -/
import Derived.Test.YtdkodmmbgflijaaCnt2
namespace Go.Proofs.Ytdkodmmbgflijaa
set_option linter.unusedVariables false
set_option linter.unusedSimpArgs false
open Go.RowKit Go.Sort

theorem cap_one : Cap (fun _ => 1) := fun _ => ⟨by show (0 : Int) ≤ 1; omega, by show (1 : Int) ≤ _; omega⟩
def rowsCount (c0 : Int) (ts : List Tl) (i : Int) : Int := if lenCode c0 ts i = 0 then cnt (tot6 (wpow ts (fun _ => 1) i.toNat)) else 0
def rowsCode (c0 : Int) (ts : List Tl) (i : Int) : Int := if lenCode c0 ts i = 0 then cntCode (tot6 (wpow ts (fun _ => 1) i.toNat)) else lenCode c0 ts i
theorem lenCode_ok {c0 : Int} {ts : List Tl} {i : Int} (h : lenCode c0 ts i = 0) : isSet c0 ts = true ∧ 1 ≤ i ∧ i ≤ 40 := by
  unfold lenCode at h
  split at h
  · split at h
    · exact ⟨by assumption, by omega, by omega⟩
    · omega
  · omega

set_option maxRecDepth 100000 in
set_option maxHeartbeats 2000000 in
theorem implCountRows_any (c0 : Int) (A : Option Addr) (n c : Nat) (ts : List Tl) (i : Int) (w : World) (hn : n ≤ 1048576) (hl : ts.length = n) (hA : TR w w.heap.size A ts) :
    Calls Try.prog 41 #[.agg #[.int .i64 c0, .slice A n c], .int .i64 i] w (IntRes w (rowsCount c0 ts i) (rowsCode c0 ts i)) := by
  have hck : ∀ W, Ext w W → Calls Try.prog 84 #[.agg #[.int .i64 c0, .slice A n c], .int .i64 i] W _ := fun W hW => checkLength_any c0 A n c ts i W hn hl ((hA.ext hW (Nat.le_refl _)).more (hW.below (Nat.le_refl _)).size)
  have HC := Lib.hid hck
  clear hck
  unfold rowsCount rowsCode
  by_cases hc : lenCode c0 ts i = 0
  · obtain ⟨hset, hi1, hi2⟩ := lenCode_ok hc
    obtain ⟨j, rfl⟩ : ∃ j : Nat, i = (j : Int) := ⟨i.toNat, by omega⟩
    have hok : ∀ t ∈ ts, tileOk 6 t = true := fun t ht => tileOk_mono (isSet_col hset).2 (ok_of_isSet' hset t ht)
    have hex : ∀ (f : Nat → Int), Cap f → ∀ W, Below w.heap.size w W → Calls Try.prog 86 #[.agg (l6 f), .slice A n c] W _ := fun f hf W hW => extended_any f A n c ts W hf hn hl ((hA.below hW (Nat.le_refl _)).more hW.size) hok
    unfold l6 at hex
    have HX := Lib.hid hex
    have HTO := Lib.hid (fun W => total_any (wpow ts (fun _ => 1) j) (wpow_cap ts cap_one j) W)
    unfold l6 at HTO
    rw [if_pos hc, if_pos hc, Int.toNat_natCast]
    rw [hc] at HC
    have hj : j ≤ 40 := by omega
    clear hex hc hA hok
    go_enter Try.func41, Try.ntmps41
    go_wp2_with fail
    refine (HC.out _ ((Ext.refl w).alloc _)).mono ?_
    rintro e w1 ⟨rfl, hx⟩
    have K1 := Lib.hid ((((Ext.refl w).alloc _).trans hx).below (Nat.le_refl _))
    have B1 := Lib.hid ((Blk.new w 29 #[.int .i64 c0, .slice A n c]).ext hx)
    have S1 : w.heap.size + 1 ≤ w1.heap.size := by have := (hx.below (Nat.le_refl _)).size; simpa using this
    clear hx
    go_wp2_with fail
    refine (oneEach_any _).mono ?_
    rintro e w2 ⟨rfl, hb⟩
    have K2 := Lib.hid (K1.out.trans (hb.mono K1.out.size))
    have B2 := Lib.hid (B1.out.below hb B1.out.lt)
    have S2 := hb.size
    clear hb K1 B1
    unfold l6
    go_wp2_with fail
    have K3 := Lib.hid (K2.out.alloc K2.out.size (Obj.cells (l6 fun _ => 1) 84))
    have B3 := Lib.hid (B2.out.ext ((Ext.refl w2).alloc (Obj.cells (l6 fun _ => 1) 84)))
    have G3 := Lib.hid (Blk.new w2 84 (l6 fun _ => 1))
    have S3 : w.heap.size + 1 ≤ w2.heap.size := by omega
    have S4 : w2.heap.size + 1 ≤ (w2.alloc (Obj.cells (l6 fun _ => 1) 84)).heap.size := by simp
    unfold l6 at K3 B3 G3 S4
    generalize w2.alloc (Obj.cells #[.int .i64 1, .int .i64 1, .int .i64 1, .int .i64 1, .int .i64 1, .int .i64 1] 84) = w3 at *
    clear K2 B2
    generalize w2.heap.size = g at *
    go_loopw [16] (fun i wr => ∃ k : Nat, k ≤ j ∧ i = .int .i64 k ∧ Blk wr g 84 (l6 (wpow ts (fun _ => 1) k)) ∧ Blk wr w.heap.size 29 #[.int .i64 c0, .slice A n c] ∧ Below w.heap.size w wr) (fun i _ => j - (intOf i).toNat)
    case atStart => exact ⟨0, Nat.zero_le _, rfl, G3.out, B3.out, K3.out⟩
    case round =>
      obtain ⟨k, hk, rfl, hg, hb, hbw⟩ := hrel
      have hcap := wpow_cap ts cap_one k
      by_cases hlt : k < j
      · have hst : wpow ts (fun _ => 1) (k + 1) = wstep ts (wpow ts (fun _ => 1) k) := rfl
        generalize wpow ts (fun _ => 1) k = f at hg hcap hst
        have d0 := hg.rd 0 (v := .int .i64 (f 0)) rfl
        have d1 := hg.rd 1 (v := .int .i64 (f 1)) rfl
        have d2 := hg.rd 2 (v := .int .i64 (f 2)) rfl
        have d3 := hg.rd 3 (v := .int .i64 (f 3)) rfl
        have d4 := hg.rd 4 (v := .int .i64 (f 4)) rfl
        have d5 := hg.rd 5 (v := .int .i64 (f 5)) rfl
        have r1 := hb.rd 1 rfl
        have G := Lib.hid hg
        have B := Lib.hid hb
        have K := Lib.hid hbw
        have HST := Lib.hid hst
        have HCAP := Lib.hid hcap
        clear hg hb hbw hst hcap
        go_wp2_with fail
        refine (HX.out f HCAP.out _ K.out).mono ?_
        rintro e w4 ⟨rfl, hb4⟩
        have G4 := Lib.hid (G.out.below hb4 G.out.lt)
        have B4 := Lib.hid (B.out.below hb4 B.out.lt)
        have K4 := Lib.hid (K.out.trans (hb4.mono K.out.size))
        clear d0 d1 d2 d3 d4 d5 r1 hb4 G B K
        have d0 := G4.out.rd 0 (v := .int .i64 (f 0)) rfl
        have d1 := G4.out.rd 1 (v := .int .i64 (f 1)) rfl
        have d2 := G4.out.rd 2 (v := .int .i64 (f 2)) rfl
        have d3 := G4.out.rd 3 (v := .int .i64 (f 3)) rfl
        have d4 := G4.out.rd 4 (v := .int .i64 (f 4)) rfl
        have d5 := G4.out.rd 5 (v := .int .i64 (f 5)) rfl
        have z0 := G4.out.frozen 0
        have z1 := G4.out.frozen 1
        have z2 := G4.out.frozen 2
        have z3 := G4.out.frozen 3
        have z4 := G4.out.frozen 4
        have z5 := G4.out.frozen 5
        go_wp2_with fail
        go_roundw
        case rel =>
          have hgw : g ≠ w.heap.size := by omega
          have hwg : w.heap.size ≤ g := by omega
          refine ⟨k + 1, by omega, by go_num, ?_, ?_, ?_⟩
          · rw [HST.out]
            exact blk_store6 G4.out _ _ _ _ _ _
          · exact ((((((B4.out.far hgw.symm _).far hgw.symm _).far hgw.symm _).far hgw.symm _).far hgw.symm _).far hgw.symm _)
          · exact (((((K4.out.setCell hwg _).setCell hwg _).setCell hwg _).setCell hwg _).setCell hwg _).setCell hwg _
        case measure => simp [intOf]; omega
      · obtain rfl : k = j := by omega
        have d0 := hg.rd 0 (v := .int .i64 (wpow ts (fun _ => 1) k 0)) rfl
        have d1 := hg.rd 1 (v := .int .i64 (wpow ts (fun _ => 1) k 1)) rfl
        have d2 := hg.rd 2 (v := .int .i64 (wpow ts (fun _ => 1) k 2)) rfl
        have d3 := hg.rd 3 (v := .int .i64 (wpow ts (fun _ => 1) k 3)) rfl
        have d4 := hg.rd 4 (v := .int .i64 (wpow ts (fun _ => 1) k 4)) rfl
        have d5 := hg.rd 5 (v := .int .i64 (wpow ts (fun _ => 1) k 5)) rfl
        have K := Lib.hid hbw
        clear hg hb hbw hcap
        go_wp2_with fail
        refine (HTO.out _).mono ?_
        rintro e w4 ⟨rfl, hb4⟩
        have K4 := Lib.hid (K.out.trans (hb4.mono K.out.size))
        clear hb4 d0 d1 d2 d3 d4 d5 K
        go_wp2_with fail
        refine (limitedCount_any _ _).mono ?_
        rintro e w5 ⟨rfl, rfl⟩
        go_wp2_with fail
        go_ret2
        exact IntRes.mk rfl K4.out
  · rw [if_neg hc, if_neg hc]
    generalize lenCode c0 ts i = code at HC hc
    clear hA
    have hne : (code != 0) = true := by simp [hc]
    go_enter Try.func41, Try.ntmps41
    go_wp2_with fail
    refine (HC.out _ ((Ext.refl w).alloc _)).mono ?_
    rintro e w1 ⟨rfl, hx⟩
    have HX := Lib.hid (((Ext.refl w).alloc _).trans hx)
    clear hx
    go_wp2_with fail
    go_ret2
    exact IntRes.mk rfl (HX.out.below (Nat.le_refl _))
end Go.Proofs.Ytdkodmmbgflijaa
