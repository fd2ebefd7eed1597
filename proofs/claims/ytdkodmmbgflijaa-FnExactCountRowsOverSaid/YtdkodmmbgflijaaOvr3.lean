/- The program's CountRowsOver. -/
import Derived.Test.YtdkodmmbgflijaaOvr2
import Derived.Deep.RegionLaw
namespace Go.Proofs.Ytdkodmmbgflijaa
set_option linter.unusedVariables false
set_option linter.unusedSimpArgs false
open Go.RowKit Go.Sort

/-- The counts over a word: place by place the tiles under its colours. -/
def opow (ts : List Tl) (ns : List Int) : Nat → (Nat → Int)
  | 0 => fun _ => 1
  | k + 1 => wstep (withN ts (ns.getD k 0)) (opow ts ns k)
theorem opow_cap (ts : List Tl) (ns : List Int) : ∀ k, Cap (opow ts ns k)
  | 0 => cap_one
  | k + 1 => wstep_cap (opow_cap ts ns k) _
theorem opow_eq (ts : List Tl) {ns : List Int} (h : ns ≠ []) : ∀ k, opow ts ns k = npow ts ns (fun _ => 1) k
  | 0 => rfl
  | k + 1 => by
    show wstep (withN ts (ns.getD k 0)) (opow ts ns k) = pstep (under ns k) ts (npow ts ns (fun _ => 1) k)
    rw [pstep_eq, opow_eq ts h k]
    have : ns.isEmpty = false := by cases ns with
      | nil => exact absurd rfl h
      | cons _ _ => rfl
    congr 1
    unfold withN under
    rw [this]
    rfl
def overCount (c0 : Int) (ts : List Tl) (xs : List Int) : Int := if wordCode c0 ts xs = 0 then cnt (tot6 (opow ts xs xs.length)) else 0
def overCode (c0 : Int) (ts : List Tl) (xs : List Int) : Int := if wordCode c0 ts xs = 0 then cntCode (tot6 (opow ts xs xs.length)) else wordCode c0 ts xs
theorem wordCode_ok {c0 : Int} {ts : List Tl} {xs : List Int} (h : wordCode c0 ts xs = 0) : isSet c0 ts = true ∧ (1 ≤ xs.length ∧ xs.length ≤ 20) ∧ isWord c0 xs = true := by
  unfold wordCode at h
  split at h
  · split at h
    · exact ⟨by assumption, by assumption⟩
    · omega
  · omega

set_option maxRecDepth 100000 in
set_option maxHeartbeats 4000000 in
theorem implOver_any (c0 : Int) (A : Option Addr) (n c : Nat) (ts : List Tl) (B : Option Addr) (m d : Nat) (xs : List Int) (w : World) (hn : n ≤ 1048576) (hl : ts.length = n) (hA : TR w w.heap.size A ts) (hm : m ≤ 1048576) (hlx : xs.length = m) (hB : IR w w.heap.size B xs) :
    Calls Try.prog 43 #[.agg #[.int .i64 c0, .slice A n c], .slice B m d] w (IntRes w (overCount c0 ts xs) (overCode c0 ts xs)) := by
  have hck : ∀ W, Ext w W → Calls Try.prog 90 #[.agg #[.int .i64 c0, .slice A n c], .slice B m d] W _ := fun W hW => checkWord_any c0 A n c ts B m d xs W hn hl ((hA.ext hW (Nat.le_refl _)).more (hW.below (Nat.le_refl _)).size) hm hlx ((hB.ext hW (Nat.le_refl _)).more (hW.below (Nat.le_refl _)).size)
  have HC := Lib.hid hck
  clear hck
  unfold overCount overCode
  by_cases hc : wordCode c0 ts xs = 0
  · obtain ⟨hset, hlen, hwd⟩ := wordCode_ok hc
    have hok : ∀ t ∈ ts, tileOk 6 t = true := fun t ht => tileOk_mono (isSet_col hset).2 (ok_of_isSet' hset t ht)
    have hokN : ∀ y, ∀ t ∈ withN ts y, tileOk 6 t = true := fun y t ht => hok t (List.mem_filter.1 ht).1
    have htw : ∀ y W, Below w.heap.size w W → Calls Try.prog 91 #[.agg #[.int .i64 c0, .slice A n c], .int .i64 y] W _ := fun y W hW => tilesWithNorth_any c0 A n c ts y W hn hl ((hA.below hW (Nat.le_refl _)).more hW.size)
    have HTW := Lib.hid htw
    have hnl : ∀ y, (withN ts y).length ≤ 1048576 := fun y => by have := withN_le ts y n; rw [List.take_of_length_le (by omega)] at this; omega
    have HNL := Lib.hid hnl
    have HOK := Lib.hid hokN
    have HTO := Lib.hid (fun W => total_any (opow ts xs m) (opow_cap ts xs m) W)
    unfold l6 at HTO
    rw [if_pos hc, if_pos hc, hlx]
    rw [hc] at HC
    clear htw hc hA hok hokN hset hwd hlen hnl
    go_enter Try.func43, Try.ntmps43
    go_wp2_with fail
    refine (HC.out _ ((Ext.refl w).alloc _)).mono ?_
    rintro e w1 ⟨rfl, hx⟩
    have K1 := Lib.hid ((((Ext.refl w).alloc _).trans hx).below (Nat.le_refl _))
    have B1 := Lib.hid ((Blk.new w 29 #[.int .i64 c0, .slice A n c]).ext hx)
    have S1 : w.heap.size + 1 ≤ w1.heap.size := by have := (hx.below (Nat.le_refl _)).size; simpa using this
    clear hx
    go_wp2_with fail
    refine (oneEach_any _).mono ?_
    rintro e w2 ⟨rfl, hb⟩
    have K2 := Lib.hid (K1.out.trans (hb.mono K1.out.size))
    have B2 := Lib.hid (B1.out.below hb B1.out.lt)
    have S2 := hb.size
    clear hb K1 B1
    unfold l6
    go_wp2_with fail
    have K3 := Lib.hid (K2.out.alloc K2.out.size (Obj.cells (l6 fun _ => 1) 84))
    have B3 := Lib.hid (B2.out.ext ((Ext.refl w2).alloc (Obj.cells (l6 fun _ => 1) 84)))
    have G3 := Lib.hid (Blk.new w2 84 (l6 fun _ => 1))
    have S3 : w.heap.size + 1 ≤ w2.heap.size := by omega
    have S4 : w2.heap.size + 1 ≤ (w2.alloc (Obj.cells (l6 fun _ => 1) 84)).heap.size := by simp
    unfold l6 at K3 B3 G3 S4
    generalize w2.alloc (Obj.cells #[.int .i64 1, .int .i64 1, .int .i64 1, .int .i64 1, .int .i64 1, .int .i64 1] 84) = w3 at *
    clear K2 B2
    generalize w2.heap.size = g at *
    go_loopw [19] (fun i wr => ∃ k : Nat, k ≤ m ∧ i = .int .i64 k ∧ Blk wr g 84 (l6 (opow ts xs k)) ∧ Blk wr w.heap.size 29 #[.int .i64 c0, .slice A n c] ∧ Below w.heap.size w wr) (fun i _ => m - (intOf i).toNat)
    case atStart => exact ⟨0, Nat.zero_le _, rfl, G3.out, B3.out, K3.out⟩
    case round =>
      obtain ⟨k, hk, rfl, hg, hb, hbw⟩ := hrel
      have hcap := opow_cap ts xs k
      by_cases hlt : k < m
      · have hst : opow ts xs (k + 1) = wstep (withN ts (xs.getD k 0)) (opow ts xs k) := rfl
        obtain ⟨bx, ox, rfl, -, hcx⟩ := (hB.below hbw (Nat.le_refl _)) (by omega)
        have q1 := hcx k (by omega)
        generalize opow ts xs k = f at hg hcap hst
        generalize xs.getD k 0 = y at q1 hst
        have d0 := hg.rd 0 (v := .int .i64 (f 0)) rfl
        have d1 := hg.rd 1 (v := .int .i64 (f 1)) rfl
        have d2 := hg.rd 2 (v := .int .i64 (f 2)) rfl
        have d3 := hg.rd 3 (v := .int .i64 (f 3)) rfl
        have d4 := hg.rd 4 (v := .int .i64 (f 4)) rfl
        have d5 := hg.rd 5 (v := .int .i64 (f 5)) rfl
        have r0 := hb.rd 0 rfl
        have r1 := hb.rd 1 rfl
        have G := Lib.hid hg
        have B' := Lib.hid hb
        have K := Lib.hid hbw
        have HST := Lib.hid hst
        have HCAP := Lib.hid hcap
        have HTW' := Lib.hid (HTW.out y)
        have hext := fun (T : Option Addr) (ct : Nat) (W : World) (hT : TR W W.heap.size T (withN ts y)) => extended_any f T (withN ts y).length ct (withN ts y) W hcap (HNL.out y) rfl hT (HOK.out y)
        unfold l6 at hext
        have HEX := Lib.hid hext
        clear hg hb hbw hst hcap hB hcx hext
        go_wp2_with fail
        clear q1
        go_region_law (first
          | (go_simp; go_at_call 91; (with_reducible refine (HTW'.out _ K.out.drew).mono ?_); rintro e w4 ⟨T, ct, rfl, hb4, hw4⟩; have G4 := Lib.hid (Blk.below (w := wr.drew) G.out hb4 G.out.lt); have B4 := Lib.hid (Blk.below (w := wr.drew) B'.out hb4 B'.out.lt); have K4 := Lib.hid (K.out.drew.trans (hb4.mono K.out.size)); have W4 := Lib.hid hw4; clear hb4 hw4; have e0 := G4.out.rd 0 (v := .int .i64 (f 0)) rfl; have e1 := G4.out.rd 1 (v := .int .i64 (f 1)) rfl; have e2 := G4.out.rd 2 (v := .int .i64 (f 2)) rfl; have e3 := G4.out.rd 3 (v := .int .i64 (f 3)) rfl; have e4 := G4.out.rd 4 (v := .int .i64 (f 4)) rfl; have e5 := G4.out.rd 5 (v := .int .i64 (f 5)) rfl)
          | (go_simp; go_at_call 86; (with_reducible refine (HEX.out T ct _ W4.out.tr).mono ?_); rintro e w5 ⟨rfl, hb5⟩; have G5 := Lib.hid (G4.out.below hb5 G4.out.lt); have B5 := Lib.hid (B4.out.below hb5 B4.out.lt); have K5 := Lib.hid (K4.out.trans (hb5.mono K4.out.size)); clear hb5; have u0 := G5.out.rd 0 (v := .int .i64 (f 0)) rfl; have u1 := G5.out.rd 1 (v := .int .i64 (f 1)) rfl; have u2 := G5.out.rd 2 (v := .int .i64 (f 2)) rfl; have u3 := G5.out.rd 3 (v := .int .i64 (f 3)) rfl; have u4 := G5.out.rd 4 (v := .int .i64 (f 4)) rfl; have u5 := G5.out.rd 5 (v := .int .i64 (f 5)) rfl; have z0 := G5.out.frozen 0; have z1 := G5.out.frozen 1; have z2 := G5.out.frozen 2; have z3 := G5.out.frozen 3; have z4 := G5.out.frozen 4; have z5 := G5.out.frozen 5))
        all_goals
          go_wp2_with fail
          go_roundw
          case rel =>
            have hgw : g ≠ w.heap.size := by omega
            have hwg : w.heap.size ≤ g := by omega
            refine ⟨k + 1, by omega, by go_num, ?_, ?_, ?_⟩
            · rw [HST.out]
              exact blk_store6 G5.out _ _ _ _ _ _
            · exact ((((((B5.out.far hgw.symm _).far hgw.symm _).far hgw.symm _).far hgw.symm _).far hgw.symm _).far hgw.symm _)
            · exact (((((K5.out.setCell hwg _).setCell hwg _).setCell hwg _).setCell hwg _).setCell hwg _).setCell hwg _
          case measure => simp [intOf]; omega
      · obtain rfl : k = m := by omega
        have d0 := hg.rd 0 (v := .int .i64 (opow ts xs k 0)) rfl
        have d1 := hg.rd 1 (v := .int .i64 (opow ts xs k 1)) rfl
        have d2 := hg.rd 2 (v := .int .i64 (opow ts xs k 2)) rfl
        have d3 := hg.rd 3 (v := .int .i64 (opow ts xs k 3)) rfl
        have d4 := hg.rd 4 (v := .int .i64 (opow ts xs k 4)) rfl
        have d5 := hg.rd 5 (v := .int .i64 (opow ts xs k 5)) rfl
        have K := Lib.hid hbw
        clear hg hb hbw hcap hB
        go_wp2_with fail
        refine (HTO.out _).mono ?_
        rintro e w4 ⟨rfl, hb4⟩
        have K4 := Lib.hid (K.out.trans (hb4.mono K.out.size))
        clear hb4 d0 d1 d2 d3 d4 d5 K
        go_wp2_with fail
        refine (limitedCount_any _ _).mono ?_
        rintro e w5 ⟨rfl, rfl⟩
        go_wp2_with fail
        go_ret2
        exact IntRes.mk rfl K4.out
  · rw [if_neg hc, if_neg hc]
    generalize wordCode c0 ts xs = code at HC hc
    clear hA hB
    have hne : (code != 0) = true := by simp [hc]
    go_enter Try.func43, Try.ntmps43
    go_wp2_with fail
    refine (HC.out _ ((Ext.refl w).alloc _)).mono ?_
    rintro e w1 ⟨rfl, hx⟩
    have HX := Lib.hid (((Ext.refl w).alloc _).trans hx)
    clear hx
    go_wp2_with fail
    go_ret2
    exact IntRes.mk rfl (HX.out.below (Nat.le_refl _))
end Go.Proofs.Ytdkodmmbgflijaa
