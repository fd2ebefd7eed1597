/- The model's CountRowsOver. -/
import Derived.Test.YtdkodmmbgflijaaOvr3
import Derived.Deep.RegionHeld3
namespace Go.Proofs.Ytdkodmmbgflijaa
set_option linter.unusedVariables false
set_option linter.unusedSimpArgs false
open Go.RowKit Go.Sort

set_option maxRecDepth 100000 in
set_option maxHeartbeats 4000000 in
theorem specOver_any (c0 : Int) (A : Option Addr) (n c : Nat) (ts : List Tl) (B : Option Addr) (m d : Nat) (xs : List Int) (w : World) (hn : n ≤ 1048576) (hl : ts.length = n) (hA : TR w w.heap.size A ts) (hm : m ≤ 1048576) (hlx : xs.length = m) (hB : IR w w.heap.size B xs) :
    Calls Try.prog 42 #[.agg #[.int .i64 c0, .slice A n c], .slice B m d] w (IntRes w (overCount c0 ts xs) (overCode c0 ts xs)) := by
  have hck : ∀ W, Ext w W → Calls Try.prog 89 #[.agg #[.int .i64 c0, .slice A n c], .slice B m d] W _ := fun W hW => l02Code_any c0 A n c ts B m d xs W hn hl ((hA.ext hW (Nat.le_refl _)).more (hW.below (Nat.le_refl _)).size) hm hlx ((hB.ext hW (Nat.le_refl _)).more (hW.below (Nat.le_refl _)).size)
  have HC := Lib.hid hck
  clear hck
  unfold overCount overCode
  by_cases hc : wordCode c0 ts xs = 0
  · obtain ⟨hset, hlen, hwd⟩ := wordCode_ok hc
    have hne : xs ≠ [] := by intro h; rw [h] at hlen; simp at hlen
    have hcol := isSet_col hset
    obtain ⟨C, rfl⟩ : ∃ C : Nat, c0 = (C : Int) := ⟨c0.toNat, by omega⟩
    have hok : ∀ t ∈ ts, tileOk C t = true := fun t ht => ok_of_isSet' hset t ht
    have hwy : ∀ (F : Option Addr) (cf : Nat) W, Below w.heap.size w W → IR W W.heap.size F (fl C fun _ => 1) → Calls Try.prog 82 #[.agg #[.int .i64 (C : Int), .slice A n c], .slice F C cf, .int .i64 (m : Int), .slice B m d] W _ :=
      fun F cf W hW hF => l02Ways_any C A n c ts F cf (fun _ => 1) m B m d xs W (by omega) (by omega) hn hl ((hA.below hW (Nat.le_refl _)).more hW.size) hok cap_one hF (by omega) (by omega) hlx ((hB.below hW (Nat.le_refl _)).more hW.size) (.inr (Nat.le_refl _))
    have HY := Lib.hid hwy
    have hres := cnt_ways (ts := ts) (ns := xs) cap_one (C := C) (k := m) (by omega) hok (by omega)
    have hcapj := npow_cap ts xs cap_one m
    rw [if_pos hc, if_pos hc, hlx, opow_eq ts hne, ← hres.1, ← hres.2]
    rw [hc] at HC
    have hC6 : C ≤ 1048576 := by omega
    generalize npow ts xs (fun _ => 1) m = g at HY hcapj ⊢
    have HG := Lib.hid hcapj
    clear hwy hc hA hB hok hset hres hcapj hcol hne hwd hlen
    go_enter Try.func42, Try.ntmps42
    go_wp2_with fail
    refine (HC.out _ ((Ext.refl w).alloc _)).mono ?_
    rintro e w1 ⟨rfl, hx⟩
    have K1 := Lib.hid ((((Ext.refl w).alloc _).trans hx).below (Nat.le_refl _))
    have B1 := Lib.hid ((Blk.new w 29 #[.int .i64 (C : Int), .slice A n c]).ext hx)
    have r0 := B1.out.rd 0 rfl
    have r1 := B1.out.rd 1 rfl
    clear hx
    go_wp2_with fail
    go_region_held3 (fun w' => w'.cell? ⟨w.heap.size, 0, none⟩ = some (.int .i64 (C : Int)) ∧ w'.cell? ⟨w.heap.size, 1, none⟩ = some (.slice A n c))
      (first | exact ⟨k0, k1⟩ | exact ⟨l0, l1⟩ | exact ⟨m0, m1⟩ | go_keep)
      (first
        | (go_at_call 83; refine (l02Each_any C _ hC6).mono ?_; rintro e w2 ⟨F, cf, rfl, hb, hw⟩; have K2 := Lib.hid (K1.out.drew.trans (hb.mono K1.out.size)); have B2 := Lib.hid (Blk.below (w := w1.drew) B1.out hb B1.out.lt); have W2 := Lib.hid hw; have k0 := B2.out.rd 0 rfl; have k1 := B2.out.rd 1 rfl; clear hb hw)
        | (go_at_call 82; refine (HY.out F cf _ K2.out W2.out.ir).mono ?_; rintro e w3 ⟨Q, cq, rfl, hb, hw⟩; have K3 := Lib.hid (K2.out.trans (hb.mono K2.out.size)); have B3 := Lib.hid (B2.out.below hb B2.out.lt); have W3 := Lib.hid hw; have l0 := B3.out.rd 0 rfl; have l1 := B3.out.rd 1 rfl; clear hb hw k0 k1)
        | (go_at_call 81; refine (l02Total_any Q C cq g _ hC6 HG.out W3.out.ir).mono ?_; rintro e w4 ⟨rfl, hb⟩; have K4 := Lib.hid (K3.out.trans (hb.mono K3.out.size)); have B4 := Lib.hid (B3.out.below hb B3.out.lt); have m0 := B4.out.rd 0 rfl; have m1 := B4.out.rd 1 rfl; clear hb l0 l1)
        | (go_at_call 80; refine (l02Told_any _ _).mono ?_; rintro e w5 ⟨rfl, rfl⟩))
    clear m0 m1 r0 r1
    go_wp2_with fail
    go_ret2
    exact IntRes.mk rfl K4.out
  · rw [if_neg hc, if_neg hc]
    generalize wordCode c0 ts xs = code at HC hc
    clear hA hB
    have hne : (code != 0) = true := by simp [hc]
    go_enter Try.func42, Try.ntmps42
    go_wp2_with fail
    refine (HC.out _ ((Ext.refl w).alloc _)).mono ?_
    rintro e w1 ⟨rfl, hx⟩
    have HX := Lib.hid (((Ext.refl w).alloc _).trans hx)
    clear hx
    go_wp2_with fail
    go_ret2
    exact IntRes.mk rfl (HX.out.below (Nat.le_refl _))
end Go.Proofs.Ytdkodmmbgflijaa
