/- The program's stack of two sets. -/
import Derived.Test.YtjoaoimebdkpaaaSjA
import Derived.Test.YtjoaoimebdkpaaaSt8
import Derived.Test.YtjoaoimebdkpaaaKyA
import Derived.Test.YtjoaoimebdkpaaaSortF
import Derived.Test.YtjoaoimebdkpaaaJn4
import Derived.Test.YtjoaoimebdkpaaaKept1
import Derived.Deep.RegionHeld3
import Derived.Deep.DeepCutAuto
import Derived.Lib.Hide
import Derived.Test.YtjoaoimebdkpaaaSkA
import Derived.Test.YtjoaoimebdkpaaaIsA
namespace Go.Proofs.Ytjoaoimebdkpaaa
section
set_option linter.unusedVariables false
set_option linter.unusedSimpArgs false
open Go.RowKit Go.Sort

theorem SR.more9 {w : World} {B B' : Nat} {A : Option Addr} {l : List (Tl × Tl)} (h : SR w B A l) (hle : B ≤ B') : SR w B' A l := fun h0 => by
  obtain ⟨b, off, e, hb, hc⟩ := h h0
  exact ⟨b, off, e, by omega, hc⟩
theorem colourPairsLen_any (A : Option Addr) (n c : Nat) (l : List (Tl × Tl)) (w : World) (hn : n ≤ 65536) (hl : l.length = n) (hA : SR w w.heap.size A l) (hok : ∀ p ∈ l, (0 ≤ p.2.1 ∧ p.2.1 < 16) ∧ 0 ≤ p.2.2.2.1 ∧ p.2.2.2.1 < 16) :
    Calls Try.prog 136 #[.slice A n c] w fun e w' => ∃ A' cap, e = .returned (.slice A' (sortI (codes l)).length cap) ∧ Below w.heap.size w w' := by
  refine (colourPairs_any A n c l w hn hl hA hok).mono ?_
  rintro e w' ⟨v, es, rfl, hown, hxs, hb⟩
  obtain ⟨A', cap, rfl, -⟩ := hown.done
  have hlen := congrArg List.length hxs
  rw [List.length_map, List.length_map] at hlen
  exact ⟨A', cap, by rw [hlen], hb⟩
theorem stT_small {ps : List Int} {p : Tl × Tl} (hps : ps.length < 1000000) (h1 : 0 ≤ p.1.2.1 ∧ p.1.2.1 < 1000000) (h2 : tileOk 6 p.2 = true) : smallT (stT ps p) := by
  have hr := fun x => (List.countP_le_length (p := fun y => decide (y < x)) (l := ps))
  have e1 := hr (cw p)
  have e2 := hr (ce p)
  simp only [tileOk, decide_eq_true_eq] at h2
  unfold smallT stT rk
  simp only
  omega
set_option maxRecDepth 100000 in
set_option maxHeartbeats 4000000 in
theorem stackOf_any (c0 : Int) (A0 : Option Addr) (n0 q0 : Nat) (ts : List Tl) (c1 : Int) (A1 : Option Addr) (n1 q1 : Nat) (us : List Tl) (w : World) (hn0 : n0 ≤ 4096) (hl0 : ts.length = n0) (hA0 : TR w w.heap.size A0 ts) (hn1 : n1 ≤ 16) (hl1 : us.length = n1) (hA1 : TR w w.heap.size A1 us)
    (hts : ∀ t ∈ ts, 0 ≤ t.2.1 ∧ t.2.1 < 1000000) (hus : ∀ t ∈ us, tileOk 6 t = true) :
    Calls Try.prog 98 #[.agg #[.int .i64 c0, .slice A0 n0 q0], .agg #[.int .i64 c1, .slice A1 n1 q1]] w (SetOnly w (stkC c0 c1 ts us) (stkT ts us)) := by
  have hll := stk_len2 hl0 hl1 hn0 hn1
  have hlow := stk_low (ts := ts) (us := us) (c := 6) (by decide) hus
  have hpl : (prs ts us).length < 1000000 := by have h1 := sortI_len (codes (stk ts us)); have h2 := codes_len (stk ts us); unfold prs; omega
  have hsp := fun W (hW : Below w.heap.size w W) => stackedSR_any c0 A0 n0 q0 ts c1 A1 n1 q1 us W hn0 hl0 ((hA0.below hW (Nat.le_refl _)).more hW.size) hn1 hl1 ((hA1.below hW (Nat.le_refl _)).more hW.size)
  have hcp := fun A cap W (hA : SR W W.heap.size A (stk ts us)) => colourPairsLen_any A _ cap (stk ts us) W hll rfl hA hlow
  have hto := fun A cap W (hA : SR W W.heap.size A (stk ts us)) => tilesOfStack_any A _ cap (stk ts us) W hll rfl hA hlow
  have hpr : sortI (codes (stk ts us)) = prs ts us := rfl
  rw [hpr] at hcp hto
  have hsm : ∀ t ∈ (stk ts us).map (stT (prs ts us)), smallT t := fun t ht => by
    obtain ⟨p, hp, rfl⟩ := List.mem_map.1 ht
    have h1 := stk_mem hp
    exact stT_small hpl (hts _ h1.1) (hus _ h1.2.1)
  have HST := Lib.hid (show stkT ts us = sortT ((stk ts us).map (stT (prs ts us))) from rfl)
  have HSC := Lib.hid (show stkC c0 c1 ts us = max (max ((prs ts us).length : Int) c0) c1 from rfl)
  obtain ⟨L, hL⟩ : ∃ L, L = (stk ts us).map (stT (prs ts us)) := ⟨_, rfl⟩
  obtain ⟨sl, hsl⟩ : ∃ sl, sl = (stk ts us).length := ⟨_, rfl⟩
  have hLl : L.length = sl := by rw [hL, hsl, List.length_map]
  rw [← hL] at hto hsm HST
  rw [← hsl] at hto hcp hsp hll
  have HLL := Lib.hid hLl
  have HSP := Lib.hid hsp
  have HCP := Lib.hid hcp
  have HTO := Lib.hid hto
  have hsm2 : ∀ j, j < sl → smallT (L.getD j T0) := fun j hj => hsm _ (by simp [List.getD, show j < L.length by omega])
  have HSM := Lib.hid hsm2
  have hkey : ∀ t ∈ L, ∃ l, keyOf Try.prog 48 (tv t) = some l := fun t ht => small_key (hsm t ht)
  have HKEY := Lib.hid hkey
  obtain ⟨m, hm⟩ : ∃ m, m = (prs ts us).length := ⟨_, rfl⟩
  rw [← hm] at HCP HSC hpl
  clear hsp hcp hto hsm hsm2 hkey hL hsl hLl hpr hA0 hA1 hts hus hlow hm
  unfold SetOnly
  go_enter Try.func98, Try.ntmps98
  go_wp2_with fail
  have hx0 : Ext w (((w.alloc (Obj.cells #[.int .i64 c0, .slice A0 n0 q0] 32)).alloc (Obj.cells #[.int .i64 c1, .slice A1 n1 q1] 32)).alloc (Obj.cells #[.int .i64 0, .slice none 0 0] 32)) := (((Ext.refl w).alloc _).alloc _).alloc _
  have hb0 : Blk (((w.alloc (Obj.cells #[.int .i64 c0, .slice A0 n0 q0] 32)).alloc (Obj.cells #[.int .i64 c1, .slice A1 n1 q1] 32)).alloc (Obj.cells #[.int .i64 0, .slice none 0 0] 32)) w.heap.size 32 #[.int .i64 c0, .slice A0 n0 q0] := (Blk.new w 32 #[.int .i64 c0, .slice A0 n0 q0]).ext (((Ext.refl _).alloc _).alloc _)
  have hb1 : Blk (((w.alloc (Obj.cells #[.int .i64 c0, .slice A0 n0 q0] 32)).alloc (Obj.cells #[.int .i64 c1, .slice A1 n1 q1] 32)).alloc (Obj.cells #[.int .i64 0, .slice none 0 0] 32)) (w.heap.size + 1) 32 #[.int .i64 c1, .slice A1 n1 q1] := by have := (Blk.new (w.alloc (Obj.cells #[.int .i64 c0, .slice A0 n0 q0] 32)) 32 #[.int .i64 c1, .slice A1 n1 q1]).ext ((Ext.refl _).alloc (Obj.cells #[.int .i64 0, .slice none 0 0] 32)); simpa using this
  have hb2 : Blk (((w.alloc (Obj.cells #[.int .i64 c0, .slice A0 n0 q0] 32)).alloc (Obj.cells #[.int .i64 c1, .slice A1 n1 q1] 32)).alloc (Obj.cells #[.int .i64 0, .slice none 0 0] 32)) (w.heap.size + 2) 32 #[.int .i64 0, .slice none 0 0] := by have := (Blk.new ((w.alloc (Obj.cells #[.int .i64 c0, .slice A0 n0 q0] 32)).alloc (Obj.cells #[.int .i64 c1, .slice A1 n1 q1] 32)) 32 #[.int .i64 0, .slice none 0 0]); simpa using this
  have HK := Lib.hid (hx0.below (Nat.le_refl _))
  have hL : w.heap.size + 3 ≤ (((w.alloc (Obj.cells #[.int .i64 c0, .slice A0 n0 q0] 32)).alloc (Obj.cells #[.int .i64 c1, .slice A1 n1 q1] 32)).alloc (Obj.cells #[.int .i64 0, .slice none 0 0] 32)).heap.size := by simp
  have r0 := hb0.rd 0 rfl
  have r1 := hb0.rd 1 rfl
  have s0 := hb1.rd 0 rfl
  have s1 := hb1.rd 1 rfl
  have HB0 := Lib.hid hb0
  have HB1 := Lib.hid hb1
  have HB2 := Lib.hid hb2
  clear hx0 hb0 hb1 hb2
  generalize (((w.alloc (Obj.cells #[.int .i64 c0, .slice A0 n0 q0] 32)).alloc (Obj.cells #[.int .i64 c1, .slice A1 n1 q1] 32)).alloc (Obj.cells #[.int .i64 0, .slice none 0 0] 32)) = w1 at *
  refine (HSP.out _ HK.out).mono ?_
  rintro e w5 ⟨A5, cap5, rfl, hsr, hb5⟩
  have HSR := Lib.hid hsr
  have hk5 := HK.out.trans (hb5.mono HK.out.size)
  have HK5 := Lib.hid hk5
  have hs5 : w.heap.size + 3 ≤ w5.heap.size := by have := hb5.size; omega
  have HB0 := Lib.hid (HB0.out.below hb5 (by omega))
  have HB1 := Lib.hid (HB1.out.below hb5 (by omega))
  have HB2 := Lib.hid (HB2.out.below hb5 (by omega))
  have u0 := HB0.out.rd 0 rfl
  have u1 := HB1.out.rd 0 rfl
  clear hsr hb5 hk5 r0 r1 s0 s1
  go_upto_region 2 with (fail)
  go_cut [6] (fun v wx => v = .int .i64 (stkC c0 c1 ts us) ∧ Below w5.heap.size w5 wx)
  case first =>
    go_region_held3 (fun w' => w'.cell? ⟨w.heap.size, 0, none⟩ = some (.int .i64 c0) ∧ w'.cell? ⟨w.heap.size + 1, 0, none⟩ = some (.int .i64 c1))
      (first | exact ⟨u0, u1⟩ | exact ⟨k0, k1⟩ | exact ⟨(HB0.out.ext (by with_reducible first | exact Ext.refl _ | exact (Ext.refl _).drew | exact (Ext.refl _).alloc _ | exact ((Ext.refl _).alloc _).drew)).rd 0 rfl, (HB1.out.ext (by with_reducible first | exact Ext.refl _ | exact (Ext.refl _).drew | exact (Ext.refl _).alloc _ | exact ((Ext.refl _).alloc _).drew)).rd 0 rfl⟩ | go_keep)
      (first | (go_at_call 136; refine (HCP.out A5 cap5 _ (HSR.out.below (Ext.below (by with_reducible first | exact Ext.refl _ | exact (Ext.refl _).drew | exact (Ext.refl _).alloc _ | exact ((Ext.refl _).alloc _).drew) (Nat.le_refl _)) (Nat.le_refl _) |>.more9 (Ext.below (by with_reducible first | exact Ext.refl _ | exact (Ext.refl _).drew | exact (Ext.refl _).alloc _ | exact ((Ext.refl _).alloc _).drew) (Nat.le_refl _)).size)).mono ?_; rintro e w6 ⟨A6, cap6, rfl, hb6⟩; have hB6 := below_next (Below.refl w5.heap.size w5) (by with_reducible first | exact Ext.refl _ | exact (Ext.refl _).drew | exact (Ext.refl _).alloc _ | exact ((Ext.refl _).alloc _).drew) hb6 (Nat.le_refl _); have k0 := (hB6.cell (p := ⟨w.heap.size, 0, none⟩) (show w.heap.size < _ by omega)).trans u0; have k1 := (hB6.cell (p := ⟨w.heap.size + 1, 0, none⟩) (show w.heap.size + 1 < _ by omega)).trans u1))
    all_goals (go_wp2_with fail)
    all_goals go_meet
    all_goals
      exact ⟨congrArg (Value.int .i64) (by rw [HSC.out]; omega), below_next0 hB6 (by with_reducible first | exact Ext.refl _ | exact (Ext.refl _).drew | exact (Ext.refl _).alloc _ | exact ((Ext.refl _).alloc _).drew) (Nat.le_refl _)⟩
  case rest =>
    obtain ⟨rfl, hb6⟩ := hcut
    obtain ⟨w6, hw6⟩ : ∃ W, W = wc := ⟨_, rfl⟩
    subst hw6
    obtain ⟨M, hMM⟩ : ∃ M, M = stkC c0 c1 ts us := ⟨_, rfl⟩
    rw [← hMM]
    have hs6 := hb6.size
    have HTO6 := Lib.hid (HTO.out A5 cap5 w6 ((HSR.out.below hb6 (Nat.le_refl _)).more9 hs6))
    have HK6 := Lib.hid (HK5.out.trans (hb6.mono (by omega)))
    have HB2 := Lib.hid (HB2.out.below hb6 (by omega))
    have HMM := Lib.hid hMM
    clear hb6 u0 u1 hMM HSC
    go_wp2_with fail
    refine HTO6.out.mono ?_
    rintro e w7 ⟨v7, rfl, hown7, hb7⟩
    obtain ⟨A7, cap7, hv7, htw7⟩ := own_tw hown7 HLL.out
    subst hv7
    have HDT := Lib.hid (differentTiles_any A7 sl cap7 L w7 (by omega) HLL.out htw7.tr HSM.out)
    have HK7 := Lib.hid (HK6.out.trans (hb7.mono HK6.out.size))
    have hs7 := hb7.size
    have HB2 := Lib.hid (HB2.out.below hb7 (by omega))
    clear hown7 hb7 htw7
    go_wp2_with fail
    refine HDT.out.mono ?_
    rintro e w1' ⟨b, rfl, hbge, hb1, D, ho, hhas, htrue, hkeys⟩
    have HO := Lib.hid ho
    obtain ⟨ks, hset, hks⟩ := setT_size ho
    have hhas2 : ∀ t l, keyOf Try.prog 48 (tv t) = some l → (Go.Maps.has D l = true ↔ ∃ x, x < L.length ∧ L.getD x T0 = t) := by rw [HLL.out]; exact hhas
    have hsrt := hset.sorted HKEY.out hhas2
    have HSZ := Lib.hid (show (sortT L).length = Go.Maps.size D by rw [← hsrt, sortT_nodup_len hset.1, hks])
    have HSS := Lib.hid (fun ss (h : SetT D ss) => h.sorted HKEY.out hhas2)
    have HK8 := Lib.hid (HK7.out.trans (hb1.mono HK7.out.size))
    have hs8 := hb1.size
    have HB2 := Lib.hid (HB2.out.below hb1 (by omega))
    have hmle := sortT_len L
    rw [HLL.out, HSZ.out] at hmle
    have HKY := Lib.hid (keys_any (some b) w1')
    have HML := Lib.hid hmle
    clear ho hhas hhas2 htrue hkeys hset hks hsrt hb1 hmle
    go_wp2_with fail
    refine HKY.out.mono ?_
    rintro e w2 ⟨rfl, rfl⟩
    have hx2 := (Ext.refl w1').alloc (Obj.cells #[.map (some b)] 138)
    have hcell : (w1'.alloc (Obj.cells #[.map (some b)] 138)).cell? ⟨w1'.heap.size, 0, none⟩ = some (.map (some b)) := (Blk.new w1' 138 #[.map (some b)]).rd 0 rfl
    have HCL := Lib.hid (collect_any w1'.heap.size b sl D (w1'.alloc (Obj.cells #[.map (some b)] 138)) (by simp) hcell (ownsMap_ext HO.out hx2) (by have := HML.out; omega))
    clear hcell hx2
    go_wp2_with fail
    refine HCL.out.mono ?_
    rintro e w3 ⟨v, ss, rfl, hS, hrow, hb3⟩
    obtain ⟨A3, cap3, rfl, htw3⟩ := own_tw hrow rfl
    have hss := HSS.out ss hS
    have hsl2 : ss.length = (sortT L).length := by rw [← sortT_nodup_len hS.1, hss]
    have HSR2 := Lib.hid (sortedSet_any M ss.length cap3 A3 ss (w1'.heap.size + 1) w3 rfl (by rw [hsl2, HSZ.out]; have := HML.out; omega) (by have := hb3.size; simp at this; omega) (by simpa using hrow))
    rw [sortM_eq hS.1, hss] at HSR2
    have HB3 := Lib.hid hb3
    have hsz3 := hb3.size
    rw [World.size_alloc] at hsz3
    have HSL := Lib.hid hsl2
    clear hS hrow hb3 htw3 hss hsl2
    go_wp2_with fail
    refine HSR2.out.mono ?_
    rintro e w4 ⟨rfl, hown4, hb4⟩
    rw [HSL.out] at hown4
    obtain ⟨A9, cap9, hv9, htw9⟩ := own_tw hown4 rfl
    rw [← HSL.out] at hv9
    cases hv9
    have HT := Lib.hid htw9
    have hb2 := (((Below.refl w1'.heap.size w1').alloc (Nat.le_refl _) (Obj.cells #[.map (some b)] 138)).trans (HB3.out.mono (by simp))).trans (hb4.mono (by omega))
    have hbr := HB2.out.below hb2 (by omega)
    have q0 := hbr.rd 0 rfl
    have q1 := hbr.rd 1 rfl
    have z0 := hbr.frozen 0
    have z1 := hbr.frozen 1
    have HBF := Lib.hid (HK8.out.trans (hb2.mono (by omega)))
    clear hbr hown4 hb4 htw9 hb2
    go_wp2_with fail
    refine bodyPost_ret (v := .agg #[.int .i64 M, .slice A3 ss.length cap3]) (by simp [results, Try.results98, go_sem, q0, q1, z0, z1]) rfl ?_
    rw [HST.out]
    refine ⟨A3, cap3, by rw [HSL.out, HMM.out], ?_, ?_⟩
    · exact (HBF.out.setCell (show w.heap.size ≤ w.heap.size + 2 by omega) _).setCell (show w.heap.size ≤ w.heap.size + 2 by omega) _
    · exact ((HT.out.far (show w.heap.size + 2 < _ by omega) _).far (show w.heap.size + 2 < _ by omega) _).low (by omega)
end

section
set_option linter.unusedVariables false
set_option linter.unusedSimpArgs false
open Go.RowKit Go.Sort

set_option maxRecDepth 100000 in
set_option maxHeartbeats 1000000 in
theorem specStackSets_1a (c0 : Int) (A0 : Option Addr) (n0 q0 : Nat) (ts : List Tl) (c1 : Int) (A1 : Option Addr) (n1 q1 : Nat) (us : List Tl) (w : World) (hn0 : n0 ≤ 1048576) (hl0 : ts.length = n0) (hA0 : TR w w.heap.size A0 ts) (hn1 : n1 ≤ 1048576) (hl1 : us.length = n1) (hA1 : TR w w.heap.size A1 us) (hs0 : isSet c0 ts = false) :
    Calls Try.prog 86 #[.agg #[.int .i64 c0, .slice A0 n0 q0], .agg #[.int .i64 c1, .slice A1 n1 q1]] w (SetRes w 0 [] 1) := by
  have his0 : ∀ W, Below w.heap.size w W → Calls Try.prog 75 #[.agg #[.int .i64 c0, .slice A0 n0 q0]] W _ := fun W hW => l01Is_any c0 A0 n0 q0 ts W (by omega) hl0 ((hA0.below hW (Nat.le_refl _)).more hW.size)
  rw [hs0] at his0
  have HI0 := Lib.hid his0
  clear his0
  clear hA0 hA1
  unfold SetRes
  go_enter Try.func86, Try.ntmps86
  go_wp2_with fail
  have hx0 : Ext w (((w.alloc (Obj.cells #[.int .i64 c0, .slice A0 n0 q0] 32)).alloc (Obj.cells #[.int .i64 c1, .slice A1 n1 q1] 32)).alloc (Obj.cells #[.int .i64 0, .slice none 0 0] 32)) := (((Ext.refl w).alloc _).alloc _).alloc _
  have hb0 : Blk (((w.alloc (Obj.cells #[.int .i64 c0, .slice A0 n0 q0] 32)).alloc (Obj.cells #[.int .i64 c1, .slice A1 n1 q1] 32)).alloc (Obj.cells #[.int .i64 0, .slice none 0 0] 32)) (w.heap.size) 32 #[.int .i64 c0, .slice A0 n0 q0] := by have := ((Blk.new w 32 #[.int .i64 c0, .slice A0 n0 q0]).ext (show Ext (w.alloc (Obj.cells #[.int .i64 c0, .slice A0 n0 q0] 32)) (((w.alloc (Obj.cells #[.int .i64 c0, .slice A0 n0 q0] 32)).alloc (Obj.cells #[.int .i64 c1, .slice A1 n1 q1] 32)).alloc (Obj.cells #[.int .i64 0, .slice none 0 0] 32)) from ((Ext.refl _).alloc _).alloc _)); simpa using this
  have hb1 : Blk (((w.alloc (Obj.cells #[.int .i64 c0, .slice A0 n0 q0] 32)).alloc (Obj.cells #[.int .i64 c1, .slice A1 n1 q1] 32)).alloc (Obj.cells #[.int .i64 0, .slice none 0 0] 32)) (w.heap.size + 1) 32 #[.int .i64 c1, .slice A1 n1 q1] := by have := ((Blk.new (w.alloc (Obj.cells #[.int .i64 c0, .slice A0 n0 q0] 32)) 32 #[.int .i64 c1, .slice A1 n1 q1]).ext (show Ext ((w.alloc (Obj.cells #[.int .i64 c0, .slice A0 n0 q0] 32)).alloc (Obj.cells #[.int .i64 c1, .slice A1 n1 q1] 32)) (((w.alloc (Obj.cells #[.int .i64 c0, .slice A0 n0 q0] 32)).alloc (Obj.cells #[.int .i64 c1, .slice A1 n1 q1] 32)).alloc (Obj.cells #[.int .i64 0, .slice none 0 0] 32)) from (Ext.refl _).alloc _)); simpa using this
  have hb2 : Blk (((w.alloc (Obj.cells #[.int .i64 c0, .slice A0 n0 q0] 32)).alloc (Obj.cells #[.int .i64 c1, .slice A1 n1 q1] 32)).alloc (Obj.cells #[.int .i64 0, .slice none 0 0] 32)) (w.heap.size + 2) 32 #[.int .i64 0, .slice none 0 0] := by have := (Blk.new ((w.alloc (Obj.cells #[.int .i64 c0, .slice A0 n0 q0] 32)).alloc (Obj.cells #[.int .i64 c1, .slice A1 n1 q1] 32)) 32 #[.int .i64 0, .slice none 0 0]); simpa using this
  have K0 := Lib.hid (hx0.below (Nat.le_refl _))
  have L0 := Lib.hid (show w.heap.size + 3 ≤ (((w.alloc (Obj.cells #[.int .i64 c0, .slice A0 n0 q0] 32)).alloc (Obj.cells #[.int .i64 c1, .slice A1 n1 q1] 32)).alloc (Obj.cells #[.int .i64 0, .slice none 0 0] 32)).heap.size by simp)
  have B0_0 := Lib.hid hb0
  have B1_0 := Lib.hid hb1
  have B2_0 := Lib.hid hb2
  clear hx0 hb0 hb1 hb2
  generalize (((w.alloc (Obj.cells #[.int .i64 c0, .slice A0 n0 q0] 32)).alloc (Obj.cells #[.int .i64 c1, .slice A1 n1 q1] 32)).alloc (Obj.cells #[.int .i64 0, .slice none 0 0] 32)) = w0 at *
  refine (HI0.out _ K0.out).mono ?_
  rintro e w1 ⟨rfl, hx⟩
  have K1 := Lib.hid (K0.out.trans ((hx.below (Nat.le_refl _)).mono K0.out.size))
  have L1 := Lib.hid (Nat.le_trans L0.out (hx.below (Nat.le_refl _)).size)
  have B0_1 := Lib.hid (B0_0.out.below (hx.below (Nat.le_refl _)) B0_0.out.lt)
  have B1_1 := Lib.hid (B1_0.out.below (hx.below (Nat.le_refl _)) B1_0.out.lt)
  have B2_1 := Lib.hid (B2_0.out.below (hx.below (Nat.le_refl _)) B2_0.out.lt)
  clear K0 B0_0 B1_0 B2_0 L0 hx
  have r0_0 := B0_1.out.rd 0 rfl
  have r0_1 := B0_1.out.rd 1 rfl
  have r1_0 := B1_1.out.rd 0 rfl
  have r1_1 := B1_1.out.rd 1 rfl
  have r2_0 := B2_1.out.rd 0 rfl
  have r2_1 := B2_1.out.rd 1 rfl
  have z2_0 := B2_1.out.frozen 0
  have z2_1 := B2_1.out.frozen 1
  go_wp2_with fail
  refine bodyPost_ret (v := .tuple #[.agg #[.int .i64 0, .slice none 0 0], .int .i64 1]) (by simp [results, Try.results86, go_sem, r2_0, r2_1, z2_0, z2_1]) rfl ⟨none, 0, rfl, ?_, ?_⟩
  · exact (K1.out.setCell (show w.heap.size ≤ w.heap.size + 2 by omega) _).setCell (show w.heap.size ≤ w.heap.size + 2 by omega) _
  · exact fun h => absurd h (Nat.lt_irrefl _)

set_option maxRecDepth 100000 in
set_option maxHeartbeats 1000000 in
theorem specStackSets_1b (c0 : Int) (A0 : Option Addr) (n0 q0 : Nat) (ts : List Tl) (c1 : Int) (A1 : Option Addr) (n1 q1 : Nat) (us : List Tl) (w : World) (hn0 : n0 ≤ 1048576) (hl0 : ts.length = n0) (hA0 : TR w w.heap.size A0 ts) (hn1 : n1 ≤ 1048576) (hl1 : us.length = n1) (hA1 : TR w w.heap.size A1 us) (hs0 : isSet c0 ts = true) (hs1 : isSet c1 us = false) :
    Calls Try.prog 86 #[.agg #[.int .i64 c0, .slice A0 n0 q0], .agg #[.int .i64 c1, .slice A1 n1 q1]] w (SetRes w 0 [] 1) := by
  have his0 : ∀ W, Below w.heap.size w W → Calls Try.prog 75 #[.agg #[.int .i64 c0, .slice A0 n0 q0]] W _ := fun W hW => l01Is_any c0 A0 n0 q0 ts W (by omega) hl0 ((hA0.below hW (Nat.le_refl _)).more hW.size)
  rw [hs0] at his0
  have HI0 := Lib.hid his0
  clear his0
  have his1 : ∀ W, Below w.heap.size w W → Calls Try.prog 75 #[.agg #[.int .i64 c1, .slice A1 n1 q1]] W _ := fun W hW => l01Is_any c1 A1 n1 q1 us W (by omega) hl1 ((hA1.below hW (Nat.le_refl _)).more hW.size)
  rw [hs1] at his1
  have HI1 := Lib.hid his1
  clear his1
  clear hA0 hA1
  unfold SetRes
  go_enter Try.func86, Try.ntmps86
  go_wp2_with fail
  have hx0 : Ext w (((w.alloc (Obj.cells #[.int .i64 c0, .slice A0 n0 q0] 32)).alloc (Obj.cells #[.int .i64 c1, .slice A1 n1 q1] 32)).alloc (Obj.cells #[.int .i64 0, .slice none 0 0] 32)) := (((Ext.refl w).alloc _).alloc _).alloc _
  have hb0 : Blk (((w.alloc (Obj.cells #[.int .i64 c0, .slice A0 n0 q0] 32)).alloc (Obj.cells #[.int .i64 c1, .slice A1 n1 q1] 32)).alloc (Obj.cells #[.int .i64 0, .slice none 0 0] 32)) (w.heap.size) 32 #[.int .i64 c0, .slice A0 n0 q0] := by have := ((Blk.new w 32 #[.int .i64 c0, .slice A0 n0 q0]).ext (show Ext (w.alloc (Obj.cells #[.int .i64 c0, .slice A0 n0 q0] 32)) (((w.alloc (Obj.cells #[.int .i64 c0, .slice A0 n0 q0] 32)).alloc (Obj.cells #[.int .i64 c1, .slice A1 n1 q1] 32)).alloc (Obj.cells #[.int .i64 0, .slice none 0 0] 32)) from ((Ext.refl _).alloc _).alloc _)); simpa using this
  have hb1 : Blk (((w.alloc (Obj.cells #[.int .i64 c0, .slice A0 n0 q0] 32)).alloc (Obj.cells #[.int .i64 c1, .slice A1 n1 q1] 32)).alloc (Obj.cells #[.int .i64 0, .slice none 0 0] 32)) (w.heap.size + 1) 32 #[.int .i64 c1, .slice A1 n1 q1] := by have := ((Blk.new (w.alloc (Obj.cells #[.int .i64 c0, .slice A0 n0 q0] 32)) 32 #[.int .i64 c1, .slice A1 n1 q1]).ext (show Ext ((w.alloc (Obj.cells #[.int .i64 c0, .slice A0 n0 q0] 32)).alloc (Obj.cells #[.int .i64 c1, .slice A1 n1 q1] 32)) (((w.alloc (Obj.cells #[.int .i64 c0, .slice A0 n0 q0] 32)).alloc (Obj.cells #[.int .i64 c1, .slice A1 n1 q1] 32)).alloc (Obj.cells #[.int .i64 0, .slice none 0 0] 32)) from (Ext.refl _).alloc _)); simpa using this
  have hb2 : Blk (((w.alloc (Obj.cells #[.int .i64 c0, .slice A0 n0 q0] 32)).alloc (Obj.cells #[.int .i64 c1, .slice A1 n1 q1] 32)).alloc (Obj.cells #[.int .i64 0, .slice none 0 0] 32)) (w.heap.size + 2) 32 #[.int .i64 0, .slice none 0 0] := by have := (Blk.new ((w.alloc (Obj.cells #[.int .i64 c0, .slice A0 n0 q0] 32)).alloc (Obj.cells #[.int .i64 c1, .slice A1 n1 q1] 32)) 32 #[.int .i64 0, .slice none 0 0]); simpa using this
  have K0 := Lib.hid (hx0.below (Nat.le_refl _))
  have L0 := Lib.hid (show w.heap.size + 3 ≤ (((w.alloc (Obj.cells #[.int .i64 c0, .slice A0 n0 q0] 32)).alloc (Obj.cells #[.int .i64 c1, .slice A1 n1 q1] 32)).alloc (Obj.cells #[.int .i64 0, .slice none 0 0] 32)).heap.size by simp)
  have B0_0 := Lib.hid hb0
  have B1_0 := Lib.hid hb1
  have B2_0 := Lib.hid hb2
  clear hx0 hb0 hb1 hb2
  generalize (((w.alloc (Obj.cells #[.int .i64 c0, .slice A0 n0 q0] 32)).alloc (Obj.cells #[.int .i64 c1, .slice A1 n1 q1] 32)).alloc (Obj.cells #[.int .i64 0, .slice none 0 0] 32)) = w0 at *
  refine (HI0.out _ K0.out).mono ?_
  rintro e w1 ⟨rfl, hx⟩
  have K1 := Lib.hid (K0.out.trans ((hx.below (Nat.le_refl _)).mono K0.out.size))
  have L1 := Lib.hid (Nat.le_trans L0.out (hx.below (Nat.le_refl _)).size)
  have B0_1 := Lib.hid (B0_0.out.below (hx.below (Nat.le_refl _)) B0_0.out.lt)
  have B1_1 := Lib.hid (B1_0.out.below (hx.below (Nat.le_refl _)) B1_0.out.lt)
  have B2_1 := Lib.hid (B2_0.out.below (hx.below (Nat.le_refl _)) B2_0.out.lt)
  clear K0 B0_0 B1_0 B2_0 L0 hx
  have r0_0 := B0_1.out.rd 0 rfl
  have r0_1 := B0_1.out.rd 1 rfl
  have r1_0 := B1_1.out.rd 0 rfl
  have r1_1 := B1_1.out.rd 1 rfl
  go_wp2_with fail
  refine (HI1.out _ K1.out).mono ?_
  rintro e w2 ⟨rfl, hx⟩
  clear r0_0 r0_1 r1_0 r1_1
  have K2 := Lib.hid (K1.out.trans ((hx.below (Nat.le_refl _)).mono K1.out.size))
  have L2 := Lib.hid (Nat.le_trans L1.out (hx.below (Nat.le_refl _)).size)
  have B0_2 := Lib.hid (B0_1.out.below (hx.below (Nat.le_refl _)) B0_1.out.lt)
  have B1_2 := Lib.hid (B1_1.out.below (hx.below (Nat.le_refl _)) B1_1.out.lt)
  have B2_2 := Lib.hid (B2_1.out.below (hx.below (Nat.le_refl _)) B2_1.out.lt)
  clear K1 B0_1 B1_1 B2_1 L1 hx
  have r0_0 := B0_2.out.rd 0 rfl
  have r0_1 := B0_2.out.rd 1 rfl
  have r1_0 := B1_2.out.rd 0 rfl
  have r1_1 := B1_2.out.rd 1 rfl
  have r2_0 := B2_2.out.rd 0 rfl
  have r2_1 := B2_2.out.rd 1 rfl
  have z2_0 := B2_2.out.frozen 0
  have z2_1 := B2_2.out.frozen 1
  go_wp2_with fail
  refine bodyPost_ret (v := .tuple #[.agg #[.int .i64 0, .slice none 0 0], .int .i64 1]) (by simp [results, Try.results86, go_sem, r2_0, r2_1, z2_0, z2_1]) rfl ⟨none, 0, rfl, ?_, ?_⟩
  · exact (K2.out.setCell (show w.heap.size ≤ w.heap.size + 2 by omega) _).setCell (show w.heap.size ≤ w.heap.size + 2 by omega) _
  · exact fun h => absurd h (Nat.lt_irrefl _)

set_option maxRecDepth 100000 in
set_option maxHeartbeats 1000000 in
theorem implStackSets_1a (c0 : Int) (A0 : Option Addr) (n0 q0 : Nat) (ts : List Tl) (c1 : Int) (A1 : Option Addr) (n1 q1 : Nat) (us : List Tl) (w : World) (hn0 : n0 ≤ 1048576) (hl0 : ts.length = n0) (hA0 : TR w w.heap.size A0 ts) (hn1 : n1 ≤ 1048576) (hl1 : us.length = n1) (hA1 : TR w w.heap.size A1 us) (hs0 : isSet c0 ts = false) :
    Calls Try.prog 90 #[.agg #[.int .i64 c0, .slice A0 n0 q0], .agg #[.int .i64 c1, .slice A1 n1 q1]] w (SetRes w 0 [] 1) := by
  have his0 : ∀ W, Below w.heap.size w W → Calls Try.prog 80 #[.agg #[.int .i64 c0, .slice A0 n0 q0]] W _ := fun W hW => isSet_any c0 A0 n0 q0 ts W (by omega) hl0 ((hA0.below hW (Nat.le_refl _)).more hW.size)
  rw [hs0] at his0
  have HI0 := Lib.hid his0
  clear his0
  clear hA0 hA1
  unfold SetRes
  go_enter Try.func90, Try.ntmps90
  go_wp2_with fail
  have hx0 : Ext w (((w.alloc (Obj.cells #[.int .i64 c0, .slice A0 n0 q0] 32)).alloc (Obj.cells #[.int .i64 c1, .slice A1 n1 q1] 32)).alloc (Obj.cells #[.int .i64 0, .slice none 0 0] 32)) := (((Ext.refl w).alloc _).alloc _).alloc _
  have hb0 : Blk (((w.alloc (Obj.cells #[.int .i64 c0, .slice A0 n0 q0] 32)).alloc (Obj.cells #[.int .i64 c1, .slice A1 n1 q1] 32)).alloc (Obj.cells #[.int .i64 0, .slice none 0 0] 32)) (w.heap.size) 32 #[.int .i64 c0, .slice A0 n0 q0] := by have := ((Blk.new w 32 #[.int .i64 c0, .slice A0 n0 q0]).ext (show Ext (w.alloc (Obj.cells #[.int .i64 c0, .slice A0 n0 q0] 32)) (((w.alloc (Obj.cells #[.int .i64 c0, .slice A0 n0 q0] 32)).alloc (Obj.cells #[.int .i64 c1, .slice A1 n1 q1] 32)).alloc (Obj.cells #[.int .i64 0, .slice none 0 0] 32)) from ((Ext.refl _).alloc _).alloc _)); simpa using this
  have hb1 : Blk (((w.alloc (Obj.cells #[.int .i64 c0, .slice A0 n0 q0] 32)).alloc (Obj.cells #[.int .i64 c1, .slice A1 n1 q1] 32)).alloc (Obj.cells #[.int .i64 0, .slice none 0 0] 32)) (w.heap.size + 1) 32 #[.int .i64 c1, .slice A1 n1 q1] := by have := ((Blk.new (w.alloc (Obj.cells #[.int .i64 c0, .slice A0 n0 q0] 32)) 32 #[.int .i64 c1, .slice A1 n1 q1]).ext (show Ext ((w.alloc (Obj.cells #[.int .i64 c0, .slice A0 n0 q0] 32)).alloc (Obj.cells #[.int .i64 c1, .slice A1 n1 q1] 32)) (((w.alloc (Obj.cells #[.int .i64 c0, .slice A0 n0 q0] 32)).alloc (Obj.cells #[.int .i64 c1, .slice A1 n1 q1] 32)).alloc (Obj.cells #[.int .i64 0, .slice none 0 0] 32)) from (Ext.refl _).alloc _)); simpa using this
  have hb2 : Blk (((w.alloc (Obj.cells #[.int .i64 c0, .slice A0 n0 q0] 32)).alloc (Obj.cells #[.int .i64 c1, .slice A1 n1 q1] 32)).alloc (Obj.cells #[.int .i64 0, .slice none 0 0] 32)) (w.heap.size + 2) 32 #[.int .i64 0, .slice none 0 0] := by have := (Blk.new ((w.alloc (Obj.cells #[.int .i64 c0, .slice A0 n0 q0] 32)).alloc (Obj.cells #[.int .i64 c1, .slice A1 n1 q1] 32)) 32 #[.int .i64 0, .slice none 0 0]); simpa using this
  have K0 := Lib.hid (hx0.below (Nat.le_refl _))
  have L0 := Lib.hid (show w.heap.size + 3 ≤ (((w.alloc (Obj.cells #[.int .i64 c0, .slice A0 n0 q0] 32)).alloc (Obj.cells #[.int .i64 c1, .slice A1 n1 q1] 32)).alloc (Obj.cells #[.int .i64 0, .slice none 0 0] 32)).heap.size by simp)
  have B0_0 := Lib.hid hb0
  have B1_0 := Lib.hid hb1
  have B2_0 := Lib.hid hb2
  clear hx0 hb0 hb1 hb2
  generalize (((w.alloc (Obj.cells #[.int .i64 c0, .slice A0 n0 q0] 32)).alloc (Obj.cells #[.int .i64 c1, .slice A1 n1 q1] 32)).alloc (Obj.cells #[.int .i64 0, .slice none 0 0] 32)) = w0 at *
  refine (HI0.out _ K0.out).mono ?_
  rintro e w1 ⟨rfl, hx⟩
  have K1 := Lib.hid (K0.out.trans ((hx.below (Nat.le_refl _)).mono K0.out.size))
  have L1 := Lib.hid (Nat.le_trans L0.out (hx.below (Nat.le_refl _)).size)
  have B0_1 := Lib.hid (B0_0.out.below (hx.below (Nat.le_refl _)) B0_0.out.lt)
  have B1_1 := Lib.hid (B1_0.out.below (hx.below (Nat.le_refl _)) B1_0.out.lt)
  have B2_1 := Lib.hid (B2_0.out.below (hx.below (Nat.le_refl _)) B2_0.out.lt)
  clear K0 B0_0 B1_0 B2_0 L0 hx
  have r0_0 := B0_1.out.rd 0 rfl
  have r0_1 := B0_1.out.rd 1 rfl
  have r1_0 := B1_1.out.rd 0 rfl
  have r1_1 := B1_1.out.rd 1 rfl
  have r2_0 := B2_1.out.rd 0 rfl
  have r2_1 := B2_1.out.rd 1 rfl
  have z2_0 := B2_1.out.frozen 0
  have z2_1 := B2_1.out.frozen 1
  go_wp2_with fail
  refine bodyPost_ret (v := .tuple #[.agg #[.int .i64 0, .slice none 0 0], .int .i64 1]) (by simp [results, Try.results90, go_sem, r2_0, r2_1, z2_0, z2_1]) rfl ⟨none, 0, rfl, ?_, ?_⟩
  · exact (K1.out.setCell (show w.heap.size ≤ w.heap.size + 2 by omega) _).setCell (show w.heap.size ≤ w.heap.size + 2 by omega) _
  · exact fun h => absurd h (Nat.lt_irrefl _)

set_option maxRecDepth 100000 in
set_option maxHeartbeats 1000000 in
theorem implStackSets_1b (c0 : Int) (A0 : Option Addr) (n0 q0 : Nat) (ts : List Tl) (c1 : Int) (A1 : Option Addr) (n1 q1 : Nat) (us : List Tl) (w : World) (hn0 : n0 ≤ 1048576) (hl0 : ts.length = n0) (hA0 : TR w w.heap.size A0 ts) (hn1 : n1 ≤ 1048576) (hl1 : us.length = n1) (hA1 : TR w w.heap.size A1 us) (hs0 : isSet c0 ts = true) (hs1 : isSet c1 us = false) :
    Calls Try.prog 90 #[.agg #[.int .i64 c0, .slice A0 n0 q0], .agg #[.int .i64 c1, .slice A1 n1 q1]] w (SetRes w 0 [] 1) := by
  have his0 : ∀ W, Below w.heap.size w W → Calls Try.prog 80 #[.agg #[.int .i64 c0, .slice A0 n0 q0]] W _ := fun W hW => isSet_any c0 A0 n0 q0 ts W (by omega) hl0 ((hA0.below hW (Nat.le_refl _)).more hW.size)
  rw [hs0] at his0
  have HI0 := Lib.hid his0
  clear his0
  have his1 : ∀ W, Below w.heap.size w W → Calls Try.prog 80 #[.agg #[.int .i64 c1, .slice A1 n1 q1]] W _ := fun W hW => isSet_any c1 A1 n1 q1 us W (by omega) hl1 ((hA1.below hW (Nat.le_refl _)).more hW.size)
  rw [hs1] at his1
  have HI1 := Lib.hid his1
  clear his1
  clear hA0 hA1
  unfold SetRes
  go_enter Try.func90, Try.ntmps90
  go_wp2_with fail
  have hx0 : Ext w (((w.alloc (Obj.cells #[.int .i64 c0, .slice A0 n0 q0] 32)).alloc (Obj.cells #[.int .i64 c1, .slice A1 n1 q1] 32)).alloc (Obj.cells #[.int .i64 0, .slice none 0 0] 32)) := (((Ext.refl w).alloc _).alloc _).alloc _
  have hb0 : Blk (((w.alloc (Obj.cells #[.int .i64 c0, .slice A0 n0 q0] 32)).alloc (Obj.cells #[.int .i64 c1, .slice A1 n1 q1] 32)).alloc (Obj.cells #[.int .i64 0, .slice none 0 0] 32)) (w.heap.size) 32 #[.int .i64 c0, .slice A0 n0 q0] := by have := ((Blk.new w 32 #[.int .i64 c0, .slice A0 n0 q0]).ext (show Ext (w.alloc (Obj.cells #[.int .i64 c0, .slice A0 n0 q0] 32)) (((w.alloc (Obj.cells #[.int .i64 c0, .slice A0 n0 q0] 32)).alloc (Obj.cells #[.int .i64 c1, .slice A1 n1 q1] 32)).alloc (Obj.cells #[.int .i64 0, .slice none 0 0] 32)) from ((Ext.refl _).alloc _).alloc _)); simpa using this
  have hb1 : Blk (((w.alloc (Obj.cells #[.int .i64 c0, .slice A0 n0 q0] 32)).alloc (Obj.cells #[.int .i64 c1, .slice A1 n1 q1] 32)).alloc (Obj.cells #[.int .i64 0, .slice none 0 0] 32)) (w.heap.size + 1) 32 #[.int .i64 c1, .slice A1 n1 q1] := by have := ((Blk.new (w.alloc (Obj.cells #[.int .i64 c0, .slice A0 n0 q0] 32)) 32 #[.int .i64 c1, .slice A1 n1 q1]).ext (show Ext ((w.alloc (Obj.cells #[.int .i64 c0, .slice A0 n0 q0] 32)).alloc (Obj.cells #[.int .i64 c1, .slice A1 n1 q1] 32)) (((w.alloc (Obj.cells #[.int .i64 c0, .slice A0 n0 q0] 32)).alloc (Obj.cells #[.int .i64 c1, .slice A1 n1 q1] 32)).alloc (Obj.cells #[.int .i64 0, .slice none 0 0] 32)) from (Ext.refl _).alloc _)); simpa using this
  have hb2 : Blk (((w.alloc (Obj.cells #[.int .i64 c0, .slice A0 n0 q0] 32)).alloc (Obj.cells #[.int .i64 c1, .slice A1 n1 q1] 32)).alloc (Obj.cells #[.int .i64 0, .slice none 0 0] 32)) (w.heap.size + 2) 32 #[.int .i64 0, .slice none 0 0] := by have := (Blk.new ((w.alloc (Obj.cells #[.int .i64 c0, .slice A0 n0 q0] 32)).alloc (Obj.cells #[.int .i64 c1, .slice A1 n1 q1] 32)) 32 #[.int .i64 0, .slice none 0 0]); simpa using this
  have K0 := Lib.hid (hx0.below (Nat.le_refl _))
  have L0 := Lib.hid (show w.heap.size + 3 ≤ (((w.alloc (Obj.cells #[.int .i64 c0, .slice A0 n0 q0] 32)).alloc (Obj.cells #[.int .i64 c1, .slice A1 n1 q1] 32)).alloc (Obj.cells #[.int .i64 0, .slice none 0 0] 32)).heap.size by simp)
  have B0_0 := Lib.hid hb0
  have B1_0 := Lib.hid hb1
  have B2_0 := Lib.hid hb2
  clear hx0 hb0 hb1 hb2
  generalize (((w.alloc (Obj.cells #[.int .i64 c0, .slice A0 n0 q0] 32)).alloc (Obj.cells #[.int .i64 c1, .slice A1 n1 q1] 32)).alloc (Obj.cells #[.int .i64 0, .slice none 0 0] 32)) = w0 at *
  refine (HI0.out _ K0.out).mono ?_
  rintro e w1 ⟨rfl, hx⟩
  have K1 := Lib.hid (K0.out.trans ((hx.below (Nat.le_refl _)).mono K0.out.size))
  have L1 := Lib.hid (Nat.le_trans L0.out (hx.below (Nat.le_refl _)).size)
  have B0_1 := Lib.hid (B0_0.out.below (hx.below (Nat.le_refl _)) B0_0.out.lt)
  have B1_1 := Lib.hid (B1_0.out.below (hx.below (Nat.le_refl _)) B1_0.out.lt)
  have B2_1 := Lib.hid (B2_0.out.below (hx.below (Nat.le_refl _)) B2_0.out.lt)
  clear K0 B0_0 B1_0 B2_0 L0 hx
  have r0_0 := B0_1.out.rd 0 rfl
  have r0_1 := B0_1.out.rd 1 rfl
  have r1_0 := B1_1.out.rd 0 rfl
  have r1_1 := B1_1.out.rd 1 rfl
  go_wp2_with fail
  refine (HI1.out _ K1.out).mono ?_
  rintro e w2 ⟨rfl, hx⟩
  clear r0_0 r0_1 r1_0 r1_1
  have K2 := Lib.hid (K1.out.trans ((hx.below (Nat.le_refl _)).mono K1.out.size))
  have L2 := Lib.hid (Nat.le_trans L1.out (hx.below (Nat.le_refl _)).size)
  have B0_2 := Lib.hid (B0_1.out.below (hx.below (Nat.le_refl _)) B0_1.out.lt)
  have B1_2 := Lib.hid (B1_1.out.below (hx.below (Nat.le_refl _)) B1_1.out.lt)
  have B2_2 := Lib.hid (B2_1.out.below (hx.below (Nat.le_refl _)) B2_1.out.lt)
  clear K1 B0_1 B1_1 B2_1 L1 hx
  have r0_0 := B0_2.out.rd 0 rfl
  have r0_1 := B0_2.out.rd 1 rfl
  have r1_0 := B1_2.out.rd 0 rfl
  have r1_1 := B1_2.out.rd 1 rfl
  have r2_0 := B2_2.out.rd 0 rfl
  have r2_1 := B2_2.out.rd 1 rfl
  have z2_0 := B2_2.out.frozen 0
  have z2_1 := B2_2.out.frozen 1
  go_wp2_with fail
  refine bodyPost_ret (v := .tuple #[.agg #[.int .i64 0, .slice none 0 0], .int .i64 1]) (by simp [results, Try.results90, go_sem, r2_0, r2_1, z2_0, z2_1]) rfl ⟨none, 0, rfl, ?_, ?_⟩
  · exact (K2.out.setCell (show w.heap.size ≤ w.heap.size + 2 by omega) _).setCell (show w.heap.size ≤ w.heap.size + 2 by omega) _
  · exact fun h => absurd h (Nat.lt_irrefl _)

set_option maxRecDepth 100000 in
set_option maxHeartbeats 2000000 in
theorem specStackSets_gen (c0 : Int) (A0 : Option Addr) (n0 q0 : Nat) (ts : List Tl) (c1 : Int) (A1 : Option Addr) (n1 q1 : Nat) (us : List Tl) (w : World) (hn0 : n0 ≤ 1048576) (hl0 : ts.length = n0) (hA0 : TR w w.heap.size A0 ts) (hn1 : n1 ≤ 1048576) (hl1 : us.length = n1) (hA1 : TR w w.heap.size A1 us) (hs0 : isSet c0 ts = true) (hs1 : isSet c1 us = true) (z : Int) (vs : List Tl) (code : Int) (hmd : ∀ W, Below w.heap.size w W → Calls Try.prog 131 #[.agg #[.int .i64 c0, .slice A0 n0 q0], .agg #[.int .i64 c1, .slice A1 n1 q1]] W (SetRes W z vs code)) :
    Calls Try.prog 86 #[.agg #[.int .i64 c0, .slice A0 n0 q0], .agg #[.int .i64 c1, .slice A1 n1 q1]] w (SetRes w z vs code) := by
  have his0 : ∀ W, Below w.heap.size w W → Calls Try.prog 75 #[.agg #[.int .i64 c0, .slice A0 n0 q0]] W _ := fun W hW => l01Is_any c0 A0 n0 q0 ts W (by omega) hl0 ((hA0.below hW (Nat.le_refl _)).more hW.size)
  rw [hs0] at his0
  have HI0 := Lib.hid his0
  clear his0
  have his1 : ∀ W, Below w.heap.size w W → Calls Try.prog 75 #[.agg #[.int .i64 c1, .slice A1 n1 q1]] W _ := fun W hW => l01Is_any c1 A1 n1 q1 us W (by omega) hl1 ((hA1.below hW (Nat.le_refl _)).more hW.size)
  rw [hs1] at his1
  have HI1 := Lib.hid his1
  clear his1
  unfold SetRes at hmd ⊢
  obtain ⟨sl, hsl⟩ : ∃ n, n = vs.length := ⟨_, rfl⟩
  rw [← hsl] at hmd ⊢
  have HMD := Lib.hid hmd
  have HSL := Lib.hid hsl
  clear hmd hsl hA0 hA1 hs0 hs1
  go_enter Try.func86, Try.ntmps86
  go_wp2_with fail
  have hx0 : Ext w (((w.alloc (Obj.cells #[.int .i64 c0, .slice A0 n0 q0] 32)).alloc (Obj.cells #[.int .i64 c1, .slice A1 n1 q1] 32)).alloc (Obj.cells #[.int .i64 0, .slice none 0 0] 32)) := (((Ext.refl w).alloc _).alloc _).alloc _
  have hb0 : Blk (((w.alloc (Obj.cells #[.int .i64 c0, .slice A0 n0 q0] 32)).alloc (Obj.cells #[.int .i64 c1, .slice A1 n1 q1] 32)).alloc (Obj.cells #[.int .i64 0, .slice none 0 0] 32)) (w.heap.size) 32 #[.int .i64 c0, .slice A0 n0 q0] := by have := ((Blk.new w 32 #[.int .i64 c0, .slice A0 n0 q0]).ext (show Ext (w.alloc (Obj.cells #[.int .i64 c0, .slice A0 n0 q0] 32)) (((w.alloc (Obj.cells #[.int .i64 c0, .slice A0 n0 q0] 32)).alloc (Obj.cells #[.int .i64 c1, .slice A1 n1 q1] 32)).alloc (Obj.cells #[.int .i64 0, .slice none 0 0] 32)) from ((Ext.refl _).alloc _).alloc _)); simpa using this
  have hb1 : Blk (((w.alloc (Obj.cells #[.int .i64 c0, .slice A0 n0 q0] 32)).alloc (Obj.cells #[.int .i64 c1, .slice A1 n1 q1] 32)).alloc (Obj.cells #[.int .i64 0, .slice none 0 0] 32)) (w.heap.size + 1) 32 #[.int .i64 c1, .slice A1 n1 q1] := by have := ((Blk.new (w.alloc (Obj.cells #[.int .i64 c0, .slice A0 n0 q0] 32)) 32 #[.int .i64 c1, .slice A1 n1 q1]).ext (show Ext ((w.alloc (Obj.cells #[.int .i64 c0, .slice A0 n0 q0] 32)).alloc (Obj.cells #[.int .i64 c1, .slice A1 n1 q1] 32)) (((w.alloc (Obj.cells #[.int .i64 c0, .slice A0 n0 q0] 32)).alloc (Obj.cells #[.int .i64 c1, .slice A1 n1 q1] 32)).alloc (Obj.cells #[.int .i64 0, .slice none 0 0] 32)) from (Ext.refl _).alloc _)); simpa using this
  have hb2 : Blk (((w.alloc (Obj.cells #[.int .i64 c0, .slice A0 n0 q0] 32)).alloc (Obj.cells #[.int .i64 c1, .slice A1 n1 q1] 32)).alloc (Obj.cells #[.int .i64 0, .slice none 0 0] 32)) (w.heap.size + 2) 32 #[.int .i64 0, .slice none 0 0] := by have := (Blk.new ((w.alloc (Obj.cells #[.int .i64 c0, .slice A0 n0 q0] 32)).alloc (Obj.cells #[.int .i64 c1, .slice A1 n1 q1] 32)) 32 #[.int .i64 0, .slice none 0 0]); simpa using this
  have K0 := Lib.hid (hx0.below (Nat.le_refl _))
  have L0 := Lib.hid (show w.heap.size + 3 ≤ (((w.alloc (Obj.cells #[.int .i64 c0, .slice A0 n0 q0] 32)).alloc (Obj.cells #[.int .i64 c1, .slice A1 n1 q1] 32)).alloc (Obj.cells #[.int .i64 0, .slice none 0 0] 32)).heap.size by simp)
  have B0_0 := Lib.hid hb0
  have B1_0 := Lib.hid hb1
  have B2_0 := Lib.hid hb2
  clear hx0 hb0 hb1 hb2
  generalize (((w.alloc (Obj.cells #[.int .i64 c0, .slice A0 n0 q0] 32)).alloc (Obj.cells #[.int .i64 c1, .slice A1 n1 q1] 32)).alloc (Obj.cells #[.int .i64 0, .slice none 0 0] 32)) = w0 at *
  refine (HI0.out _ K0.out).mono ?_
  rintro e w1 ⟨rfl, hx⟩
  have K1 := Lib.hid (K0.out.trans ((hx.below (Nat.le_refl _)).mono K0.out.size))
  have L1 := Lib.hid (Nat.le_trans L0.out (hx.below (Nat.le_refl _)).size)
  have B0_1 := Lib.hid (B0_0.out.below (hx.below (Nat.le_refl _)) B0_0.out.lt)
  have B1_1 := Lib.hid (B1_0.out.below (hx.below (Nat.le_refl _)) B1_0.out.lt)
  have B2_1 := Lib.hid (B2_0.out.below (hx.below (Nat.le_refl _)) B2_0.out.lt)
  clear K0 B0_0 B1_0 B2_0 L0 hx
  have r0_0 := B0_1.out.rd 0 rfl
  have r0_1 := B0_1.out.rd 1 rfl
  have r1_0 := B1_1.out.rd 0 rfl
  have r1_1 := B1_1.out.rd 1 rfl
  go_wp2_with fail
  refine (HI1.out _ K1.out).mono ?_
  rintro e w2 ⟨rfl, hx⟩
  clear r0_0 r0_1 r1_0 r1_1
  have K2 := Lib.hid (K1.out.trans ((hx.below (Nat.le_refl _)).mono K1.out.size))
  have L2 := Lib.hid (Nat.le_trans L1.out (hx.below (Nat.le_refl _)).size)
  have B0_2 := Lib.hid (B0_1.out.below (hx.below (Nat.le_refl _)) B0_1.out.lt)
  have B1_2 := Lib.hid (B1_1.out.below (hx.below (Nat.le_refl _)) B1_1.out.lt)
  have B2_2 := Lib.hid (B2_1.out.below (hx.below (Nat.le_refl _)) B2_1.out.lt)
  clear K1 B0_1 B1_1 B2_1 L1 hx
  have r0_0 := B0_2.out.rd 0 rfl
  have r0_1 := B0_2.out.rd 1 rfl
  have r1_0 := B1_2.out.rd 0 rfl
  have r1_1 := B1_2.out.rd 1 rfl
  have r2_0 := B2_2.out.rd 0 rfl
  have r2_1 := B2_2.out.rd 1 rfl
  have z2_0 := B2_2.out.frozen 0
  have z2_1 := B2_2.out.frozen 1
  go_wp2_with fail
  refine (HMD.out _ K2.out).mono ?_
  rintro e w5 ⟨A5, cap5, rfl, hb5, htw5⟩
  have hbr := B2_2.out.below hb5 B2_2.out.lt
  have hx9 := (Ext.refl w5).alloc (Obj.cells #[.int .i64 z, .slice A5 sl cap5] 32)
  have hbx := hbr.ext hx9
  have HBF := Lib.hid ((K2.out.trans (hb5.mono K2.out.size)).trans (hx9.below (Nat.le_trans K2.out.size hb5.size)))
  have HT := Lib.hid (htw5.ext hx9)
  have hsz : w.heap.size + 3 ≤ w2.heap.size := L2.out
  have hq := Blk.new w5 32 #[.int .i64 z, .slice A5 sl cap5]
  have p0 := hq.rd 0 rfl
  have p1 := hq.rd 1 rfl
  have q0 := hbx.rd 0 rfl
  have q1 := hbx.rd 1 rfl
  have z0 := hbx.frozen 0
  have z1 := hbx.frozen 1
  clear hbr hx9 hbx hb5 htw5 hq r0_0 r0_1 r1_0 r1_1 r2_0 r2_1 z2_0 z2_1
  go_wp2_with fail
  refine bodyPost_ret (v := .tuple #[.agg #[.int .i64 z, .slice A5 sl cap5], .int .i64 code]) (by simp [results, Try.results86, go_sem, q0, q1, z0, z1]) rfl ⟨A5, cap5, rfl, ?_, ?_⟩
  · exact (HBF.out.setCell (show w.heap.size ≤ w.heap.size + 2 by omega) _).setCell (show w.heap.size ≤ w.heap.size + 2 by omega) _
  · exact ((HT.out.far (show w.heap.size + 2 < _ by omega) _).far (show w.heap.size + 2 < _ by omega) _).low (by omega)

set_option maxRecDepth 100000 in
set_option maxHeartbeats 2000000 in
theorem implStackSets_0 (c0 : Int) (A0 : Option Addr) (n0 q0 : Nat) (ts : List Tl) (c1 : Int) (A1 : Option Addr) (n1 q1 : Nat) (us : List Tl) (w : World) (hn0 : n0 ≤ 1048576) (hl0 : ts.length = n0) (hA0 : TR w w.heap.size A0 ts) (hn1 : n1 ≤ 1048576) (hl1 : us.length = n1) (hA1 : TR w w.heap.size A1 us) (hs0 : isSet c0 ts = true) (hs1 : isSet c1 us = true) (h6 : stkC c0 c1 ts us ≤ 6) (h16 : (stkT ts us).length ≤ 16) :
    Calls Try.prog 90 #[.agg #[.int .i64 c0, .slice A0 n0 q0], .agg #[.int .i64 c1, .slice A1 n1 q1]] w (SetRes w (stkC c0 c1 ts us) (stkT ts us) 0) := by
  have hle16 := isSet_len hs0
  have hle16' := isSet_len hs1
  rw [hl0] at hle16
  rw [hl1] at hle16'
  have hst : ∀ W, Below w.heap.size w W → Calls Try.prog 98 #[.agg #[.int .i64 c0, .slice A0 n0 q0], .agg #[.int .i64 c1, .slice A1 n1 q1]] W _ := fun W hW => stackOf_any c0 A0 n0 q0 ts c1 A1 n1 q1 us W (by omega) hl0 ((hA0.below hW (Nat.le_refl _)).more hW.size) hle16' hl1 ((hA1.below hW (Nat.le_refl _)).more hW.size) (fun t ht => by have := ok_of_isSet hs0 t ht; have := (isSet_col hs0).2; simp only [tileOk, decide_eq_true_eq] at *; omega) (fun t ht => tok6 (ok_of_isSet hs1 t ht) (isSet_col hs1).2)
  unfold SetOnly at hst
  have his0 : ∀ W, Below w.heap.size w W → Calls Try.prog 80 #[.agg #[.int .i64 c0, .slice A0 n0 q0]] W _ := fun W hW => isSet_any c0 A0 n0 q0 ts W (by omega) hl0 ((hA0.below hW (Nat.le_refl _)).more hW.size)
  rw [hs0] at his0
  have HI0 := Lib.hid his0
  clear his0
  have his1 : ∀ W, Below w.heap.size w W → Calls Try.prog 80 #[.agg #[.int .i64 c1, .slice A1 n1 q1]] W _ := fun W hW => isSet_any c1 A1 n1 q1 us W (by omega) hl1 ((hA1.below hW (Nat.le_refl _)).more hW.size)
  rw [hs1] at his1
  have HI1 := Lib.hid his1
  clear his1
  unfold SetRes
  generalize stkC c0 c1 ts us = M at *
  generalize stkT ts us = vs at *
  obtain ⟨sl, hsl⟩ : ∃ n, n = vs.length := ⟨_, rfl⟩
  rw [← hsl] at hst h16 ⊢
  have HST := Lib.hid hst
  have HSL := Lib.hid hsl
  clear hst hsl hA0 hA1 hs0 hs1
  have h6n : ¬ (6 : Int) < M := by omega
  have h16n : ¬ (16 : Int) < (sl : Int) := by omega
  go_enter Try.func90, Try.ntmps90
  go_wp2_with fail
  have hx0 : Ext w (((w.alloc (Obj.cells #[.int .i64 c0, .slice A0 n0 q0] 32)).alloc (Obj.cells #[.int .i64 c1, .slice A1 n1 q1] 32)).alloc (Obj.cells #[.int .i64 0, .slice none 0 0] 32)) := (((Ext.refl w).alloc _).alloc _).alloc _
  have hb0 : Blk (((w.alloc (Obj.cells #[.int .i64 c0, .slice A0 n0 q0] 32)).alloc (Obj.cells #[.int .i64 c1, .slice A1 n1 q1] 32)).alloc (Obj.cells #[.int .i64 0, .slice none 0 0] 32)) (w.heap.size) 32 #[.int .i64 c0, .slice A0 n0 q0] := by have := ((Blk.new w 32 #[.int .i64 c0, .slice A0 n0 q0]).ext (show Ext (w.alloc (Obj.cells #[.int .i64 c0, .slice A0 n0 q0] 32)) (((w.alloc (Obj.cells #[.int .i64 c0, .slice A0 n0 q0] 32)).alloc (Obj.cells #[.int .i64 c1, .slice A1 n1 q1] 32)).alloc (Obj.cells #[.int .i64 0, .slice none 0 0] 32)) from ((Ext.refl _).alloc _).alloc _)); simpa using this
  have hb1 : Blk (((w.alloc (Obj.cells #[.int .i64 c0, .slice A0 n0 q0] 32)).alloc (Obj.cells #[.int .i64 c1, .slice A1 n1 q1] 32)).alloc (Obj.cells #[.int .i64 0, .slice none 0 0] 32)) (w.heap.size + 1) 32 #[.int .i64 c1, .slice A1 n1 q1] := by have := ((Blk.new (w.alloc (Obj.cells #[.int .i64 c0, .slice A0 n0 q0] 32)) 32 #[.int .i64 c1, .slice A1 n1 q1]).ext (show Ext ((w.alloc (Obj.cells #[.int .i64 c0, .slice A0 n0 q0] 32)).alloc (Obj.cells #[.int .i64 c1, .slice A1 n1 q1] 32)) (((w.alloc (Obj.cells #[.int .i64 c0, .slice A0 n0 q0] 32)).alloc (Obj.cells #[.int .i64 c1, .slice A1 n1 q1] 32)).alloc (Obj.cells #[.int .i64 0, .slice none 0 0] 32)) from (Ext.refl _).alloc _)); simpa using this
  have hb2 : Blk (((w.alloc (Obj.cells #[.int .i64 c0, .slice A0 n0 q0] 32)).alloc (Obj.cells #[.int .i64 c1, .slice A1 n1 q1] 32)).alloc (Obj.cells #[.int .i64 0, .slice none 0 0] 32)) (w.heap.size + 2) 32 #[.int .i64 0, .slice none 0 0] := by have := (Blk.new ((w.alloc (Obj.cells #[.int .i64 c0, .slice A0 n0 q0] 32)).alloc (Obj.cells #[.int .i64 c1, .slice A1 n1 q1] 32)) 32 #[.int .i64 0, .slice none 0 0]); simpa using this
  have K0 := Lib.hid (hx0.below (Nat.le_refl _))
  have L0 := Lib.hid (show w.heap.size + 3 ≤ (((w.alloc (Obj.cells #[.int .i64 c0, .slice A0 n0 q0] 32)).alloc (Obj.cells #[.int .i64 c1, .slice A1 n1 q1] 32)).alloc (Obj.cells #[.int .i64 0, .slice none 0 0] 32)).heap.size by simp)
  have B0_0 := Lib.hid hb0
  have B1_0 := Lib.hid hb1
  have B2_0 := Lib.hid hb2
  clear hx0 hb0 hb1 hb2
  generalize (((w.alloc (Obj.cells #[.int .i64 c0, .slice A0 n0 q0] 32)).alloc (Obj.cells #[.int .i64 c1, .slice A1 n1 q1] 32)).alloc (Obj.cells #[.int .i64 0, .slice none 0 0] 32)) = w0 at *
  refine (HI0.out _ K0.out).mono ?_
  rintro e w1 ⟨rfl, hx⟩
  have K1 := Lib.hid (K0.out.trans ((hx.below (Nat.le_refl _)).mono K0.out.size))
  have L1 := Lib.hid (Nat.le_trans L0.out (hx.below (Nat.le_refl _)).size)
  have B0_1 := Lib.hid (B0_0.out.below (hx.below (Nat.le_refl _)) B0_0.out.lt)
  have B1_1 := Lib.hid (B1_0.out.below (hx.below (Nat.le_refl _)) B1_0.out.lt)
  have B2_1 := Lib.hid (B2_0.out.below (hx.below (Nat.le_refl _)) B2_0.out.lt)
  clear K0 B0_0 B1_0 B2_0 L0 hx
  have r0_0 := B0_1.out.rd 0 rfl
  have r0_1 := B0_1.out.rd 1 rfl
  have r1_0 := B1_1.out.rd 0 rfl
  have r1_1 := B1_1.out.rd 1 rfl
  go_wp2_with fail
  refine (HI1.out _ K1.out).mono ?_
  rintro e w2 ⟨rfl, hx⟩
  clear r0_0 r0_1 r1_0 r1_1
  have K2 := Lib.hid (K1.out.trans ((hx.below (Nat.le_refl _)).mono K1.out.size))
  have L2 := Lib.hid (Nat.le_trans L1.out (hx.below (Nat.le_refl _)).size)
  have B0_2 := Lib.hid (B0_1.out.below (hx.below (Nat.le_refl _)) B0_1.out.lt)
  have B1_2 := Lib.hid (B1_1.out.below (hx.below (Nat.le_refl _)) B1_1.out.lt)
  have B2_2 := Lib.hid (B2_1.out.below (hx.below (Nat.le_refl _)) B2_1.out.lt)
  clear K1 B0_1 B1_1 B2_1 L1 hx
  have r0_0 := B0_2.out.rd 0 rfl
  have r0_1 := B0_2.out.rd 1 rfl
  have r1_0 := B1_2.out.rd 0 rfl
  have r1_1 := B1_2.out.rd 1 rfl
  have r2_0 := B2_2.out.rd 0 rfl
  have r2_1 := B2_2.out.rd 1 rfl
  have z2_0 := B2_2.out.frozen 0
  have z2_1 := B2_2.out.frozen 1
  go_wp2_with fail
  refine (HST.out _ K2.out).mono ?_
  rintro e w5 ⟨A5, cap5, rfl, hb5, htw5⟩
  have hbr := B2_2.out.below hb5 B2_2.out.lt
  have hx9 := (Ext.refl w5).alloc (Obj.cells #[.int .i64 M, .slice A5 sl cap5] 32)
  have hbx := hbr.ext hx9
  have HBF := Lib.hid ((K2.out.trans (hb5.mono K2.out.size)).trans (hx9.below (Nat.le_trans K2.out.size hb5.size)))
  have HT := Lib.hid (htw5.ext hx9)
  have hsz : w.heap.size + 3 ≤ w2.heap.size := L2.out
  have hq := Blk.new w5 32 #[.int .i64 M, .slice A5 sl cap5]
  have p0 := hq.rd 0 rfl
  have p1 := hq.rd 1 rfl
  have q0 := hbx.rd 0 rfl
  have q1 := hbx.rd 1 rfl
  have z0 := hbx.frozen 0
  have z1 := hbx.frozen 1
  clear hbr hx9 hbx hb5 htw5 hq r0_0 r0_1 r1_0 r1_1 r2_0 r2_1 z2_0 z2_1
  go_wp2_with fail
  refine bodyPost_ret (v := .tuple #[.agg #[.int .i64 M, .slice A5 sl cap5], .int .i64 0]) (by simp [results, Try.results90, go_sem, q0, q1, z0, z1]) rfl ⟨A5, cap5, rfl, ?_, ?_⟩
  · exact (HBF.out.setCell (show w.heap.size ≤ w.heap.size + 2 by omega) _).setCell (show w.heap.size ≤ w.heap.size + 2 by omega) _
  · exact ((HT.out.far (show w.heap.size + 2 < _ by omega) _).far (show w.heap.size + 2 < _ by omega) _).low (by omega)

set_option maxRecDepth 100000 in
set_option maxHeartbeats 2000000 in
theorem implStackSets_3a (c0 : Int) (A0 : Option Addr) (n0 q0 : Nat) (ts : List Tl) (c1 : Int) (A1 : Option Addr) (n1 q1 : Nat) (us : List Tl) (w : World) (hn0 : n0 ≤ 1048576) (hl0 : ts.length = n0) (hA0 : TR w w.heap.size A0 ts) (hn1 : n1 ≤ 1048576) (hl1 : us.length = n1) (hA1 : TR w w.heap.size A1 us) (hs0 : isSet c0 ts = true) (hs1 : isSet c1 us = true) (h6 : ¬ stkC c0 c1 ts us ≤ 6) :
    Calls Try.prog 90 #[.agg #[.int .i64 c0, .slice A0 n0 q0], .agg #[.int .i64 c1, .slice A1 n1 q1]] w (SetRes w 0 [] 3) := by
  have hle16 := isSet_len hs0
  have hle16' := isSet_len hs1
  rw [hl0] at hle16
  rw [hl1] at hle16'
  have hst : ∀ W, Below w.heap.size w W → Calls Try.prog 98 #[.agg #[.int .i64 c0, .slice A0 n0 q0], .agg #[.int .i64 c1, .slice A1 n1 q1]] W _ := fun W hW => stackOf_any c0 A0 n0 q0 ts c1 A1 n1 q1 us W (by omega) hl0 ((hA0.below hW (Nat.le_refl _)).more hW.size) hle16' hl1 ((hA1.below hW (Nat.le_refl _)).more hW.size) (fun t ht => by have := ok_of_isSet hs0 t ht; have := (isSet_col hs0).2; simp only [tileOk, decide_eq_true_eq] at *; omega) (fun t ht => tok6 (ok_of_isSet hs1 t ht) (isSet_col hs1).2)
  unfold SetOnly at hst
  have his0 : ∀ W, Below w.heap.size w W → Calls Try.prog 80 #[.agg #[.int .i64 c0, .slice A0 n0 q0]] W _ := fun W hW => isSet_any c0 A0 n0 q0 ts W (by omega) hl0 ((hA0.below hW (Nat.le_refl _)).more hW.size)
  rw [hs0] at his0
  have HI0 := Lib.hid his0
  clear his0
  have his1 : ∀ W, Below w.heap.size w W → Calls Try.prog 80 #[.agg #[.int .i64 c1, .slice A1 n1 q1]] W _ := fun W hW => isSet_any c1 A1 n1 q1 us W (by omega) hl1 ((hA1.below hW (Nat.le_refl _)).more hW.size)
  rw [hs1] at his1
  have HI1 := Lib.hid his1
  clear his1
  unfold SetRes
  generalize stkC c0 c1 ts us = M at *
  generalize stkT ts us = vs at *
  obtain ⟨sl, hsl⟩ : ∃ n, n = vs.length := ⟨_, rfl⟩
  rw [← hsl] at hst
  have HST := Lib.hid hst
  have HSL := Lib.hid hsl
  clear hst hsl hA0 hA1 hs0 hs1
  have h6n : (6 : Int) < M := by omega
  go_enter Try.func90, Try.ntmps90
  go_wp2_with fail
  have hx0 : Ext w (((w.alloc (Obj.cells #[.int .i64 c0, .slice A0 n0 q0] 32)).alloc (Obj.cells #[.int .i64 c1, .slice A1 n1 q1] 32)).alloc (Obj.cells #[.int .i64 0, .slice none 0 0] 32)) := (((Ext.refl w).alloc _).alloc _).alloc _
  have hb0 : Blk (((w.alloc (Obj.cells #[.int .i64 c0, .slice A0 n0 q0] 32)).alloc (Obj.cells #[.int .i64 c1, .slice A1 n1 q1] 32)).alloc (Obj.cells #[.int .i64 0, .slice none 0 0] 32)) (w.heap.size) 32 #[.int .i64 c0, .slice A0 n0 q0] := by have := ((Blk.new w 32 #[.int .i64 c0, .slice A0 n0 q0]).ext (show Ext (w.alloc (Obj.cells #[.int .i64 c0, .slice A0 n0 q0] 32)) (((w.alloc (Obj.cells #[.int .i64 c0, .slice A0 n0 q0] 32)).alloc (Obj.cells #[.int .i64 c1, .slice A1 n1 q1] 32)).alloc (Obj.cells #[.int .i64 0, .slice none 0 0] 32)) from ((Ext.refl _).alloc _).alloc _)); simpa using this
  have hb1 : Blk (((w.alloc (Obj.cells #[.int .i64 c0, .slice A0 n0 q0] 32)).alloc (Obj.cells #[.int .i64 c1, .slice A1 n1 q1] 32)).alloc (Obj.cells #[.int .i64 0, .slice none 0 0] 32)) (w.heap.size + 1) 32 #[.int .i64 c1, .slice A1 n1 q1] := by have := ((Blk.new (w.alloc (Obj.cells #[.int .i64 c0, .slice A0 n0 q0] 32)) 32 #[.int .i64 c1, .slice A1 n1 q1]).ext (show Ext ((w.alloc (Obj.cells #[.int .i64 c0, .slice A0 n0 q0] 32)).alloc (Obj.cells #[.int .i64 c1, .slice A1 n1 q1] 32)) (((w.alloc (Obj.cells #[.int .i64 c0, .slice A0 n0 q0] 32)).alloc (Obj.cells #[.int .i64 c1, .slice A1 n1 q1] 32)).alloc (Obj.cells #[.int .i64 0, .slice none 0 0] 32)) from (Ext.refl _).alloc _)); simpa using this
  have hb2 : Blk (((w.alloc (Obj.cells #[.int .i64 c0, .slice A0 n0 q0] 32)).alloc (Obj.cells #[.int .i64 c1, .slice A1 n1 q1] 32)).alloc (Obj.cells #[.int .i64 0, .slice none 0 0] 32)) (w.heap.size + 2) 32 #[.int .i64 0, .slice none 0 0] := by have := (Blk.new ((w.alloc (Obj.cells #[.int .i64 c0, .slice A0 n0 q0] 32)).alloc (Obj.cells #[.int .i64 c1, .slice A1 n1 q1] 32)) 32 #[.int .i64 0, .slice none 0 0]); simpa using this
  have K0 := Lib.hid (hx0.below (Nat.le_refl _))
  have L0 := Lib.hid (show w.heap.size + 3 ≤ (((w.alloc (Obj.cells #[.int .i64 c0, .slice A0 n0 q0] 32)).alloc (Obj.cells #[.int .i64 c1, .slice A1 n1 q1] 32)).alloc (Obj.cells #[.int .i64 0, .slice none 0 0] 32)).heap.size by simp)
  have B0_0 := Lib.hid hb0
  have B1_0 := Lib.hid hb1
  have B2_0 := Lib.hid hb2
  clear hx0 hb0 hb1 hb2
  generalize (((w.alloc (Obj.cells #[.int .i64 c0, .slice A0 n0 q0] 32)).alloc (Obj.cells #[.int .i64 c1, .slice A1 n1 q1] 32)).alloc (Obj.cells #[.int .i64 0, .slice none 0 0] 32)) = w0 at *
  refine (HI0.out _ K0.out).mono ?_
  rintro e w1 ⟨rfl, hx⟩
  have K1 := Lib.hid (K0.out.trans ((hx.below (Nat.le_refl _)).mono K0.out.size))
  have L1 := Lib.hid (Nat.le_trans L0.out (hx.below (Nat.le_refl _)).size)
  have B0_1 := Lib.hid (B0_0.out.below (hx.below (Nat.le_refl _)) B0_0.out.lt)
  have B1_1 := Lib.hid (B1_0.out.below (hx.below (Nat.le_refl _)) B1_0.out.lt)
  have B2_1 := Lib.hid (B2_0.out.below (hx.below (Nat.le_refl _)) B2_0.out.lt)
  clear K0 B0_0 B1_0 B2_0 L0 hx
  have r0_0 := B0_1.out.rd 0 rfl
  have r0_1 := B0_1.out.rd 1 rfl
  have r1_0 := B1_1.out.rd 0 rfl
  have r1_1 := B1_1.out.rd 1 rfl
  go_wp2_with fail
  refine (HI1.out _ K1.out).mono ?_
  rintro e w2 ⟨rfl, hx⟩
  clear r0_0 r0_1 r1_0 r1_1
  have K2 := Lib.hid (K1.out.trans ((hx.below (Nat.le_refl _)).mono K1.out.size))
  have L2 := Lib.hid (Nat.le_trans L1.out (hx.below (Nat.le_refl _)).size)
  have B0_2 := Lib.hid (B0_1.out.below (hx.below (Nat.le_refl _)) B0_1.out.lt)
  have B1_2 := Lib.hid (B1_1.out.below (hx.below (Nat.le_refl _)) B1_1.out.lt)
  have B2_2 := Lib.hid (B2_1.out.below (hx.below (Nat.le_refl _)) B2_1.out.lt)
  clear K1 B0_1 B1_1 B2_1 L1 hx
  have r0_0 := B0_2.out.rd 0 rfl
  have r0_1 := B0_2.out.rd 1 rfl
  have r1_0 := B1_2.out.rd 0 rfl
  have r1_1 := B1_2.out.rd 1 rfl
  have r2_0 := B2_2.out.rd 0 rfl
  have r2_1 := B2_2.out.rd 1 rfl
  have z2_0 := B2_2.out.frozen 0
  have z2_1 := B2_2.out.frozen 1
  go_wp2_with fail
  refine (HST.out _ K2.out).mono ?_
  rintro e w5 ⟨A5, cap5, rfl, hb5, htw5⟩
  have hbr := B2_2.out.below hb5 B2_2.out.lt
  have hx9 := (Ext.refl w5).alloc (Obj.cells #[.int .i64 M, .slice A5 sl cap5] 32)
  have hbx := hbr.ext hx9
  have HBF := Lib.hid ((K2.out.trans (hb5.mono K2.out.size)).trans (hx9.below (Nat.le_trans K2.out.size hb5.size)))
  have HT := Lib.hid (htw5.ext hx9)
  have hsz : w.heap.size + 3 ≤ w2.heap.size := L2.out
  have hq := Blk.new w5 32 #[.int .i64 M, .slice A5 sl cap5]
  have p0 := hq.rd 0 rfl
  have p1 := hq.rd 1 rfl
  have q0 := hbx.rd 0 rfl
  have q1 := hbx.rd 1 rfl
  have z0 := hbx.frozen 0
  have z1 := hbx.frozen 1
  clear hbr hx9 hbx hb5 htw5 hq r0_0 r0_1 r1_0 r1_1 r2_0 r2_1 z2_0 z2_1
  go_wp2_with fail
  refine bodyPost_ret (v := .tuple #[.agg #[.int .i64 0, .slice none 0 0], .int .i64 3]) (by simp [results, Try.results90, go_sem, q0, q1, z0, z1]) rfl ⟨none, 0, rfl, ?_, fun h => absurd h (Nat.lt_irrefl _)⟩
  exact (HBF.out.setCell (show w.heap.size ≤ w.heap.size + 2 by omega) _).setCell (show w.heap.size ≤ w.heap.size + 2 by omega) _

set_option maxRecDepth 100000 in
set_option maxHeartbeats 2000000 in
theorem implStackSets_3b (c0 : Int) (A0 : Option Addr) (n0 q0 : Nat) (ts : List Tl) (c1 : Int) (A1 : Option Addr) (n1 q1 : Nat) (us : List Tl) (w : World) (hn0 : n0 ≤ 1048576) (hl0 : ts.length = n0) (hA0 : TR w w.heap.size A0 ts) (hn1 : n1 ≤ 1048576) (hl1 : us.length = n1) (hA1 : TR w w.heap.size A1 us) (hs0 : isSet c0 ts = true) (hs1 : isSet c1 us = true) (h6 : stkC c0 c1 ts us ≤ 6) (h16 : ¬ (stkT ts us).length ≤ 16) :
    Calls Try.prog 90 #[.agg #[.int .i64 c0, .slice A0 n0 q0], .agg #[.int .i64 c1, .slice A1 n1 q1]] w (SetRes w 0 [] 3) := by
  have hle16 := isSet_len hs0
  have hle16' := isSet_len hs1
  rw [hl0] at hle16
  rw [hl1] at hle16'
  have hst : ∀ W, Below w.heap.size w W → Calls Try.prog 98 #[.agg #[.int .i64 c0, .slice A0 n0 q0], .agg #[.int .i64 c1, .slice A1 n1 q1]] W _ := fun W hW => stackOf_any c0 A0 n0 q0 ts c1 A1 n1 q1 us W (by omega) hl0 ((hA0.below hW (Nat.le_refl _)).more hW.size) hle16' hl1 ((hA1.below hW (Nat.le_refl _)).more hW.size) (fun t ht => by have := ok_of_isSet hs0 t ht; have := (isSet_col hs0).2; simp only [tileOk, decide_eq_true_eq] at *; omega) (fun t ht => tok6 (ok_of_isSet hs1 t ht) (isSet_col hs1).2)
  unfold SetOnly at hst
  have his0 : ∀ W, Below w.heap.size w W → Calls Try.prog 80 #[.agg #[.int .i64 c0, .slice A0 n0 q0]] W _ := fun W hW => isSet_any c0 A0 n0 q0 ts W (by omega) hl0 ((hA0.below hW (Nat.le_refl _)).more hW.size)
  rw [hs0] at his0
  have HI0 := Lib.hid his0
  clear his0
  have his1 : ∀ W, Below w.heap.size w W → Calls Try.prog 80 #[.agg #[.int .i64 c1, .slice A1 n1 q1]] W _ := fun W hW => isSet_any c1 A1 n1 q1 us W (by omega) hl1 ((hA1.below hW (Nat.le_refl _)).more hW.size)
  rw [hs1] at his1
  have HI1 := Lib.hid his1
  clear his1
  unfold SetRes
  generalize stkC c0 c1 ts us = M at *
  generalize stkT ts us = vs at *
  obtain ⟨sl, hsl⟩ : ∃ n, n = vs.length := ⟨_, rfl⟩
  rw [← hsl] at hst h16
  have HST := Lib.hid hst
  have HSL := Lib.hid hsl
  clear hst hsl hA0 hA1 hs0 hs1
  have h6n : ¬ (6 : Int) < M := by omega
  have h16n : (16 : Int) < (sl : Int) := by omega
  have h16m : 16 < sl := by omega
  go_enter Try.func90, Try.ntmps90
  go_wp2_with fail
  have hx0 : Ext w (((w.alloc (Obj.cells #[.int .i64 c0, .slice A0 n0 q0] 32)).alloc (Obj.cells #[.int .i64 c1, .slice A1 n1 q1] 32)).alloc (Obj.cells #[.int .i64 0, .slice none 0 0] 32)) := (((Ext.refl w).alloc _).alloc _).alloc _
  have hb0 : Blk (((w.alloc (Obj.cells #[.int .i64 c0, .slice A0 n0 q0] 32)).alloc (Obj.cells #[.int .i64 c1, .slice A1 n1 q1] 32)).alloc (Obj.cells #[.int .i64 0, .slice none 0 0] 32)) (w.heap.size) 32 #[.int .i64 c0, .slice A0 n0 q0] := by have := ((Blk.new w 32 #[.int .i64 c0, .slice A0 n0 q0]).ext (show Ext (w.alloc (Obj.cells #[.int .i64 c0, .slice A0 n0 q0] 32)) (((w.alloc (Obj.cells #[.int .i64 c0, .slice A0 n0 q0] 32)).alloc (Obj.cells #[.int .i64 c1, .slice A1 n1 q1] 32)).alloc (Obj.cells #[.int .i64 0, .slice none 0 0] 32)) from ((Ext.refl _).alloc _).alloc _)); simpa using this
  have hb1 : Blk (((w.alloc (Obj.cells #[.int .i64 c0, .slice A0 n0 q0] 32)).alloc (Obj.cells #[.int .i64 c1, .slice A1 n1 q1] 32)).alloc (Obj.cells #[.int .i64 0, .slice none 0 0] 32)) (w.heap.size + 1) 32 #[.int .i64 c1, .slice A1 n1 q1] := by have := ((Blk.new (w.alloc (Obj.cells #[.int .i64 c0, .slice A0 n0 q0] 32)) 32 #[.int .i64 c1, .slice A1 n1 q1]).ext (show Ext ((w.alloc (Obj.cells #[.int .i64 c0, .slice A0 n0 q0] 32)).alloc (Obj.cells #[.int .i64 c1, .slice A1 n1 q1] 32)) (((w.alloc (Obj.cells #[.int .i64 c0, .slice A0 n0 q0] 32)).alloc (Obj.cells #[.int .i64 c1, .slice A1 n1 q1] 32)).alloc (Obj.cells #[.int .i64 0, .slice none 0 0] 32)) from (Ext.refl _).alloc _)); simpa using this
  have hb2 : Blk (((w.alloc (Obj.cells #[.int .i64 c0, .slice A0 n0 q0] 32)).alloc (Obj.cells #[.int .i64 c1, .slice A1 n1 q1] 32)).alloc (Obj.cells #[.int .i64 0, .slice none 0 0] 32)) (w.heap.size + 2) 32 #[.int .i64 0, .slice none 0 0] := by have := (Blk.new ((w.alloc (Obj.cells #[.int .i64 c0, .slice A0 n0 q0] 32)).alloc (Obj.cells #[.int .i64 c1, .slice A1 n1 q1] 32)) 32 #[.int .i64 0, .slice none 0 0]); simpa using this
  have K0 := Lib.hid (hx0.below (Nat.le_refl _))
  have L0 := Lib.hid (show w.heap.size + 3 ≤ (((w.alloc (Obj.cells #[.int .i64 c0, .slice A0 n0 q0] 32)).alloc (Obj.cells #[.int .i64 c1, .slice A1 n1 q1] 32)).alloc (Obj.cells #[.int .i64 0, .slice none 0 0] 32)).heap.size by simp)
  have B0_0 := Lib.hid hb0
  have B1_0 := Lib.hid hb1
  have B2_0 := Lib.hid hb2
  clear hx0 hb0 hb1 hb2
  generalize (((w.alloc (Obj.cells #[.int .i64 c0, .slice A0 n0 q0] 32)).alloc (Obj.cells #[.int .i64 c1, .slice A1 n1 q1] 32)).alloc (Obj.cells #[.int .i64 0, .slice none 0 0] 32)) = w0 at *
  refine (HI0.out _ K0.out).mono ?_
  rintro e w1 ⟨rfl, hx⟩
  have K1 := Lib.hid (K0.out.trans ((hx.below (Nat.le_refl _)).mono K0.out.size))
  have L1 := Lib.hid (Nat.le_trans L0.out (hx.below (Nat.le_refl _)).size)
  have B0_1 := Lib.hid (B0_0.out.below (hx.below (Nat.le_refl _)) B0_0.out.lt)
  have B1_1 := Lib.hid (B1_0.out.below (hx.below (Nat.le_refl _)) B1_0.out.lt)
  have B2_1 := Lib.hid (B2_0.out.below (hx.below (Nat.le_refl _)) B2_0.out.lt)
  clear K0 B0_0 B1_0 B2_0 L0 hx
  have r0_0 := B0_1.out.rd 0 rfl
  have r0_1 := B0_1.out.rd 1 rfl
  have r1_0 := B1_1.out.rd 0 rfl
  have r1_1 := B1_1.out.rd 1 rfl
  go_wp2_with fail
  refine (HI1.out _ K1.out).mono ?_
  rintro e w2 ⟨rfl, hx⟩
  clear r0_0 r0_1 r1_0 r1_1
  have K2 := Lib.hid (K1.out.trans ((hx.below (Nat.le_refl _)).mono K1.out.size))
  have L2 := Lib.hid (Nat.le_trans L1.out (hx.below (Nat.le_refl _)).size)
  have B0_2 := Lib.hid (B0_1.out.below (hx.below (Nat.le_refl _)) B0_1.out.lt)
  have B1_2 := Lib.hid (B1_1.out.below (hx.below (Nat.le_refl _)) B1_1.out.lt)
  have B2_2 := Lib.hid (B2_1.out.below (hx.below (Nat.le_refl _)) B2_1.out.lt)
  clear K1 B0_1 B1_1 B2_1 L1 hx
  have r0_0 := B0_2.out.rd 0 rfl
  have r0_1 := B0_2.out.rd 1 rfl
  have r1_0 := B1_2.out.rd 0 rfl
  have r1_1 := B1_2.out.rd 1 rfl
  have r2_0 := B2_2.out.rd 0 rfl
  have r2_1 := B2_2.out.rd 1 rfl
  have z2_0 := B2_2.out.frozen 0
  have z2_1 := B2_2.out.frozen 1
  go_wp2_with fail
  refine (HST.out _ K2.out).mono ?_
  rintro e w5 ⟨A5, cap5, rfl, hb5, htw5⟩
  have hbr := B2_2.out.below hb5 B2_2.out.lt
  have hx9 := (Ext.refl w5).alloc (Obj.cells #[.int .i64 M, .slice A5 sl cap5] 32)
  have hbx := hbr.ext hx9
  have HBF := Lib.hid ((K2.out.trans (hb5.mono K2.out.size)).trans (hx9.below (Nat.le_trans K2.out.size hb5.size)))
  have HT := Lib.hid (htw5.ext hx9)
  have hsz : w.heap.size + 3 ≤ w2.heap.size := L2.out
  have hq := Blk.new w5 32 #[.int .i64 M, .slice A5 sl cap5]
  have p0 := hq.rd 0 rfl
  have p1 := hq.rd 1 rfl
  have q0 := hbx.rd 0 rfl
  have q1 := hbx.rd 1 rfl
  have z0 := hbx.frozen 0
  have z1 := hbx.frozen 1
  clear hbr hx9 hbx hb5 htw5 hq r0_0 r0_1 r1_0 r1_1 r2_0 r2_1 z2_0 z2_1
  go_wp2_with fail
  refine bodyPost_ret (v := .tuple #[.agg #[.int .i64 0, .slice none 0 0], .int .i64 3]) (by simp [results, Try.results90, go_sem, q0, q1, z0, z1]) rfl ⟨none, 0, rfl, ?_, fun h => absurd h (Nat.lt_irrefl _)⟩
  exact (HBF.out.setCell (show w.heap.size ≤ w.heap.size + 2 by omega) _).setCell (show w.heap.size ≤ w.heap.size + 2 by omega) _
end
end Go.Proofs.Ytjoaoimebdkpaaa
