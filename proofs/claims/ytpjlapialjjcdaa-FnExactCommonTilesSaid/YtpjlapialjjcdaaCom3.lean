/- The tiles that are in both sets: both sides. -/
import Derived.Test.YtpjlapialjjcdaaCom1
import Derived.Test.YtpjlapialjjcdaaCom2
import Derived.Test.YtpjlapialjjcdaaAppT
import Derived.Test.YtpjlapialjjcdaaHas
import Derived.Test.YtpjlapialjjcdaaSBridge
import Derived.Deep.RegionLaw
import Derived.Lib.Hide
namespace Go.Proofs.Ytpjlapialjjcdaa
set_option linter.unusedVariables false
set_option linter.unusedSimpArgs false
open Go.RowKit Go.Sort

/-- The first k tiles' ones that are in us. -/
def comN (ts us : List Tl) (k : Nat) : List Tl := (ts.take k).filter fun t => decide (t ∈ us)
theorem comN_succ (ts us : List Tl) {k : Nat} (hk : k < ts.length) : comN ts us (k + 1) = comN ts us k ++ (if decide (ts.getD k T0 ∈ us) = true then [ts.getD k T0] else []) := by
  unfold comN
  rw [take_snoc ts hk, List.filter_append]
  congr 1
  generalize ts.getD k T0 = t
  by_cases h : t ∈ us <;> simp [h]
theorem comN_le (ts us : List Tl) (k : Nat) : (comN ts us k).length ≤ ts.length := Nat.le_trans (List.length_filter_le _ _) (by rw [List.length_take]; omega)
theorem any_mem (us : List Tl) (t : Tl) : ((List.range us.length).any fun x => decide (us.getD x T0 = t)) = decide (t ∈ us) := by
  rw [Bool.eq_iff_iff, List.any_eq_true, decide_eq_true_eq]
  constructor
  · rintro ⟨x, hx, he⟩
    have hx := List.mem_range.1 hx
    rw [← of_decide_eq_true he]
    simp [List.getD, hx]
  · intro h
    obtain ⟨i, hi, e⟩ := List.getElem_of_mem h
    exact ⟨i, List.mem_range.2 hi, decide_eq_true (by simp [List.getD, hi, e])⟩

set_option maxRecDepth 100000 in
set_option maxHeartbeats 2000000 in
theorem specCommonTiles_0 (c0 : Int) (A0 : Option Addr) (n0 q0 : Nat) (ts : List Tl) (c1 : Int) (A1 : Option Addr) (n1 q1 : Nat) (us : List Tl) (w : World) (hn0 : n0 ≤ 1048576) (hl0 : ts.length = n0) (hA0 : TR w w.heap.size A0 ts) (hn1 : n1 ≤ 1048576) (hl1 : us.length = n1) (hA1 : TR w w.heap.size A1 us) (hs0 : isSet c0 ts = true) (hs1 : isSet c1 us = true) (hcc : c0 = c1) :
    Calls Try.prog 24 #[.agg #[.int .i64 c0, .slice A0 n0 q0], .agg #[.int .i64 c1, .slice A1 n1 q1]] w (fun e w' => ∃ R p, e = .returned (.tuple #[.slice R (comN ts us ts.length).length p, .int .i64 0]) ∧ Below w.heap.size w w' ∧ TW w' w.heap.size R (comN ts us ts.length)) := by
  have hle16 := isSet_len hs0
  have hle16' := isSet_len hs1
  rw [hl0] at hle16
  rw [hl1] at hle16'
  have his0 : ∀ W, Below w.heap.size w W → Calls Try.prog 56 #[.agg #[.int .i64 c0, .slice A0 n0 q0]] W _ := fun W hW => l01Is_any c0 A0 n0 q0 ts W (by omega) hl0 ((hA0.below hW (Nat.le_refl _)).more hW.size)
  rw [hs0] at his0
  have HI0 := Lib.hid his0
  clear his0
  have his1 : ∀ W, Below w.heap.size w W → Calls Try.prog 56 #[.agg #[.int .i64 c1, .slice A1 n1 q1]] W _ := fun W hW => l01Is_any c1 A1 n1 q1 us W (by omega) hl1 ((hA1.below hW (Nat.le_refl _)).more hW.size)
  rw [hs1] at his1
  have HI1 := Lib.hid his1
  clear his1
  have hcc' : (c0 != c1) = false := by simp [hcc]
  clear hcc
  have HA := Lib.hid hA0
  have hhas : ∀ a W, Below w.heap.size w W → Calls Try.prog 60 #[.agg #[.int .i64 c1, .slice A1 n1 q1], tv a] W _ := fun a W hW => l01Has_any c1 A1 n1 q1 us a W (by omega) hl1 ((hA1.below hW (Nat.le_refl _)).more hW.size)
  have HH := Lib.hid hhas
  clear hhas
  clear hA0 hA1 hs0 hs1
  go_enter Try.func24, Try.ntmps24
  go_wp2_with fail
  have hx0 : Ext w ((w.alloc (Obj.cells #[.int .i64 c0, .slice A0 n0 q0] 31)).alloc (Obj.cells #[.int .i64 c1, .slice A1 n1 q1] 31)) := ((Ext.refl w).alloc _).alloc _
  have hb0 : Blk ((w.alloc (Obj.cells #[.int .i64 c0, .slice A0 n0 q0] 31)).alloc (Obj.cells #[.int .i64 c1, .slice A1 n1 q1] 31)) (w.heap.size) 31 #[.int .i64 c0, .slice A0 n0 q0] := by have := ((Blk.new w 31 #[.int .i64 c0, .slice A0 n0 q0]).ext (show Ext (w.alloc (Obj.cells #[.int .i64 c0, .slice A0 n0 q0] 31)) ((w.alloc (Obj.cells #[.int .i64 c0, .slice A0 n0 q0] 31)).alloc (Obj.cells #[.int .i64 c1, .slice A1 n1 q1] 31)) from (Ext.refl _).alloc _)); simpa using this
  have hb1 : Blk ((w.alloc (Obj.cells #[.int .i64 c0, .slice A0 n0 q0] 31)).alloc (Obj.cells #[.int .i64 c1, .slice A1 n1 q1] 31)) (w.heap.size + 1) 31 #[.int .i64 c1, .slice A1 n1 q1] := by have := (Blk.new (w.alloc (Obj.cells #[.int .i64 c0, .slice A0 n0 q0] 31)) 31 #[.int .i64 c1, .slice A1 n1 q1]); simpa using this
  have K0 := Lib.hid (hx0.below (Nat.le_refl _))
  have L0 := Lib.hid (show w.heap.size + 2 ≤ ((w.alloc (Obj.cells #[.int .i64 c0, .slice A0 n0 q0] 31)).alloc (Obj.cells #[.int .i64 c1, .slice A1 n1 q1] 31)).heap.size by simp)
  have B0_0 := Lib.hid hb0
  have B1_0 := Lib.hid hb1
  clear hx0 hb0 hb1
  generalize ((w.alloc (Obj.cells #[.int .i64 c0, .slice A0 n0 q0] 31)).alloc (Obj.cells #[.int .i64 c1, .slice A1 n1 q1] 31)) = w0 at *
  refine (HI0.out _ K0.out).mono ?_
  rintro e w1 ⟨rfl, hx⟩
  have K1 := Lib.hid (K0.out.trans ((hx.below (Nat.le_refl _)).mono K0.out.size))
  have L1 := Lib.hid (Nat.le_trans L0.out (hx.below (Nat.le_refl _)).size)
  have B0_1 := Lib.hid (B0_0.out.below (hx.below (Nat.le_refl _)) B0_0.out.lt)
  have B1_1 := Lib.hid (B1_0.out.below (hx.below (Nat.le_refl _)) B1_0.out.lt)
  clear K0 B0_0 B1_0 L0 hx
  have r0_0 := B0_1.out.rd 0 rfl
  have r0_1 := B0_1.out.rd 1 rfl
  have r1_0 := B1_1.out.rd 0 rfl
  have r1_1 := B1_1.out.rd 1 rfl
  go_wp2_with fail
  refine (HI1.out _ K1.out).mono ?_
  rintro e w2 ⟨rfl, hx⟩
  clear r0_0 r0_1 r1_0 r1_1
  have K2 := Lib.hid (K1.out.trans ((hx.below (Nat.le_refl _)).mono K1.out.size))
  have L2 := Lib.hid (Nat.le_trans L1.out (hx.below (Nat.le_refl _)).size)
  have B0_2 := Lib.hid (B0_1.out.below (hx.below (Nat.le_refl _)) B0_1.out.lt)
  have B1_2 := Lib.hid (B1_1.out.below (hx.below (Nat.le_refl _)) B1_1.out.lt)
  clear K1 B0_1 B1_1 L1 hx
  have r0_0 := B0_2.out.rd 0 rfl
  have r0_1 := B0_2.out.rd 1 rfl
  have r1_0 := B1_2.out.rd 0 rfl
  have r1_1 := B1_2.out.rd 1 rfl
  go_wp2_with fail
  have HB0 := Lib.hid B0_2.out
  have HB1 := Lib.hid B1_2.out
  have HK := Lib.hid K2.out
  have HL := Lib.hid L2.out
  clear r0_0 r0_1 r1_0 r1_1
  go_loopw [6, 7] (fun v ii wr => ∃ k : Nat, k ≤ n0 ∧ ii = .int .i64 k ∧ wr.ownsRow w2.heap.size 51 4 v (comN ts us k).length (flat (comN ts us k)) ∧ Below w2.heap.size w2 wr) (fun _ ii _ => n0 - (intOf ii).toNat)
  case atStart => exact ⟨0, Nat.zero_le _, rfl, show _ from World.ownsRow_made (base := w2.heap.size) (e := 51) (size := 4) w2 #[] 0 (Nat.le_refl _) (by unfold maxLen; omega) rfl, (Below.refl _ _).alloc (Nat.le_refl _) _⟩
  case round =>
    obtain ⟨k, hk, rfl, hown, hb⟩ := hrel
    have HO := Lib.hid hown
    have HB2 := Lib.hid hb
    clear hown hb
    have hbw := HK.out.trans (HB2.out.mono HK.out.size)
    by_cases hlt : k < n0
    · obtain ⟨b0, o, rfl, hbb, ht⟩ := (HA.out.below hbw (Nat.le_refl _)) (by omega)
      replace ht := ht k (by omega)
      have hsu := comN_succ ts us (k := k) (by omega)
      have hle := comN_le ts us k
      have hcl := HH.out (ts.getD k T0)
      generalize ts.getD k T0 = t at *
      generalize decide (t ∈ us) = q at *
      obtain ⟨t0, t1, t2, t3⟩ := t
      obtain ⟨c0', c1', c2, c3⟩ := ht
      simp only at c0' c1' c2 c3
      have r0_1 := (HB0.out.below HB2.out HB0.out.lt).rd 1 rfl
      have r1_0 := (HB1.out.below HB2.out HB1.out.lt).rd 0 rfl
      have r1_1 := (HB1.out.below HB2.out HB1.out.lt).rd 1 rfl
      have b3 : (k : Int) < (n0 : Int) := by omega
      have HSU := Lib.hid hsu
      unfold tv at hcl
      have HCL := Lib.hid (fun W hW => hcl W hW)
      clear hsu hcl
      go_wp2_with fail
      go_region_law (go_simp; go_at_call 60; (with_reducible refine (HCL.out _ hbw.drew).mono ?_); rintro e wh ⟨rfl, hxh⟩)
      all_goals
        have hxx := (Ext.refl wr).drew.trans hxh
        have r0_1' := ((HB0.out.below HB2.out HB0.out.lt).ext hxx).rd 1 rfl
        have hbl := hxx.below (B := wr.heap.size) (Nat.le_refl _)
        replace c0' := (hbl.cell (p := ⟨b0, o + k * 4, none⟩) (show b0 < _ by have := hbw.size; omega)).trans c0'
        replace c1' := (hbl.cell (p := ⟨b0, o + k * 4 + 1, none⟩) (show b0 < _ by have := hbw.size; omega)).trans c1'
        replace c2 := (hbl.cell (p := ⟨b0, o + k * 4 + 2, none⟩) (show b0 < _ by have := hbw.size; omega)).trans c2
        replace c3 := (hbl.cell (p := ⟨b0, o + k * 4 + 3, none⟩) (show b0 < _ by have := hbw.size; omega)).trans c3
        have HO2 := Lib.hid (own_ext HO.out hxx)
        have HB3 := Lib.hid (HB2.out.trans (hxx.below HB2.out.size))
        clear hxh hxx hbl r0_1 r1_0 r1_1 hbw
        cases q with
        | true =>
          go_wp2_with (at_builtin; refine wpList_pushT rfl _ _ rfl w2.heap.size _ (comN ts us k).length _ rfl (HO2.out.alloc _) _ (t0, t1, t2, t3) rfl (heap_alloc_new _ _) ?c1 ?c2 ?c3 ?_)
          case c1 => unfold maxLen; omega
          case c2 => omega
          case c3 => have := HB3.out.size; simp at this ⊢; omega
          intro v' w3 hown' hgrow _
          have e1 : comN ts us (k + 1) = comN ts us k ++ [(t0, t1, t2, t3)] := by rw [HSU.out]; simp
          rw [← flat_snoc, ← e1, show (comN ts us k).length + 1 = (comN ts us (k + 1)).length by rw [e1]; simp] at hown'
          have O3 := Lib.hid hown'
          have B3 := Lib.hid ((HB3.out.alloc HB3.out.size _).grown hgrow (by have := HB3.out.size; simp at this ⊢; omega) (fun j hj => (HO2.out.lt j hj).1))
          have E1 := Lib.hid (show (comN ts us k).length + 1 = (comN ts us (k + 1)).length by rw [e1]; simp)
          clear hown' hgrow HO HO2 HB3 HB2 e1
          go_wp2_with fail
          go_roundw
          case rel => first | exact ⟨k + 1, by omega, by go_num, by first | exact O3.out | (rw [← E1.out]; exact O3.out), B3.out⟩ | ((repeat apply Exists.intro); exact ⟨⟨k + 1, by omega, by go_num, by first | exact O3.out | (rw [← E1.out]; exact O3.out), B3.out⟩, rfl⟩)
          case measure => simp [intOf]; omega
        | false =>
          have e1 : comN ts us (k + 1) = comN ts us k := by rw [HSU.out]; simp
          have E1 := Lib.hid e1
          clear e1
          go_wp2_with fail
          go_roundw
          case rel => first | exact ⟨k + 1, by omega, by go_num, by rw [E1.out]; exact HO2.out, HB3.out⟩ | ((repeat apply Exists.intro); exact ⟨⟨k + 1, by omega, by go_num, by rw [E1.out]; exact HO2.out, HB3.out⟩, rfl⟩)
          case measure => simp [intOf]; omega
    · obtain rfl : k = n0 := by omega
      have hown := HO.out
      obtain ⟨A2, cap2, rfl, htw⟩ := own_tw hown rfl
      have HT := Lib.hid htw
      have r0_1 := (HB0.out.below HB2.out HB0.out.lt).rd 1 rfl
      have HBW := Lib.hid hbw
      clear htw hown HO hbw
      go_wp2_with fail
      go_ret2
      exact ⟨A2, cap2, by rw [hl0]; rfl, HBW.out, by rw [hl0]; exact HT.out.low HK.out.size⟩

set_option maxRecDepth 100000 in
set_option maxHeartbeats 2000000 in
theorem implCommonTiles_0 (c0 : Int) (A0 : Option Addr) (n0 q0 : Nat) (ts : List Tl) (c1 : Int) (A1 : Option Addr) (n1 q1 : Nat) (us : List Tl) (w : World) (hn0 : n0 ≤ 1048576) (hl0 : ts.length = n0) (hA0 : TR w w.heap.size A0 ts) (hn1 : n1 ≤ 1048576) (hl1 : us.length = n1) (hA1 : TR w w.heap.size A1 us) (hs0 : isSet c0 ts = true) (hs1 : isSet c1 us = true) (hcc : c0 = c1) :
    Calls Try.prog 25 #[.agg #[.int .i64 c0, .slice A0 n0 q0], .agg #[.int .i64 c1, .slice A1 n1 q1]] w (fun e w' => ∃ R p, e = .returned (.tuple #[.slice R (comN ts us ts.length).length p, .int .i64 0]) ∧ Below w.heap.size w w' ∧ TW w' w.heap.size R (comN ts us ts.length)) := by
  have hle16 := isSet_len hs0
  have hle16' := isSet_len hs1
  rw [hl0] at hle16
  rw [hl1] at hle16'
  have his0 : ∀ W, Below w.heap.size w W → Calls Try.prog 58 #[.agg #[.int .i64 c0, .slice A0 n0 q0]] W _ := fun W hW => isSet_any c0 A0 n0 q0 ts W (by omega) hl0 ((hA0.below hW (Nat.le_refl _)).more hW.size)
  rw [hs0] at his0
  have HI0 := Lib.hid his0
  clear his0
  have his1 : ∀ W, Below w.heap.size w W → Calls Try.prog 58 #[.agg #[.int .i64 c1, .slice A1 n1 q1]] W _ := fun W hW => isSet_any c1 A1 n1 q1 us W (by omega) hl1 ((hA1.below hW (Nat.le_refl _)).more hW.size)
  rw [hs1] at his1
  have HI1 := Lib.hid his1
  clear his1
  have hcc' : (c0 != c1) = false := by simp [hcc]
  clear hcc
  have HA := Lib.hid hA0
  have hdif : ∀ W, Below w.heap.size w W → Calls Try.prog 61 #[.slice A1 n1 q1] W _ := fun W hW => differentTiles_any A1 n1 q1 us W (by omega) hl1 ((hA1.below hW (Nat.le_refl _)).more hW.size) (fun k hk => small_ok (ok_of_isSet hs1 _ (by simp [List.getD, show k < us.length by omega])) (isSet_col hs1).2)
  have HD := Lib.hid hdif
  have hsm : ∀ k, k < n0 → smallT (ts.getD k T0) := fun k hk => small_ok (ok_of_isSet hs0 _ (by simp [List.getD, show k < ts.length by omega])) (isSet_col hs0).2
  have HSM := Lib.hid hsm
  clear hdif hsm
  clear hA0 hA1 hs0 hs1
  go_enter Try.func25, Try.ntmps25
  go_wp2_with fail
  have hx0 : Ext w ((w.alloc (Obj.cells #[.int .i64 c0, .slice A0 n0 q0] 31)).alloc (Obj.cells #[.int .i64 c1, .slice A1 n1 q1] 31)) := ((Ext.refl w).alloc _).alloc _
  have hb0 : Blk ((w.alloc (Obj.cells #[.int .i64 c0, .slice A0 n0 q0] 31)).alloc (Obj.cells #[.int .i64 c1, .slice A1 n1 q1] 31)) (w.heap.size) 31 #[.int .i64 c0, .slice A0 n0 q0] := by have := ((Blk.new w 31 #[.int .i64 c0, .slice A0 n0 q0]).ext (show Ext (w.alloc (Obj.cells #[.int .i64 c0, .slice A0 n0 q0] 31)) ((w.alloc (Obj.cells #[.int .i64 c0, .slice A0 n0 q0] 31)).alloc (Obj.cells #[.int .i64 c1, .slice A1 n1 q1] 31)) from (Ext.refl _).alloc _)); simpa using this
  have hb1 : Blk ((w.alloc (Obj.cells #[.int .i64 c0, .slice A0 n0 q0] 31)).alloc (Obj.cells #[.int .i64 c1, .slice A1 n1 q1] 31)) (w.heap.size + 1) 31 #[.int .i64 c1, .slice A1 n1 q1] := by have := (Blk.new (w.alloc (Obj.cells #[.int .i64 c0, .slice A0 n0 q0] 31)) 31 #[.int .i64 c1, .slice A1 n1 q1]); simpa using this
  have K0 := Lib.hid (hx0.below (Nat.le_refl _))
  have L0 := Lib.hid (show w.heap.size + 2 ≤ ((w.alloc (Obj.cells #[.int .i64 c0, .slice A0 n0 q0] 31)).alloc (Obj.cells #[.int .i64 c1, .slice A1 n1 q1] 31)).heap.size by simp)
  have B0_0 := Lib.hid hb0
  have B1_0 := Lib.hid hb1
  clear hx0 hb0 hb1
  generalize ((w.alloc (Obj.cells #[.int .i64 c0, .slice A0 n0 q0] 31)).alloc (Obj.cells #[.int .i64 c1, .slice A1 n1 q1] 31)) = w0 at *
  refine (HI0.out _ K0.out).mono ?_
  rintro e w1 ⟨rfl, hx⟩
  have K1 := Lib.hid (K0.out.trans ((hx.below (Nat.le_refl _)).mono K0.out.size))
  have L1 := Lib.hid (Nat.le_trans L0.out (hx.below (Nat.le_refl _)).size)
  have B0_1 := Lib.hid (B0_0.out.below (hx.below (Nat.le_refl _)) B0_0.out.lt)
  have B1_1 := Lib.hid (B1_0.out.below (hx.below (Nat.le_refl _)) B1_0.out.lt)
  clear K0 B0_0 B1_0 L0 hx
  have r0_0 := B0_1.out.rd 0 rfl
  have r0_1 := B0_1.out.rd 1 rfl
  have r1_0 := B1_1.out.rd 0 rfl
  have r1_1 := B1_1.out.rd 1 rfl
  go_wp2_with fail
  refine (HI1.out _ K1.out).mono ?_
  rintro e w2 ⟨rfl, hx⟩
  clear r0_0 r0_1 r1_0 r1_1
  have K2 := Lib.hid (K1.out.trans ((hx.below (Nat.le_refl _)).mono K1.out.size))
  have L2 := Lib.hid (Nat.le_trans L1.out (hx.below (Nat.le_refl _)).size)
  have B0_2 := Lib.hid (B0_1.out.below (hx.below (Nat.le_refl _)) B0_1.out.lt)
  have B1_2 := Lib.hid (B1_1.out.below (hx.below (Nat.le_refl _)) B1_1.out.lt)
  clear K1 B0_1 B1_1 L1 hx
  have r0_0 := B0_2.out.rd 0 rfl
  have r0_1 := B0_2.out.rd 1 rfl
  have r1_0 := B1_2.out.rd 0 rfl
  have r1_1 := B1_2.out.rd 1 rfl
  go_wp2_with fail
  refine (HD.out _ K2.out).mono ?_
  rintro e w3 ⟨b, rfl, hgb, hb, hm⟩
  clear r0_0 r0_1 r1_0 r1_1
  have K3 := Lib.hid (K2.out.trans (hb.mono K2.out.size))
  have L3 := Lib.hid (Nat.le_trans L2.out hb.size)
  have B0_3 := Lib.hid (B0_2.out.below hb B0_2.out.lt)
  have B1_3 := Lib.hid (B1_2.out.below hb B1_2.out.lt)
  have Tm_3 := Lib.hid hm
  have Mm := Lib.hid L2.out
  clear K2 B0_2 B1_2 L2 hb hm
  have r0_0 := B0_3.out.rd 0 rfl
  have r0_1 := B0_3.out.rd 1 rfl
  have r1_0 := B1_3.out.rd 0 rfl
  have r1_1 := B1_3.out.rd 1 rfl
  go_wp2_with fail
  have HB0 := Lib.hid B0_3.out
  have HB1 := Lib.hid B1_3.out
  have HK := Lib.hid K3.out
  have HL := Lib.hid L3.out
  have HM := Lib.hid Tm_3.out
  clear r0_0 r0_1 r1_0 r1_1
  go_loopw [7, 29] (fun v ii wr => ∃ k : Nat, k ≤ n0 ∧ ii = .int .i64 k ∧ wr.ownsRow w3.heap.size 51 4 v (comN ts us k).length (flat (comN ts us k)) ∧ Below w3.heap.size w3 wr) (fun _ ii _ => n0 - (intOf ii).toNat)
  case atStart => exact ⟨0, Nat.zero_le _, rfl, World.ownsRow_nil _ _ _ _, Below.refl _ _⟩
  case round =>
    obtain ⟨k, hk, rfl, hown, hb⟩ := hrel
    have HO := Lib.hid hown
    have HB2 := Lib.hid hb
    clear hown hb
    have hbw := HK.out.trans (HB2.out.mono HK.out.size)
    by_cases hlt : k < n0
    · obtain ⟨b0, o, rfl, hbb, ht⟩ := (HA.out.below hbw (Nat.le_refl _)) (by omega)
      replace ht := ht k (by omega)
      have hsu := comN_succ ts us (k := k) (by omega)
      have hle := comN_le ts us k
      have hmt := HM.out.below HB2.out
      have hlk := fun (ob : Obj) => (hmt.ext ((Ext.refl _).alloc ob)).look (HSM.out k hlt)
      rw [← hl1] at hlk
      simp only [any_mem] at hlk
      generalize ts.getD k T0 = t at *
      generalize decide (t ∈ us) = q at *
      obtain ⟨t0, t1, t2, t3⟩ := t
      obtain ⟨c0', c1', c2, c3⟩ := ht
      simp only at c0' c1' c2 c3
      have r0_1 := (HB0.out.below HB2.out HB0.out.lt).rd 1 rfl
      have b3 : (k : Int) < (n0 : Int) := by omega
      have HSU := Lib.hid hsu
      unfold tv at hlk
      replace hlk := hlk (Obj.cells #[.int .i64 t0, .int .i64 t1, .int .i64 t2, .int .i64 t3] 51)
      have HO2 := Lib.hid (own_ext HO.out ((Ext.refl wr).alloc (Obj.cells #[.int .i64 t0, .int .i64 t1, .int .i64 t2, .int .i64 t3] 51)))
      have HB3 := Lib.hid (HB2.out.alloc HB2.out.size (Obj.cells #[.int .i64 t0, .int .i64 t1, .int .i64 t2, .int .i64 t3] 51))
      clear hsu hmt hbw
      cases q with
      | true =>
        go_wp2_with (at_builtin; refine wpList_pushT rfl _ _ rfl w3.heap.size _ (comN ts us k).length _ rfl (HO2.out.alloc _) (wr.heap.size + 1) (t0, t1, t2, t3) rfl (by have h9 := heap_alloc_new (wr.alloc (Obj.cells #[.int .i64 t0, .int .i64 t1, .int .i64 t2, .int .i64 t3] 51)) (Obj.cells #[.int .i64 t0, .int .i64 t1, .int .i64 t2, .int .i64 t3] 51); simpa [encA] using h9) ?c1 ?c2 ?c3 ?_)
        case c1 => unfold maxLen; omega
        case c2 => omega
        case c3 => have := HB3.out.size; simp at this ⊢; omega
        intro v' w3 hown' hgrow _
        have e1 : comN ts us (k + 1) = comN ts us k ++ [(t0, t1, t2, t3)] := by rw [HSU.out]; simp
        rw [← flat_snoc, ← e1, show (comN ts us k).length + 1 = (comN ts us (k + 1)).length by rw [e1]; simp] at hown'
        have O3 := Lib.hid hown'
        have B3 := Lib.hid ((HB3.out.alloc HB3.out.size _).grown hgrow (by have := HB3.out.size; simp at this ⊢; omega) (fun j hj => (HO2.out.lt j hj).1))
        have E1 := Lib.hid (show (comN ts us k).length + 1 = (comN ts us (k + 1)).length by rw [e1]; simp)
        clear hown' hgrow HO HO2 HB3 HB2 e1
        go_wp2_with fail
        go_roundw
        case rel => first | exact ⟨k + 1, by omega, by go_num, by first | exact O3.out | (rw [← E1.out]; exact O3.out), B3.out⟩ | ((repeat apply Exists.intro); exact ⟨⟨k + 1, by omega, by go_num, by first | exact O3.out | (rw [← E1.out]; exact O3.out), B3.out⟩, rfl⟩)
        case measure => simp [intOf]; omega
      | false =>
        have e1 : comN ts us (k + 1) = comN ts us k := by rw [HSU.out]; simp
        have E1 := Lib.hid e1
        clear e1
        go_wp2_with fail
        go_roundw
        case rel => first | exact ⟨k + 1, by omega, by go_num, by rw [E1.out]; exact HO2.out, HB3.out⟩ | ((repeat apply Exists.intro); exact ⟨⟨k + 1, by omega, by go_num, by rw [E1.out]; exact HO2.out, HB3.out⟩, rfl⟩)
        case measure => simp [intOf]; omega
    · obtain rfl : k = n0 := by omega
      have hown := HO.out
      obtain ⟨A2, cap2, rfl, htw⟩ := own_tw hown rfl
      have HT := Lib.hid htw
      have r0_1 := (HB0.out.below HB2.out HB0.out.lt).rd 1 rfl
      have HBW := Lib.hid hbw
      clear htw hown HO hbw
      go_wp2_with fail
      go_ret2
      exact ⟨A2, cap2, by rw [hl0]; rfl, HBW.out, by rw [hl0]; exact HT.out.low HK.out.size⟩

end Go.Proofs.Ytpjlapialjjcdaa
