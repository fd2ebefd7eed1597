/- Products of sets: the program's side. -/
import Derived.Test.YtpjlapialjjcdaaPr2
import Derived.Test.YtpjlapialjjcdaaJn4
import Derived.Lib.Hide
namespace Go.Proofs.Ytpjlapialjjcdaa
set_option linter.unusedVariables false
set_option linter.unusedSimpArgs false
open Go.RowKit Go.Sort

set_option maxRecDepth 100000 in
set_option maxHeartbeats 4000000 in
theorem implProductOfSets_0 (c0 : Int) (A0 : Option Addr) (n0 q0 : Nat) (ts : List Tl) (c1 : Int) (A1 : Option Addr) (n1 q1 : Nat) (us : List Tl) (w : World) (hn0 : n0 ≤ 1048576) (hl0 : ts.length = n0) (hA0 : TR w w.heap.size A0 ts) (hn1 : n1 ≤ 1048576) (hl1 : us.length = n1) (hA1 : TR w w.heap.size A1 us) (hs0 : isSet c0 ts = true) (hs1 : isSet c1 us = true) (hlim : ¬ 6 < c0 * c1) (hlim2 : ¬ 16 < n0 * n1) :
    Calls Try.prog 37 #[.agg #[.int .i64 c0, .slice A0 n0 q0], .agg #[.int .i64 c1, .slice A1 n1 q1]] w (SetRes w (c0 * c1) (sortT (prodO c1 ts us n0)) 0) := by
  have hcr0 := isSet_col hs0
  have hcr1 := isSet_col hs1
  have hmm := mul_small2 hcr0 hcr1
  have hwr : IntKind.i64.wrap (c0 * c1) = c0 * c1 := IntWalk.i64_in _ (by omega)
  have hle16 := isSet_len hs0
  have hle16' := isSet_len hs1
  rw [hl0] at hle16
  rw [hl1] at hle16'
  have hw2 : IntKind.i64.wrap ((n0 : Int) * (n1 : Int)) = (n0 : Int) * (n1 : Int) := IntWalk.i64_in _ (by rw [← Int.natCast_mul]; omega)
  have hlim3 : ¬ (16 : Int) < (n0 : Int) * (n1 : Int) := by rw [← Int.natCast_mul]; omega
  have HND := Lib.hid (prodO_nodup (d := c1) (nodup_of_asc (asc_of_isSet hs0)) (nodup_of_asc (asc_of_isSet hs1)) (ok_of_isSet hs1) (Nat.le_refl ts.length))
  have HOKA := Lib.hid (fun k (hk : k < n0) => ok_of_isSet hs0 (ts.getD k T0) (by simp [List.getD, show k < ts.length by omega]))
  have HOKB := Lib.hid (fun k (hk : k < n1) => ok_of_isSet hs1 (us.getD k T0) (by simp [List.getD, show k < us.length by omega]))
  have his0 : ∀ W, Below w.heap.size w W → Calls Try.prog 58 #[.agg #[.int .i64 c0, .slice A0 n0 q0]] W _ := fun W hW => isSet_any c0 A0 n0 q0 ts W (by omega) hl0 ((hA0.below hW (Nat.le_refl _)).more hW.size)
  rw [hs0] at his0
  have HI0 := Lib.hid his0
  clear his0
  have his1 : ∀ W, Below w.heap.size w W → Calls Try.prog 58 #[.agg #[.int .i64 c1, .slice A1 n1 q1]] W _ := fun W hW => isSet_any c1 A1 n1 q1 us W (by omega) hl1 ((hA1.below hW (Nat.le_refl _)).more hW.size)
  rw [hs1] at his1
  have HI1 := Lib.hid his1
  clear his1
  have HA0 := Lib.hid hA0
  have HA1 := Lib.hid hA1
  have HW2 := Lib.hid (And.intro hw2 hlim3)
  clear hA0 hA1 hs0 hs1
  unfold SetRes
  go_enter Try.func37, Try.ntmps37
  go_wp2_with fail
  have hx0 : Ext w (((w.alloc (Obj.cells #[.int .i64 c0, .slice A0 n0 q0] 31)).alloc (Obj.cells #[.int .i64 c1, .slice A1 n1 q1] 31)).alloc (Obj.cells #[.int .i64 0, .slice none 0 0] 31)) := (((Ext.refl w).alloc _).alloc _).alloc _
  have hb0 : Blk (((w.alloc (Obj.cells #[.int .i64 c0, .slice A0 n0 q0] 31)).alloc (Obj.cells #[.int .i64 c1, .slice A1 n1 q1] 31)).alloc (Obj.cells #[.int .i64 0, .slice none 0 0] 31)) (w.heap.size) 31 #[.int .i64 c0, .slice A0 n0 q0] := by have := ((Blk.new w 31 #[.int .i64 c0, .slice A0 n0 q0]).ext (show Ext (w.alloc (Obj.cells #[.int .i64 c0, .slice A0 n0 q0] 31)) (((w.alloc (Obj.cells #[.int .i64 c0, .slice A0 n0 q0] 31)).alloc (Obj.cells #[.int .i64 c1, .slice A1 n1 q1] 31)).alloc (Obj.cells #[.int .i64 0, .slice none 0 0] 31)) from ((Ext.refl _).alloc _).alloc _)); simpa using this
  have hb1 : Blk (((w.alloc (Obj.cells #[.int .i64 c0, .slice A0 n0 q0] 31)).alloc (Obj.cells #[.int .i64 c1, .slice A1 n1 q1] 31)).alloc (Obj.cells #[.int .i64 0, .slice none 0 0] 31)) (w.heap.size + 1) 31 #[.int .i64 c1, .slice A1 n1 q1] := by have := ((Blk.new (w.alloc (Obj.cells #[.int .i64 c0, .slice A0 n0 q0] 31)) 31 #[.int .i64 c1, .slice A1 n1 q1]).ext (show Ext ((w.alloc (Obj.cells #[.int .i64 c0, .slice A0 n0 q0] 31)).alloc (Obj.cells #[.int .i64 c1, .slice A1 n1 q1] 31)) (((w.alloc (Obj.cells #[.int .i64 c0, .slice A0 n0 q0] 31)).alloc (Obj.cells #[.int .i64 c1, .slice A1 n1 q1] 31)).alloc (Obj.cells #[.int .i64 0, .slice none 0 0] 31)) from (Ext.refl _).alloc _)); simpa using this
  have hb2 : Blk (((w.alloc (Obj.cells #[.int .i64 c0, .slice A0 n0 q0] 31)).alloc (Obj.cells #[.int .i64 c1, .slice A1 n1 q1] 31)).alloc (Obj.cells #[.int .i64 0, .slice none 0 0] 31)) (w.heap.size + 2) 31 #[.int .i64 0, .slice none 0 0] := by have := (Blk.new ((w.alloc (Obj.cells #[.int .i64 c0, .slice A0 n0 q0] 31)).alloc (Obj.cells #[.int .i64 c1, .slice A1 n1 q1] 31)) 31 #[.int .i64 0, .slice none 0 0]); simpa using this
  have K0 := Lib.hid (hx0.below (Nat.le_refl _))
  have L0 := Lib.hid (show w.heap.size + 3 ≤ (((w.alloc (Obj.cells #[.int .i64 c0, .slice A0 n0 q0] 31)).alloc (Obj.cells #[.int .i64 c1, .slice A1 n1 q1] 31)).alloc (Obj.cells #[.int .i64 0, .slice none 0 0] 31)).heap.size by simp)
  have B0_0 := Lib.hid hb0
  have B1_0 := Lib.hid hb1
  have B2_0 := Lib.hid hb2
  clear hx0 hb0 hb1 hb2
  generalize (((w.alloc (Obj.cells #[.int .i64 c0, .slice A0 n0 q0] 31)).alloc (Obj.cells #[.int .i64 c1, .slice A1 n1 q1] 31)).alloc (Obj.cells #[.int .i64 0, .slice none 0 0] 31)) = w0 at *
  refine (HI0.out _ K0.out).mono ?_
  rintro e w1 ⟨rfl, hx⟩
  have K1 := Lib.hid (K0.out.trans ((hx.below (Nat.le_refl _)).mono K0.out.size))
  have L1 := Lib.hid (Nat.le_trans L0.out (hx.below (Nat.le_refl _)).size)
  have B0_1 := Lib.hid (B0_0.out.below (hx.below (Nat.le_refl _)) B0_0.out.lt)
  have B1_1 := Lib.hid (B1_0.out.below (hx.below (Nat.le_refl _)) B1_0.out.lt)
  have B2_1 := Lib.hid (B2_0.out.below (hx.below (Nat.le_refl _)) B2_0.out.lt)
  clear K0 B0_0 B1_0 B2_0 L0 hx
  have r0_0 := B0_1.out.rd 0 rfl
  have r0_1 := B0_1.out.rd 1 rfl
  have r1_0 := B1_1.out.rd 0 rfl
  have r1_1 := B1_1.out.rd 1 rfl
  go_wp2_with fail
  refine (HI1.out _ K1.out).mono ?_
  rintro e w2 ⟨rfl, hx⟩
  clear r0_0 r0_1 r1_0 r1_1
  have K2 := Lib.hid (K1.out.trans ((hx.below (Nat.le_refl _)).mono K1.out.size))
  have L2 := Lib.hid (Nat.le_trans L1.out (hx.below (Nat.le_refl _)).size)
  have B0_2 := Lib.hid (B0_1.out.below (hx.below (Nat.le_refl _)) B0_1.out.lt)
  have B1_2 := Lib.hid (B1_1.out.below (hx.below (Nat.le_refl _)) B1_1.out.lt)
  have B2_2 := Lib.hid (B2_1.out.below (hx.below (Nat.le_refl _)) B2_1.out.lt)
  clear K1 B0_1 B1_1 B2_1 L1 hx
  have r0_0 := B0_2.out.rd 0 rfl
  have r0_1 := B0_2.out.rd 1 rfl
  have r1_0 := B1_2.out.rd 0 rfl
  have r1_1 := B1_2.out.rd 1 rfl
  have r2_0 := B2_2.out.rd 0 rfl
  have r2_1 := B2_2.out.rd 1 rfl
  have z2_0 := B2_2.out.frozen 0
  have z2_1 := B2_2.out.frozen 1
  go_wp2_with fail
  have HB0 := Lib.hid B0_2.out
  have HB1 := Lib.hid B1_2.out
  have HB2 := Lib.hid B2_2.out
  have HK := Lib.hid K2.out
  have HL := Lib.hid L2.out
  have hL2 := HL.out
  clear r0_0 r0_1 r1_0 r1_1 r2_0 r2_1 z2_0 z2_1
  clear hw2 hlim3
  go_loopw [6, 40] (fun v ii wr => ∃ i : Nat, i ≤ n0 ∧ ii = .int .i64 i ∧ wr.ownsRow w2.heap.size 51 4 v (prodO c1 ts us i).length (flat (prodO c1 ts us i)) ∧ Below w2.heap.size w2 wr) (fun _ ii _ => n0 - (intOf ii).toNat)
  case atStart => exact ⟨0, Nat.zero_le _, rfl, by simpa [prodO, flat] using World.ownsRow_nil _ _ _ _, Below.refl _ _⟩
  case round =>
    obtain ⟨i, hi, rfl, hown, hb⟩ := hrel
    have HO := Lib.hid hown
    have HBW := Lib.hid hb
    have hszw := hb.size
    clear hown hb
    have hbw := HK.out.trans (HBW.out.mono HK.out.size)
    have r1 := (HB1.out.below HBW.out (by omega)).rd 1 rfl
    by_cases hlt : i < n0
    · obtain ⟨b0, o, rfl, hbb, ht⟩ := (HA0.out.below hbw (Nat.le_refl _)) (by omega)
      replace ht := ht i (by omega)
      have hsu := prodO_succ c1 ts us (i := i) (by omega)
      have hok := HOKA.out i hlt
      have hpl := prodO_len c1 ts us (i := i) (by omega)
      have hpb : i * us.length ≤ 16 * 16 := Nat.mul_le_mul (by omega) (by omega)
      generalize ts.getD i T0 = a at *
      have HSU := Lib.hid hsu
      have HOA := Lib.hid hok
      obtain ⟨a0, a1, a2, a3⟩ := a
      obtain ⟨c0', c1', c2, c3⟩ := ht
      simp only at c0' c1' c2 c3
      have b3 : (i : Int) < (n0 : Int) := by omega
      clear hsu hok
      rw [← hpl] at hpb
      generalize hP : prodO c1 ts us i = ps at *
      have HP := Lib.hid hP
      clear hP hpl
      have q1 := fun ob => ((HB1.out.below HBW.out (by omega)).ext ((Ext.refl wr).alloc ob)).rd 1 rfl
      go_wp2_with fail
      obtain ⟨W4, hW4⟩ : ∃ W4, wr.alloc (Obj.cells #[.int .i64 a0, .int .i64 a1, .int .i64 a2, .int .i64 a3] 51) = W4 := ⟨_, rfl⟩
      have hb4 : Blk W4 wr.heap.size 51 (encA (a0, a1, a2, a3)) := by rw [← hW4]; exact Blk.new wr _ _
      have hx4 : Ext wr W4 := by rw [← hW4]; exact (Ext.refl wr).alloc _
      have hsz4 : wr.heap.size + 1 ≤ W4.heap.size := by rw [← hW4]; simp
      rw [hW4]
      have HB4 := Lib.hid hb4
      have HX4 := Lib.hid hx4
      clear hb4 hx4 hW4 c0' c1' c2 c3 q1 r1
      obtain ⟨WR, hWR⟩ : ∃ WR, WR = wr := ⟨_, rfl⟩
      subst hWR
      go_loopw [6, 47] (fun v kk wr => ∃ k : Nat, k ≤ n1 ∧ kk = .int .i64 k ∧ wr.ownsRow w2.heap.size 51 4 v (ps.length + k) (flat (ps ++ prodI c1 us (a0, a1, a2, a3) k)) ∧ Blk wr WR.heap.size 51 (encA (a0, a1, a2, a3)) ∧ v.ownBlock ≠ some WR.heap.size ∧ Below w2.heap.size W4 wr) (fun _ kk _ => n1 - (intOf kk).toNat)
      case atStart => exact ⟨0, Nat.zero_le _, rfl, by simpa [prodI] using own_ext HO.out HX4.out, HB4.out, fun e9 => Nat.lt_irrefl _ (HO.out.lt _ e9).2, Below.refl _ _⟩
      case round =>
        obtain ⟨k, hk, rfl, hown, hbk, hne, hb⟩ := hrel
        have HO2 := Lib.hid hown
        have HBK := Lib.hid hbk
        have HNE := Lib.hid hne
        have HB5 := Lib.hid hb
        have hglt := hbk.lt
        have hb6 := HBW.out.trans ((HX4.out.below (B := w2.heap.size) (by omega)).trans hb)
        have HB6 := Lib.hid hb6
        have hsz6 := hb6.size
        have hszb := hb.size
        have hbw6 := HK.out.trans (hb6.mono HK.out.size)
        by_cases hltk : k < n1
        · obtain ⟨b0', o', rfl, hbb', ht⟩ := (HA1.out.below hbw6 (Nat.le_refl _)) (by omega)
          replace ht := ht k (by omega)
          have hsu := prodI_succ c1 us (a0, a1, a2, a3) (k := k) (by omega)
          have hok := HOKB.out k hltk
          generalize us.getD k T0 = b at *
          have HSU2 := Lib.hid hsu
          have HOB := Lib.hid hok
          obtain ⟨x0, x1, x2, x3⟩ := b
          obtain ⟨c0', c1', c2, c3⟩ := ht
          simp only at c0' c1' c2 c3
          have b4 : (k : Int) < (n1 : Int) := by omega
          have y0 := (hbk.ext ((Ext.refl wr).alloc (Obj.cells #[.int .i64 x0, .int .i64 x1, .int .i64 x2, .int .i64 x3] 51))).rd 0 (v := .int .i64 a0) rfl
          have y1 := (hbk.ext ((Ext.refl wr).alloc (Obj.cells #[.int .i64 x0, .int .i64 x1, .int .i64 x2, .int .i64 x3] 51))).rd 1 (v := .int .i64 a1) rfl
          have y2 := (hbk.ext ((Ext.refl wr).alloc (Obj.cells #[.int .i64 x0, .int .i64 x1, .int .i64 x2, .int .i64 x3] 51))).rd 2 (v := .int .i64 a2) rfl
          have y3 := (hbk.ext ((Ext.refl wr).alloc (Obj.cells #[.int .i64 x0, .int .i64 x1, .int .i64 x2, .int .i64 x3] 51))).rd 3 (v := .int .i64 a3) rfl
          have r0 := ((HB1.out.below hb6 (by omega)).ext ((Ext.refl wr).alloc (Obj.cells #[.int .i64 x0, .int .i64 x1, .int .i64 x2, .int .i64 x3] 51))).rd 0 rfl
          have hpt := fun W => pairedTile_any (a0, a1, a2, a3) (x0, x1, x2, x3) c0 c1 W HOA.out hok (by omega) hcr1
          generalize hpp : pairT c1 (a0, a1, a2, a3) (x0, x1, x2, x3) = pp at hpt HSU2
          obtain ⟨p0, p1, p2, p3⟩ := pp
          simp only [tv] at hpt
          have HPT := Lib.hid hpt
          clear hsu hok hown hbk hne hb hb6 hbw6 hpt hpp
          go_wp2_with fail
          refine (HPT.out _).mono ?_
          rintro e w5 ⟨rfl, hb7⟩
          have hx7 := (Ext.refl wr).alloc (Obj.cells #[.int .i64 x0, .int .i64 x1, .int .i64 x2, .int .i64 x3] 51)
          have hall := (hx7.below (B := wr.heap.size) (Nat.le_refl _)).trans (hb7.mono (by simp))
          have HO3 := Lib.hid (own_below HO2.out hall)
          have HBK3 := Lib.hid (HBK.out.below hall hglt)
          have HB8 := Lib.hid (HB5.out.trans (hall.mono (by omega)))
          have hsz8 := hall.size
          clear hx7 hall hb7 y0 y1 y2 y3 r0 c0' c1' c2 c3
          go_wp2_with (at_builtin; refine wpList_pushT rfl _ _ rfl w2.heap.size _ (ps.length + k) _ rfl (HO3.out.alloc _) w5.heap.size (p0, p1, p2, p3) rfl (heap_alloc_new w5 _) ?c1 ?c2 ?c3 ?_)
          case c1 => unfold maxLen; omega
          case c2 => omega
          case c3 => simp; omega
          intro v' w6 hown' hgrow hat
          rw [← flat_snoc, List.append_assoc, ← HSU2.out] at hown'
          have HBG := Lib.hid (blk_grown (HBK3.out.ext ((Ext.refl w5).alloc (Obj.cells (encA (p0, p1, p2, p3)) 51))) hgrow HNE.out)
          have hne' : v'.ownBlock ≠ some WR.heap.size := by
            rcases hat with h | h
            · rw [h]; exact HNE.out
            · rw [h]; intro e9; simp at e9; omega
          have O4 := Lib.hid (And.intro hown' hne')
          have B9 := Lib.hid ((HB8.out.alloc (by omega) (Obj.cells (encA (p0, p1, p2, p3)) 51)).grown hgrow (by simp; omega) (fun j hj => (HO3.out.lt j hj).1))
          clear hown' hgrow hat hne'
          go_wp2_with fail
          go_roundw
          case rel => first | exact ⟨k + 1, by omega, by go_num, O4.out.1, HBG.out, O4.out.2, B9.out⟩ | ((repeat apply Exists.intro); exact ⟨⟨k + 1, by omega, by go_num, O4.out.1, HBG.out, O4.out.2, B9.out⟩, rfl⟩)
          case measure => simp [intOf]; omega
        · obtain rfl : k = n1 := by omega
          have HUS := Lib.hid (show ps ++ prodI c1 us (a0, a1, a2, a3) k = prodO c1 ts us (i + 1) by rw [HSU.out, ← hl1, prodI_all])
          have O5 := hown
          rw [HUS.out, show ps.length + k = (prodO c1 ts us (i + 1)).length by rw [HSU.out]; simp; omega] at O5
          have HO5 := Lib.hid O5
          have HLE := Lib.hid (show ps.length + k = (prodO c1 ts us (i + 1)).length by rw [HSU.out]; simp; omega)
          clear hown hbk hne hb hb6 hbw6 O5
          go_wp2_with fail
          go_roundw
          case rel => first | exact ⟨i + 1, by omega, by go_num, by first | exact HO5.out | (rw [← HLE.out] at HO5; exact HO5.out), HB6.out⟩ | ((repeat apply Exists.intro); exact ⟨⟨i + 1, by omega, by go_num, by first | exact HO5.out | (rw [← HLE.out] at HO5; exact HO5.out), HB6.out⟩, rfl⟩)
          case measure => simp [intOf]; omega
    · obtain rfl : i = n0 := by omega
      have hnd := HND.out
      rw [hl0] at hnd
      have hln := prodO_len c1 ts us (i := i) (by omega)
      have hlb : (prodO c1 ts us i).length ≤ 16 * 16 := by rw [hln]; exact Nat.mul_le_mul (by omega) (by omega)
      have hown := HO.out
      obtain ⟨A2, cap2, hv2, htw⟩ := own_tw hown rfl
      subst hv2
      have HMD := Lib.hid (sortedSet_any (c0 * c1) (prodO c1 ts us i).length cap2 A2 (prodO c1 ts us i) w2.heap.size wr rfl (by omega) (by omega) hown)
      rw [sortM_eq hnd] at HMD
      have HLN := Lib.hid (show (sortT (prodO c1 ts us i)).length = (prodO c1 ts us i).length by rw [← sortM_eq hnd, sortM_len])
      have r0 := (HB0.out.below HBW.out (by omega)).rd 0 rfl
      have r2 := (HB1.out.below HBW.out (by omega)).rd 0 rfl
      have HR := Lib.hid hbw
      clear htw hown HO hnd hln hlb hbw
      go_wp2_with fail
      refine HMD.out.mono ?_
      rintro e w5 ⟨rfl, hown5, hb5⟩
      rw [← HLN.out] at hown5
      obtain ⟨A3, cap3, hv3, htw3⟩ := own_tw hown5 rfl
      rw [HLN.out] at hv3
      cases hv3
      have HT := Lib.hid htw3
      have hbr := (HB2.out.below HBW.out (by omega)).below hb5 (by omega)
      have q0 := hbr.rd 0 rfl
      have q1 := hbr.rd 1 rfl
      have z0 := hbr.frozen 0
      have z1 := hbr.frozen 1
      have HBF := Lib.hid (HK.out.trans ((HBW.out.trans hb5).mono (by omega)))
      clear hbr hown5 hb5 htw3 r0 r1 r2
      go_wp2_with fail
      refine bodyPost_ret (v := .tuple #[.agg #[.int .i64 (c0 * c1), .slice A2 (prodO c1 ts us i).length cap2], .int .i64 0]) (by simp [results, Try.results37, go_sem, q0, q1, z0, z1]) rfl ⟨A2, cap2, by rw [HLN.out], ?_, ?_⟩
      · exact (HBF.out.setCell (by simp; omega) _).setCell (by simp; omega) _
      · exact ((HT.out.far (by show _ < _; simp; omega) _).far (by show _ < _; simp; omega) _).low (by omega)

end Go.Proofs.Ytpjlapialjjcdaa
