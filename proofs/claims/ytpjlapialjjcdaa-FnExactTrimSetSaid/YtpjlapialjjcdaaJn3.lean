/- Joins of sets: the program's side. -/
import Derived.Test.YtpjlapialjjcdaaJn1
import Derived.Test.YtpjlapialjjcdaaJn2
import Derived.Test.YtpjlapialjjcdaaSortF
import Derived.Deep.RegionLaw
import Derived.Lib.Hide
namespace Go.Proofs.Ytpjlapialjjcdaa
set_option linter.unusedVariables false
set_option linter.unusedSimpArgs false
open Go.RowKit Go.Sort

theorem own_below {w w' : World} {base n : Nat} {v : Value} {xs : List Value} (h : w.ownsRow base 51 4 v n xs) (hx : Below w.heap.size w w') : w'.ownsRow base 51 4 v n xs := by
  refine ⟨h.1, ?_⟩
  rcases h.2 with h0 | ⟨g, cap, cur, hv, hb, hg, r⟩
  · exact .inl h0
  · have hlt : g < w.heap.size := by
      rcases Nat.lt_or_ge g w.heap.size with hlt | hge
      · exact hlt
      · rw [Array.getElem?_eq_none hge] at hg; cases hg
    exact .inr ⟨g, cap, cur, hv, hb, (hx.block g hlt).trans hg, r⟩

set_option maxRecDepth 100000 in
set_option maxHeartbeats 4000000 in
theorem implJoinSets_0 (c0 : Int) (A0 : Option Addr) (n0 q0 : Nat) (ts : List Tl) (c1 : Int) (A1 : Option Addr) (n1 q1 : Nat) (us : List Tl) (w : World) (hn0 : n0 ≤ 1048576) (hl0 : ts.length = n0) (hA0 : TR w w.heap.size A0 ts) (hn1 : n1 ≤ 1048576) (hl1 : us.length = n1) (hA1 : TR w w.heap.size A1 us) (hs0 : isSet c0 ts = true) (hs1 : isSet c1 us = true) (hlim : ¬ 6 < c0 + c1) (hlim2 : ¬ 16 < n0 + n1) :
    Calls Try.prog 35 #[.agg #[.int .i64 c0, .slice A0 n0 q0], .agg #[.int .i64 c1, .slice A1 n1 q1]] w (SetRes w (c0 + c1) (ts ++ us.map (shT c0)) 0) := by
  have hcr0 := isSet_col hs0
  have hcr1 := isSet_col hs1
  have hwr : IntKind.i64.wrap (c0 + c1) = c0 + c1 := IntWalk.i64_in _ (by omega)
  have hw2 : IntKind.i64.wrap ((n0 : Int) + (n1 : Int)) = (n0 : Int) + (n1 : Int) := IntWalk.i64_in _ (by omega)
  have hlim3 : ¬ (16 : Int) < (n0 : Int) + (n1 : Int) := by omega
  have HASC := Lib.hid (join_asc (c := c0) (asc_of_isSet hs0) (asc_of_isSet hs1) (ok_of_isSet hs0) (ok_of_isSet hs1))
  have HOK := Lib.hid (fun k (hk : k < n1) => ok_of_isSet hs1 (us.getD k T0) (by simp [List.getD, show k < us.length by omega]))
  have his0 : ∀ W, Below w.heap.size w W → Calls Try.prog 58 #[.agg #[.int .i64 c0, .slice A0 n0 q0]] W _ := fun W hW => isSet_any c0 A0 n0 q0 ts W (by omega) hl0 ((hA0.below hW (Nat.le_refl _)).more hW.size)
  rw [hs0] at his0
  have HI0 := Lib.hid his0
  clear his0
  have his1 : ∀ W, Below w.heap.size w W → Calls Try.prog 58 #[.agg #[.int .i64 c1, .slice A1 n1 q1]] W _ := fun W hW => isSet_any c1 A1 n1 q1 us W (by omega) hl1 ((hA1.below hW (Nat.le_refl _)).more hW.size)
  rw [hs1] at his1
  have HI1 := Lib.hid his1
  clear his1
  have hcl : ∀ W, Below w.heap.size w W → Calls Try.prog 72 #[.slice A0 n0 q0] W (fun e w' => ∃ v, e = .returned v ∧ Below W.heap.size W w' ∧ (w'.ownsRow W.heap.size 51 4 v n0 (flat ts) ∧ W.heap.size ≤ w'.heap.size)) := fun W hW => (clone_any A0 n0 q0 ts W hn0 hl0 ((hA0.below hW (Nat.le_refl _)).more hW.size)).mono fun e w' ⟨v, he, ho, hb⟩ => ⟨v, he, hb, ho, hb.size⟩
  have HCL := Lib.hid hcl
  clear hcl
  have HA1 := Lib.hid hA1
  clear hA0 hA1 hs0 hs1
  unfold SetRes
  go_enter Try.func35, Try.ntmps35
  go_wp2_with fail
  have hx0 : Ext w (((w.alloc (Obj.cells #[.int .i64 c0, .slice A0 n0 q0] 31)).alloc (Obj.cells #[.int .i64 c1, .slice A1 n1 q1] 31)).alloc (Obj.cells #[.int .i64 0, .slice none 0 0] 31)) := (((Ext.refl w).alloc _).alloc _).alloc _
  have hb0 : Blk (((w.alloc (Obj.cells #[.int .i64 c0, .slice A0 n0 q0] 31)).alloc (Obj.cells #[.int .i64 c1, .slice A1 n1 q1] 31)).alloc (Obj.cells #[.int .i64 0, .slice none 0 0] 31)) (w.heap.size) 31 #[.int .i64 c0, .slice A0 n0 q0] := by have := ((Blk.new w 31 #[.int .i64 c0, .slice A0 n0 q0]).ext (show Ext (w.alloc (Obj.cells #[.int .i64 c0, .slice A0 n0 q0] 31)) (((w.alloc (Obj.cells #[.int .i64 c0, .slice A0 n0 q0] 31)).alloc (Obj.cells #[.int .i64 c1, .slice A1 n1 q1] 31)).alloc (Obj.cells #[.int .i64 0, .slice none 0 0] 31)) from ((Ext.refl _).alloc _).alloc _)); simpa using this
  have hb1 : Blk (((w.alloc (Obj.cells #[.int .i64 c0, .slice A0 n0 q0] 31)).alloc (Obj.cells #[.int .i64 c1, .slice A1 n1 q1] 31)).alloc (Obj.cells #[.int .i64 0, .slice none 0 0] 31)) (w.heap.size + 1) 31 #[.int .i64 c1, .slice A1 n1 q1] := by have := ((Blk.new (w.alloc (Obj.cells #[.int .i64 c0, .slice A0 n0 q0] 31)) 31 #[.int .i64 c1, .slice A1 n1 q1]).ext (show Ext ((w.alloc (Obj.cells #[.int .i64 c0, .slice A0 n0 q0] 31)).alloc (Obj.cells #[.int .i64 c1, .slice A1 n1 q1] 31)) (((w.alloc (Obj.cells #[.int .i64 c0, .slice A0 n0 q0] 31)).alloc (Obj.cells #[.int .i64 c1, .slice A1 n1 q1] 31)).alloc (Obj.cells #[.int .i64 0, .slice none 0 0] 31)) from (Ext.refl _).alloc _)); simpa using this
  have hb2 : Blk (((w.alloc (Obj.cells #[.int .i64 c0, .slice A0 n0 q0] 31)).alloc (Obj.cells #[.int .i64 c1, .slice A1 n1 q1] 31)).alloc (Obj.cells #[.int .i64 0, .slice none 0 0] 31)) (w.heap.size + 2) 31 #[.int .i64 0, .slice none 0 0] := by have := (Blk.new ((w.alloc (Obj.cells #[.int .i64 c0, .slice A0 n0 q0] 31)).alloc (Obj.cells #[.int .i64 c1, .slice A1 n1 q1] 31)) 31 #[.int .i64 0, .slice none 0 0]); simpa using this
  have K0 := Lib.hid (hx0.below (Nat.le_refl _))
  have L0 := Lib.hid (show w.heap.size + 3 ≤ (((w.alloc (Obj.cells #[.int .i64 c0, .slice A0 n0 q0] 31)).alloc (Obj.cells #[.int .i64 c1, .slice A1 n1 q1] 31)).alloc (Obj.cells #[.int .i64 0, .slice none 0 0] 31)).heap.size by simp)
  have B0_0 := Lib.hid hb0
  have B1_0 := Lib.hid hb1
  have B2_0 := Lib.hid hb2
  clear hx0 hb0 hb1 hb2
  generalize (((w.alloc (Obj.cells #[.int .i64 c0, .slice A0 n0 q0] 31)).alloc (Obj.cells #[.int .i64 c1, .slice A1 n1 q1] 31)).alloc (Obj.cells #[.int .i64 0, .slice none 0 0] 31)) = w0 at *
  refine (HI0.out _ K0.out).mono ?_
  rintro e w1 ⟨rfl, hx⟩
  have K1 := Lib.hid (K0.out.trans ((hx.below (Nat.le_refl _)).mono K0.out.size))
  have L1 := Lib.hid (Nat.le_trans L0.out (hx.below (Nat.le_refl _)).size)
  have B0_1 := Lib.hid (B0_0.out.below (hx.below (Nat.le_refl _)) B0_0.out.lt)
  have B1_1 := Lib.hid (B1_0.out.below (hx.below (Nat.le_refl _)) B1_0.out.lt)
  have B2_1 := Lib.hid (B2_0.out.below (hx.below (Nat.le_refl _)) B2_0.out.lt)
  clear K0 B0_0 B1_0 B2_0 L0 hx
  have r0_0 := B0_1.out.rd 0 rfl
  have r0_1 := B0_1.out.rd 1 rfl
  have r1_0 := B1_1.out.rd 0 rfl
  have r1_1 := B1_1.out.rd 1 rfl
  go_wp2_with fail
  refine (HI1.out _ K1.out).mono ?_
  rintro e w2 ⟨rfl, hx⟩
  clear r0_0 r0_1 r1_0 r1_1
  have K2 := Lib.hid (K1.out.trans ((hx.below (Nat.le_refl _)).mono K1.out.size))
  have L2 := Lib.hid (Nat.le_trans L1.out (hx.below (Nat.le_refl _)).size)
  have B0_2 := Lib.hid (B0_1.out.below (hx.below (Nat.le_refl _)) B0_1.out.lt)
  have B1_2 := Lib.hid (B1_1.out.below (hx.below (Nat.le_refl _)) B1_1.out.lt)
  have B2_2 := Lib.hid (B2_1.out.below (hx.below (Nat.le_refl _)) B2_1.out.lt)
  clear K1 B0_1 B1_1 B2_1 L1 hx
  have r0_0 := B0_2.out.rd 0 rfl
  have r0_1 := B0_2.out.rd 1 rfl
  have r1_0 := B1_2.out.rd 0 rfl
  have r1_1 := B1_2.out.rd 1 rfl
  go_wp2_with fail
  refine (HCL.out _ K2.out).mono ?_
  rintro e w3 ⟨v, rfl, hb, ho⟩
  clear r0_0 r0_1 r1_0 r1_1
  have K3 := Lib.hid (K2.out.trans (hb.mono K2.out.size))
  have L3 := Lib.hid (Nat.le_trans L2.out hb.size)
  have B0_3 := Lib.hid (B0_2.out.below hb B0_2.out.lt)
  have B1_3 := Lib.hid (B1_2.out.below hb B1_2.out.lt)
  have B2_3 := Lib.hid (B2_2.out.below hb B2_2.out.lt)
  have To_3 := Lib.hid ho
  have Mo := Lib.hid L2.out
  clear K2 B0_2 B1_2 B2_2 L2 hb ho
  have r0_0 := B0_3.out.rd 0 rfl
  have r0_1 := B0_3.out.rd 1 rfl
  have r1_0 := B1_3.out.rd 0 rfl
  have r1_1 := B1_3.out.rd 1 rfl
  have r2_0 := B2_3.out.rd 0 rfl
  have r2_1 := B2_3.out.rd 1 rfl
  have z2_0 := B2_3.out.frozen 0
  have z2_1 := B2_3.out.frozen 1
  go_wp2_with fail
  have HB0 := Lib.hid B0_3.out
  have HB1 := Lib.hid B1_3.out
  have HB2 := Lib.hid B2_3.out
  have HK := Lib.hid K3.out
  have HL := Lib.hid L3.out
  have HOW := Lib.hid To_3.out.1
  have HM3 := Lib.hid To_3.out.2
  clear r0_0 r0_1 r1_0 r1_1 r2_0 r2_1 z2_0 z2_1
  have HM2 := Lib.hid Mo.out
  go_loopw [6, 42] (fun v ii wr => ∃ k : Nat, k ≤ n1 ∧ ii = .int .i64 k ∧ wr.ownsRow w2.heap.size 51 4 v (n0 + k) (flat (ts ++ shN c0 us k)) ∧ Below w2.heap.size w3 wr) (fun _ ii _ => n1 - (intOf ii).toNat)
  case atStart => exact ⟨0, Nat.zero_le _, rfl, by simpa [shN] using HOW.out, Below.refl _ _⟩
  case round =>
    obtain ⟨k, hk, rfl, hown, hb⟩ := hrel
    have HO := Lib.hid hown
    have HBW := Lib.hid hb
    clear hown hb
    have hbw := HK.out.trans (HBW.out.mono (by have := HM2.out; omega))
    have hsz3 := HBW.out.size
    have hm2 := HM2.out
    have hm3 := HM3.out
    by_cases hlt : k < n1
    · obtain ⟨b0, o, rfl, hbb, ht⟩ := (HA1.out.below hbw (Nat.le_refl _)) (by omega)
      replace ht := ht k (by omega)
      have hsu := shN_succ c0 us (k := k) (by omega)
      have hok := HOK.out k hlt
      generalize us.getD k T0 = t at *
      have HSU := Lib.hid hsu
      have HOKT := Lib.hid hok
      obtain ⟨t0, t1, t2, t3⟩ := t
      obtain ⟨c0', c1', c2, c3⟩ := ht
      simp only at c0' c1' c2 c3
      have b3 : (k : Int) < (n1 : Int) := by omega
      clear hsu hok
      go_wp2_with fail
      obtain ⟨W4, hW4⟩ : ∃ W4, wr.alloc (Obj.cells #[.int .i64 t0, .int .i64 t1, .int .i64 t2, .int .i64 t3] 51) = W4 := ⟨_, rfl⟩
      have hb4 : Blk W4 wr.heap.size 51 (shA c0 (t0, t1, t2, t3) 0) := by rw [← hW4, shA_zero]; exact Blk.new wr _ _
      have hx4 : Ext wr W4 := by rw [← hW4]; exact (Ext.refl wr).alloc _
      have hsz4 : wr.heap.size + 1 ≤ W4.heap.size := by rw [← hW4]; simp
      rw [hW4]
      have HB4 := Lib.hid hb4
      have HX4 := Lib.hid hx4
      clear hb4 hx4 hW4 c0' c1' c2 c3
      obtain ⟨WR, hWR⟩ : ∃ WR, WR = wr := ⟨_, rfl⟩
      subst hWR
      go_loopw [46] (fun jj wr => ∃ j : Nat, j ≤ 4 ∧ jj = .int .i64 j ∧ Blk wr WR.heap.size 51 (shA c0 (t0, t1, t2, t3) j) ∧ Below WR.heap.size W4 wr) (fun jj _ => 4 - (intOf jj).toNat)
      case atStart => exact ⟨0, Nat.zero_le _, rfl, HB4.out, Below.refl _ _⟩
      case round =>
        obtain ⟨j, hj, rfl, hbj, hbl⟩ := hrel
        have HBJ := Lib.hid hbj
        have HBL := Lib.hid hbl
        clear hbj hbl
        have hall := (HX4.out.below (Nat.le_refl _)).trans HBL.out
        have hball := HBW.out.trans (hall.mono (by omega))
        have HALL := Lib.hid hall
        have HBALL := Lib.hid hball
        by_cases hj4 : j < 4
        · have q1 := HBJ.out.rd j (shA_at c0 (t0, t1, t2, t3) hj4)
          have z1 := HBJ.out.frozen j
          have r0 := (HB0.out.below hball (by omega)).rd 0 rfl
          have hx := colT_ok HOKT.out j
          have hst := HBJ.out.set_ j (.int .i64 (colT (t0, t1, t2, t3) j + c0))
          rw [shA_set c0 (t0, t1, t2, t3) hj4] at hst
          have HST := Lib.hid hst
          generalize colT (t0, t1, t2, t3) j = x at q1 hx HST
          have hwx : IntKind.i64.wrap (x + c0) = x + c0 := IntWalk.i64_in _ (by omega)
          have hj5 : (j : Int) < 4 := by omega
          clear hst hall hball
          go_wp2_with fail
          go_region
          all_goals
            clear q1 z1 r0
            go_wp2_with fail
            go_roundw
            have hbs := HBL.out.setCell (p := ⟨WR.heap.size, j, none⟩) (Nat.le_refl _) (.int .i64 (x + c0))
            case rel => first | exact ⟨j + 1, by omega, by go_num, HST.out.ext ((Ext.refl _).drew), hbs.trans (((Ext.refl _).drew).below (by have := hbs.size; omega))⟩ | ((repeat apply Exists.intro); exact ⟨⟨j + 1, by omega, by go_num, HST.out.ext ((Ext.refl _).drew), hbs.trans (((Ext.refl _).drew).below (by have := hbs.size; omega))⟩, rfl⟩)
            case measure => simp [intOf]; omega
        · obtain rfl : j = 4 := by omega
          have hb8 := HBJ.out
          rw [shA_four] at hb8
          have q0 := hb8.rd 0 rfl
          have q1 := hb8.rd 1 rfl
          have q2 := hb8.rd 2 rfl
          have q3 := hb8.rd 3 rfl
          simp only [shT] at q0 q1 q2 q3
          have hown2 : wr.ownsRow w2.heap.size 51 4 _ (n0 + k) (flat (ts ++ shN c0 us k)) := own_below HO.out hall
          have HO2 := Lib.hid hown2
          have HB9 := Lib.hid hball
          clear hb8 hown2 hall hball HBJ
          go_wp2_with (at_builtin; refine wpList_pushT rfl _ _ rfl w2.heap.size _ (n0 + k) _ rfl (HO2.out.alloc _) wr.heap.size (shT c0 (t0, t1, t2, t3)) rfl (heap_alloc_new wr _) ?c1 ?c2 ?c3 ?_)
          case c1 => unfold maxLen; omega
          case c2 => omega
          case c3 => have := HB9.out.size; simp; omega
          intro v' w5 hown' hgrow _
          rw [← flat_snoc, List.append_assoc, ← HSU.out] at hown'
          have O3 := Lib.hid hown'
          have B5 := Lib.hid ((HB9.out.alloc (by have := HB9.out.size; omega) _).grown hgrow (by have := HB9.out.size; simp; omega) (fun j hj => (HO2.out.lt j hj).1))
          clear hown' hgrow q0 q1 q2 q3
          go_wp2_with fail
          go_roundw
          case rel => first | exact ⟨k + 1, by omega, by go_num, O3.out, B5.out⟩ | ((repeat apply Exists.intro); exact ⟨⟨k + 1, by omega, by go_num, O3.out, B5.out⟩, rfl⟩)
          case measure => simp [intOf]; omega
    · obtain rfl : k = n1 := by omega
      have hown := HO.out
      have hus : shN c0 us k = us.map (shT c0) := by unfold shN; rw [List.take_of_length_le (by omega)]
      rw [hus] at hown
      have hlen : (ts ++ us.map (shT c0)).length = n0 + k := by simp; omega
      have hasc := HASC.out
      obtain ⟨A2, cap2, rfl, htw⟩ := own_tw hown hlen
      have HMD := Lib.hid (sortedSet_any (c0 + c1) (n0 + k) cap2 A2 (ts ++ us.map (shT c0)) w2.heap.size wr hlen (by omega) (by omega) hown)
      rw [sortM_eq (nodup_of_asc hasc), sortT_of_asc hasc] at HMD
      have r0 := (HB0.out.below HBW.out (by omega)).rd 0 rfl
      have r1 := (HB1.out.below HBW.out (by omega)).rd 0 rfl
      have HLEN := Lib.hid hlen
      clear htw hown HO hus hlen hasc
      go_wp2_with fail
      refine HMD.out.mono ?_
      rintro e w5 ⟨rfl, hown5, hb5⟩
      obtain ⟨A3, cap3, hv3, htw3⟩ := own_tw hown5 HLEN.out
      cases hv3
      have HT := Lib.hid htw3
      have hbr := (HB2.out.below HBW.out (by omega)).below hb5 (by omega)
      have q0 := hbr.rd 0 rfl
      have q1 := hbr.rd 1 rfl
      have z0 := hbr.frozen 0
      have z1 := hbr.frozen 1
      have HBF := Lib.hid (HK.out.trans ((HBW.out.trans hb5).mono (by omega)))
      clear hbr hown5 hb5 htw3 r0 r1 hbw
      go_wp2_with fail
      refine bodyPost_ret (v := .tuple #[.agg #[.int .i64 (c0 + c1), .slice A2 (n0 + k) cap2], .int .i64 0]) (by simp [results, Try.results35, go_sem, q0, q1, z0, z1]) rfl ⟨A2, cap2, by rw [HLEN.out], ?_, ?_⟩
      · exact (HBF.out.setCell (by simp; omega) _).setCell (by simp; omega) _
      · exact ((HT.out.far (by show _ < _; simp; omega) _).far (by show _ < _; simp; omega) _).low (by omega)

end Go.Proofs.Ytpjlapialjjcdaa
