/- Products of sets: the model's side. -/
import Derived.Test.YtpjlapialjjcdaaPr3
import Derived.Test.YtpjlapialjjcdaaKept1
import Derived.Test.YtpjlapialjjcdaaTold
import Derived.Test.YtpjlapialjjcdaaMChanged
import Derived.BigRegion
import Derived.Lib.Hide
namespace Go.Proofs.Ytpjlapialjjcdaa
set_option linter.unusedVariables false
set_option linter.unusedSimpArgs false
open Go.RowKit Go.Sort

set_option maxRecDepth 100000 in
set_option maxHeartbeats 4000000 in
theorem l01Product_any (c0 : Int) (A0 : Option Addr) (n0 q0 : Nat) (ts : List Tl) (c1 : Int) (A1 : Option Addr) (n1 q1 : Nat) (us : List Tl) (w : World) (hn0 : n0 ≤ 1048576) (hl0 : ts.length = n0) (hA0 : TR w w.heap.size A0 ts) (hn1 : n1 ≤ 1048576) (hl1 : us.length = n1) (hA1 : TR w w.heap.size A1 us) (hc0 : 1 ≤ c0 ∧ c0 ≤ 6) (hc1 : 1 ≤ c1 ∧ c1 ≤ 6) (hok0 : ∀ k, k < n0 → tileOk c0 (ts.getD k T0) = true) (hok1 : ∀ k, k < n1 → tileOk c1 (us.getD k T0) = true) (h16 : n0 ≤ 16) (h16' : n1 ≤ 16) :
    Calls Try.prog 73 #[.agg #[.int .i64 c0, .slice A0 n0 q0], .agg #[.int .i64 c1, .slice A1 n1 q1]] w (SetOnly w (c0 * c1) (sortT (prodO c1 ts us n0))) := by
  have hmm := mul_small2 hc0 hc1
  have hwr : IntKind.i64.wrap (c0 * c1) = c0 * c1 := IntWalk.i64_in _ (by omega)
  have HA0 := Lib.hid hA0
  have HA1 := Lib.hid hA1
  have HOKA := Lib.hid hok0
  have HOKB := Lib.hid hok1
  clear hA0 hA1 hok0 hok1
  unfold SetOnly
  go_enter Try.func73, Try.ntmps73
  go_wp2_with fail
  obtain ⟨W1, hW1⟩ : ∃ W1, ((w.alloc (Obj.cells #[.int .i64 c0, .slice A0 n0 q0] 31)).alloc (Obj.cells #[.int .i64 c1, .slice A1 n1 q1] 31)).alloc (Obj.cells #[.int .i64 0, .slice none 0 0] 31) = W1 := ⟨_, rfl⟩
  have hs1e : W1.heap.size = w.heap.size + 1 + 1 + 1 := by rw [← hW1]; simp
  have HS1E := Lib.hid hs1e
  have hs1 : w.heap.size + 3 ≤ W1.heap.size := by omega
  clear hs1e
  have hE : Ext w W1 := by rw [← hW1]; exact (((Ext.refl w).alloc _).alloc _).alloc _
  have b0' : Blk W1 w.heap.size 31 #[.int .i64 c0, .slice A0 n0 q0] := by rw [← hW1]; exact ((Blk.new w _ _).ext ((Ext.refl _).alloc _)).ext ((Ext.refl _).alloc _)
  have b1' : Blk W1 (w.heap.size + 1) 31 #[.int .i64 c1, .slice A1 n1 q1] := by rw [← hW1]; have := (Blk.new (w.alloc (Obj.cells #[.int .i64 c0, .slice A0 n0 q0] 31)) 31 #[.int .i64 c1, .slice A1 n1 q1]).ext ((Ext.refl _).alloc (Obj.cells #[.int .i64 0, .slice none 0 0] 31)); simpa using this
  have b2' : Blk W1 (w.heap.size + 2) 31 #[.int .i64 0, .slice none 0 0] := by rw [← hW1]; have := Blk.new ((w.alloc (Obj.cells #[.int .i64 c0, .slice A0 n0 q0] 31)).alloc (Obj.cells #[.int .i64 c1, .slice A1 n1 q1] 31)) 31 #[.int .i64 0, .slice none 0 0]; simpa using this
  rw [hW1]
  have HB0 := Lib.hid b0'
  have HB1 := Lib.hid b1'
  have HB2 := Lib.hid b2'
  have HK := Lib.hid (hE.below (B := w.heap.size) (Nat.le_refl _))
  clear b0' b1' b2' hE hW1
  go_loopw [5, 6] (fun v ii wr => ∃ i : Nat, i ≤ n0 ∧ ii = .int .i64 i ∧ wr.ownsRow W1.heap.size 51 4 v (prodO c1 ts us i).length (flat (prodO c1 ts us i)) ∧ Below W1.heap.size W1 wr) (fun _ ii _ => n0 - (intOf ii).toNat)
  case atStart => exact ⟨0, Nat.zero_le _, rfl, by have := World.ownsRow_made (base := W1.heap.size) (e := 51) (size := 4) W1 #[] 0 (Nat.le_refl _) (by unfold maxLen; omega) rfl; have e9 : (⟨W1.heap.size, 0, none⟩ : Addr) = ⟨w.heap.size + 1 + 1 + 1, 0, none⟩ := (by rw [HS1E.out]); rw [e9] at this; simpa [prodO, flat] using this, (Below.refl _ _).alloc (Nat.le_refl _) _⟩
  case round =>
    obtain ⟨i, hi, rfl, hown, hb⟩ := hrel
    have HO := Lib.hid hown
    have HBW := Lib.hid hb
    have hszw := hb.size
    clear hown hb
    have r0 := (HB0.out.below HBW.out (by omega)).rd 1 rfl
    by_cases hlt : i < n0
    · have hsu := prodO_succ c1 ts us (i := i) (by omega)
      have hpl := prodO_len c1 ts us (i := i) (by omega)
      have hpb : i * us.length ≤ 16 * 16 := Nat.mul_le_mul (by omega) (by omega)
      have HOA := Lib.hid (HOKA.out i hlt)
      rw [← hpl] at hpb
      have HSU := Lib.hid hsu
      have b3 : (i : Int) < (n0 : Int) := by omega
      clear hsu hpl
      generalize prodO c1 ts us i = ps at *
      obtain ⟨a, hga⟩ : ∃ a, ts.getD i T0 = a := ⟨_, rfl⟩
      rw [hga] at HOA HSU
      have HGA := Lib.hid hga
      clear hga
      obtain ⟨WR, hWR⟩ : ∃ WR, WR = wr := ⟨_, rfl⟩
      subst hWR
      go_wp2_with fail
      clear r0
      go_loopw [5, 7] (fun v kk wr => ∃ k : Nat, k ≤ n1 ∧ kk = .int .i64 k ∧ wr.ownsRow W1.heap.size 51 4 v (ps.length + k) (flat (ps ++ prodI c1 us a k)) ∧ Below W1.heap.size W1 wr) (fun _ kk _ => n1 - (intOf kk).toNat)
      case atStart => exact ⟨0, Nat.zero_le _, rfl, by simpa [prodI] using HO.out, HBW.out⟩
      case round =>
        obtain ⟨k, hk, rfl, hown, hb⟩ := hrel
        have HO2 := Lib.hid hown
        have HB6 := Lib.hid hb
        have hsz6 := hb.size
        clear hown hb
        have r1 := (HB1.out.below HB6.out (by omega)).rd 1 rfl
        by_cases hltk : k < n1
        · have hsu := prodI_succ c1 us a (k := k) (by omega)
          have hob := HOKB.out k hltk
          obtain ⟨b, hgb⟩ : ∃ b, us.getD k T0 = b := ⟨_, rfl⟩
          rw [hgb] at hsu hob
          have HGB := Lib.hid hgb
          have HSU2 := Lib.hid hsu
          have HOB := Lib.hid hob
          clear hsu hob hgb
          have b4 : (k : Int) < (n1 : Int) := by omega
          go_wp2_with fail
          obtain ⟨W4, hW4⟩ : ∃ W4, wr.alloc (Obj.cells #[.int .i64 0, .int .i64 0, .int .i64 0, .int .i64 0] 51) = W4 := ⟨_, rfl⟩
          have hb4 : Blk W4 wr.heap.size 51 (prA c1 a b 0) := by rw [← hW4, prA_zero]; exact Blk.new wr _ _
          have hx4 : Ext wr W4 := by rw [← hW4]; exact (Ext.refl wr).alloc _
          have hsz4 : wr.heap.size + 1 ≤ W4.heap.size := by rw [← hW4]; simp
          rw [hW4]
          have HB4 := Lib.hid hb4
          have HX4 := Lib.hid hx4
          clear hb4 hx4 hW4 r1
          obtain ⟨WS, hWS⟩ : ∃ WS, WS = wr := ⟨_, rfl⟩
          subst hWS
          go_loopw [9] (fun jj wr => ∃ j : Nat, j ≤ 4 ∧ jj = .int .i64 j ∧ Blk wr WS.heap.size 51 (prA c1 a b j) ∧ Below WS.heap.size W4 wr) (fun jj _ => 4 - (intOf jj).toNat)
          case atStart => exact ⟨0, Nat.zero_le _, rfl, HB4.out, Below.refl _ _⟩
          case round =>
            obtain ⟨j, hj, rfl, hbj, hbl⟩ := hrel
            have HBJ := Lib.hid hbj
            have HBL := Lib.hid hbl
            clear hbj hbl
            have hall := (HX4.out.below (B := WS.heap.size) (Nat.le_refl _)).trans HBL.out
            have hball := HB6.out.trans (hall.mono (by omega))
            have HALL := Lib.hid hall
            have HBALL := Lib.hid hball
            have hbw := HK.out.trans (hball.mono HK.out.size)
            by_cases hj4 : j < 4
            · obtain ⟨bA, oA, rfl, hbA, htA⟩ := (HA0.out.below hbw (Nat.le_refl _)) (by omega)
              obtain ⟨bB, oB, rfl, hbB, htB⟩ := (HA1.out.below hbw (Nat.le_refl _)) (by omega)
              have q1 := (htA i (by omega)).at hj4
              rw [HGA.out] at q1
              have q2 := (htB k (by omega)).at hj4
              rw [HGB.out] at q2
              have q3 := HBJ.out.rd j (prA_at c1 a b hj4)
              have z3 := HBJ.out.frozen j
              have s0 := (HB0.out.below hball (by omega)).rd 1 rfl
              have s1 := (HB1.out.below hball (by omega)).rd 0 rfl
              have s2 := (HB1.out.below hball (by omega)).rd 1 rfl
              have hx := colT_ok HOA.out j
              have hy := colT_ok HOB.out j
              have hst := HBJ.out.set_ j (.int .i64 (colT a j * c1 + colT b j))
              rw [prA_set c1 a b hj4] at hst
              have HST := Lib.hid hst
              generalize colT a j = x at q1 hx HST
              generalize colT b j = y at q2 hy HST
              have hm := mul_small (x := x) (d := c1) (by omega) hc1
              have hw1 : IntKind.i64.wrap (x * c1) = x * c1 := IntWalk.i64_in _ (by omega)
              have hw2 : IntKind.i64.wrap (x * c1 + y) = x * c1 + y := IntWalk.i64_in _ (by omega)
              have hj5 : (j : Int) < 4 := by omega
              have HPR := Lib.hid (And.intro hwr (And.intro hbA hbB))
              clear hst hall hball hbw htA htB hwr hmm hbA hbB
              go_wp2_with fail
              go_region
              all_goals
                clear q1 q2 q3 z3 s0 s1 s2
                go_wp2_with fail
                go_roundw
                have hbs := HBL.out.setCell (p := ⟨WS.heap.size, j, none⟩) (Nat.le_refl _) (.int .i64 (x * c1 + y))
                case rel => first | exact ⟨j + 1, by omega, by go_num, HST.out.ext ((Ext.refl _).drew), hbs.trans (((Ext.refl _).drew).below (by have := hbs.size; omega))⟩ | ((repeat apply Exists.intro); exact ⟨⟨j + 1, by omega, by go_num, HST.out.ext ((Ext.refl _).drew), hbs.trans (((Ext.refl _).drew).below (by have := hbs.size; omega))⟩, rfl⟩)
                case measure => simp [intOf]; omega
            · obtain rfl : j = 4 := by omega
              have hb8 := HBJ.out
              rw [prA_four] at hb8
              generalize pairT c1 a b = pp at hb8 HSU2
              obtain ⟨p0, p1, p2, p3⟩ := pp
              have y0 := hb8.rd 0 (v := .int .i64 p0) rfl
              have y1 := hb8.rd 1 (v := .int .i64 p1) rfl
              have y2 := hb8.rd 2 (v := .int .i64 p2) rfl
              have y3 := hb8.rd 3 (v := .int .i64 p3) rfl
              have HO3 := Lib.hid (own_below HO2.out hall)
              have HB9 := Lib.hid hball
              have hsz9 := hball.size
              clear hb8 hall hball hbw HBJ
              go_wp2_with (at_builtin; refine wpList_pushT rfl _ _ rfl W1.heap.size _ (ps.length + k) _ rfl (HO3.out.alloc _) wr.heap.size (p0, p1, p2, p3) rfl (heap_alloc_new wr _) ?c1 ?c2 ?c3 ?_)
              case c1 => unfold maxLen; omega
              case c2 => omega
              case c3 => simp; omega
              intro v' w6 hown' hgrow hat
              rw [← flat_snoc, List.append_assoc, ← HSU2.out] at hown'
              have O4 := Lib.hid hown'
              have B9 := Lib.hid ((HB9.out.alloc (by omega) (Obj.cells (encA (p0, p1, p2, p3)) 51)).grown hgrow (by simp; omega) (fun j hj => (HO3.out.lt j hj).1))
              clear hown' hgrow hat y0 y1 y2 y3
              go_wp2_with fail
              go_roundw
              case rel => first | exact ⟨k + 1, by omega, by go_num, O4.out, B9.out⟩ | ((repeat apply Exists.intro); exact ⟨⟨k + 1, by omega, by go_num, O4.out, B9.out⟩, rfl⟩)
              case measure => simp [intOf]; omega
        · obtain rfl : k = n1 := by omega
          have HUS := Lib.hid (show ps ++ prodI c1 us a k = prodO c1 ts us (i + 1) by rw [HSU.out, ← hl1, prodI_all])
          have O5 := HO2.out
          rw [HUS.out, show ps.length + k = (prodO c1 ts us (i + 1)).length by rw [HSU.out]; simp; omega] at O5
          have HO5 := Lib.hid O5
          have HLE := Lib.hid (show ps.length + k = (prodO c1 ts us (i + 1)).length by rw [HSU.out]; simp; omega)
          clear O5
          go_wp2_with fail
          go_roundw
          case rel => first | exact ⟨i + 1, by omega, by go_num, by first | exact HO5.out | (rw [← HLE.out] at HO5; exact HO5.out), HB6.out⟩ | ((repeat apply Exists.intro); exact ⟨⟨i + 1, by omega, by go_num, by first | exact HO5.out | (rw [← HLE.out] at HO5; exact HO5.out), HB6.out⟩, rfl⟩)
          case measure => simp [intOf]; omega
    · obtain rfl : i = n0 := by omega
      have hln := prodO_len c1 ts us (i := i) (by omega)
      have hlb : (prodO c1 ts us i).length ≤ 16 * 16 := by rw [hln]; exact Nat.mul_le_mul (by omega) (by omega)
      have hown := HO.out
      obtain ⟨A2, cap2, hv2, htw⟩ := own_tw hown rfl
      subst hv2
      have HMD := Lib.hid (l01Made_any (c0 * c1) A2 (prodO c1 ts us i).length cap2 (prodO c1 ts us i) wr (by omega) rfl htw.tr)
      have s0 := (HB0.out.below HBW.out (by omega)).rd 0 rfl
      have s1 := (HB1.out.below HBW.out (by omega)).rd 0 rfl
      clear htw hown HO hln hlb
      go_wp2_with fail
      refine HMD.out.mono ?_
      rintro e w5 ⟨A3, cap3, rfl, hb5, htw3⟩
      have HT := Lib.hid htw3
      have hbr := (HB2.out.below HBW.out (by omega)).below hb5 (by omega)
      have q0' := hbr.rd 0 rfl
      have q1' := hbr.rd 1 rfl
      have z0 := hbr.frozen 0
      have z1 := hbr.frozen 1
      have HBF := Lib.hid (HK.out.trans ((HBW.out.mono HK.out.size).trans (hb5.mono (by omega))))
      clear hbr hb5 htw3 s0 s1 r0
      go_wp2_with fail
      refine bodyPost_ret (v := .agg #[.int .i64 (c0 * c1), .slice A3 (sortT (prodO c1 ts us i)).length cap3]) (by simp [results, Try.results73, go_sem, q0', q1', z0, z1]) rfl ⟨A3, cap3, rfl, ?_, ?_⟩
      · exact (HBF.out.setCell (by simp; omega) _).setCell (by simp; omega) _
      · exact ((HT.out.far (by show _ < _; simp; omega) _).far (by show _ < _; simp; omega) _).low (by omega)

set_option maxRecDepth 100000 in
set_option maxHeartbeats 4000000 in
theorem specProductOfSets_0 (c0 : Int) (A0 : Option Addr) (n0 q0 : Nat) (ts : List Tl) (c1 : Int) (A1 : Option Addr) (n1 q1 : Nat) (us : List Tl) (w : World) (hn0 : n0 ≤ 1048576) (hl0 : ts.length = n0) (hA0 : TR w w.heap.size A0 ts) (hn1 : n1 ≤ 1048576) (hl1 : us.length = n1) (hA1 : TR w w.heap.size A1 us) (hs0 : isSet c0 ts = true) (hs1 : isSet c1 us = true) :
    Calls Try.prog 36 #[.agg #[.int .i64 c0, .slice A0 n0 q0], .agg #[.int .i64 c1, .slice A1 n1 q1]] w (if c0 * c1 ≤ 6 ∧ (sortT (prodO c1 ts us n0)).length ≤ 16 then SetRes w (c0 * c1) (sortT (prodO c1 ts us n0)) 0 else SetRes w 0 [] 3) := by
  have hcr0 := isSet_col hs0
  have hcr1 := isSet_col hs1
  have hle16 := isSet_len hs0
  have hle16' := isSet_len hs1
  rw [hl0] at hle16
  rw [hl1] at hle16'
  have his0 : ∀ W, Below w.heap.size w W → Calls Try.prog 56 #[.agg #[.int .i64 c0, .slice A0 n0 q0]] W _ := fun W hW => l01Is_any c0 A0 n0 q0 ts W (by omega) hl0 ((hA0.below hW (Nat.le_refl _)).more hW.size)
  rw [hs0] at his0
  have HI0 := Lib.hid his0
  clear his0
  have his1 : ∀ W, Below w.heap.size w W → Calls Try.prog 56 #[.agg #[.int .i64 c1, .slice A1 n1 q1]] W _ := fun W hW => l01Is_any c1 A1 n1 q1 us W (by omega) hl1 ((hA1.below hW (Nat.le_refl _)).more hW.size)
  rw [hs1] at his1
  have HI1 := Lib.hid his1
  clear his1
  have hpr : ∀ W, Below w.heap.size w W → Calls Try.prog 73 #[.agg #[.int .i64 c0, .slice A0 n0 q0], .agg #[.int .i64 c1, .slice A1 n1 q1]] W (SetOnly W (c0 * c1) (sortT (prodO c1 ts us n0))) := fun W hW => l01Product_any c0 A0 n0 q0 ts c1 A1 n1 q1 us W hn0 hl0 ((hA0.below hW (Nat.le_refl _)).more hW.size) hn1 hl1 ((hA1.below hW (Nat.le_refl _)).more hW.size) hcr0 hcr1 (fun k hk => ok_of_isSet hs0 _ (by simp [List.getD, show k < ts.length by omega])) (fun k hk => ok_of_isSet hs1 _ (by simp [List.getD, show k < us.length by omega])) hle16 hle16'
  unfold SetOnly at hpr
  have HPR := Lib.hid hpr
  have hbig : (sortT (prodO c1 ts us n0)).length ≤ 16 * 16 := Nat.le_trans (sortT_len _) (by rw [prodO_len c1 ts us (by omega)]; exact Nat.mul_le_mul (by omega) (by omega))
  clear hpr hA0 hA1 hs0 hs1
  generalize sortT (prodO c1 ts us n0) = vs at HPR hbig ⊢
  have HTD := Lib.hid (fun A cap W => l01Told_any (c0 * c1) A vs.length cap W (by omega))
  go_enter Try.func36, Try.ntmps36
  go_wp2_with fail
  have hx0 : Ext w (((w.alloc (Obj.cells #[.int .i64 c0, .slice A0 n0 q0] 31)).alloc (Obj.cells #[.int .i64 c1, .slice A1 n1 q1] 31)).alloc (Obj.cells #[.int .i64 0, .slice none 0 0] 31)) := (((Ext.refl w).alloc _).alloc _).alloc _
  have hb0 : Blk (((w.alloc (Obj.cells #[.int .i64 c0, .slice A0 n0 q0] 31)).alloc (Obj.cells #[.int .i64 c1, .slice A1 n1 q1] 31)).alloc (Obj.cells #[.int .i64 0, .slice none 0 0] 31)) (w.heap.size) 31 #[.int .i64 c0, .slice A0 n0 q0] := by have := ((Blk.new w 31 #[.int .i64 c0, .slice A0 n0 q0]).ext (show Ext (w.alloc (Obj.cells #[.int .i64 c0, .slice A0 n0 q0] 31)) (((w.alloc (Obj.cells #[.int .i64 c0, .slice A0 n0 q0] 31)).alloc (Obj.cells #[.int .i64 c1, .slice A1 n1 q1] 31)).alloc (Obj.cells #[.int .i64 0, .slice none 0 0] 31)) from ((Ext.refl _).alloc _).alloc _)); simpa using this
  have hb1 : Blk (((w.alloc (Obj.cells #[.int .i64 c0, .slice A0 n0 q0] 31)).alloc (Obj.cells #[.int .i64 c1, .slice A1 n1 q1] 31)).alloc (Obj.cells #[.int .i64 0, .slice none 0 0] 31)) (w.heap.size + 1) 31 #[.int .i64 c1, .slice A1 n1 q1] := by have := ((Blk.new (w.alloc (Obj.cells #[.int .i64 c0, .slice A0 n0 q0] 31)) 31 #[.int .i64 c1, .slice A1 n1 q1]).ext (show Ext ((w.alloc (Obj.cells #[.int .i64 c0, .slice A0 n0 q0] 31)).alloc (Obj.cells #[.int .i64 c1, .slice A1 n1 q1] 31)) (((w.alloc (Obj.cells #[.int .i64 c0, .slice A0 n0 q0] 31)).alloc (Obj.cells #[.int .i64 c1, .slice A1 n1 q1] 31)).alloc (Obj.cells #[.int .i64 0, .slice none 0 0] 31)) from (Ext.refl _).alloc _)); simpa using this
  have hb2 : Blk (((w.alloc (Obj.cells #[.int .i64 c0, .slice A0 n0 q0] 31)).alloc (Obj.cells #[.int .i64 c1, .slice A1 n1 q1] 31)).alloc (Obj.cells #[.int .i64 0, .slice none 0 0] 31)) (w.heap.size + 2) 31 #[.int .i64 0, .slice none 0 0] := by have := (Blk.new ((w.alloc (Obj.cells #[.int .i64 c0, .slice A0 n0 q0] 31)).alloc (Obj.cells #[.int .i64 c1, .slice A1 n1 q1] 31)) 31 #[.int .i64 0, .slice none 0 0]); simpa using this
  have K0 := Lib.hid (hx0.below (Nat.le_refl _))
  have L0 := Lib.hid (show w.heap.size + 3 ≤ (((w.alloc (Obj.cells #[.int .i64 c0, .slice A0 n0 q0] 31)).alloc (Obj.cells #[.int .i64 c1, .slice A1 n1 q1] 31)).alloc (Obj.cells #[.int .i64 0, .slice none 0 0] 31)).heap.size by simp)
  have B0_0 := Lib.hid hb0
  have B1_0 := Lib.hid hb1
  have B2_0 := Lib.hid hb2
  clear hx0 hb0 hb1 hb2
  generalize (((w.alloc (Obj.cells #[.int .i64 c0, .slice A0 n0 q0] 31)).alloc (Obj.cells #[.int .i64 c1, .slice A1 n1 q1] 31)).alloc (Obj.cells #[.int .i64 0, .slice none 0 0] 31)) = w0 at *
  refine (HI0.out _ K0.out).mono ?_
  rintro e w1 ⟨rfl, hx⟩
  have K1 := Lib.hid (K0.out.trans ((hx.below (Nat.le_refl _)).mono K0.out.size))
  have L1 := Lib.hid (Nat.le_trans L0.out (hx.below (Nat.le_refl _)).size)
  have B0_1 := Lib.hid (B0_0.out.below (hx.below (Nat.le_refl _)) B0_0.out.lt)
  have B1_1 := Lib.hid (B1_0.out.below (hx.below (Nat.le_refl _)) B1_0.out.lt)
  have B2_1 := Lib.hid (B2_0.out.below (hx.below (Nat.le_refl _)) B2_0.out.lt)
  clear K0 B0_0 B1_0 B2_0 L0 hx
  have r0_0 := B0_1.out.rd 0 rfl
  have r0_1 := B0_1.out.rd 1 rfl
  have r1_0 := B1_1.out.rd 0 rfl
  have r1_1 := B1_1.out.rd 1 rfl
  have r2_0 := B2_1.out.rd 0 rfl
  have r2_1 := B2_1.out.rd 1 rfl
  go_wp2_with fail
  refine (HI1.out _ K1.out).mono ?_
  rintro e w2 ⟨rfl, hx⟩
  clear r0_0 r0_1 r1_0 r1_1 r2_0 r2_1
  have K2 := Lib.hid (K1.out.trans ((hx.below (Nat.le_refl _)).mono K1.out.size))
  have L2 := Lib.hid (Nat.le_trans L1.out (hx.below (Nat.le_refl _)).size)
  have B0_2 := Lib.hid (B0_1.out.below (hx.below (Nat.le_refl _)) B0_1.out.lt)
  have B1_2 := Lib.hid (B1_1.out.below (hx.below (Nat.le_refl _)) B1_1.out.lt)
  have B2_2 := Lib.hid (B2_1.out.below (hx.below (Nat.le_refl _)) B2_1.out.lt)
  clear K1 B0_1 B1_1 B2_1 L1 hx
  have r0_0 := B0_2.out.rd 0 rfl
  have r0_1 := B0_2.out.rd 1 rfl
  have r1_0 := B1_2.out.rd 0 rfl
  have r1_1 := B1_2.out.rd 1 rfl
  have r2_0 := B2_2.out.rd 0 rfl
  have r2_1 := B2_2.out.rd 1 rfl
  go_wp2_with fail
  refine (HPR.out _ K2.out).mono ?_
  rintro e w3 ⟨A', cap, rfl, hb, hw⟩
  clear r0_0 r0_1 r1_0 r1_1 r2_0 r2_1
  have K3 := Lib.hid (K2.out.trans (hb.mono K2.out.size))
  have L3 := Lib.hid (Nat.le_trans L2.out hb.size)
  have B0_3 := Lib.hid (B0_2.out.below hb B0_2.out.lt)
  have B1_3 := Lib.hid (B1_2.out.below hb B1_2.out.lt)
  have B2_3 := Lib.hid (B2_2.out.below hb B2_2.out.lt)
  have Tw_3 := Lib.hid hw
  have Mw := Lib.hid L2.out
  clear K2 B0_2 B1_2 B2_2 L2 hb hw
  have r0_0 := B0_3.out.rd 0 rfl
  have r0_1 := B0_3.out.rd 1 rfl
  have r1_0 := B1_3.out.rd 0 rfl
  have r1_1 := B1_3.out.rd 1 rfl
  have r2_0 := B2_3.out.rd 0 rfl
  have r2_1 := B2_3.out.rd 1 rfl
  go_wp2_with fail
  have HB2 := Lib.hid B2_3.out
  have HK := Lib.hid K3.out
  have HM := Mw.out
  have HT := Lib.hid Tw_3.out
  clear r0_0 r0_1 r1_0 r1_1 r2_0 r2_1
  refine (HTD.out _ _ _).mono ?_
  rintro e w5 ⟨rfl, hx5⟩
  have HX5 := Lib.hid hx5
  have hbr := HB2.out.ext hx5
  clear hx5
  by_cases hlim : c0 * c1 ≤ 6 ∧ vs.length ≤ 16
  · rw [if_pos hlim]
    have hbq := hbr.ext ((Ext.refl _).alloc (Obj.cells #[.int .i64 (c0 * c1), .slice A' vs.length cap] 31))
    have q0' := hbq.rd 0 rfl
    have q1' := hbq.rd 1 rfl
    have z0 := hbq.frozen 0
    have z1 := hbq.frozen 1
    clear hbq hbr
    have HLIM := Lib.hid hlim
    clear hlim
    go_wp2_with fail
    refine bodyPost_ret (v := .tuple #[.agg #[.int .i64 (c0 * c1), .slice A' vs.length cap], .int .i64 0]) (by simp [results, Try.results36, go_sem, q0', q1', z0, z1]) rfl ?_
    try rw [if_pos HLIM.out]
    unfold SetRes
    have hxx := HX5.out.alloc (Obj.cells #[.int .i64 (c0 * c1), .slice A' vs.length cap] 31)
    have hb9 := HK.out.trans (hxx.below HK.out.size)
    refine ⟨A', cap, rfl, ?_, ?_⟩
    · exact (hb9.setCell (by simp; omega) _).setCell (by simp; omega) _
    · exact (((HT.out.ext hxx).far (by show _ < _; simp; omega) _).far (by show _ < _; simp; omega) _).low (by omega)
  · rw [if_neg hlim]
    have hbq := hbr.ext ((Ext.refl _).alloc (Obj.cells #[.int .i64 0, .slice none 0 0] 31))
    have q0' := hbq.rd 0 rfl
    have q1' := hbq.rd 1 rfl
    have z0 := hbq.frozen 0
    have z1 := hbq.frozen 1
    clear hbq hbr
    have HLIM := Lib.hid hlim
    clear hlim
    go_wp2_with fail
    refine bodyPost_ret (v := .tuple #[.agg #[.int .i64 0, .slice none 0 0], .int .i64 3]) (by simp [results, Try.results36, go_sem, q0', q1', z0, z1]) rfl ?_
    try rw [if_neg HLIM.out]
    unfold SetRes
    have hxx := HX5.out.alloc (Obj.cells #[.int .i64 0, .slice none 0 0] 31)
    have hb9 := HK.out.trans (hxx.below HK.out.size)
    refine ⟨none, 0, rfl, ?_, fun h => absurd h (Nat.lt_irrefl _)⟩
    exact (hb9.setCell (by simp; omega) _).setCell (by simp; omega) _

end Go.Proofs.Ytpjlapialjjcdaa
