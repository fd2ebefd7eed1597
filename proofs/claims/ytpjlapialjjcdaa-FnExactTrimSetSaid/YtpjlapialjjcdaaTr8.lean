/- Trimmed sets: the model's side. -/
import Derived.Test.YtpjlapialjjcdaaTr7
import Derived.Deep.RegionHeld3
import Derived.Lib.Hide
namespace Go.Proofs.Ytpjlapialjjcdaa
set_option linter.unusedVariables false
set_option linter.unusedSimpArgs false
open Go.RowKit Go.Sort

set_option maxRecDepth 100000 in
set_option maxHeartbeats 8000000 in
theorem specTrimSet_0 (c0 : Int) (A0 : Option Addr) (n0 q0 : Nat) (ts : List Tl) (w : World) (hn0 : n0 ≤ 1048576) (hl0 : ts.length = n0) (hA0 : TR w w.heap.size A0 ts) (hs : isSet c0 ts = true) :
    Calls Try.prog 43 #[.agg #[.int .i64 c0, .slice A0 n0 q0]] w (SetRes w c0 (trimT ts) 0) := by
  obtain ⟨i0, hi, hz0, hz1, hz2⟩ := info_parts info_tile
  have HI := Lib.hid (And.intro hi (And.intro hz0 (And.intro hz1 hz2)))
  clear hi hz0 hz1 hz2
  have h16 := isSet_len hs
  have HASC := Lib.hid (asc_of_isSet hs)
  have his : ∀ W, Below w.heap.size w W → Calls Try.prog 56 #[.agg #[.int .i64 c0, .slice A0 n0 q0]] W _ := fun W hW => l01Is_any c0 A0 n0 q0 ts W (by omega) hl0 ((hA0.below hW (Nat.le_refl _)).more hW.size)
  rw [hs] at his
  have HIS := Lib.hid his
  have HA := Lib.hid hA0
  have HL := Lib.hid hl0
  have hn16 : n0 ≤ 16 := by omega
  unfold SetRes
  clear his hA0 hs
  go_enter Try.func43, Try.ntmps43
  go_wp2_with fail
  obtain ⟨W, hW⟩ : ∃ W, (w.alloc (Obj.cells #[.int .i64 c0, .slice A0 n0 q0] 31)).alloc (Obj.cells #[.int .i64 0, .slice none 0 0] 31) = W := ⟨_, rfl⟩
  have hx0 : Ext w W := by rw [← hW]; exact ((Ext.refl w).alloc _).alloc _
  have hle0 : w.heap.size + 2 ≤ W.heap.size := by rw [← hW]; simp
  have hb0 : Blk W w.heap.size 31 #[.int .i64 c0, .slice A0 n0 q0] := by rw [← hW]; exact (Blk.new w _ _).ext ((Ext.refl _).alloc _)
  have hbz : Blk W (w.heap.size + 1) 31 #[.int .i64 0, .slice none 0 0] := by
    rw [← hW]
    have := Blk.new (w.alloc (Obj.cells #[.int .i64 c0, .slice A0 n0 q0] 31)) 31 #[.int .i64 0, .slice none 0 0]
    simpa using this
  rw [hW]
  clear hW
  refine (HIS.out _ (hx0.below (Nat.le_refl _))).mono ?_
  rintro e W1 ⟨rfl, hx1⟩
  have HB0 := Lib.hid (hb0.ext hx1)
  have HBZ := Lib.hid (hbz.ext hx1)
  have HX := Lib.hid (hx0.trans hx1)
  have hle1 : w.heap.size + 2 ≤ W1.heap.size := Nat.le_trans hle0 (hx1.below (Nat.le_refl _)).size
  have r0 := HB0.out.rd 0 rfl
  have r1 := HB0.out.rd 1 rfl
  have q0' := (HB0.out.ext ((Ext.refl _).alloc (Obj.cells #[] 51))).rd 0 rfl
  have q1' := (HB0.out.ext ((Ext.refl _).alloc (Obj.cells #[] 51))).rd 1 rfl
  have HRD := Lib.hid (reads_of_tr ((HA.out.ext (hx0.trans hx1) (Nat.le_refl _)).more ((hx0.trans hx1).below (Nat.le_refl _)).size) HL.out)
  clear hx0 hx1 hb0 hbz hle0
  go_wp2_with (at_builtin; refine wpList_append_any _ rfl _ _ 29 rfl W1.heap.size 51 i0 _ 4 32 Try.underlying29 HI.out.1 HI.out.2.1 HI.out.2.2.1 HI.out.2.2.2 rfl (by decide) (.slice (some ⟨W1.heap.size, 0, none⟩) 0 0) 0 [] rfl (World.ownsRow_made (base := W1.heap.size) (e := 51) (size := 4) W1 #[] 0 (Nat.le_refl _) (by unfold maxLen; omega) rfl) W1.heap.size A0 n0 q0 (flat ts) rfl (reads_ext HRD.out ((Ext.refl _).alloc _) (Nat.le_refl _)) (flat_one ts) (by unfold maxLen; omega) (by omega) (by simp) ?_)
  intro v2 W2 hown2 hgrow2 hat2
  (try simp only [Nat.zero_add, List.nil_append] at hown2)
  have hb2 := ((Below.refl W1.heap.size W1).alloc (Nat.le_refl _) (Obj.cells #[] 51)).grown hgrow2 (by simp) (by intro k hk; simp [Value.ownBlock] at hk; omega)
  have HO2 := Lib.hid hown2
  have HB2 := Lib.hid hb2
  clear hown2 hgrow2 hat2 hb2 r0 r1 q0' q1'
  go_wp2_with fail
  go_loopw [4] (fun v wr => ∃ cur : List Tl, wr.ownsRow W1.heap.size 51 4 v cur.length (flat cur) ∧ holdsAll ts cur ∧ Below W1.heap.size W2 wr) (fun v _ => lenV v)
  case atStart => exact ⟨ts, by rw [HL.out]; exact HO2.out, holdsAll.start ts, Below.refl _ _⟩
  case round =>
    obtain ⟨cur, hown, hh, hb⟩ := hrel
    obtain ⟨WO, hWO⟩ : ∃ WO, WO = wr := ⟨_, rfl⟩
    subst hWO
    obtain ⟨A, cap, rfl, htw⟩ := own_tw hown rfl
    have HO := Lib.hid hown
    have HH := Lib.hid hh
    have HB := Lib.hid (HB2.out.trans hb)
    have HBO2 := Lib.hid hb
    have hszo := (HB2.out.trans hb).size
    have HTR := Lib.hid htw.tr
    have hc16 : cur.length ≤ 16 := Nat.le_trans hh.1.length_le h16
    clear hown hh hb htw
    obtain ⟨n, hnl⟩ : ∃ n, n = cur.length := ⟨_, rfl⟩
    have HN := Lib.hid hnl
    rw [← hnl] at hc16
    rw [← hnl]
    clear hnl
    go_wp2_with fail
    go_loopw [5, 6] (fun v ii wr => ∃ i : Nat, i ≤ n ∧ ii = .int .i64 i ∧ wr.ownsRow WO.heap.size 51 4 v (fltN cur i).length (flat (fltN cur i)) ∧ Below WO.heap.size WO wr) (fun _ ii _ => n - (intOf ii).toNat)
    case atStart => exact ⟨0, Nat.zero_le _, rfl, by simpa [fltN, flat] using World.ownsRow_made (base := WO.heap.size) (e := 51) (size := 4) WO #[] 0 (Nat.le_refl _) (by unfold maxLen; omega) rfl, (Below.refl _ _).alloc (Nat.le_refl _) _⟩
    case round =>
      obtain ⟨i, hi, rfl, hown, hb⟩ := hrel
      obtain ⟨WI, hWI⟩ : ∃ WI, WI = wr := ⟨_, rfl⟩
      subst hWI
      have HOI := Lib.hid hown
      have HBI := Lib.hid hb
      have hszi := hb.size
      clear hown hb
      by_cases hlt : i < n
      · have hi3 : (i : Int) < (n : Int) := by omega
        obtain ⟨x, hx⟩ : ∃ x, x = cur.getD i T0 := ⟨_, rfl⟩
        have HXI := Lib.hid hx
        clear hx
        go_wp2_with fail
        obtain ⟨WM, hWM⟩ : ∃ WM, WI.alloc (Obj.cells #[.bool false, .bool false, .bool false, .bool false] 4) = WM := ⟨_, rfl⟩
        have hxm : Ext WI WM := by rw [← hWM]; exact (Ext.refl WI).alloc _
        have hbm : Blk WM WI.heap.size 4 (bl (nbAny cur x 0)) := by rw [nbAny_nil, ← hWM]; exact Blk.new WI _ _
        have hszm : WI.heap.size + 1 ≤ WM.heap.size := by rw [← hWM]; simp
        rw [hWM]
        have HXM := Lib.hid hxm
        have HBM := Lib.hid hbm
        clear hWM hxm hbm
        go_loopw [8] (fun kk wr => ∃ k : Nat, k ≤ n ∧ kk = .int .i64 k ∧ Blk wr WI.heap.size 4 (bl (nbAny cur x k)) ∧ Below WI.heap.size WM wr) (fun kk _ => n - (intOf kk).toNat)
        case atStart => exact ⟨0, Nat.zero_le _, rfl, HBM.out, Below.refl _ _⟩
        case round =>
          obtain ⟨k, hk, rfl, hbk, hb⟩ := hrel
          obtain ⟨WK, hWK⟩ : ∃ WK, WK = wr := ⟨_, rfl⟩
          subst hWK
          have HBK := Lib.hid hbk
          have HBB := Lib.hid hb
          have hszk := hb.size
          clear hbk hb
          by_cases hltk : k < n
          · have hk3 : (k : Int) < (n : Int) := by omega
            go_wp2_with fail
            go_loopw [9] (fun ss wr => ∃ s : Nat, s ≤ 4 ∧ ss = .int .i64 s ∧ Blk wr WI.heap.size 4 (bl (mb cur x k s)) ∧ Below WI.heap.size WM wr) (fun ss _ => 4 - (intOf ss).toNat)
            case atStart => exact ⟨0, Nat.zero_le _, rfl, by rw [mb_zero]; exact HBK.out, HBB.out⟩
            case round =>
              obtain ⟨s, hs, rfl, hbs, hb⟩ := hrel
              have HBS := Lib.hid hbs
              have HBL := Lib.hid hb
              have hszs := hb.size
              have hbo := HBI.out.trans (((HXM.out.below (Nat.le_refl _)).trans hb).mono hszi)
              obtain ⟨WS, hWS⟩ : ∃ WS, WS = wr := ⟨_, rfl⟩
              subst hWS
              by_cases hlts : s < 4
              · obtain ⟨b, o, rfl, hbb, ht⟩ := (HTR.out.below hbo (Nat.le_refl _)) (by have := HN.out; omega)
                have ti := colT_cell (ht i (by have := HN.out; omega)) s hlts
                have tk := colT_cell (ht k (by have := HN.out; omega)) ((s + 2) % 4) (by omega)
                rw [← HXI.out] at ti
                have hyes := mb_yes (cur := cur) (x := x) (k := k) hlts
                have hno := mb_no (cur := cur) (x := x) (k := k) (s := s)
                unfold nbT at hyes hno
                generalize colT x s = xs at ti hyes hno
                generalize colT (cur.getD k T0) ((s + 2) % 4) = ys at tk hyes hno
                have HY := Lib.hid (And.intro hyes hno)
                have HBO := Lib.hid hbo
                clear hyes hno hbs hb hbo ht
                have cS := fun q => (HBS.out.ext ((Ext.refl WS).drewN q)).rd s (bl_at (mb cur x k s) hlts)
                have fS := fun q => (HBS.out.ext ((Ext.refl WS).drewN q)).frozen s
                generalize mb cur x k s s = bs at cS
                have hs3 : (s : Int) < 4 := by omega
                by_cases hxy : ys = xs
                · have HXY := Lib.hid hxy
                  subst hxy
                  rcases (show s = 0 ∨ s = 1 ∨ s = 2 ∨ s = 3 by omega) with e | e | e | e
                  · subst e
                    simp only [Nat.add_zero, Nat.reduceAdd, Nat.reduceMod] at ti tk
                    go_wp2_with fail
                    go_quiet (fail)
                    clear ti tk
                    go_wp2_with fail
                    go_roundw
                    case rel =>
                      refine ⟨1, by omega, by go_num, ?_, ?_⟩
                      · rw [← HY.out.1 (by simp)]
                        exact (HBS.out.ext ((Ext.refl WS).drewN _)).set_ _ _
                      · exact (HBL.out.trans (((Ext.refl WS).drewN _).below (by omega))).setCell (p := ⟨WI.heap.size, _, none⟩) (Nat.le_refl _) _
                    case measure => simp [intOf]; try omega
                  · subst e
                    simp only [Nat.add_zero, Nat.reduceAdd, Nat.reduceMod] at ti tk
                    go_wp2_with fail
                    go_quiet (fail)
                    clear ti tk
                    go_wp2_with fail
                    go_roundw
                    case rel =>
                      refine ⟨2, by omega, by go_num, ?_, ?_⟩
                      · rw [← HY.out.1 (by simp)]
                        exact (HBS.out.ext ((Ext.refl WS).drewN _)).set_ _ _
                      · exact (HBL.out.trans (((Ext.refl WS).drewN _).below (by omega))).setCell (p := ⟨WI.heap.size, _, none⟩) (Nat.le_refl _) _
                    case measure => simp [intOf]; try omega
                  · subst e
                    simp only [Nat.add_zero, Nat.reduceAdd, Nat.reduceMod] at ti tk
                    go_wp2_with fail
                    go_quiet (fail)
                    clear ti tk
                    go_wp2_with fail
                    go_roundw
                    case rel =>
                      refine ⟨3, by omega, by go_num, ?_, ?_⟩
                      · rw [← HY.out.1 (by simp)]
                        exact (HBS.out.ext ((Ext.refl WS).drewN _)).set_ _ _
                      · exact (HBL.out.trans (((Ext.refl WS).drewN _).below (by omega))).setCell (p := ⟨WI.heap.size, _, none⟩) (Nat.le_refl _) _
                    case measure => simp [intOf]; try omega
                  · subst e
                    simp only [Nat.add_zero, Nat.reduceAdd, Nat.reduceMod] at ti tk
                    go_wp2_with fail
                    go_quiet (fail)
                    clear ti tk
                    go_wp2_with fail
                    go_roundw
                    case rel =>
                      refine ⟨4, by omega, by go_num, ?_, ?_⟩
                      · rw [← HY.out.1 (by simp)]
                        exact (HBS.out.ext ((Ext.refl WS).drewN _)).set_ _ _
                      · exact (HBL.out.trans (((Ext.refl WS).drewN _).below (by omega))).setCell (p := ⟨WI.heap.size, _, none⟩) (Nat.le_refl _) _
                    case measure => simp [intOf]; try omega
                · have HXY := Lib.hid hxy
                  have hbf : (ys == xs) = false := by simpa using hxy
                  rcases (show s = 0 ∨ s = 1 ∨ s = 2 ∨ s = 3 by omega) with e | e | e | e
                  · subst e
                    simp only [Nat.add_zero, Nat.reduceAdd, Nat.reduceMod] at ti tk
                    go_wp2_with fail
                    go_quiet (fail)
                    clear ti tk cS fS
                    go_wp2_with fail
                    go_roundw
                    case rel =>
                      refine ⟨1, by omega, by go_num, ?_, ?_⟩
                      · rw [← HY.out.2 (decide_eq_false HXY.out)]
                        exact HBS.out.ext ((Ext.refl WS).drewN _)
                      · exact HBL.out.trans (((Ext.refl WS).drewN _).below (by omega))
                    case measure => simp [intOf]; try omega
                  · subst e
                    simp only [Nat.add_zero, Nat.reduceAdd, Nat.reduceMod] at ti tk
                    go_wp2_with fail
                    go_quiet (fail)
                    clear ti tk cS fS
                    go_wp2_with fail
                    go_roundw
                    case rel =>
                      refine ⟨2, by omega, by go_num, ?_, ?_⟩
                      · rw [← HY.out.2 (decide_eq_false HXY.out)]
                        exact HBS.out.ext ((Ext.refl WS).drewN _)
                      · exact HBL.out.trans (((Ext.refl WS).drewN _).below (by omega))
                    case measure => simp [intOf]; try omega
                  · subst e
                    simp only [Nat.add_zero, Nat.reduceAdd, Nat.reduceMod] at ti tk
                    go_wp2_with fail
                    go_quiet (fail)
                    clear ti tk cS fS
                    go_wp2_with fail
                    go_roundw
                    case rel =>
                      refine ⟨3, by omega, by go_num, ?_, ?_⟩
                      · rw [← HY.out.2 (decide_eq_false HXY.out)]
                        exact HBS.out.ext ((Ext.refl WS).drewN _)
                      · exact HBL.out.trans (((Ext.refl WS).drewN _).below (by omega))
                    case measure => simp [intOf]; try omega
                  · subst e
                    simp only [Nat.add_zero, Nat.reduceAdd, Nat.reduceMod] at ti tk
                    go_wp2_with fail
                    go_quiet (fail)
                    clear ti tk cS fS
                    go_wp2_with fail
                    go_roundw
                    case rel =>
                      refine ⟨4, by omega, by go_num, ?_, ?_⟩
                      · rw [← HY.out.2 (decide_eq_false HXY.out)]
                        exact HBS.out.ext ((Ext.refl WS).drewN _)
                      · exact HBL.out.trans (((Ext.refl WS).drewN _).below (by omega))
                    case measure => simp [intOf]; try omega
              · obtain rfl : s = 4 := by omega
                have hb4 := HBS.out
                rw [mb_four (by have := HN.out; omega)] at hb4
                have HB4 := Lib.hid hb4
                clear hb4 hbs hb hbo
                go_wp2_with fail
                go_roundw
                case rel => exact ⟨k + 1, by omega, by go_num, HB4.out, HBL.out⟩
                case measure => simp [intOf]; omega
          · obtain rfl : k = n := by omega
            have hb4 := HBK.out
            have hgd : good4 cur x = (nbAny cur x k 0 && (nbAny cur x k 1 && (nbAny cur x k 2 && nbAny cur x k 3))) := by
              rw [HN.out]; simp only [nbAny_all]; rfl
            unfold bl at hb4
            generalize nbAny cur x k 0 = b0 at hb4 hgd
            generalize nbAny cur x k 1 = b1 at hb4 hgd
            generalize nbAny cur x k 2 = b2 at hb4 hgd
            generalize nbAny cur x k 3 = b3 at hb4 hgd
            have HG := Lib.hid hgd
            have c0' := hb4.rd 0 rfl
            have c1' := hb4.rd 1 rfl
            have c2' := hb4.rd 2 rfl
            have c3' := hb4.rd 3 rfl
            have hbik := (HXM.out.below (Nat.le_refl _)).trans HBB.out
            have HBIK := Lib.hid hbik
            have HBOK := Lib.hid (HBI.out.trans (hbik.mono hszi))
            have HOK := Lib.hid (own_below HOI.out hbik)
            have hszik := hbik.size
            clear hb4 hgd hbik
            cases b0 with
            | false =>
              have hgd := HG.out
              simp only [Bool.false_and, Bool.and_false, Bool.true_and] at hgd
              have hnx := fltN_no (cur := cur) (i := i) (by have := HN.out; omega) (by rw [← HXI.out]; exact hgd)
              have HNX := Lib.hid hnx
              clear hgd hnx
              go_wp2_with fail
              go_roundw
              case rel => first | exact ⟨i + 1, by omega, by go_num, by rw [HNX.out]; exact HOK.out, HBOK.out⟩ | ((repeat apply Exists.intro); exact ⟨⟨i + 1, by omega, by go_num, by rw [HNX.out]; exact HOK.out, HBOK.out⟩, rfl⟩)
              case measure => simp [intOf]; omega
            | true =>
              cases b1 with
              | false =>
                have hgd := HG.out
                simp only [Bool.false_and, Bool.and_false, Bool.true_and] at hgd
                have hnx := fltN_no (cur := cur) (i := i) (by have := HN.out; omega) (by rw [← HXI.out]; exact hgd)
                have HNX := Lib.hid hnx
                clear hgd hnx
                go_wp2_with fail
                go_roundw
                case rel => first | exact ⟨i + 1, by omega, by go_num, by rw [HNX.out]; exact HOK.out, HBOK.out⟩ | ((repeat apply Exists.intro); exact ⟨⟨i + 1, by omega, by go_num, by rw [HNX.out]; exact HOK.out, HBOK.out⟩, rfl⟩)
                case measure => simp [intOf]; omega
              | true =>
                cases b2 with
                | false =>
                  have hgd := HG.out
                  simp only [Bool.false_and, Bool.and_false, Bool.true_and] at hgd
                  have hnx := fltN_no (cur := cur) (i := i) (by have := HN.out; omega) (by rw [← HXI.out]; exact hgd)
                  have HNX := Lib.hid hnx
                  clear hgd hnx
                  go_wp2_with fail
                  go_roundw
                  case rel => first | exact ⟨i + 1, by omega, by go_num, by rw [HNX.out]; exact HOK.out, HBOK.out⟩ | ((repeat apply Exists.intro); exact ⟨⟨i + 1, by omega, by go_num, by rw [HNX.out]; exact HOK.out, HBOK.out⟩, rfl⟩)
                  case measure => simp [intOf]; omega
                | true =>
                  cases b3 with
                  | false =>
                    have hgd := HG.out
                    simp only [Bool.false_and, Bool.and_false, Bool.true_and] at hgd
                    have hnx := fltN_no (cur := cur) (i := i) (by have := HN.out; omega) (by rw [← HXI.out]; exact hgd)
                    have HNX := Lib.hid hnx
                    clear hgd hnx
                    go_wp2_with fail
                    go_roundw
                    case rel => first | exact ⟨i + 1, by omega, by go_num, by rw [HNX.out]; exact HOK.out, HBOK.out⟩ | ((repeat apply Exists.intro); exact ⟨⟨i + 1, by omega, by go_num, by rw [HNX.out]; exact HOK.out, HBOK.out⟩, rfl⟩)
                    case measure => simp [intOf]; omega
                  | true =>
                    have hgd := HG.out
                    simp only [Bool.and_true] at hgd
                    have HG2 := Lib.hid hgd
                    clear hgd
                    obtain ⟨b, o, rfl, hbb, ht⟩ := (HTR.out.below HBOK.out (Nat.le_refl _)) (by have := HN.out; omega)
                    replace ht := ht i (by have := HN.out; omega)
                    have hyes := fltN_yes (cur := cur) (i := i) (by have := HN.out; omega) (by rw [← HXI.out]; exact HG2.out)
                    rw [← HXI.out] at ht hyes
                    have HY := Lib.hid hyes
                    clear hyes
                    have hfl := fltN_le cur i
                    obtain ⟨x0, x1, x2, x3⟩ := x
                    obtain ⟨d0, d1, d2, d3⟩ := ht
                    simp only at d0 d1 d2 d3
                    go_wp2_with (at_builtin; refine wpList_pushT rfl _ _ rfl WO.heap.size _ (fltN cur i).length _ rfl (HOK.out.alloc _) WK.heap.size (x0, x1, x2, x3) rfl (heap_alloc_new WK _) ?c1 ?c2 ?c3 ?_)
                    case c1 => unfold maxLen; omega
                    case c2 => omega
                    case c3 => simp; omega
                    intro v' w5 hown' hgrow _
                    rw [← flat_snoc, ← HY.out, show (fltN cur i).length + 1 = (fltN cur (i + 1)).length by rw [HY.out]; simp] at hown'
                    have O3 := Lib.hid hown'
                    have B3 := Lib.hid ((HBOK.out.alloc HBOK.out.size (Obj.cells (encA (x0, x1, x2, x3)) 51)).grown hgrow (by have := HBOK.out.size; simp; omega) (fun j hj => (HOK.out.lt j hj).1))
                    clear hown' hgrow d0 d1 d2 d3 c0' c1' c2' c3'
                    go_wp2_with fail
                    go_roundw
                    case rel => first | exact ⟨i + 1, by omega, by go_num, O3.out, B3.out⟩ | ((repeat apply Exists.intro); exact ⟨⟨i + 1, by omega, by go_num, O3.out, B3.out⟩, rfl⟩)
                    case measure => simp [intOf]; omega
      · obtain rfl : i = n := by omega
        obtain ⟨us, hus⟩ : ∃ us, us = fltN cur i := ⟨_, rfl⟩
        have hown := HOI.out
        have hul := fltN_le cur i
        rw [← hus] at hown hul
        have HUS := Lib.hid (show us = flt cur by rw [hus, HN.out, fltN_all])
        clear hus
        obtain ⟨A2, cap2, hv2, htw2⟩ := own_tw hown rfl
        subst hv2
        have HO3 := Lib.hid hown
        have HT3 := Lib.hid htw2
        clear hown htw2
        by_cases hq : us.length = i
        · have hend : us = trimT ts := by
            have h1 : (flt cur).length = cur.length := by rw [← HUS.out, hq]; exact HN.out
            have h2 : flt cur = cur := List.filter_sublist.eq_of_length h1
            rw [HUS.out, h2]
            exact end_is HASC.out HH.out (closed_of_flt h1)
          have HE := Lib.hid hend
          have hsrt : sortT us = us := by rw [hend]; exact sortT_of_asc (trimT_asc HASC.out)
          have hmd := l01Made_any c0 A2 i cap2 us WI (by omega) hq HT3.out.tr
          rw [hsrt, hq] at hmd
          have HMD := Lib.hid hmd
          have hbow := HB.out.trans (HBI.out.mono hszo)
          have r0 := (HB0.out.below hbow (by omega)).rd 0 rfl
          have HBR := Lib.hid (HBZ.out.below hbow (by omega))
          have HBF := Lib.hid ((HX.out.below (Nat.le_refl _)).trans (hbow.mono (by omega)))
          have hq3 : (us.length : Int) = (i : Int) := by omega
          clear hend hsrt hmd hbow
          go_wp2_with fail
          refine HMD.out.mono ?_
          rintro e w3 ⟨A3, cap3, rfl, hb3, htw3⟩
          have HT := Lib.hid htw3
          have hbr := HBR.out.below hb3 (by omega)
          have q0 := hbr.rd 0 rfl
          have q1 := hbr.rd 1 rfl
          have z0 := hbr.frozen 0
          have z1 := hbr.frozen 1
          have HBF3 := Lib.hid (HBF.out.trans (hb3.mono HBF.out.size))
          clear hbr hb3 htw3 r0
          go_wp2_with fail
          refine bodyPost_ret (v := .tuple #[.agg #[.int .i64 c0, .slice A3 i cap3], .int .i64 0]) (by simp [results, Try.results43, go_sem, q0, q1, z0, z1]) rfl ⟨A3, cap3, by rw [← HE.out, hq], ?_, ?_⟩
          · exact (HBF3.out.setCell (by simp) _).setCell (by simp) _
          · rw [← HE.out]
            exact ((HT.out.far (by show _ < _; simp; omega) _).far (by show _ < _; simp; omega) _).low (by omega)
        · have hq3 : ¬ (us.length : Int) = (i : Int) := by omega
          go_wp2_with fail
          go_roundw
          case rel => exact ⟨us, ownsRow_base HO3.out (by omega), by rw [HUS.out]; exact HH.out.flt, (Below.refl _ _).trans (show Below W1.heap.size W2 WI from HBO2.out.trans (HBI.out.mono (by omega)))⟩
          case measure => simp [lenV]; omega
end Go.Proofs.Ytpjlapialjjcdaa
