/- Columns: they are listed and cut; the program's side. -/
import Derived.Test.YtleabblnikbmpaaGcA
import Derived.Lib.Hide
import Derived.Outline
import Derived.Test.YtleabblnikbmpaaIsA
import Derived.Deep.RegionHeld3
namespace Go.Proofs.Ytleabblnikbmpaa
section
set_option linter.unusedVariables false
set_option linter.unusedSimpArgs false
open Go.RowKit Go.Sort

theorem upTo_at {n k : Nat} (hk : k < n) : (upTo n).getD k 0 = (k : Int) := by simp [upTo, List.getD, hk]
theorem flat_len_of {rs : List (List Int)} {k : Nat} (h : ∀ r ∈ rs, r.length = k) : rs.flatten.length = rs.length * k := by
  induction rs with
  | nil => simp
  | cons r rs ih =>
    rw [List.flatten_cons, List.length_append, ih fun s hs => h s (by simp [hs]), h r (by simp), List.length_cons, Nat.add_mul]
    omega
theorem extC_each {ts : List Tl} {col : List Int} {k h : Nat} (hc : col.length = h) : ∀ r ∈ extC ts col k, r.length = h + 1 := by
  intro r hr
  obtain ⟨j, -, -, rfl⟩ := mem_extC.1 hr
  simp [hc]
theorem longerL_each {ts : List Tl} {cols : List (List Int)} {h : Nat} (hc : ∀ r ∈ cols, r.length = h) : ∀ r ∈ longerL ts cols, r.length = h + 1 := by
  intro r hr
  simp only [longerL, List.mem_flatMap] at hr
  obtain ⟨col, h1, h2⟩ := hr
  exact extC_each (hc col h1) r h2
theorem each_take {cols : List (List Int)} {h : Nat} (hc : ∀ k, k < cols.length → (cols.getD k []).length = h) : ∀ r ∈ cols, r.length = h := by
  intro r hr
  obtain ⟨k, hk, rfl⟩ := List.getElem_of_mem hr
  have := hc k hk
  rwa [show cols.getD k [] = cols[k] by simp [List.getD, hk]] at this

set_option maxRecDepth 100000 in
set_option maxHeartbeats 4000000 in
theorem listLonger_any (c0 : Int) (A : Option Addr) (n c : Nat) (ts : List Tl) (R : Option Addr) (m q : Nat) (cols : List (List Int)) (h : Nat) (w : World) (hn : n ≤ 16) (hl : ts.length = n) (hA : TR w w.heap.size A ts) (hm : m ≤ 4096) (hlc : cols.length = m) (hR : IRR w w.heap.size R cols) (hh : h ≤ 3) (hcol : ∀ k, k < m → (cols.getD k []).length = h ∧ allT ts (cols.getD k []) = true) :
    Calls Try.prog 140 #[.agg #[.int .i64 c0, .slice A n c], .slice R m q] w fun e w' => ∃ A' cap, e = .returned (.slice A' (longerL ts cols).flatten.length cap) ∧ (longerL ts cols).flatten.length ≤ cap ∧ Below w.heap.size w w' ∧ IWr w' w.heap.size w'.heap.size A' (longerL ts cols).flatten := by
  have HA := Lib.hid hA
  have HR := Lib.hid hR
  have HC := Lib.hid hcol
  have heach := each_take (cols := cols) (h := h) fun k hk => (hcol k (by omega)).1
  have HEA := Lib.hid heach
  clear hA hR hcol heach
  go_enter Try.func140, Try.ntmps140
  go_wp2_with fail
  have HX0 := Lib.hid ((Ext.refl w).alloc (Obj.cells #[.int .i64 c0, .slice A n c] 30))
  have HS0 := Lib.hid (Blk.new w 30 #[.int .i64 c0, .slice A n c])
  have hsz0 : w.heap.size ≤ (w.alloc (Obj.cells #[.int .i64 c0, .slice A n c] 30)).heap.size := by simp
  generalize w.alloc (Obj.cells #[.int .i64 c0, .slice A n c] 30) = W0 at *
  go_loopw [5, 12] (fun v ii wr => ∃ i : Nat, i ≤ m ∧ ii = .int .i64 i ∧ wr.ownsRow W0.heap.size 2 1 v (longerL ts (cols.take i)).flatten.length (vis (longerL ts (cols.take i)).flatten) ∧ Below W0.heap.size W0 wr) (fun _ ii _ => m - (intOf ii).toNat)
  case atStart => exact ⟨0, Nat.zero_le _, rfl, World.ownsRow_nil _ _ _ _, Below.refl _ _⟩
  case round =>
    obtain ⟨i, hi, rfl, hown, hb⟩ := hrel
    have HO := Lib.hid hown
    have HB := Lib.hid hb
    have hbw := (HX0.out.below (Nat.le_refl _)).trans (hb.mono (by omega : w.heap.size ≤ W0.heap.size))
    have HBW := Lib.hid hbw
    have hszw := hb.size
    by_cases hlt : i < m
    · obtain ⟨bR, oR, rfl, hbR, hcR⟩ := HR.out (by omega)
      obtain ⟨Q, qc, e1, hq, hQ⟩ := hcR i (by omega)
      replace e1 := (hbw.cell (p := ⟨bR, oR + i, none⟩) hbR).trans e1
      obtain ⟨hcl, hca⟩ := HC.out i hlt
      have hls := longerL_succ ts cols (i := i) (by omega)
      have hpre := longerL_pre_len ts cols i
      have hfl : (longerL ts (cols.take i)).flatten.length = (longerL ts (cols.take i)).length * (h + 1) := flat_len_of (longerL_each fun r hr => HEA.out r (List.mem_of_mem_take hr))
      have hmul1 : i * ts.length ≤ 4096 * 16 := Nat.mul_le_mul (by omega) (by omega)
      have hmul2 : (longerL ts (cols.take i)).length * (h + 1) ≤ 65536 * 4 := Nat.mul_le_mul (by omega) (by omega)
      have hL1 : (longerL ts (cols.take i)).flatten.length ≤ 262144 := by omega
      have HL1 := Lib.hid hL1
      generalize cols.getD i [] = col at *
      have HLS := Lib.hid (show (longerL ts (cols.take (i + 1))).flatten = (longerL ts (cols.take i)).flatten ++ (extC ts col n).flatten by rw [hls, List.flatten_append, hl])
      clear hls hpre hfl hmul1 hmul2 hL1
      generalize (longerL ts (cols.take i)).flatten = L at *
      rw [hcl] at e1 hq
      have HQ := Lib.hid hQ
      have HCA := Lib.hid hca
      have HCL := Lib.hid hcl
      have r0 := (HS0.out.below hb HS0.out.lt).rd 0 rfl
      have r1 := (HS0.out.below hb HS0.out.lt).rd 1 rfl
      have hlt3 : (i : Int) < (m : Int) := by omega
      clear hown hb hbw hcR hQ hca hcl
      go_wp2_with (go_at_call 134; refine (tileNumbers_any c0 A n c _ (by omega)).mono ?_; rintro e w2 ⟨X, cx, rfl, hb2, hx2⟩)
      have HO2 := Lib.hid (own_belowA HO.out hb2)
      have HRX := Lib.hid (rdi_of_iwr (v := _) hx2 (fun g e => (HO.out.lt g e).2))
      have HB2 := Lib.hid (HB.out.trans (hb2.mono (by omega : W0.heap.size ≤ wr.heap.size)))
      clear hb2 hx2 HO r0 r1 e1
      have hlo2 : W0.heap.size ≤ w2.heap.size := HB2.out.size
      clear hszw HB HBW
      obtain ⟨WR, hWR⟩ : ∃ W1, W1 = wr := ⟨_, rfl⟩
      subst hWR
      go_loopw [5, 19] (fun v kk wr => ∃ k : Nat, k ≤ n ∧ kk = .int .i64 k ∧ wr.ownsRow W0.heap.size 2 1 v (L ++ (extC ts col k).flatten).length (vis (L ++ (extC ts col k).flatten)) ∧ Below W0.heap.size W0 wr ∧ RdI wr v X (upTo n)) (fun _ kk _ => n - (intOf kk).toNat)
      case atStart => exact ⟨0, Nat.zero_le _, rfl, by simpa [extC_zero] using HO2.out, HB2.out, HRX.out⟩
      case round =>
        obtain ⟨k, hk, rfl, hown, hb, hrx⟩ := hrel
        have HO := Lib.hid hown
        have HB := Lib.hid hb
        have HX := Lib.hid hrx
        have hszk := hb.size
        have hbw := (HX0.out.below (Nat.le_refl _)).trans (hb.mono (by omega : w.heap.size ≤ W0.heap.size))
        have HBK := Lib.hid hbw
        by_cases hltk : k < n
        · obtain ⟨bx, ox, rfl, hbx, hnx, hcx⟩ := hrx (by rw [upTo_len]; omega)
          have q1 := hcx k (by rw [upTo_len]; omega)
          rw [upTo_at hltk] at q1
          have hfl : (extC ts col k).flatten.length = (extC ts col k).length * (h + 1) := flat_len_of (extC_each HCL.out)
          have hel := extC_len ts col k
          have hmul : (extC ts col k).length * (h + 1) ≤ 16 * 4 := Nat.mul_le_mul (by omega) (by omega)
          have HLEN := Lib.hid (show (L ++ (extC ts col k).flatten).length ≤ 262144 + 64 by rw [List.length_append]; have := HL1.out; omega)
          have HY := Lib.hid (fun h => congrArg List.flatten (extC_yes (ts := ts) (col := col) (k := k) h))
          have HN := Lib.hid (fun h => congrArg List.flatten (extC_no (ts := ts) (col := col) (k := k) h))
          have HS := Lib.hid (HS0.out.below HB.out HS0.out.lt)
          have hltk3 : (k : Int) < (n : Int) := by omega
          clear hown hb hrx hcx hfl hel hmul hbw
          by_cases h0 : h = 0
          · subst h0
            have hok : okBelow ts col k = true := by simp [okBelow, HCL.out]
            have HAP := Lib.hid (HY.out hok)
            clear hok
            have s0 := fun q os => HS.out.grown q os 0 (v := .int .i64 c0) rfl
            have s1 := fun q os => HS.out.grown q os 1 (v := .slice A n c) rfl
            go_wp2_with fail
            refine wp_region_quiet_grown mixed (by kernel_rfl) ?_
            repeat (go_big_quiet_step ((fail)))
            refine wpQuiet_nil ?_
            intro _ hw'
            obtain ⟨⟨nq, osq⟩, hw''⟩ := hw'
            subst hw''
            clear s0 s1
            have hxx : Ext wr (grow (wr.drewN nq) osq) := ⟨nq, osq, rfl⟩
            have O4 := Lib.hid (HO.out |> fun h => own_belowA h (hxx.below (Nat.le_refl _)))
            have B4 := Lib.hid (HB.out.trans (hxx.below (by omega)))
            have X4 := Lib.hid (HX.out.ext hxx)
            have BK4 := Lib.hid (HBK.out.trans (hxx.below (by have := HBK.out.size; omega)))
            have hsz4 := (hxx.below (Nat.le_refl _)).size
            generalize grow (wr.drewN nq) osq = w4 at *
            obtain ⟨LX, hLX⟩ : ∃ LX, LX = L ++ (extC ts col k).flatten := ⟨_, rfl⟩
            rw [← hLX] at O4 HLEN
            have HLX := Lib.hid (show L ++ (extC ts col (k + 1)).flatten = (LX ++ col) ++ [(k : Int)] by rw [HAP.out, hLX]; simp)
            clear hLX
            go_wp2_with (at_builtin; refine wpList_appI rfl _ _ rfl W0.heap.size _ LX rfl O4.out _ _ _ col rfl ((HQ.out.below BK4.out (Nat.le_refl _)).more BK4.out.size) HCL.out ?c1 ?c2 ?_)
            case c1 => have := HLEN.out; omega
            case c2 => omega
            intro v5 w5 ho5 hg5 ha5
            obtain ⟨LY, hLY⟩ : ∃ LY, LY = LX ++ col := ⟨_, rfl⟩
            have O5 := Lib.hid (show w5.ownsRow W0.heap.size 2 1 v5 LY.length (vis LY) by rw [hLY]; simpa using ho5)
            have HLY := Lib.hid (show LY.length ≤ 262144 + 64 + 3 by rw [hLY, List.length_append]; have := HLEN.out; have := HCL.out; omega)
            rw [← hLY] at HLX
            have B5 := Lib.hid (B4.out.grown hg5 (by omega) (fun j hj => (O4.out.lt j hj).1))
            have X5 := Lib.hid (X4.out.grown hg5 ha5)
            have hsz5 := hg5.size
            clear ho5 hg5 ha5 hLY
            go_wp2_with (at_builtin; refine wpList_push1 rfl _ _ rfl W0.heap.size v5 LY rfl (own_belowA O5.out (((Ext.refl _).alloc _).below (Nat.le_refl _))) w5.heap.size (k : Int) rfl (heap_alloc_new w5 _) ?c3 ?c4 ?_)
            case c3 => have := HLY.out; omega
            case c4 => simp; omega
            intro v6 w6 ho6 hg6 ha6
            have O6 := Lib.hid (show w6.ownsRow W0.heap.size 2 1 v6 (L ++ (extC ts col (k + 1)).flatten).length (vis (L ++ (extC ts col (k + 1)).flatten)) by rw [HLX.out]; simpa using ho6)
            have B6 := Lib.hid ((B5.out.alloc (by omega) _).grown hg6 (by simp; omega) (fun j hj => (O5.out.lt j hj).1))
            have X6 := Lib.hid ((X5.out.ext ((Ext.refl _).alloc _)).grown hg6 (by simpa using ha6))
            clear ho6 hg6 ha6
            go_wp2_with fail
            go_roundw
            case rel => first | exact ⟨k + 1, by omega, by go_num, O6.out, B6.out, X6.out⟩ | ((repeat apply Exists.intro); exact ⟨⟨k + 1, by omega, by go_num, O6.out, B6.out, X6.out⟩, rfl⟩)
            case measure => simp [intOf]; omega
          · obtain ⟨h', rfl⟩ : ∃ h', h = h' + 1 := ⟨h - 1, by omega⟩
            obtain ⟨bq, oq, rfl, hbq, hcq⟩ := (HQ.out.below HBK.out (Nat.le_refl _)) (by rw [HCL.out]; omega)
            have q2 := hcq h' (by rw [HCL.out]; omega)
            have hin := allT_in HCA.out (k := h') (by rw [HCL.out]; omega)
            simp only [inT, decide_eq_true_eq, hl] at hin
            have hok : okBelow ts col k = decide ((tnum ts col h').2.2.2 = (ts.getD k T0).2.1) := by simp [okBelow, HCL.out]
            unfold tnum at hok
            generalize col.getD h' 0 = y at *
            obtain ⟨j, rfl⟩ : ∃ j : Nat, y = (j : Int) := ⟨y.toNat, by omega⟩
            rw [Int.toNat_natCast] at hok
            have hfit : ∀ W, Ext wr W → Calls Try.prog 155 #[.agg #[.int .i64 c0, .slice A n c], .int .i64 (j : Int), .int .i64 3, .int .i64 (k : Int)] W _ := fun W hW => fits_below c0 A n c ts j k W (by omega) hl (by omega) (by omega) (((HA.out.below HBK.out (Nat.le_refl _)).ext hW (by have := HBK.out.size; omega)).more (by have := HBK.out.size; have := (hW.below (Nat.le_refl _)).size; omega))
            rw [← hok] at hfit
            have hwh : IntKind.i64.wrap (h' : Int) = (h' : Int) := IntWalk.i64_in _ (by omega)
            have hq0 : (((h' : Int) + 1) == 0) = false := by rw [beq_eq_false_iff_ne]; omega
            clear hcq hin hok
            cases hr : okBelow ts col k with
            | true =>
              rw [hr] at hfit
              have HF := Lib.hid hfit
              unfold Ext at HF
              have HAP := Lib.hid (HY.out hr)
              clear hr hfit
              have s0 := fun q os => HS.out.grown q os 0 (v := .int .i64 c0) rfl
              have s1 := fun q os => HS.out.grown q os 1 (v := .slice A n c) rfl
              have g2 := fun dn os => (cell?_grow (wr.drewN dn) os ⟨bq, oq + h', none⟩ (by have := World.block_lt_of_cell? wr _ q2; exact this)).trans q2
              go_wp2_with fail
              refine wp_region_quiet_grown mixed (by kernel_rfl) ?_
              repeat (go_big_quiet_step ((first | (go_at_call 155; with_reducible refine Calls.grown_of (HF.out _ ⟨_, _, rfl⟩)))))
              refine wpQuiet_nil ?_
              intro _ hw'
              obtain ⟨⟨nq, osq⟩, hw''⟩ := hw'
              subst hw''
              clear s0 s1 g2
              have hxx : Ext wr (grow (wr.drewN nq) osq) := ⟨nq, osq, rfl⟩
              have O4 := Lib.hid (HO.out |> fun h => own_belowA h (hxx.below (Nat.le_refl _)))
              have B4 := Lib.hid (HB.out.trans (hxx.below (by omega)))
              have X4 := Lib.hid (HX.out.ext hxx)
              have BK4 := Lib.hid (HBK.out.trans (hxx.below (by have := HBK.out.size; omega)))
              have hsz4 := (hxx.below (Nat.le_refl _)).size
              generalize grow (wr.drewN nq) osq = w4 at *
              obtain ⟨LX, hLX⟩ : ∃ LX, LX = L ++ (extC ts col k).flatten := ⟨_, rfl⟩
              rw [← hLX] at O4 HLEN
              have HLX := Lib.hid (show L ++ (extC ts col (k + 1)).flatten = (LX ++ col) ++ [(k : Int)] by rw [HAP.out, hLX]; simp)
              clear hLX
              go_wp2_with (at_builtin; refine wpList_appI rfl _ _ rfl W0.heap.size _ LX rfl O4.out _ _ _ col rfl ((HQ.out.below BK4.out (Nat.le_refl _)).more BK4.out.size) HCL.out ?c1 ?c2 ?_)
              case c1 => have := HLEN.out; omega
              case c2 => omega
              intro v5 w5 ho5 hg5 ha5
              obtain ⟨LY, hLY⟩ : ∃ LY, LY = LX ++ col := ⟨_, rfl⟩
              have O5 := Lib.hid (show w5.ownsRow W0.heap.size 2 1 v5 LY.length (vis LY) by rw [hLY]; simpa using ho5)
              have HLY := Lib.hid (show LY.length ≤ 262144 + 64 + 3 by rw [hLY, List.length_append]; have := HLEN.out; have := HCL.out; omega)
              rw [← hLY] at HLX
              have B5 := Lib.hid (B4.out.grown hg5 (by omega) (fun j hj => (O4.out.lt j hj).1))
              have X5 := Lib.hid (X4.out.grown hg5 ha5)
              have hsz5 := hg5.size
              clear ho5 hg5 ha5 hLY
              go_wp2_with (at_builtin; refine wpList_push1 rfl _ _ rfl W0.heap.size v5 LY rfl (own_belowA O5.out (((Ext.refl _).alloc _).below (Nat.le_refl _))) w5.heap.size (k : Int) rfl (heap_alloc_new w5 _) ?c3 ?c4 ?_)
              case c3 => have := HLY.out; omega
              case c4 => simp; omega
              intro v6 w6 ho6 hg6 ha6
              have O6 := Lib.hid (show w6.ownsRow W0.heap.size 2 1 v6 (L ++ (extC ts col (k + 1)).flatten).length (vis (L ++ (extC ts col (k + 1)).flatten)) by rw [HLX.out]; simpa using ho6)
              have B6 := Lib.hid ((B5.out.alloc (by omega) _).grown hg6 (by simp; omega) (fun j hj => (O5.out.lt j hj).1))
              have X6 := Lib.hid ((X5.out.ext ((Ext.refl _).alloc _)).grown hg6 (by simpa using ha6))
              clear ho6 hg6 ha6
              go_wp2_with fail
              go_roundw
              case rel => first | exact ⟨k + 1, by omega, by go_num, O6.out, B6.out, X6.out⟩ | ((repeat apply Exists.intro); exact ⟨⟨k + 1, by omega, by go_num, O6.out, B6.out, X6.out⟩, rfl⟩)
              case measure => simp [intOf]; omega
            | false =>
              rw [hr] at hfit
              have HF := Lib.hid hfit
              unfold Ext at HF
              have HAP := Lib.hid (HN.out hr)
              clear hr hfit
              have s0 := fun q os => HS.out.grown q os 0 (v := .int .i64 c0) rfl
              have s1 := fun q os => HS.out.grown q os 1 (v := .slice A n c) rfl
              have g2 := fun dn os => (cell?_grow (wr.drewN dn) os ⟨bq, oq + h', none⟩ (by have := World.block_lt_of_cell? wr _ q2; exact this)).trans q2
              go_wp2_with fail
              refine wp_region_quiet_grown mixed (by kernel_rfl) ?_
              repeat (go_big_quiet_step ((first | (go_at_call 155; with_reducible refine Calls.grown_of (HF.out _ ⟨_, _, rfl⟩)))))
              refine wpQuiet_nil ?_
              intro _ hw'
              obtain ⟨⟨nq, osq⟩, hw''⟩ := hw'
              subst hw''
              clear s0 s1 g2
              have hxx : Ext wr (grow (wr.drewN nq) osq) := ⟨nq, osq, rfl⟩
              have O4 := Lib.hid (HO.out |> fun h => own_belowA h (hxx.below (Nat.le_refl _)))
              have B4 := Lib.hid (HB.out.trans (hxx.below (by omega)))
              have X4 := Lib.hid (HX.out.ext hxx)
              clear hxx
              go_wp2_with fail
              go_roundw
              case rel => first | exact ⟨k + 1, by omega, by go_num, by rw [HAP.out]; exact O4.out, B4.out, X4.out⟩ | ((repeat apply Exists.intro); exact ⟨⟨k + 1, by omega, by go_num, by rw [HAP.out]; exact O4.out, B4.out, X4.out⟩, rfl⟩)
              case measure => simp [intOf]; omega
        · obtain rfl : k = n := by omega
          have HO5 := Lib.hid (show wr.ownsRow W0.heap.size 2 1 _ (longerL ts (cols.take (i + 1))).flatten.length (vis (longerL ts (cols.take (i + 1))).flatten) by rw [HLS.out]; exact hown)
          clear hown hb hrx hbw
          go_wp2_with fail
          go_roundw
          case rel => first | exact ⟨i + 1, by omega, by go_num, HO5.out, HB.out⟩ | ((repeat apply Exists.intro); exact ⟨⟨i + 1, by omega, by go_num, HO5.out, HB.out⟩, rfl⟩)
          case measure => simp [intOf]; omega
    · obtain rfl : i = m := by omega
      have hown := HO.out
      rw [← hlc, List.take_length] at hown
      obtain ⟨A2, cap2, rfl, hcap, htw⟩ := own_iwr hown rfl
      have HT := Lib.hid htw
      clear hown htw HO hb hbw
      go_wp2_with fail
      go_ret
      exact ⟨A2, cap2, rfl, hcap, HBW.out, HT.out.low (by omega)⟩
end

section
set_option linter.unusedVariables false
set_option linter.unusedSimpArgs false
open Go.RowKit Go.Sort

set_option maxRecDepth 100000 in
set_option maxHeartbeats 4000000 in
theorem edgeOf_any (C : Nat) (A : Option Addr) (n c : Nat) (ts : List Tl) (B : Option Addr) (m d : Nat) (xs : List Int) (w : World) (hc1 : 1 ≤ C) (hc6 : C ≤ 6) (hn : n ≤ 1048576) (hl : ts.length = n) (hA : TR w w.heap.size A ts) (hs : colOk C ts) (hm : m ≤ 4) (hlx : xs.length = m) (hB : IR w w.heap.size B xs) (hal : allT ts xs = true) :
    Calls Try.prog 99 #[.agg #[.int .i64 (C : Int), .slice A n c], .slice B m d] w fun e w' => e = .returned (tv (edgeT (C : Int) ts xs)) ∧ Below w.heap.size w w' := by
  have hcw : ∀ W, Below w.heap.size w W → Calls Try.prog 142 #[.agg #[.int .i64 (C : Int), .slice A n c], .slice B m d, .int .i64 0] W _ := fun W hW => coloursAt_W (C : Int) A n c ts B m d xs W hn hl ((hA.below hW (Nat.le_refl _)).more hW.size) (by omega) hlx ((hB.below hW (Nat.le_refl _)).more hW.size) hal
  have hce : ∀ W, Below w.heap.size w W → Calls Try.prog 142 #[.agg #[.int .i64 (C : Int), .slice A n c], .slice B m d, .int .i64 2] W _ := fun W hW => coloursAt_E (C : Int) A n c ts B m d xs W hn hl ((hA.below hW (Nat.le_refl _)).more hW.size) (by omega) hlx ((hB.below hW (Nat.le_refl _)).more hW.size) hal
  have hnw : ∀ W F cf, IR W W.heap.size F (colW ts xs) → Calls Try.prog 141 #[.agg #[.int .i64 (C : Int), .slice A n c], .slice F (colW ts xs).length cf] W _ := fun W F cf h => wordNumber_any C A n c F _ cf (colW ts xs) W hc1 hc6 (by rw [colW_len]; omega) rfl h (mem_colW hs hal)
  have hne : ∀ W F cf, IR W W.heap.size F (colE ts xs) → Calls Try.prog 141 #[.agg #[.int .i64 (C : Int), .slice A n c], .slice F (colE ts xs).length cf] W _ := fun W F cf h => wordNumber_any C A n c F _ cf (colE ts xs) W hc1 hc6 (by rw [colE_len]; omega) rfl h (mem_colE hs hal)
  unfold edgeT tv
  generalize wnum (C : Int) (colW ts xs) = nw at hnw ⊢
  generalize wnum (C : Int) (colE ts xs) = ne at hne ⊢
  generalize colW ts xs = xw at hcw hnw
  generalize colE ts xs = xe at hce hne
  have HCW := Lib.hid hcw
  have HCE := Lib.hid hce
  have HNW := Lib.hid hnw
  have HNE := Lib.hid hne
  clear hcw hce hnw hne hA hB hal hs
  go_enter Try.func99, Try.ntmps99
  go_wp2_with fail
  obtain ⟨W0, hW0⟩ : ∃ W0, (w.alloc (Obj.cells #[.int .i64 (C : Int), .slice A n c] 30)).alloc (Obj.cells #[.int .i64 0, .int .i64 0, .int .i64 0, .int .i64 0] 69) = W0 := ⟨_, rfl⟩
  have hx0 : Ext w W0 := by rw [← hW0]; exact ((Ext.refl w).alloc _).alloc _
  have hS : Blk W0 w.heap.size 30 #[.int .i64 (C : Int), .slice A n c] := by rw [← hW0]; exact (Blk.new w _ _).ext ((Ext.refl _).alloc _)
  have hR : Blk W0 (w.heap.size + 1) 69 #[.int .i64 0, .int .i64 0, .int .i64 0, .int .i64 0] := by
    rw [← hW0]
    have := Blk.new (w.alloc (Obj.cells #[.int .i64 (C : Int), .slice A n c] 30)) 69 #[.int .i64 0, .int .i64 0, .int .i64 0, .int .i64 0]
    simpa using this
  have hsz : W0.heap.size = w.heap.size + 2 := by rw [← hW0]; simp
  rw [hW0]
  have H0 := Lib.hid (hx0.below (Nat.le_refl _))
  have HS := Lib.hid hS
  have HR := Lib.hid hR
  have r0 := hS.rd 0 rfl
  have r1 := hS.rd 1 rfl
  clear hx0 hS hR hW0
  go_region_held3 (fun w' => w'.cell? ⟨w.heap.size, 0, none⟩ = some (.int .i64 (C : Int)) ∧ w'.cell? ⟨w.heap.size, 1, none⟩ = some (.slice A n c))
    (first | exact ⟨k0, k1⟩ | exact ⟨l0, l1⟩ | go_keep)
    (first
      | (go_at_call 142; refine (HCW.out _ H0.out.drew).mono ?_; rintro e w2 ⟨F, cf, rfl, hb, hw⟩; have K2 := Lib.hid ((Below.refl W0.heap.size W0).drew.trans hb); have W2 := Lib.hid hw; have k0 := (Blk.below HS.out K2.out HS.out.lt).rd 0 rfl; have k1 := (Blk.below HS.out K2.out HS.out.lt).rd 1 rfl; clear hb hw)
      | (go_at_call 141; refine (HNW.out _ _ _ W2.out.ir).mono ?_; rintro e w3 ⟨rfl, hx⟩; have K3 := Lib.hid (K2.out.trans (hx.below K2.out.size)); have l0 := (Blk.below HS.out K3.out HS.out.lt).rd 0 rfl; have l1 := (Blk.below HS.out K3.out HS.out.lt).rd 1 rfl; clear hx k0 k1))
  clear r0 r1 HCW HNW
  have HB3 := Lib.hid (H0.out.trans (K3.out.mono (by omega : w.heap.size ≤ W0.heap.size)))
  go_wp2_with fail
  go_region_held3 (fun w' => w'.cell? ⟨w.heap.size, 0, none⟩ = some (.int .i64 (C : Int)) ∧ w'.cell? ⟨w.heap.size, 1, none⟩ = some (.slice A n c))
    (first | exact ⟨k0, k1⟩ | exact ⟨m0, m1⟩ | go_keep)
    (first
      | (go_at_call 142; refine (HCE.out _ HB3.out.drew).mono ?_; rintro e w4 ⟨F4, cf4, rfl, hb, hw⟩; have K4 := Lib.hid (K3.out.drew.trans (hb.mono K3.out.size)); have W4 := Lib.hid hw; have k0 := (Blk.below HS.out K4.out HS.out.lt).rd 0 rfl; have k1 := (Blk.below HS.out K4.out HS.out.lt).rd 1 rfl; clear hb hw)
      | (go_at_call 141; refine (HNE.out _ _ _ W4.out.ir).mono ?_; rintro e w5 ⟨rfl, hx⟩; have K5 := Lib.hid (K4.out.trans (hx.below K4.out.size)); have m0 := (Blk.below HS.out K5.out HS.out.lt).rd 0 rfl; have m1 := (Blk.below HS.out K5.out HS.out.lt).rd 1 rfl; clear hx k0 k1))
  clear l0 l1 HCE HNE
  have HR5 := HR.out.below K5.out HR.out.lt
  have t0 := HR5.rd 0 rfl
  have t1 := HR5.rd 1 rfl
  have t2 := HR5.rd 2 rfl
  have t3 := HR5.rd 3 rfl
  have z0 := HR5.frozen 0
  have z1 := HR5.frozen 1
  have z2 := HR5.frozen 2
  have z3 := HR5.frozen 3
  have HB5 := Lib.hid (H0.out.trans (K5.out.mono (by omega : w.heap.size ≤ W0.heap.size)))
  clear HR5
  have hb5 : w.heap.size ≤ w.heap.size + 1 := by omega
  have HLE := Lib.hid hb5
  clear hb5
  go_wp2_with fail
  refine bodyPost_ret (v := .agg #[.int .i64 nw, .int .i64 0, .int .i64 ne, .int .i64 0]) (by simp [results, Try.results99, go_sem, t0, t1, t2, t3, z0, z1, z2, z3]) rfl ⟨rfl, ?_⟩
  exact (((HB5.out.setCell HLE.out _).setCell HLE.out _).setCell HLE.out _).setCell HLE.out _

set_option maxRecDepth 100000 in
set_option maxHeartbeats 1000000 in
theorem wordsOfLength_any (C : Nat) (A : Option Addr) (n c : Nat) (h : Nat) (w : World) (hc6 : C ≤ 6) (hh : h ≤ 4) :
    Calls Try.prog 97 #[.agg #[.int .i64 (C : Int), .slice A n c], .int .i64 (h : Int)] w fun e w' => e = .returned (.int .i64 ((C ^ h : Nat) : Int)) ∧ Ext w w' := by
  go_enter Try.func97, Try.ntmps97
  go_wp2_with fail
  have HX0 := Lib.hid ((Ext.refl w).alloc (Obj.cells #[.int .i64 (C : Int), .slice A n c] 30))
  have r0 := (Blk.new w 30 #[.int .i64 (C : Int), .slice A n c]).rd 0 rfl
  generalize w.alloc (Obj.cells #[.int .i64 (C : Int), .slice A n c] 30) = W0 at *
  go_loopw [5, 7] (fun v i wr => ∃ k : Nat, k ≤ h ∧ i = .int .i64 k ∧ v = .int .i64 ((C ^ k : Nat) : Int) ∧ wr = W0) (fun _ i _ => h - (intOf i).toNat)
  case atStart => exact ⟨0, Nat.zero_le _, rfl, by simp, rfl⟩
  case round =>
    obtain ⟨k, hk, rfl, rfl, rfl⟩ := hrel
    have hp := pow_le4 (k := k) hc6 (by omega)
    have hs : C ^ (k + 1) = C ^ k * C := Nat.pow_succ ..
    have hpc : C ^ k * C ≤ 1296 * 6 := Nat.mul_le_mul hp hc6
    have EP := Lib.hid hs
    clear hs
    obtain ⟨p, hp'⟩ : ∃ p, p = C ^ k := ⟨_, rfl⟩
    rw [← hp'] at hp hpc EP ⊢
    have EK := Lib.hid hp'
    clear hp'
    by_cases hlt : k < h
    · have hcast : ((p * C : Nat) : Int) = (p : Int) * (C : Int) := by push_cast; rfl
      have hw1 : IntKind.i64.wrap ((p : Int) * (C : Int)) = (p : Int) * (C : Int) := IntWalk.i64_in _ (by omega)
      have hlt3 : (k : Int) < (h : Int) := by omega
      go_wp2_with fail
      go_roundw
      case rel => exact ⟨k + 1, by omega, by go_num, by rw [EP.out]; push_cast; rfl, trivial⟩
      case measure => simp [intOf]; omega
    · obtain rfl : k = h := by omega
      go_wp2_with fail
      go_ret
      exact ⟨by rw [← EK.out]; rfl, HX0.out⟩

/-- What the height and the set are checked for. -/
def hCode (c0 : Int) (ts : List Tl) (h : Int) : Int := if isSet c0 ts = true then (if 1 ≤ h ∧ h ≤ 4 then 0 else 2) else 1
/-- The same with a greatest height. -/
def hCodeM (c0 : Int) (ts : List Tl) (h most : Int) : Int := if isSet c0 ts = true then (if 1 ≤ h ∧ h ≤ most then 0 else 2) else 1
set_option maxRecDepth 100000 in
set_option maxHeartbeats 1000000 in
theorem checkHeightM_any (c0 : Int) (A : Option Addr) (n c : Nat) (ts : List Tl) (h most : Int) (w : World) (hn : n ≤ 1048576) (hl : ts.length = n) (hA : TR w w.heap.size A ts) :
    Calls Try.prog 72 #[.agg #[.int .i64 c0, .slice A n c], .int .i64 h, .int .i64 most] w fun e w' => e = .returned (.int .i64 (hCodeM c0 ts h most)) ∧ Ext w w' := by
  have his : ∀ W, Ext w W → Calls Try.prog 82 #[.agg #[.int .i64 c0, .slice A n c]] W _ := fun W hW => isSet_any c0 A n c ts W (by omega) hl ((hA.ext hW (Nat.le_refl _)).more (hW.below (Nat.le_refl _)).size)
  have HI := Lib.hid his
  clear his hA
  obtain ⟨code, hcode⟩ : ∃ code, hCodeM c0 ts h most = code := ⟨_, rfl⟩
  rw [hcode]
  unfold hCodeM at hcode
  generalize isSet c0 ts = s at HI hcode
  have HC := Lib.hid hcode
  clear hcode
  go_enter Try.func72, Try.ntmps72
  go_wp2_with fail
  refine (HI.out _ ((Ext.refl w).alloc _)).mono ?_
  rintro e w1 ⟨rfl, hx⟩
  have HX := Lib.hid (((Ext.refl w).alloc _).trans hx)
  clear hx HI
  cases s with
  | false =>
    go_wp2_with fail
    go_ret
    exact ⟨by rw [← HC.out]; rfl, HX.out⟩
  | true =>
    by_cases h1 : h < 1
    · go_wp2_with fail
      go_ret
      exact ⟨by have hc := HC.out; rw [if_pos trivial, if_neg (by omega)] at hc; rw [← hc]; rfl, HX.out⟩
    · by_cases h4 : most < h
      · go_wp2_with fail
        go_ret
        exact ⟨by have hc := HC.out; rw [if_pos trivial, if_neg (by omega)] at hc; rw [← hc]; rfl, HX.out⟩
      · go_wp2_with fail
        go_ret
        exact ⟨by have hc := HC.out; rw [if_pos trivial, if_pos (by omega)] at hc; rw [← hc]; rfl, HX.out⟩
theorem checkHeight_any (c0 : Int) (A : Option Addr) (n c : Nat) (ts : List Tl) (h : Int) (w : World) (hn : n ≤ 1048576) (hl : ts.length = n) (hA : TR w w.heap.size A ts) :
    Calls Try.prog 72 #[.agg #[.int .i64 c0, .slice A n c], .int .i64 h, .int .i64 4] w fun e w' => e = .returned (.int .i64 (hCode c0 ts h)) ∧ Ext w w' := checkHeightM_any c0 A n c ts h 4 w hn hl hA
end

section
set_option linter.unusedVariables false
set_option linter.unusedSimpArgs false
open Go.RowKit Go.Sort

theorem flat_at {rs : List (List Int)} {h : Nat} (hr : ∀ r ∈ rs, r.length = h) : ∀ {k j : Nat}, k < rs.length → j < h → rs.flatten.getD (k * h + j) 0 = (rs.getD k []).getD j 0 := by
  induction rs with
  | nil => intro k j hk; simp at hk
  | cons r rs ih =>
    intro k j hk hj
    have hrl := hr r (by simp)
    rw [List.flatten_cons]
    cases k with
    | zero =>
      simp only [Nat.zero_mul, Nat.zero_add, List.getD_cons_zero]
      simp [List.getD, List.getElem?_append_left (show j < r.length by omega)]
    | succ k =>
      simp only [List.getD_cons_succ]
      rw [← ih (fun s hs => hr s (by simp [hs])) (k := k) (by simp at hk; omega) hj]
      have e : (k + 1) * h + j = r.length + (k * h + j) := by rw [hrl, Nat.add_mul]; omega
      rw [e, List.getD, List.getElem?_append_right (by omega), Nat.add_sub_cancel_left]
      rfl
theorem ir_part {w : World} {B b off h k : Nat} {rs : List (List Int)} (hA : IR w B (some ⟨b, off, none⟩) rs.flatten) (hr : ∀ r ∈ rs, r.length = h) (hk : k < rs.length) : IR w B (some ⟨b, off + k * h, none⟩) (rs.getD k []) := fun h0 => by
  have hkl : (rs.getD k []).length = h := hr _ (by simp [List.getD, hk])
  have hfl := flat_len_of hr
  have hm : k * h + h ≤ rs.length * h := by
    have := Nat.mul_le_mul_right h (show k + 1 ≤ rs.length by omega)
    rw [Nat.add_mul] at this
    omega
  obtain ⟨b', off', e, hb, hc⟩ := hA (by omega)
  cases e
  refine ⟨b, off + k * h, rfl, hb, fun j hj => ?_⟩
  rw [hkl] at hj
  rw [← flat_at hr hk hj, Nat.add_assoc]
  exact hc (k * h + j) (by omega)

set_option maxRecDepth 100000 in
set_option maxHeartbeats 2000000 in
theorem cutColumns_any (A : Option Addr) (L c : Nat) (rs : List (List Int)) (h : Nat) (hI : Int) (w : World) (hhI : hI = (h : Int)) (h1 : 1 ≤ h) (hh : h ≤ 4) (hr : ∀ r ∈ rs, r.length = h) (hL : rs.flatten.length = L) (hcap : L ≤ c) (hLs : rs.length ≤ 65536) (hA : IR w w.heap.size A rs.flatten) (lo : Nat) (hlo : lo ≤ w.heap.size) (hAlo : ∀ b o, A = some ⟨b, o, none⟩ → 0 < L → lo ≤ b) :
    Calls Try.prog 139 #[.slice A L c, .int .i64 hI] w fun e w' => ∃ R cap, e = .returned (.slice R rs.length cap) ∧ Below w.heap.size w w' ∧ IRL w' lo R rs := by
  subst hhI
  have HA := Lib.hid hA
  have HR := Lib.hid hr
  have hLm : L = rs.length * h := by rw [← hL]; exact flat_len_of hr
  clear hA hr hL
  have HLM := Lib.hid hLm
  have hL9 : L ≤ 262144 := by rw [hLm]; exact Nat.le_trans (Nat.mul_le_mul hLs hh) (by decide)
  clear hLm
  go_enter Try.func139, Try.ntmps139
  go_wp2_with fail
  go_loopw [5, 6] (fun v ff wr => ∃ k : Nat, k ≤ rs.length ∧ ff = .int .i64 ((k * h : Nat) : Int) ∧ OwnS wr w.heap.size lo v (rs.take k) ∧ Below w.heap.size w wr) (fun _ ff _ => L - (intOf ff).toNat)
  case atStart => exact ⟨0, Nat.zero_le _, by simp, OwnS.nil _ _ _, Below.refl _ _⟩
  case round =>
    obtain ⟨k, hk, rfl, hown, hb⟩ := hrel
    have HO := Lib.hid hown
    have HB := Lib.hid hb
    clear hown hb
    by_cases hlt : k < rs.length
    · have hm : k * h + h ≤ L := by
        have := Nat.mul_le_mul_right h (show k + 1 ≤ rs.length by omega)
        rw [Nat.add_mul, ← HLM.out] at this
        omega
      obtain ⟨b, off, rfl, hbb, -⟩ := HA.out (by rw [flat_len_of HR.out, ← HLM.out]; omega)
      have HP := Lib.hid (ir_part HA.out HR.out hlt)
      have HK := Lib.hid (show (rs.getD k []).length = h from HR.out _ (by simp [List.getD, hlt]))
      have HT := Lib.hid (rtake_snoc rs hlt)
      have HTL := Lib.hid (show (rs.take k).length + 1 ≤ 65537 by rw [List.length_take]; omega)
      have HF := Lib.hid (show (k + 1) * h = k * h + h by rw [Nat.add_mul]; omega)
      obtain ⟨f, hf⟩ : ∃ f, f = k * h := ⟨_, rfl⟩
      rw [← hf] at hm HP HF ⊢
      clear hf
      have hf1 : (f : Int) < (L : Int) := by omega
      have hf2 : f ≤ f + h := by omega
      have hf3 : f + h ≤ c := by omega
      have hw1 : IntKind.i64.wrap ((f : Int) + (h : Int)) = (f : Int) + (h : Int) := IntWalk.i64_in _ (by omega)
      have hf4 : (f : Int) + (h : Int) ≤ (c : Int) := by omega
      have hf5 : (f : Int) ≤ (f : Int) + (h : Int) := by omega
      have hf6 : (0 : Int) ≤ (f : Int) + (h : Int) := by omega
      have hszb := HB.out.size
      go_wp2_with (at_builtin; refine wpList_pushS rfl _ _ rfl w.heap.size lo _ (rs.take k) rfl wr HO.out (((Ext.refl _).alloc _).below (Nat.le_refl _)) wr.heap.size (some ⟨b, off + f, none⟩) h h (rs.getD k []) rfl (heap_alloc_new wr _) ?c1 ?c4 HK.out (Nat.le_refl _) ?c2 ?c3 ?_)
      case c4 => intro c' u' e' _; cases e'; exact hAlo b off rfl (by omega)
      case c1 => exact (rdi_of_ir (HP.out.below HB.out (Nat.le_refl _)) HB.out.size (fun g e => (HO.out.lt e).1)).ext ((Ext.refl _).alloc _)
      case c2 => have := HTL.out; omega
      case c3 => exact hszb
      intro v' w3 hown' hgrow hb3
      have O3 := Lib.hid (show OwnS w3 w.heap.size lo v' (rs.take (k + 1)) by first | exact hown' | (rw [HT.out]; exact hown'))
      have B3 := Lib.hid ((HB.out.alloc hszb _).trans hb3)
      clear hown' hgrow hb3
      go_wp2_with fail
      go_roundw
      case rel => exact ⟨k + 1, by omega, by rw [HF.out]; push_cast; rfl, O3.out, B3.out⟩
      case measure => simp [intOf]; omega
    · have hk2 : k = rs.length := by omega
      obtain ⟨f, hf⟩ : ∃ f, f = k * h := ⟨_, rfl⟩
      rw [← hf]
      have hnl : ¬ (f : Int) < (L : Int) := by rw [hf, hk2, ← HLM.out]; omega
      clear hf
      have HO2 := HO.out
      rw [hk2, List.take_length] at HO2
      obtain ⟨A2, cap2, rfl, hcap2, hir⟩ := HO2.done hlo
      have HI := Lib.hid hir
      clear HO2 hir HO
      go_wp2_with fail
      go_ret
      first | exact ⟨A2, cap2, rfl, HB.out, HI.out⟩ | exact ⟨A2, ⟨cap2, rfl⟩, HB.out, HI.out⟩

theorem IWr.lo_at {w : World} {lo lo' hi : Nat} {A : Option Addr} {xs : List Int} (h : IWr w lo hi A xs) (hl : lo' ≤ lo) : ∀ b o, A = some ⟨b, o, none⟩ → 0 < xs.length → lo' ≤ b := by
  intro b o e h0
  obtain ⟨b', o', _, _, e', h1, _⟩ := h h0
  rw [e] at e'
  cases e'
  omega
set_option maxRecDepth 100000 in
set_option maxHeartbeats 2000000 in
theorem columnsOf_any (c0 : Int) (A : Option Addr) (n c : Nat) (ts : List Tl) (h : Nat) (w : World) (hn : n ≤ 16) (hl : ts.length = n) (hA : TR w w.heap.size A ts) (hh : h ≤ 4) :
    Calls Try.prog 98 #[.agg #[.int .i64 c0, .slice A n c], .int .i64 (h : Int)] w fun e w' => ∃ R cap, e = .returned (.slice R (colsL ts h).length cap) ∧ Below w.heap.size w w' ∧ IRL w' w.heap.size R (colsL ts h) := by
  have HA := Lib.hid hA
  clear hA
  go_enter Try.func98, Try.ntmps98
  go_wp2_with fail
  obtain ⟨W0, hW0⟩ : ∃ W0, (w.alloc (Obj.cells #[.int .i64 c0, .slice A n c] 30)).alloc (Obj.cells #[.slice none 0 0] 42) = W0 := ⟨_, rfl⟩
  have hx0 : Ext w W0 := by rw [← hW0]; exact ((Ext.refl w).alloc _).alloc _
  have hS : Blk W0 w.heap.size 30 #[.int .i64 c0, .slice A n c] := by rw [← hW0]; exact (Blk.new w _ _).ext ((Ext.refl _).alloc _)
  have hR : Blk W0 (w.heap.size + 1) 42 #[.slice none 0 0] := by
    rw [← hW0]
    have := Blk.new (w.alloc (Obj.cells #[.int .i64 c0, .slice A n c] 30)) 42 #[.slice none 0 0]
    simpa using this
  rw [hW0]
  have HX0 := Lib.hid (hx0.below (Nat.le_refl _))
  have HS := Lib.hid hS
  have HR := Lib.hid hR
  clear hx0 hS hR hW0
  go_loopw [5, 9] (fun v ii wr => ∃ (i : Nat) (R : Option Addr) (q : Nat), i ≤ h ∧ ii = .int .i64 i ∧ v = .slice R (colsL ts i).length q ∧ IRL wr w.heap.size R (colsL ts i) ∧ Below W0.heap.size W0 wr) (fun _ ii _ => h - (intOf ii).toNat)
  case atStart =>
    refine ⟨0, _, _, Nat.zero_le _, rfl, rfl, fun _ => ⟨w.heap.size + 1, 0, rfl, by omega, HR.out.lt, fun k hk => ?_⟩, Below.refl _ _⟩
    have hk0 : k = 0 := by simp [colsL] at hk; exact hk
    subst hk0
    exact ⟨none, 0, HR.out.cell 0, Nat.le_refl _, fun h0 => absurd h0 (Nat.lt_irrefl _), fun _ _ _ h0 => absurd h0 (Nat.lt_irrefl _)⟩
  case round =>
    obtain ⟨i, R, q, hi, rfl, rfl, hir, hb⟩ := hrel
    have HI := Lib.hid hir
    have HB := Lib.hid hb
    have hsz := hb.size
    clear hir hb
    by_cases hlt : i < h
    · have hm16 : (colsL ts i).length ≤ 4096 := Nat.le_trans (colsL_16 (by omega) i) (Nat.le_trans (Nat.pow_le_pow_right (by omega) (show i ≤ 3 by omega)) (by decide))
      have hm17 : (colsL ts (i + 1)).length ≤ 65536 := Nat.le_trans (colsL_16 (by omega) (i + 1)) (Nat.le_trans (Nat.pow_le_pow_right (by omega) (show i + 1 ≤ 4 by omega)) (by decide))
      have hat := fun k (hk : k < (colsL ts i).length) => colsL_at ts i hk
      have hll : ∀ W, Below W0.heap.size W0 W → IRR W W.heap.size R (colsL ts i) → Calls Try.prog 140 #[.agg #[.int .i64 c0, .slice A n c], .slice R (colsL ts i).length q] W _ := fun W hW hWR => listLonger_any c0 A n c ts R _ q (colsL ts i) i W hn hl ((HA.out.below (HX0.out.trans (hW.mono HX0.out.size)) (Nat.le_refl _)).more (HX0.out.trans (hW.mono HX0.out.size)).size) hm16 rfl hWR (by omega) hat
      have hcc : ∀ W F cf, (longerL ts (colsL ts i)).flatten.length ≤ cf → IR W W.heap.size F (longerL ts (colsL ts i)).flatten → w.heap.size ≤ W.heap.size → (∀ b o, F = some ⟨b, o, none⟩ → 0 < (longerL ts (colsL ts i)).flatten.length → w.heap.size ≤ b) → Calls Try.prog 139 #[.slice F (longerL ts (colsL ts i)).flatten.length cf, .int .i64 ((i : Int) + 1)] W _ := fun W F cf h1 h2 h3 h5 => cutColumns_any F _ cf (longerL ts (colsL ts i)) (i + 1) ((i : Int) + 1) W (by push_cast; rfl) (by omega) (by omega) (longerL_each (each_take fun k hk => (hat k hk).1)) rfl h1 hm17 h2 w.heap.size h3 h5
      have HE := Lib.hid (show colsL ts (i + 1) = longerL ts (colsL ts i) from rfl)
      have HLL := Lib.hid hll
      have HCC := Lib.hid hcc
      clear hll hcc hm16 hm17 hat
      generalize longerL ts (colsL ts i) = lon at *
      generalize (colsL ts i).length = len at *
      obtain ⟨fl, hfl⟩ : ∃ fl, fl = lon.flatten := ⟨_, rfl⟩
      rw [← hfl] at HLL HCC
      clear hfl
      have r0 := (HS.out.below HB.out HS.out.lt).rd 0 rfl
      have r1 := (HS.out.below HB.out HS.out.lt).rd 1 rfl
      have hlt3 : (i : Int) < (h : Int) := by omega
      have hwi : IntKind.i64.wrap ((i : Int) + 1) = (i : Int) + 1 := IntWalk.i64_in _ (by omega)
      go_wp2_with (first | (go_at_call 140; refine (HLL.out _ HB.out HI.out.irr).mono ?_; rintro e w2 ⟨F, cf, rfl, hcf, hb2, hw2⟩; have K2 := Lib.hid (HB.out.trans (hb2.mono hsz)); have W2 := Lib.hid hw2; clear hb2 hw2) | (go_at_call 139; refine (HCC.out _ _ _ hcf W2.out.ir (Nat.le_trans HX0.out.size K2.out.size) (W2.out.lo_at (Nat.le_trans HX0.out.size hsz))).mono ?_; rintro e w3 ⟨F3, cf3, rfl, hb3, hw3⟩; have K3 := Lib.hid (K2.out.trans (hb3.mono K2.out.size)); have W3 := Lib.hid hw3; clear hb3 hw3))
      go_roundw
      case rel => exact ⟨i + 1, F3, cf3, by omega, by go_num, by rw [HE.out], by rw [HE.out]; exact W3.out, K3.out⟩
      case measure => simp [intOf]; omega
    · obtain rfl : i = h := by omega
      go_wp2_with fail
      go_ret
      exact ⟨R, q, rfl, HX0.out.trans (HB.out.mono HX0.out.size), HI.out⟩
end
end Go.Proofs.Ytleabblnikbmpaa
