/- Columns: they are listed and cut; the program's side. -/
import Derived.Test.YtblcghefnikmeaaGc0
import Derived.Test.YtblcghefnikmeaaGc2
import Derived.Lib.Hide
import Derived.Outline
namespace Go.Proofs.Ytblcghefnikmeaa
set_option linter.unusedVariables false
set_option linter.unusedSimpArgs false
open Go.RowKit Go.Sort

theorem upTo_at {n k : Nat} (hk : k < n) : (upTo n).getD k 0 = (k : Int) := by simp [upTo, List.getD, hk]
theorem flat_len_of {rs : List (List Int)} {k : Nat} (h : ∀ r ∈ rs, r.length = k) : rs.flatten.length = rs.length * k := by
  induction rs with
  | nil => simp
  | cons r rs ih =>
    rw [List.flatten_cons, List.length_append, ih fun s hs => h s (by simp [hs]), h r (by simp), List.length_cons, Nat.add_mul]
    omega
theorem extC_each {ts : List Tl} {col : List Int} {k h : Nat} (hc : col.length = h) : ∀ r ∈ extC ts col k, r.length = h + 1 := by
  intro r hr
  obtain ⟨j, -, -, rfl⟩ := mem_extC.1 hr
  simp [hc]
theorem longerL_each {ts : List Tl} {cols : List (List Int)} {h : Nat} (hc : ∀ r ∈ cols, r.length = h) : ∀ r ∈ longerL ts cols, r.length = h + 1 := by
  intro r hr
  simp only [longerL, List.mem_flatMap] at hr
  obtain ⟨col, h1, h2⟩ := hr
  exact extC_each (hc col h1) r h2
theorem each_take {cols : List (List Int)} {h : Nat} (hc : ∀ k, k < cols.length → (cols.getD k []).length = h) : ∀ r ∈ cols, r.length = h := by
  intro r hr
  obtain ⟨k, hk, rfl⟩ := List.getElem_of_mem hr
  have := hc k hk
  rwa [show cols.getD k [] = cols[k] by simp [List.getD, hk]] at this

set_option maxRecDepth 100000 in
set_option maxHeartbeats 4000000 in
theorem listLonger_any (c0 : Int) (A : Option Addr) (n c : Nat) (ts : List Tl) (R : Option Addr) (m q : Nat) (cols : List (List Int)) (h : Nat) (w : World) (hn : n ≤ 16) (hl : ts.length = n) (hA : TR w w.heap.size A ts) (hm : m ≤ 4096) (hlc : cols.length = m) (hR : IRR w w.heap.size R cols) (hh : h ≤ 3) (hcol : ∀ k, k < m → (cols.getD k []).length = h ∧ allT ts (cols.getD k []) = true) :
    Calls Try.prog 136 #[.agg #[.int .i64 c0, .slice A n c], .slice R m q] w fun e w' => ∃ A' cap, e = .returned (.slice A' (longerL ts cols).flatten.length cap) ∧ (longerL ts cols).flatten.length ≤ cap ∧ Below w.heap.size w w' ∧ IWr w' w.heap.size w'.heap.size A' (longerL ts cols).flatten := by
  have HA := Lib.hid hA
  have HR := Lib.hid hR
  have HC := Lib.hid hcol
  have heach := each_take (cols := cols) (h := h) fun k hk => (hcol k (by omega)).1
  have HEA := Lib.hid heach
  clear hA hR hcol heach
  go_enter Try.func136, Try.ntmps136
  go_wp2_with fail
  have HX0 := Lib.hid ((Ext.refl w).alloc (Obj.cells #[.int .i64 c0, .slice A n c] 30))
  have HS0 := Lib.hid (Blk.new w 30 #[.int .i64 c0, .slice A n c])
  have hsz0 : w.heap.size ≤ (w.alloc (Obj.cells #[.int .i64 c0, .slice A n c] 30)).heap.size := by simp
  generalize w.alloc (Obj.cells #[.int .i64 c0, .slice A n c] 30) = W0 at *
  go_loopw [5, 12] (fun v ii wr => ∃ i : Nat, i ≤ m ∧ ii = .int .i64 i ∧ wr.ownsRow W0.heap.size 2 1 v (longerL ts (cols.take i)).flatten.length (vis (longerL ts (cols.take i)).flatten) ∧ Below W0.heap.size W0 wr) (fun _ ii _ => m - (intOf ii).toNat)
  case atStart => exact ⟨0, Nat.zero_le _, rfl, World.ownsRow_nil _ _ _ _, Below.refl _ _⟩
  case round =>
    obtain ⟨i, hi, rfl, hown, hb⟩ := hrel
    have HO := Lib.hid hown
    have HB := Lib.hid hb
    have hbw := (HX0.out.below (Nat.le_refl _)).trans (hb.mono (by omega : w.heap.size ≤ W0.heap.size))
    have HBW := Lib.hid hbw
    have hszw := hb.size
    by_cases hlt : i < m
    · obtain ⟨bR, oR, rfl, hbR, hcR⟩ := HR.out (by omega)
      obtain ⟨Q, qc, e1, hq, hQ⟩ := hcR i (by omega)
      replace e1 := (hbw.cell (p := ⟨bR, oR + i, none⟩) hbR).trans e1
      obtain ⟨hcl, hca⟩ := HC.out i hlt
      have hls := longerL_succ ts cols (i := i) (by omega)
      have hpre := longerL_pre_len ts cols i
      have hfl : (longerL ts (cols.take i)).flatten.length = (longerL ts (cols.take i)).length * (h + 1) := flat_len_of (longerL_each fun r hr => HEA.out r (List.mem_of_mem_take hr))
      have hmul1 : i * ts.length ≤ 4096 * 16 := Nat.mul_le_mul (by omega) (by omega)
      have hmul2 : (longerL ts (cols.take i)).length * (h + 1) ≤ 65536 * 4 := Nat.mul_le_mul (by omega) (by omega)
      have hL1 : (longerL ts (cols.take i)).flatten.length ≤ 262144 := by omega
      have HL1 := Lib.hid hL1
      generalize cols.getD i [] = col at *
      have HLS := Lib.hid (show (longerL ts (cols.take (i + 1))).flatten = (longerL ts (cols.take i)).flatten ++ (extC ts col n).flatten by rw [hls, List.flatten_append, hl])
      clear hls hpre hfl hmul1 hmul2 hL1
      generalize (longerL ts (cols.take i)).flatten = L at *
      rw [hcl] at e1 hq
      have HQ := Lib.hid hQ
      have HCA := Lib.hid hca
      have HCL := Lib.hid hcl
      have r0 := (HS0.out.below hb HS0.out.lt).rd 0 rfl
      have r1 := (HS0.out.below hb HS0.out.lt).rd 1 rfl
      have hlt3 : (i : Int) < (m : Int) := by omega
      clear hown hb hbw hcR hQ hca hcl
      go_wp2_with (go_at_call 130; refine (tileNumbers_any c0 A n c _ (by omega)).mono ?_; rintro e w2 ⟨X, cx, rfl, hb2, hx2⟩)
      have HO2 := Lib.hid (own_belowA HO.out hb2)
      have HRX := Lib.hid (rdi_of_iwr (v := _) hx2 (fun g e => (HO.out.lt g e).2))
      have HB2 := Lib.hid (HB.out.trans (hb2.mono (by omega : W0.heap.size ≤ wr.heap.size)))
      clear hb2 hx2 HO r0 r1 e1
      have hlo2 : W0.heap.size ≤ w2.heap.size := HB2.out.size
      clear hszw HB HBW
      obtain ⟨WR, hWR⟩ : ∃ W1, W1 = wr := ⟨_, rfl⟩
      subst hWR
      go_loopw [5, 19] (fun v kk wr => ∃ k : Nat, k ≤ n ∧ kk = .int .i64 k ∧ wr.ownsRow W0.heap.size 2 1 v (L ++ (extC ts col k).flatten).length (vis (L ++ (extC ts col k).flatten)) ∧ Below W0.heap.size W0 wr ∧ RdI wr v X (upTo n)) (fun _ kk _ => n - (intOf kk).toNat)
      case atStart => exact ⟨0, Nat.zero_le _, rfl, by simpa [extC_zero] using HO2.out, HB2.out, HRX.out⟩
      case round =>
        obtain ⟨k, hk, rfl, hown, hb, hrx⟩ := hrel
        have HO := Lib.hid hown
        have HB := Lib.hid hb
        have HX := Lib.hid hrx
        have hszk := hb.size
        have hbw := (HX0.out.below (Nat.le_refl _)).trans (hb.mono (by omega : w.heap.size ≤ W0.heap.size))
        have HBK := Lib.hid hbw
        by_cases hltk : k < n
        · obtain ⟨bx, ox, rfl, hbx, hnx, hcx⟩ := hrx (by rw [upTo_len]; omega)
          have q1 := hcx k (by rw [upTo_len]; omega)
          rw [upTo_at hltk] at q1
          have hfl : (extC ts col k).flatten.length = (extC ts col k).length * (h + 1) := flat_len_of (extC_each HCL.out)
          have hel := extC_len ts col k
          have hmul : (extC ts col k).length * (h + 1) ≤ 16 * 4 := Nat.mul_le_mul (by omega) (by omega)
          have HLEN := Lib.hid (show (L ++ (extC ts col k).flatten).length ≤ 262144 + 64 by rw [List.length_append]; have := HL1.out; omega)
          have HY := Lib.hid (fun h => congrArg List.flatten (extC_yes (ts := ts) (col := col) (k := k) h))
          have HN := Lib.hid (fun h => congrArg List.flatten (extC_no (ts := ts) (col := col) (k := k) h))
          have HS := Lib.hid (HS0.out.below HB.out HS0.out.lt)
          have hltk3 : (k : Int) < (n : Int) := by omega
          clear hown hb hrx hcx hfl hel hmul hbw
          by_cases h0 : h = 0
          · subst h0
            have hok : okBelow ts col k = true := by simp [okBelow, HCL.out]
            have HAP := Lib.hid (HY.out hok)
            clear hok
            have s0 := fun q os => HS.out.grown q os 0 (v := .int .i64 c0) rfl
            have s1 := fun q os => HS.out.grown q os 1 (v := .slice A n c) rfl
            go_wp2_with fail
            refine wp_region_quiet_grown mixed (by kernel_rfl) ?_
            repeat (go_big_quiet_step ((fail)))
            refine wpQuiet_nil ?_
            intro _ hw'
            obtain ⟨⟨nq, osq⟩, hw''⟩ := hw'
            subst hw''
            clear s0 s1
            have hxx : Ext wr (grow (wr.drewN nq) osq) := ⟨nq, osq, rfl⟩
            have O4 := Lib.hid (HO.out |> fun h => own_belowA h (hxx.below (Nat.le_refl _)))
            have B4 := Lib.hid (HB.out.trans (hxx.below (by omega)))
            have X4 := Lib.hid (HX.out.ext hxx)
            have BK4 := Lib.hid (HBK.out.trans (hxx.below (by have := HBK.out.size; omega)))
            have hsz4 := (hxx.below (Nat.le_refl _)).size
            generalize grow (wr.drewN nq) osq = w4 at *
            obtain ⟨LX, hLX⟩ : ∃ LX, LX = L ++ (extC ts col k).flatten := ⟨_, rfl⟩
            rw [← hLX] at O4 HLEN
            have HLX := Lib.hid (show L ++ (extC ts col (k + 1)).flatten = (LX ++ col) ++ [(k : Int)] by rw [HAP.out, hLX]; simp)
            clear hLX
            go_wp2_with (at_builtin; refine wpList_appI rfl _ _ rfl W0.heap.size _ LX rfl O4.out _ _ _ col rfl ((HQ.out.below BK4.out (Nat.le_refl _)).more BK4.out.size) HCL.out ?c1 ?c2 ?_)
            case c1 => have := HLEN.out; omega
            case c2 => omega
            intro v5 w5 ho5 hg5 ha5
            obtain ⟨LY, hLY⟩ : ∃ LY, LY = LX ++ col := ⟨_, rfl⟩
            have O5 := Lib.hid (show w5.ownsRow W0.heap.size 2 1 v5 LY.length (vis LY) by rw [hLY]; simpa using ho5)
            have HLY := Lib.hid (show LY.length ≤ 262144 + 64 + 3 by rw [hLY, List.length_append]; have := HLEN.out; have := HCL.out; omega)
            rw [← hLY] at HLX
            have B5 := Lib.hid (B4.out.grown hg5 (by omega) (fun j hj => (O4.out.lt j hj).1))
            have X5 := Lib.hid (X4.out.grown hg5 ha5)
            have hsz5 := hg5.size
            clear ho5 hg5 ha5 hLY
            go_wp2_with (at_builtin; refine wpList_push1 rfl _ _ rfl W0.heap.size v5 LY rfl (own_belowA O5.out (((Ext.refl _).alloc _).below (Nat.le_refl _))) w5.heap.size (k : Int) rfl (heap_alloc_new w5 _) ?c3 ?c4 ?_)
            case c3 => have := HLY.out; omega
            case c4 => simp; omega
            intro v6 w6 ho6 hg6 ha6
            have O6 := Lib.hid (show w6.ownsRow W0.heap.size 2 1 v6 (L ++ (extC ts col (k + 1)).flatten).length (vis (L ++ (extC ts col (k + 1)).flatten)) by rw [HLX.out]; simpa using ho6)
            have B6 := Lib.hid ((B5.out.alloc (by omega) _).grown hg6 (by simp; omega) (fun j hj => (O5.out.lt j hj).1))
            have X6 := Lib.hid ((X5.out.ext ((Ext.refl _).alloc _)).grown hg6 (by simpa using ha6))
            clear ho6 hg6 ha6
            go_wp2_with fail
            go_roundw
            case rel => first | exact ⟨k + 1, by omega, by go_num, O6.out, B6.out, X6.out⟩ | ((repeat apply Exists.intro); exact ⟨⟨k + 1, by omega, by go_num, O6.out, B6.out, X6.out⟩, rfl⟩)
            case measure => simp [intOf]; omega
          · obtain ⟨h', rfl⟩ : ∃ h', h = h' + 1 := ⟨h - 1, by omega⟩
            obtain ⟨bq, oq, rfl, hbq, hcq⟩ := (HQ.out.below HBK.out (Nat.le_refl _)) (by rw [HCL.out]; omega)
            have q2 := hcq h' (by rw [HCL.out]; omega)
            have hin := allT_in HCA.out (k := h') (by rw [HCL.out]; omega)
            simp only [inT, decide_eq_true_eq, hl] at hin
            have hok : okBelow ts col k = decide ((tnum ts col h').2.2.2 = (ts.getD k T0).2.1) := by simp [okBelow, HCL.out]
            unfold tnum at hok
            generalize col.getD h' 0 = y at *
            obtain ⟨j, rfl⟩ : ∃ j : Nat, y = (j : Int) := ⟨y.toNat, by omega⟩
            rw [Int.toNat_natCast] at hok
            have hfit : ∀ W, Ext wr W → Calls Try.prog 164 #[.agg #[.int .i64 c0, .slice A n c], .int .i64 (j : Int), .int .i64 3, .int .i64 (k : Int)] W _ := fun W hW => fits_below c0 A n c ts j k W (by omega) hl (by omega) (by omega) (((HA.out.below HBK.out (Nat.le_refl _)).ext hW (by have := HBK.out.size; omega)).more (by have := HBK.out.size; have := (hW.below (Nat.le_refl _)).size; omega))
            rw [← hok] at hfit
            have hwh : IntKind.i64.wrap (h' : Int) = (h' : Int) := IntWalk.i64_in _ (by omega)
            have hq0 : (((h' : Int) + 1) == 0) = false := by rw [beq_eq_false_iff_ne]; omega
            clear hcq hin hok
            cases hr : okBelow ts col k with
            | true =>
              rw [hr] at hfit
              have HF := Lib.hid hfit
              unfold Ext at HF
              have HAP := Lib.hid (HY.out hr)
              clear hr hfit
              have s0 := fun q os => HS.out.grown q os 0 (v := .int .i64 c0) rfl
              have s1 := fun q os => HS.out.grown q os 1 (v := .slice A n c) rfl
              have g2 := fun dn os => (cell?_grow (wr.drewN dn) os ⟨bq, oq + h', none⟩ (by have := World.block_lt_of_cell? wr _ q2; exact this)).trans q2
              go_wp2_with fail
              refine wp_region_quiet_grown mixed (by kernel_rfl) ?_
              repeat (go_big_quiet_step ((first | (go_at_call 164; with_reducible refine Calls.grown_of (HF.out _ ⟨_, _, rfl⟩)))))
              refine wpQuiet_nil ?_
              intro _ hw'
              obtain ⟨⟨nq, osq⟩, hw''⟩ := hw'
              subst hw''
              clear s0 s1 g2
              have hxx : Ext wr (grow (wr.drewN nq) osq) := ⟨nq, osq, rfl⟩
              have O4 := Lib.hid (HO.out |> fun h => own_belowA h (hxx.below (Nat.le_refl _)))
              have B4 := Lib.hid (HB.out.trans (hxx.below (by omega)))
              have X4 := Lib.hid (HX.out.ext hxx)
              have BK4 := Lib.hid (HBK.out.trans (hxx.below (by have := HBK.out.size; omega)))
              have hsz4 := (hxx.below (Nat.le_refl _)).size
              generalize grow (wr.drewN nq) osq = w4 at *
              obtain ⟨LX, hLX⟩ : ∃ LX, LX = L ++ (extC ts col k).flatten := ⟨_, rfl⟩
              rw [← hLX] at O4 HLEN
              have HLX := Lib.hid (show L ++ (extC ts col (k + 1)).flatten = (LX ++ col) ++ [(k : Int)] by rw [HAP.out, hLX]; simp)
              clear hLX
              go_wp2_with (at_builtin; refine wpList_appI rfl _ _ rfl W0.heap.size _ LX rfl O4.out _ _ _ col rfl ((HQ.out.below BK4.out (Nat.le_refl _)).more BK4.out.size) HCL.out ?c1 ?c2 ?_)
              case c1 => have := HLEN.out; omega
              case c2 => omega
              intro v5 w5 ho5 hg5 ha5
              obtain ⟨LY, hLY⟩ : ∃ LY, LY = LX ++ col := ⟨_, rfl⟩
              have O5 := Lib.hid (show w5.ownsRow W0.heap.size 2 1 v5 LY.length (vis LY) by rw [hLY]; simpa using ho5)
              have HLY := Lib.hid (show LY.length ≤ 262144 + 64 + 3 by rw [hLY, List.length_append]; have := HLEN.out; have := HCL.out; omega)
              rw [← hLY] at HLX
              have B5 := Lib.hid (B4.out.grown hg5 (by omega) (fun j hj => (O4.out.lt j hj).1))
              have X5 := Lib.hid (X4.out.grown hg5 ha5)
              have hsz5 := hg5.size
              clear ho5 hg5 ha5 hLY
              go_wp2_with (at_builtin; refine wpList_push1 rfl _ _ rfl W0.heap.size v5 LY rfl (own_belowA O5.out (((Ext.refl _).alloc _).below (Nat.le_refl _))) w5.heap.size (k : Int) rfl (heap_alloc_new w5 _) ?c3 ?c4 ?_)
              case c3 => have := HLY.out; omega
              case c4 => simp; omega
              intro v6 w6 ho6 hg6 ha6
              have O6 := Lib.hid (show w6.ownsRow W0.heap.size 2 1 v6 (L ++ (extC ts col (k + 1)).flatten).length (vis (L ++ (extC ts col (k + 1)).flatten)) by rw [HLX.out]; simpa using ho6)
              have B6 := Lib.hid ((B5.out.alloc (by omega) _).grown hg6 (by simp; omega) (fun j hj => (O5.out.lt j hj).1))
              have X6 := Lib.hid ((X5.out.ext ((Ext.refl _).alloc _)).grown hg6 (by simpa using ha6))
              clear ho6 hg6 ha6
              go_wp2_with fail
              go_roundw
              case rel => first | exact ⟨k + 1, by omega, by go_num, O6.out, B6.out, X6.out⟩ | ((repeat apply Exists.intro); exact ⟨⟨k + 1, by omega, by go_num, O6.out, B6.out, X6.out⟩, rfl⟩)
              case measure => simp [intOf]; omega
            | false =>
              rw [hr] at hfit
              have HF := Lib.hid hfit
              unfold Ext at HF
              have HAP := Lib.hid (HN.out hr)
              clear hr hfit
              have s0 := fun q os => HS.out.grown q os 0 (v := .int .i64 c0) rfl
              have s1 := fun q os => HS.out.grown q os 1 (v := .slice A n c) rfl
              have g2 := fun dn os => (cell?_grow (wr.drewN dn) os ⟨bq, oq + h', none⟩ (by have := World.block_lt_of_cell? wr _ q2; exact this)).trans q2
              go_wp2_with fail
              refine wp_region_quiet_grown mixed (by kernel_rfl) ?_
              repeat (go_big_quiet_step ((first | (go_at_call 164; with_reducible refine Calls.grown_of (HF.out _ ⟨_, _, rfl⟩)))))
              refine wpQuiet_nil ?_
              intro _ hw'
              obtain ⟨⟨nq, osq⟩, hw''⟩ := hw'
              subst hw''
              clear s0 s1 g2
              have hxx : Ext wr (grow (wr.drewN nq) osq) := ⟨nq, osq, rfl⟩
              have O4 := Lib.hid (HO.out |> fun h => own_belowA h (hxx.below (Nat.le_refl _)))
              have B4 := Lib.hid (HB.out.trans (hxx.below (by omega)))
              have X4 := Lib.hid (HX.out.ext hxx)
              clear hxx
              go_wp2_with fail
              go_roundw
              case rel => first | exact ⟨k + 1, by omega, by go_num, by rw [HAP.out]; exact O4.out, B4.out, X4.out⟩ | ((repeat apply Exists.intro); exact ⟨⟨k + 1, by omega, by go_num, by rw [HAP.out]; exact O4.out, B4.out, X4.out⟩, rfl⟩)
              case measure => simp [intOf]; omega
        · obtain rfl : k = n := by omega
          have HO5 := Lib.hid (show wr.ownsRow W0.heap.size 2 1 _ (longerL ts (cols.take (i + 1))).flatten.length (vis (longerL ts (cols.take (i + 1))).flatten) by rw [HLS.out]; exact hown)
          clear hown hb hrx hbw
          go_wp2_with fail
          go_roundw
          case rel => first | exact ⟨i + 1, by omega, by go_num, HO5.out, HB.out⟩ | ((repeat apply Exists.intro); exact ⟨⟨i + 1, by omega, by go_num, HO5.out, HB.out⟩, rfl⟩)
          case measure => simp [intOf]; omega
    · obtain rfl : i = m := by omega
      have hown := HO.out
      rw [← hlc, List.take_length] at hown
      obtain ⟨A2, cap2, rfl, hcap, htw⟩ := own_iwr hown rfl
      have HT := Lib.hid htw
      clear hown htw HO hb hbw
      go_wp2_with fail
      go_ret
      exact ⟨A2, cap2, rfl, hcap, HBW.out, HT.out.low (by omega)⟩
end Go.Proofs.Ytblcghefnikmeaa
