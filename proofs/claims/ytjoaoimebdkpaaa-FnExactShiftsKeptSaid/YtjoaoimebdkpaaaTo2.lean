/- Shifted rows: the model's side. -/
import Derived.Test.YtjoaoimebdkpaaaTo0
import Derived.Test.YtjoaoimebdkpaaaAppR
import Derived.Deep.RegionHeld3
import Derived.Lib.Hide
namespace Go.Proofs.Ytjoaoimebdkpaaa
set_option linter.unusedVariables false
set_option linter.unusedSimpArgs false
open Go.RowKit Go.Sort

theorem shift_mod (y a m : Nat) : Int.tmod ((y : Int) + (a : Int)) (m : Int) = (((y + a) % m : Nat) : Int) := by
  rw [Int.tmod_eq_emod_of_nonneg (by omega)]
  simp
theorem vis_take_succ {r : List Int} {x : Nat} (h : x < r.length) : vis (r.take (x + 1)) = vis (r.take x) ++ [vi (r.getD x 0)] := by
  rw [List.take_succ_eq_append_getElem h]
  simp only [vis, List.map_append, List.map_cons, List.map_nil, List.getD, List.getElem?_eq_getElem h, Option.getD_some]
theorem own_ne_low {w : World} {base n size b : Nat} {e : TypeId} {v : Value} {xs : List Value} (h : w.ownsRow base e size v n xs) (hb : b < base) : some b ≠ v.ownBlock := fun e2 => by have := (h.lt b e2.symm).1; omega
theorem rtake_succ {r : List (List Int)} {y : Nat} (h : y < r.length) : r.take (y + 1) = r.take y ++ [r.getD y []] := by
  rw [List.take_succ_eq_append_getElem h]
  simp [List.getD, h]

set_option maxRecDepth 100000 in
set_option maxHeartbeats 4000000 in
theorem l05Shift_any (B : Option Addr) (m d : Nat) (rs : List (List Int)) (wd a b : Nat) (w : World) (hm : 1 ≤ m ∧ m ≤ 8) (hw : 1 ≤ wd ∧ wd ≤ 8) (hlr : rs.length = m) (hwd : ∀ k, k < m → (rs.getD k []).length = wd) (hB : IRR w w.heap.size B rs) (ha : a < m) (hb : b < wd) :
    Calls Try.prog 67 #[.slice B m d, .int .i64 (a : Int), .int .i64 (b : Int)] w fun e w' => ∃ v', e = .returned v' ∧ OwnRR w' w.heap.size v' (shR a b rs) ∧ Below w.heap.size w w' := by
  obtain ⟨hm1, hm8⟩ := hm
  obtain ⟨hw1, hw8⟩ := hw
  obtain ⟨B0, o, rfl, hb0, hcr⟩ := hB (by omega)
  obtain ⟨Q0, q0, hcQ0, -, -⟩ := hcr 0 (by omega)
  rw [hwd 0 (by omega), Nat.add_zero] at hcQ0
  have hsl := shR_len a b rs
  rw [hlr] at hsl
  have hrow : ∀ y, y < m → (shR a b rs).getD y [] = rot b (rs.getD ((y + a) % m) []) := fun y hy => by
    have := shR_row (y := y) b (rs := rs) (a := a) (by omega) (by omega)
    rw [hlr] at this
    exact this
  generalize shR a b rs = ss at *
  have HSL := Lib.hid hsl
  have HROW := Lib.hid hrow
  have HWD := Lib.hid hwd
  have HCR := Lib.hid hcr
  have hmi : (0 : Int) < (m : Int) := by omega
  have hmn : 0 < m := by omega
  clear hsl hrow hwd hcr
  go_enter Try.func67, Try.ntmps67
  go_wp2_with fail
  go_region_held3 (fun w' => w'.cell? ⟨B0, o, none⟩ = some (.slice Q0 wd q0))
    (first | go_keep | exact hcQ0 | exact (cell?_alloc_old _ _ _ hb0).trans hcQ0)
    (fail)
  have hx1 : Ext w ((w.alloc (Obj.cells #[] 51)).drew) := ((Ext.refl w).alloc _).drew
  have ho1 := (OwnRR.made w w.heap.size (Nat.le_refl _)).ext ((Ext.refl _).drew)
  have HX1 := Lib.hid hx1
  have HO1 := Lib.hid ho1
  clear hx1 ho1 hcQ0
  go_wp2_with fail
  go_loopw [9, 10] (fun v i wr => ∃ y : Nat, y ≤ m ∧ i = .int .i64 y ∧ OwnRR wr w.heap.size v (ss.take y) ∧ Below w.heap.size w wr) (fun _ i _ => m - (intOf i).toNat)
  case atStart => exact ⟨0, Nat.zero_le _, rfl, HO1.out, HX1.out.below (Nat.le_refl _)⟩
  case round =>
    clear HX1 HO1
    obtain ⟨y, hy, rfl, hown, hbw⟩ := hrel
    have HOW := Lib.hid hown
    have HBW := Lib.hid hbw
    have hszw := hbw.size
    clear hown hbw
    by_cases hlt : y < m
    · have hr9 := HROW.out y hlt
      have hml : (y + a) % m < m := Nat.mod_lt _ (by omega)
      obtain ⟨Q, q, hcQ, hqq, hir⟩ := HCR.out ((y + a) % m) (by omega)
      have hwq := HWD.out _ hml
      rw [hwq] at hcQ
      have hlq : (rot b (rs.getD ((y + a) % m) [])).length = wd := by rw [rot_len, hwq]
      have hrt : ∀ x, x < wd → (ss.getD y []).getD x 0 = (rs.getD ((y + a) % m) []).getD ((x + b) % wd) 0 := fun x hx => by rw [hr9, rot_at 0 (by omega) (by omega), hwq]
      have hls : (ss.getD y []).length = wd := by rw [hr9]; exact hlq
      have hmd := shift_mod y a m
      generalize hMY : (y + a) % m = my at *
      generalize hRW : ss.getD y [] = row at *
      have hwr1 : IntKind.i64.wrap ((y : Int) + (a : Int)) = (y : Int) + (a : Int) := IntWalk.i64_in _ (by omega)
      have hwr2 : IntKind.i64.wrap (my : Int) = (my : Int) := IntWalk.i64_in _ (by omega)
      have hm0 : ¬ (m : Int) = 0 := by omega
      have HRT := Lib.hid hrt
      have HLS := Lib.hid hls
      have HRW := Lib.hid hRW
      clear hr9 hlq hwq hrt hls hRW hMY
      obtain ⟨bq, oq, rfl, hbq, hcq⟩ : ∃ bq oq, Q = some ⟨bq, oq, none⟩ ∧ bq < w.heap.size ∧ ∀ k, k < wd → w.cell? ⟨bq, oq + k, none⟩ = some (.int .i64 ((rs.getD my []).getD k 0)) := by
        have h1 := HWD.out my (by omega)
        obtain ⟨bq, oq, e, h2, h3⟩ := hir (by omega)
        exact ⟨bq, oq, e, h2, fun k hk => h3 k (by omega)⟩
      have HCQ := Lib.hid hcq
      clear hcq hir
      go_wp2_with fail
      obtain ⟨wo, rfl⟩ : ∃ wo : World, wo = wr := ⟨_, rfl⟩
      go_loopw [11, 12] (fun v i wr => ∃ x : Nat, x ≤ wd ∧ i = .int .i64 x ∧ wr.ownsRow wo.heap.size 2 1 v x (vis (row.take x)) ∧ Below wo.heap.size wo wr) (fun _ i _ => wd - (intOf i).toNat)
      case atStart => exact ⟨0, Nat.zero_le _, rfl, show _ from World.ownsRow_made (base := wo.heap.size) (e := 2) (size := 1) wo #[] 0 (Nat.le_refl _) (by unfold maxLen; omega) rfl, (Below.refl _ _).alloc (Nat.le_refl _) _⟩
      case round =>
        obtain ⟨x, hx, rfl, hown, hbi⟩ := hrel
        have HON := Lib.hid hown
        have HBI := Lib.hid hbi
        have hszi := hbi.size
        clear hown hbi
        by_cases hlx : x < wd
        · have hb2 := HBW.out.trans (HBI.out.mono hszw)
          have hmd2 := shift_mod x b wd
          have hmx : (x + b) % wd < wd := Nat.mod_lt _ (by omega)
          have hz := HRT.out x hlx
          generalize hMX : (x + b) % wd = mx at *
          have e1 := (hb2.cell (p := ⟨B0, o + my, none⟩) hb0).trans hcQ
          have e2 := (hb2.cell (p := ⟨bq, oq + mx, none⟩) hbq).trans (HCQ.out mx hmx)
          rw [← hz] at e2
          have hvs := vis_take_succ (r := row) (x := x) (by rw [HLS.out]; omega)
          generalize row.getD x 0 = z at e2 hvs
          have HVS := Lib.hid hvs
          have hwr3 : IntKind.i64.wrap ((x : Int) + (b : Int)) = (x : Int) + (b : Int) := IntWalk.i64_in _ (by omega)
          have hwr4 : IntKind.i64.wrap (mx : Int) = (mx : Int) := IntWalk.i64_in _ (by omega)
          have hw0 : ¬ (wd : Int) = 0 := by omega
          have n1 := own_ne_low HON.out (b := B0) (by omega)
          have n2 := own_ne_low HON.out (b := bq) (by omega)
          have hw0n : ¬ wd = 0 := by omega
          have hm0n : ¬ m = 0 := by omega
          have NN := Lib.hid (And.intro n1 n2)
          clear n1 n2 hvs hz hMX hb2
          go_wp2_with fail
          go_region_held3 (fun w' => w'.cell? ⟨B0, o + my, none⟩ = some (.slice (some ⟨bq, oq, none⟩) wd q) ∧ w'.cell? ⟨bq, oq + mx, none⟩ = some (.int .i64 z))
            (first | go_keep | exact ⟨hgrow3.cell (by go_simp) NN.out.1, hgrow3.cell (by go_simp) NN.out.2⟩)
            (first | (refine step_push (by rfl) _ _ (by rfl) wo.heap.size _ x _ (by rfl) (iown_ext HON.out (((Ext.refl wr).alloc _).drew)) wr.heap.size z (by rfl) (heap_alloc_new wr _) (by unfold maxLen; omega) (by omega) (by simp; omega) ?_; intro v3 w3 hown3 hgrow3 hat3))
          have hx3 := ((Ext.refl wr).alloc (Obj.cells #[.int .i64 z] 2)).drew
          rw [← HVS.out] at hown3
          have N1 := Lib.hid hown3
          have N2 := Lib.hid (HBI.out.trans ((hx3.below (B := wo.heap.size) hszi).grown hgrow3 (Nat.le_trans hszi (hx3.below (Nat.le_refl _)).size) (fun g hg => (HON.out.lt g hg).1)))
          clear hx3 hown3 hgrow3 hat3 e1 e2 hmd2
          go_wp2_with fail
          go_roundw
          case rel => first | exact ⟨x + 1, by omega, by go_num, N1.out, N2.out⟩ | ((repeat apply Exists.intro); exact ⟨⟨x + 1, by omega, by go_num, N1.out, N2.out⟩, rfl⟩)
          case measure => simp [intOf]; omega
        · obtain rfl : x = wd := by omega
          have hown := HON.out
          rw [List.take_of_length_le (by rw [HLS.out]; exact Nat.le_refl _)] at hown
          obtain ⟨A2, cap2, rfl, hcap, htw⟩ := own_iwr hown HLS.out
          have HT := Lib.hid htw
          clear hown htw HON
          go_wp2_with (at_builtin; refine wpList_pushR rfl _ _ rfl w.heap.size _ (ss.take y) rfl wo HOW.out (HBI.out.alloc hszi _) wr.heap.size A2 x cap2 row rfl (heap_alloc_new wr _) ((HT.out.ext ((Ext.refl _).alloc _)).up (by simp)) HLS.out hcap (by simp; omega) hszw ?_)
          intro v' w' h1 h2 h3 h4
          have hst : ss.take (y + 1) = ss.take y ++ [row] := by rw [rtake_succ (by rw [HSL.out]; omega), HRW.out]
          rw [← hst] at h1
          have N1 := Lib.hid h1
          have N2 := Lib.hid (HBW.out.trans ((HBI.out.mono hszw).trans ((((Ext.refl wr).alloc _).below (Nat.le_trans hszw hszi)).trans h4)))
          clear h1 h2 h3 h4 hst
          go_wp2_with fail
          go_roundw
          case rel => first | exact ⟨y + 1, by omega, by go_num, N1.out, N2.out⟩ | ((repeat apply Exists.intro); exact ⟨⟨y + 1, by omega, by go_num, N1.out, N2.out⟩, rfl⟩)
          case measure => simp [intOf]; omega
    · obtain rfl : y = m := by omega
      have hown := HOW.out
      rw [List.take_of_length_le (by rw [HSL.out]; exact Nat.le_refl _)] at hown
      have HO2 := Lib.hid hown
      clear hown
      go_wp2_with fail
      go_ret
      exact ⟨_, rfl, HO2.out, HBW.out⟩
end Go.Proofs.Ytjoaoimebdkpaaa
