/- Lists of rows compared, on both sides. -/
import Derived.Test.YtjoaoimebdkpaaaSh1
import Derived.Deep.RegionHeld3
namespace Go.Proofs.Ytjoaoimebdkpaaa
set_option linter.unusedVariables false
set_option linter.unusedSimpArgs false
open Go.RowKit Go.Sort

set_option maxRecDepth 100000 in
set_option maxHeartbeats 4000000 in
theorem compareF_any (A A' : Option Addr) (m c c' : Nat) (rs us : List (List Int)) (w : World) (hm : m ≤ 1048576) (hl : rs.length = m) (hl' : us.length = m) (hr : ∀ k, k < m → (rs.getD k []).length ≤ 1048576) (hr' : ∀ k, k < m → (us.getD k []).length ≤ 1048576) (hA : IRR w w.heap.size A rs) (hA' : IRR w w.heap.size A' us) :
    Calls Try.prog 163 #[.slice A m c, .slice A' m c', .func (.func 104) #[] #[]] w fun e w' => e = .returned (.int .i64 (cmpLL rs us)) ∧ w' = w := by
  generalize hR : cmpLL rs us = R
  have HR := Lib.hid hR
  clear hR
  go_enter Try.func163, Try.ntmps163
  go_wp2_with fail
  go_loop [13] (fun i => ∃ k : Nat, k ≤ m ∧ i = .int .i64 k ∧ (∀ j, j < k → rs.getD j [] = us.getD j [])) (fun i => m - (intOf i).toNat)
  case atStart => exact ⟨0, Nat.zero_le _, rfl, fun j hj => absurd hj (Nat.not_lt_zero _)⟩
  case round =>
    obtain ⟨k, hk, rfl, heq⟩ := hrel
    have H := Lib.hid heq
    clear heq
    by_cases hlt : k < m
    · obtain ⟨b, o, rfl, -, hc⟩ := hA (by omega)
      obtain ⟨b', o', rfl, -, hc'⟩ := hA' (by omega)
      obtain ⟨Q, q, e1, -, hi⟩ := hc k (by omega)
      obtain ⟨Q', q', e1', -, hi'⟩ := hc' k (by omega)
      have hcon := fun W (hW : W = w) => compareR_any Q Q' (rs.getD k []).length (us.getD k []).length q q' (rs.getD k []) (us.getD k []) W (by have := hr k hlt; omega) (by have := hr' k hlt; omega) rfl rfl (by rw [hW]; exact hi) (by rw [hW]; exact hi')
      have hz : cmpL (rs.getD k []) (us.getD k []) ≠ 0 → cmpLL rs us = cmpL (rs.getD k []) (us.getD k []) := fun hne => cmpLL_at (by omega) (by omega) H.out hne
      have hz0 : cmpL (rs.getD k []) (us.getD k []) = 0 → rs.getD k [] = us.getD k [] := cmpL_zero.1
      rw [HR.out] at hz
      have hg : decide ((m : Int) ≤ (k : Int)) = false := by simp; omega
      have HZ0 := Lib.hid hz0
      have HZ := Lib.hid hz
      clear hz hz0 hc hc' hA hA' hr hr' hi hi'
      generalize hzz : cmpL (rs.getD k []) (us.getD k []) = z at *
      generalize (rs.getD k []).length = n1 at *
      generalize (us.getD k []).length = n2 at *
      have HC := Lib.hid hcon
      clear hcon hzz
      by_cases h0 : z = 0
      · subst h0
        have HE := Lib.hid (HZ0.out rfl)
        clear HZ HZ0
        go_wp2_with fail
        refine (HC.out _ rfl).mono ?_
        rintro e w' ⟨rfl, rfl⟩
        clear e1 e1'
        go_wp2_with fail
        go_round
        case rel =>
          refine ⟨k + 1, by omega, by go_num, fun j hj => ?_⟩
          by_cases hjk : j = k
          · subst hjk; exact HE.out
          · exact H.out j (by omega)
        case measure => simp [intOf]; omega
      · have hne : (z != 0) = true := by simp [h0]
        have HE := Lib.hid (HZ.out h0)
        clear HZ HZ0 h0
        go_wp2_with fail
        refine (HC.out _ rfl).mono ?_
        rintro e w' ⟨rfl, rfl⟩
        clear e1 e1'
        go_wp2_with fail
        go_ret
        exact ⟨ret_i HE.out.symm, rfl⟩
    · obtain rfl : k = m := by omega
      clear hA hA'
      have hE : cmpLL rs us = 0 := cmpLL_zero.2 (rows_ext (by omega) fun j hj => H.out j (by omega))
      rw [HR.out] at hE
      have HE := Lib.hid hE
      clear hE
      go_wp2_with fail
      go_ret
      exact ⟨ret_i HE.out.symm, rfl⟩
  
theorem compareRows_any (A A' : Option Addr) (m c c' : Nat) (rs us : List (List Int)) (w : World) (hm : m ≤ 1048576) (hl : rs.length = m) (hl' : us.length = m) (hr : ∀ k, k < m → (rs.getD k []).length ≤ 1048576) (hr' : ∀ k, k < m → (us.getD k []).length ≤ 1048576) (hA : IRR w w.heap.size A rs) (hA' : IRR w w.heap.size A' us) :
    Calls Try.prog 124 #[.slice A m c, .slice A' m c'] w fun e w' => e = .returned (.int .i64 (cmpLL rs us)) ∧ w' = w := by
  have HC := Lib.hid (compareF_any A A' m c c' rs us w hm hl hl' hr hr' hA hA')
  clear hA hA' hr hr'
  generalize cmpLL rs us = z at *
  go_enter Try.func124, Try.ntmps124
  go_wp2_with fail
  refine HC.out.mono ?_
  rintro e w' ⟨rfl, rfl⟩
  go_wp2_with fail
  go_ret
  exact ⟨rfl, rfl⟩
  
set_option maxRecDepth 100000 in
set_option maxHeartbeats 4000000 in
theorem l05Less_any (A A' : Option Addr) (m wd c c' : Nat) (rs us : List (List Int)) (w : World) (hm : m ≤ 8) (hw : wd ≤ 8) (hl : rs.length = m) (hl' : us.length = m) (hr : ∀ k, k < m → (rs.getD k []).length = wd) (hr' : ∀ k, k < m → (us.getD k []).length = wd) (hA : IRR w w.heap.size A rs) (hA' : IRR w w.heap.size A' us) :
    Calls Try.prog 122 #[.slice A m c, .slice A' m c'] w fun e w' => e = .returned (.bool (lessLL rs us)) ∧ Ext w w' := by
  generalize hR : lessLL rs us = R
  have HR := Lib.hid hR
  have HRW := Lib.hid (And.intro hr hr')
  clear hR hr hr'
  go_enter Try.func122, Try.ntmps122
  go_wp2_with fail
  go_loopw [5] (fun i wr => ∃ k : Nat, k ≤ m ∧ i = .int .i64 k ∧ (∀ j, j < k → rs.getD j [] = us.getD j []) ∧ Ext w wr) (fun i _ => m - (intOf i).toNat)
  case atStart => exact ⟨0, Nat.zero_le _, rfl, fun j hj => absurd hj (Nat.not_lt_zero _), Ext.refl _⟩
  case round =>
    obtain ⟨y, hy, rfl, heq, hx⟩ := hrel
    have H := Lib.hid heq
    have HX := Lib.hid hx
    clear heq hx
    by_cases hlt : y < m
    · obtain ⟨b, o, rfl, hb, hc⟩ := hA (by omega)
      obtain ⟨b', o', rfl, hb', hc'⟩ := hA' (by omega)
      obtain ⟨Q, q, p1, -, hi⟩ := hc y (by omega)
      obtain ⟨Q', q', p1', -, hi'⟩ := hc' y (by omega)
      have l1 := HRW.out.1 y hlt
      have l2 := HRW.out.2 y hlt
      rw [l1] at p1
      rw [l2] at p1'
      have P1 := Lib.hid (And.intro p1 p1')
      have L1 := Lib.hid (And.intro l1 l2)
      clear hc hc' hA hA' p1 p1' l1 l2
      obtain ⟨wo, rfl⟩ : ∃ wo : World, wo = wr := ⟨_, rfl⟩
      go_wp2_with fail
      go_loopw [6] (fun i wr => ∃ x : Nat, x ≤ wd ∧ i = .int .i64 x ∧ (∀ j, j < x → (rs.getD y []).getD j 0 = (us.getD y []).getD j 0) ∧ Ext wo wr) (fun i _ => wd - (intOf i).toNat)
      case atStart => exact ⟨0, Nat.zero_le _, rfl, fun j hj => absurd hj (Nat.not_lt_zero _), Ext.refl _⟩
      case round =>
        obtain ⟨x, hx, rfl, heq, hx2⟩ := hrel
        have HJ := Lib.hid heq
        have HX2 := Lib.hid hx2
        have hE := HX.out.trans hx2
        have e1 := ((hE.below (Nat.le_refl _)).cell (p := ⟨b, o + y, none⟩) hb).trans P1.out.1
        clear heq hx2
        by_cases hlx : x < wd
        · obtain ⟨bx, ox, rfl, hbx, hcx⟩ := hi (by rw [L1.out.1]; omega)
          obtain ⟨by', oy, rfl, hby, hcy⟩ := hi' (by rw [L1.out.2]; omega)
          have e2 := ((hE.below (Nat.le_refl _)).cell (p := ⟨b', o' + y, none⟩) hb').trans P1.out.2
          have e3 := ((hE.below (Nat.le_refl _)).cell (p := ⟨bx, ox + x, none⟩) hbx).trans (hcx x (by rw [L1.out.1]; omega))
          have e4 := ((hE.below (Nat.le_refl _)).cell (p := ⟨by', oy + x, none⟩) hby).trans (hcy x (by rw [L1.out.2]; omega))
          have hat : (rs.getD y []).getD x 0 ≠ (us.getD y []).getD x 0 → lessLL rs us = decide ((rs.getD y []).getD x 0 < (us.getD y []).getD x 0) := fun hne => lessLL_at (by omega) (by omega) H.out (by rw [L1.out.1]; omega) (by rw [L1.out.2]; omega) HJ.out hne
          have hsame : ∀ u, u = (rs.getD y []).getD x 0 → ∀ v, v = (us.getD y []).getD x 0 → u = v → ∀ j, j < x + 1 → (rs.getD y []).getD j 0 = (us.getD y []).getD j 0 := fun u hu v hv huv j hj => by
            by_cases hjx : j = x
            · subst hjx; rw [← hu, ← hv]; exact huv
            · exact HJ.out j (by omega)
          rw [HR.out] at hat
          obtain ⟨u, hU⟩ : ∃ u, u = (rs.getD y []).getD x 0 := ⟨_, rfl⟩
          obtain ⟨v, hV⟩ : ∃ v, v = (us.getD y []).getD x 0 := ⟨_, rfl⟩
          have HS := Lib.hid (hsame u hU v hV)
          rw [← hU] at e3 hat
          rw [← hV] at e4 hat
          clear hcx hcy hE hsame hU hV
          by_cases huv : u = v
          · subst huv
            have HSS := Lib.hid (HS.out rfl)
            have hne : (u != u) = false := by simp
            clear HS hat
            go_wp2_with fail
            have g1 := fun dn os => (cell?_grow (wr.drewN dn) os ⟨b, o + y, none⟩ (by have := World.block_lt_of_cell? wr _ e1; exact this)).trans e1
            have g2 := fun dn os => (cell?_grow (wr.drewN dn) os ⟨b', o' + y, none⟩ (by have := World.block_lt_of_cell? wr _ e2; exact this)).trans e2
            have g3 := fun dn os => (cell?_grow (wr.drewN dn) os ⟨bx, ox + x, none⟩ (by have := World.block_lt_of_cell? wr _ e3; exact this)).trans e3
            have g4 := fun dn os => (cell?_grow (wr.drewN dn) os ⟨by', oy + x, none⟩ (by have := World.block_lt_of_cell? wr _ e4; exact this)).trans e4
            clear e1 e2 e3 e4
            refine wp_region_quiet_grown mixed (by kernel_rfl) ?_
            repeat (go_big_quiet_step ((fail)))
            refine wpQuiet_nil ?_
            intro _ hw'
            obtain ⟨⟨nq, osq⟩, hw''⟩ := hw'
            subst hw''
            clear g1 g2 g3 g4
            have HX3 := Lib.hid (HX2.out.trans ⟨nq, osq, rfl⟩)
            go_wp2_with fail
            go_roundw
            case rel => exact ⟨x + 1, by omega, by go_num, HSS.out, HX3.out⟩
            case measure => simp [intOf]; omega
          · have HAT := Lib.hid (hat huv)
            have hne : (u != v) = true := by simp [huv]
            clear HS hat huv
            go_wp2_with fail
            have g1 := fun dn os => (cell?_grow (wr.drewN dn) os ⟨b, o + y, none⟩ (by have := World.block_lt_of_cell? wr _ e1; exact this)).trans e1
            have g2 := fun dn os => (cell?_grow (wr.drewN dn) os ⟨b', o' + y, none⟩ (by have := World.block_lt_of_cell? wr _ e2; exact this)).trans e2
            have g3 := fun dn os => (cell?_grow (wr.drewN dn) os ⟨bx, ox + x, none⟩ (by have := World.block_lt_of_cell? wr _ e3; exact this)).trans e3
            have g4 := fun dn os => (cell?_grow (wr.drewN dn) os ⟨by', oy + x, none⟩ (by have := World.block_lt_of_cell? wr _ e4; exact this)).trans e4
            refine wp_region_quiet_grown mixed (by kernel_rfl) ?_
            repeat (go_big_quiet_step ((fail)))
            refine wpQuiet_nil ?_
            intro _ hw'
            obtain ⟨⟨nq, osq⟩, hw''⟩ := hw'
            subst hw''
            clear g1 g2 g3 g4
            have hx6 : Ext wr (grow (wr.drewN nq) osq) := ⟨nq, osq, rfl⟩
            replace e1 := (hx6.below (Nat.le_refl _)).cell (p := ⟨b, o + y, none⟩) (by have := World.block_lt_of_cell? wr _ e1; exact this) |>.trans e1
            replace e2 := (hx6.below (Nat.le_refl _)).cell (p := ⟨b', o' + y, none⟩) (by have := World.block_lt_of_cell? wr _ e2; exact this) |>.trans e2
            replace e3 := (hx6.below (Nat.le_refl _)).cell (p := ⟨bx, ox + x, none⟩) (by have := World.block_lt_of_cell? wr _ e3; exact this) |>.trans e3
            replace e4 := (hx6.below (Nat.le_refl _)).cell (p := ⟨by', oy + x, none⟩) (by have := World.block_lt_of_cell? wr _ e4; exact this) |>.trans e4
            have HX6 := Lib.hid hx6
            clear hx6
            generalize grow (wr.drewN nq) osq = w6 at *
            go_wp2_with fail
            have g1 := fun dn os => (cell?_grow (w6.drewN dn) os ⟨b, o + y, none⟩ (by have := World.block_lt_of_cell? w6 _ e1; exact this)).trans e1
            have g2 := fun dn os => (cell?_grow (w6.drewN dn) os ⟨b', o' + y, none⟩ (by have := World.block_lt_of_cell? w6 _ e2; exact this)).trans e2
            have g3 := fun dn os => (cell?_grow (w6.drewN dn) os ⟨bx, ox + x, none⟩ (by have := World.block_lt_of_cell? w6 _ e3; exact this)).trans e3
            have g4 := fun dn os => (cell?_grow (w6.drewN dn) os ⟨by', oy + x, none⟩ (by have := World.block_lt_of_cell? w6 _ e4; exact this)).trans e4
            clear e1 e2 e3 e4
            refine wp_region_quiet_grown mixed (by kernel_rfl) ?_
            repeat (go_big_quiet_step ((fail)))
            refine wpQuiet_nil ?_
            intro _ hw'
            obtain ⟨⟨nq, osq⟩, hw''⟩ := hw'
            subst hw''
            clear g1 g2 g3 g4
            have HX3 := Lib.hid (HX2.out.trans (HX6.out.trans ⟨nq, osq, rfl⟩))
            go_wp2_with fail
            go_ret
            exact ⟨ret_b HAT.out.symm, HX.out.trans HX3.out⟩
        · obtain rfl : x = wd := by omega
          have HE := Lib.hid (show rs.getD y [] = us.getD y [] from row_ext (by rw [L1.out.1, L1.out.2]) fun j hj => HJ.out j (by rw [L1.out.1] at hj; exact hj))
          clear HJ hE
          go_wp2_with fail
          have HX3 := Lib.hid (HX.out.trans HX2.out)
          go_roundw
          case rel =>
            refine ⟨y + 1, by omega, by go_num, fun j hj => ?_, HX3.out⟩
            by_cases hjk : j = y
            · subst hjk; exact HE.out
            · exact H.out j (by omega)
          case measure => simp [intOf]; omega
    · obtain rfl : y = m := by omega
      clear hA hA'
      have hE : lessLL rs us = false := by
        have : rs = us := rows_ext (by omega) fun j hj => H.out j (by omega)
        rw [this]
        exact lessLL_self us
      rw [HR.out] at hE
      have HE := Lib.hid hE
      clear hE
      go_wp2_with fail
      go_ret
      exact ⟨ret_b HE.out.symm, HX.out⟩
  
end Go.Proofs.Ytjoaoimebdkpaaa
