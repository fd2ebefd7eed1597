/- The border words of a filling: the model's side. -/
import Derived.Test.YtjbnmkiidongmaaR4
import Derived.Deep.RegionHeld3
import Derived.Lib.Hide
namespace Go.Proofs.Ytjbnmkiidongmaa
set_option linter.unusedVariables false
set_option linter.unusedSimpArgs false
open Go.RowKit Go.Sort

theorem IWW.low {w : World} {lo lo' hi : Nat} {A : Option Addr} {rs : List (List Int)} (h : IWW w lo hi A rs) (hl : lo' ≤ lo) : IWW w lo' hi A rs := fun h0 => by
  obtain ⟨b, off, t, cs, Q, q, e, h1, h2, hb, hc, ha⟩ := h h0
  refine ⟨b, off, t, cs, Q, q, e, by omega, h2, hb, fun k hk => ?_, ha⟩
  obtain ⟨k1, k2, k3, k4⟩ := hc k hk
  exact ⟨k1, k2, k3.low hl, k4⟩
theorem dis_ne {a b : Nat} (h : a ≠ b) : Dis (.slice (some ⟨a, 0, none⟩) 0 0) (.slice (some ⟨b, 0, none⟩) 0 0) := by
  intro g e1 e2
  simp only [Value.ownBlock, Option.some.injEq] at e1 e2
  omega
def bW (ts : List Tl) (rs : List (List Int)) (y : Nat) : Int := (tat ts rs y 0).1
def bE (ts : List Tl) (rs : List (List Int)) (d y : Nat) : Int := (tat ts rs y d).2.2.1
def bN (ts : List Tl) (rs : List (List Int)) (x : Nat) : Int := (tat ts rs 0 x).2.1
def bS (ts : List Tl) (rs : List (List Int)) (e x : Nat) : Int := (tat ts rs e x).2.2.2
/-- The border words of h = e + 1 rows of d + 1 numbers. -/
def brd (ts : List Tl) (rs : List (List Int)) (e d : Nat) : List (List Int) := [rngm (bW ts rs) (e + 1), rngm (bN ts rs) (d + 1), rngm (bE ts rs d) (e + 1), rngm (bS ts rs e) (d + 1)]

set_option maxRecDepth 100000 in
set_option maxHeartbeats 4000000 in
theorem l01Borders_any (c0 : Int) (A : Option Addr) (n c : Nat) (ts : List Tl) (B : Option Addr) (m p : Nat) (rs : List (List Int)) (e d : Nat) (w : World) (hn : n ≤ 1048576) (hl : ts.length = n) (hA : TR w w.heap.size A ts) (hm : m = e + 1) (he : e < 8) (hd : d < 8) (hlr : rs.length = m) (hB : IRR w w.heap.size B rs) (hok : rowsOk ts rs = true) (hwd : (rs.getD 0 []).length = d + 1) :
    Calls Try.prog 66 #[.agg #[.int .i64 c0, .slice A n c], .slice B m p] w fun ee w' => ∃ R cap, ee = .returned (.slice R 4 cap) ∧ Below w.heap.size w w' ∧ IWW w' w.heap.size w'.heap.size R (brd ts rs e d) := by
  subst hm
  have HSAME := Lib.hid (fun (y : Nat) (hy : y < e + 1) => (rowsOk_same hok (y := y) (by omega)).trans hwd)
  go_enter Try.func66, Try.ntmps66
  go_wp2_with fail
  obtain ⟨W1, hW1⟩ : ∃ W1, (((((w.alloc (Obj.cells #[.int .i64 c0, .slice A n c] 35)).alloc (Obj.cells #[] 2)).alloc (Obj.cells #[] 2)).alloc (Obj.cells #[] 2)).alloc (Obj.cells #[] 2)) = W1 := ⟨_, rfl⟩
  have hs1 : W1.heap.size = w.heap.size + 5 := by rw [← hW1]; simp
  have hE : Ext w W1 := by rw [← hW1]; exact (((((Ext.refl w).alloc _).alloc _).alloc _).alloc _).alloc _
  have hS : Blk W1 w.heap.size 35 #[.int .i64 c0, .slice A n c] := by rw [← hW1]; exact (Blk.new w _ _).ext (((((Ext.refl _).alloc (Obj.cells #[] 2)).alloc (Obj.cells #[] 2)).alloc (Obj.cells #[] 2)).alloc (Obj.cells #[] 2))
  have o0 : OwnI W1 (w.heap.size + 1) (.slice (some ⟨w.heap.size + 1, 0, none⟩) 0 0) [] := by rw [← hW1]; have := OwnI.ext (xs := []) (World.ownsRow_made (base := w.heap.size + 1) (e := 2) (size := 1) (w.alloc (Obj.cells #[.int .i64 c0, .slice A n c] 35)) #[] 0 (by simp) (by unfold maxLen; omega) rfl) (show Ext _ (((((w.alloc (Obj.cells #[.int .i64 c0, .slice A n c] 35)).alloc (Obj.cells #[] 2)).alloc (Obj.cells #[] 2)).alloc (Obj.cells #[] 2)).alloc (Obj.cells #[] 2)) from ((((Ext.refl _).alloc (Obj.cells #[] 2)).alloc (Obj.cells #[] 2)).alloc (Obj.cells #[] 2))); simpa using this
  have o1 : OwnI W1 (w.heap.size + 1) (.slice (some ⟨w.heap.size + 2, 0, none⟩) 0 0) [] := by rw [← hW1]; have := OwnI.ext (xs := []) (World.ownsRow_made (base := w.heap.size + 1) (e := 2) (size := 1) ((w.alloc (Obj.cells #[.int .i64 c0, .slice A n c] 35)).alloc (Obj.cells #[] 2)) #[] 0 (by simp) (by unfold maxLen; omega) rfl) (show Ext _ (((((w.alloc (Obj.cells #[.int .i64 c0, .slice A n c] 35)).alloc (Obj.cells #[] 2)).alloc (Obj.cells #[] 2)).alloc (Obj.cells #[] 2)).alloc (Obj.cells #[] 2)) from (((Ext.refl _).alloc (Obj.cells #[] 2)).alloc (Obj.cells #[] 2))); simpa using this
  have o2 : OwnI W1 (w.heap.size + 1) (.slice (some ⟨w.heap.size + 3, 0, none⟩) 0 0) [] := by rw [← hW1]; have := OwnI.ext (xs := []) (World.ownsRow_made (base := w.heap.size + 1) (e := 2) (size := 1) (((w.alloc (Obj.cells #[.int .i64 c0, .slice A n c] 35)).alloc (Obj.cells #[] 2)).alloc (Obj.cells #[] 2)) #[] 0 (by simp) (by unfold maxLen; omega) rfl) (show Ext _ (((((w.alloc (Obj.cells #[.int .i64 c0, .slice A n c] 35)).alloc (Obj.cells #[] 2)).alloc (Obj.cells #[] 2)).alloc (Obj.cells #[] 2)).alloc (Obj.cells #[] 2)) from ((Ext.refl _).alloc (Obj.cells #[] 2))); simpa using this
  have o3 : OwnI W1 (w.heap.size + 1) (.slice (some ⟨w.heap.size + 4, 0, none⟩) 0 0) [] := by rw [← hW1]; have := OwnI.ext (xs := []) (World.ownsRow_made (base := w.heap.size + 1) (e := 2) (size := 1) ((((w.alloc (Obj.cells #[.int .i64 c0, .slice A n c] 35)).alloc (Obj.cells #[] 2)).alloc (Obj.cells #[] 2)).alloc (Obj.cells #[] 2)) #[] 0 (by simp) (by unfold maxLen; omega) rfl) (show Ext _ (((((w.alloc (Obj.cells #[.int .i64 c0, .slice A n c] 35)).alloc (Obj.cells #[] 2)).alloc (Obj.cells #[] 2)).alloc (Obj.cells #[] 2)).alloc (Obj.cells #[] 2)) from (Ext.refl _)); simpa using this
  have h4 : R4 W1 (w.heap.size + 1) (.slice (some ⟨w.heap.size + 1, 0, none⟩) 0 0) (.slice (some ⟨w.heap.size + 2, 0, none⟩) 0 0) (.slice (some ⟨w.heap.size + 3, 0, none⟩) 0 0) (.slice (some ⟨w.heap.size + 4, 0, none⟩) 0 0) [] [] [] [] := ⟨o0, o1, o2, o3, dis_ne (by omega), dis_ne (by omega), dis_ne (by omega), dis_ne (by omega), dis_ne (by omega), dis_ne (by omega)⟩
  have HH := Lib.hid (And.intro hE (And.intro hS (show w.heap.size + 1 ≤ W1.heap.size by omega)))
  have H40 := Lib.hid h4
  obtain ⟨bx, ox, bq, oq, q, b, o, j, rfl, hbx, q1, hbq, q2, hj, rfl, hb, hT⟩ := read_tile (hA.ext HH.out.1 (Nat.le_refl _)) (hB.ext HH.out.1 (Nat.le_refl _)) hok (y := 0) (x := 0) (by omega) (by rw [hwd]; omega)
  rw [hwd] at q1
  simp only [Nat.add_zero] at q1
  rw [hW1]
  clear hW1 hE hS o0 o1 o2 o3 h4 q2 hT
  go_quiet (fail)
  clear q1
  go_wp2_with fail
  have hwd1 : IntKind.i64.wrap (d : Int) = (d : Int) := IntWalk.i64_in _ (by omega)
  have hwe1 : IntKind.i64.wrap (e : Int) = (e : Int) := IntWalk.i64_in _ (by omega)
  have he1 : (e : Int) < (e : Int) + 1 := by omega
  have hd1 : (d : Int) < (d : Int) + 1 := by omega
  have HWD := Lib.hid (And.intro hwd1 hwe1)
  clear hwd1 hwe1
  go_loopw [5, 7, 11] (fun v u i wr => ∃ k : Nat, k ≤ e + 1 ∧ i = .int .i64 k ∧ R4 wr (w.heap.size + 1) v (.slice (some ⟨w.heap.size + 2, 0, none⟩) 0 0) u (.slice (some ⟨w.heap.size + 4, 0, none⟩) 0 0) (rngm (bW ts rs) k) [] (rngm (bE ts rs d) k) [] ∧ Below (w.heap.size + 1) W1 wr) (fun _ _ i _ => (e + 1) - (intOf i).toNat)
  case atStart => exact ⟨0, Nat.zero_le _, rfl, H40.out.ext ((Ext.refl _).drewN _), ((Ext.refl _).drewN _).below HH.out.2.2⟩
  case round =>
    obtain ⟨k, hk, rfl, h4, hbw⟩ := hrel
    have H4 := Lib.hid h4
    have HB := Lib.hid hbw
    clear h4 hbw
    by_cases hlt : k < e + 1
    · obtain ⟨hbx, hb, bq, oq, q, q1, hbq, hcol⟩ := read_row ((hA.ext HH.out.1 (Nat.le_refl _)).below HB.out (Nat.le_succ _)) ((hB.ext HH.out.1 (Nat.le_refl _)).below HB.out (Nat.le_succ _)) hok (y := k) (by omega) (by rw [HSAME.out k (by omega)]; omega)
      rw [HSAME.out k (by omega)] at q1 hcol
      have Q1 := Lib.hid q1
      have HCOL := Lib.hid hcol
      clear hcol
      obtain ⟨j, q2, hj, hT⟩ := HCOL.out 0 (by omega)
      have tj := hT.1
      have EY : bW ts rs k = (tat ts rs k 0).1 := rfl
      generalize (tat ts rs k 0).1 = z at tj EY
      have EZ := Lib.hid EY
      have r1 := (HH.out.2.1.below (B := w.heap.size + 1) HB.out (Nat.lt_succ_self _)).rd 1 rfl
      have hj3 : (j : Int) < (n : Int) := by omega
      have n0 : some w.heap.size ≠ u5.ownBlock := fun e2 => by have := (H4.out.o0.lt e2.symm).1; omega
      have n1 : some bx ≠ u5.ownBlock := fun e2 => by have := (H4.out.o0.lt e2.symm).1; omega
      have n2 : some bq ≠ u5.ownBlock := fun e2 => by have := (H4.out.o0.lt e2.symm).1; omega
      have n3 : some b ≠ u5.ownBlock := fun e2 => by have := (H4.out.o0.lt e2.symm).1; omega
      have NN := Lib.hid (And.intro n0 (And.intro n1 (And.intro n2 n3)))
      clear n0 n1 n2 n3 hT EY
      try simp only [Nat.add_zero] at q1 q2 tj
      go_wp2_with fail
      go_region_held3 (fun w' => w'.cell? ⟨w.heap.size, 1, none⟩ = some (.slice (some ⟨b, o, none⟩) n c) ∧ w'.cell? ⟨bx, ox + k, none⟩ = some (.slice (some ⟨bq, oq, none⟩) (d + 1) q) ∧ w'.cell? ⟨bq, oq, none⟩ = some (.int .i64 (j : Int)) ∧ w'.cell? ⟨b, o + j * 4, none⟩ = some (.int .i64 z))
        (first | go_keep | exact ⟨hgrow3.cell (by go_simp) NN.out.1, hgrow3.cell (by go_simp) NN.out.2.1, hgrow3.cell (by go_simp) NN.out.2.2.1, hgrow3.cell (by go_simp) NN.out.2.2.2⟩)
        (first | (refine step_push (by rfl) _ _ (by rfl) (w.heap.size + 1) _ (rngm (bW ts rs) k).length _ (by rfl) (H4.out.o0.ext (((Ext.refl wr).alloc _).drew)) wr.heap.size z (by rfl) (heap_alloc_new wr _) (by rw [rngm_len]; unfold maxLen; omega) (by rw [rngm_len]; omega) (by have := HB.out.size; have := HH.out.2.2; simp; omega) ?_; intro v3 w3 hown3 hgrow3 hat3))
      have hx3 := ((Ext.refl wr).alloc (Obj.cells #[.int .i64 z] 2)).drew
      have h43 := (H4.out.push hx3 (by rw [rngm_len] at hown3 ⊢; exact hown3) hgrow3 hat3)
      rw [show z = bW ts rs k from EZ.out.symm, ← rngm_succ] at h43
      have HD3 := Lib.hid ((hx3.below (B := w.heap.size + 1) (Nat.le_trans HH.out.2.2 HB.out.size)).grown hgrow3 (Nat.le_trans HH.out.2.2 (Nat.le_trans HB.out.size (hx3.below (Nat.le_refl _)).size)) (fun g hg => (H4.out.o0.lt hg).1))
      have HB3 := Lib.hid (HB.out.trans HD3.out)
      have H43 := Lib.hid h43
      clear h43 hx3 hown3 hgrow3 hat3 q1 q2 tj r1 NN EZ
      have H43s := Lib.hid H43.out.sw2
      have hw1 := HWD.out.1
      have q1 := (HD3.out.cell (p := ⟨bx, ox + k, none⟩) (Nat.lt_succ_of_lt hbx)).trans Q1.out
      obtain ⟨j, q2, hj, hT⟩ := HCOL.out d (by omega)
      replace q2 := (HD3.out.cell (p := ⟨bq, oq + d, none⟩) (Nat.lt_succ_of_lt hbq)).trans q2
      replace hT := hT.keep fun g => HD3.out.cell (p := ⟨b, g, none⟩) (Nat.lt_succ_of_lt hb)
      have tj := hT.2.2.1
      have EY : bE ts rs d k = (tat ts rs k d).2.2.1 := rfl
      generalize (tat ts rs k d).2.2.1 = z at tj EY
      have EZ := Lib.hid EY
      have r1 := (HH.out.2.1.below (B := w.heap.size + 1) HB3.out (Nat.lt_succ_self _)).rd 1 rfl
      have hj3 : (j : Int) < (n : Int) := by omega
      have n0 : some w.heap.size ≠ u7.ownBlock := fun e2 => by have := (H43s.out.o0.lt e2.symm).1; omega
      have n1 : some bx ≠ u7.ownBlock := fun e2 => by have := (H43s.out.o0.lt e2.symm).1; omega
      have n2 : some bq ≠ u7.ownBlock := fun e2 => by have := (H43s.out.o0.lt e2.symm).1; omega
      have n3 : some b ≠ u7.ownBlock := fun e2 => by have := (H43s.out.o0.lt e2.symm).1; omega
      have NN := Lib.hid (And.intro n0 (And.intro n1 (And.intro n2 n3)))
      clear n0 n1 n2 n3 hT EY
      try simp only [Nat.add_zero] at q1 q2 tj
      go_wp2_with fail
      go_region_held3 (fun w' => w'.cell? ⟨w.heap.size, 1, none⟩ = some (.slice (some ⟨b, o, none⟩) n c) ∧ w'.cell? ⟨bx, ox + k, none⟩ = some (.slice (some ⟨bq, oq, none⟩) (d + 1) q) ∧ w'.cell? ⟨bq, oq + d, none⟩ = some (.int .i64 (j : Int)) ∧ w'.cell? ⟨b, o + j * 4 + 2, none⟩ = some (.int .i64 z))
        (first | go_keep | exact ⟨hgrow5.cell (by go_simp) NN.out.1, hgrow5.cell (by go_simp) NN.out.2.1, hgrow5.cell (by go_simp) NN.out.2.2.1, hgrow5.cell (by go_simp) NN.out.2.2.2⟩)
        (first | (refine step_push (by rfl) _ _ (by rfl) (w.heap.size + 1) _ (rngm (bE ts rs d) k).length _ (by rfl) (H43s.out.o0.ext (((Ext.refl w3).alloc _).drew)) w3.heap.size z (by rfl) (heap_alloc_new w3 _) (by rw [rngm_len]; unfold maxLen; omega) (by rw [rngm_len]; omega) (by have := HB3.out.size; have := HH.out.2.2; simp; omega) ?_; intro v5 w5 hown5 hgrow5 hat5))
      have hx5 := ((Ext.refl w3).alloc (Obj.cells #[.int .i64 z] 2)).drew
      have h45 := (H43s.out.push hx5 (by rw [rngm_len] at hown5 ⊢; exact hown5) hgrow5 hat5).sw2
      rw [show z = bE ts rs d k from EZ.out.symm, ← rngm_succ] at h45
      have HD5 := Lib.hid ((hx5.below (B := w.heap.size + 1) (Nat.le_trans HH.out.2.2 HB3.out.size)).grown hgrow5 (Nat.le_trans HH.out.2.2 (Nat.le_trans HB3.out.size (hx5.below (Nat.le_refl _)).size)) (fun g hg => (H43s.out.o0.lt hg).1))
      have HB5 := Lib.hid (HB3.out.trans HD5.out)
      have H45 := Lib.hid h45
      clear h45 hx5 hown5 hgrow5 hat5 q1 q2 tj r1 NN EZ
      clear hw1
      go_wp2_with fail
      go_roundw
      case rel => first | exact ⟨k + 1, by omega, by go_num, H45.out, HB5.out⟩ | ((repeat apply Exists.intro); exact ⟨⟨k + 1, by omega, by go_num, H45.out, HB5.out⟩, rfl⟩)
      case measure => simp [intOf]; omega
    · obtain rfl : k = e + 1 := by omega
      obtain ⟨W2, hW2⟩ : ∃ W2, W2 = wr := ⟨_, rfl⟩
      subst hW2
      go_wp2_with fail
      go_loopw [6, 8, 12] (fun v u i wr => ∃ k : Nat, k ≤ d + 1 ∧ i = .int .i64 k ∧ R4 wr (w.heap.size + 1) u5 v u7 u (rngm (bW ts rs) (e + 1)) (rngm (bN ts rs) k) (rngm (bE ts rs d) (e + 1)) (rngm (bS ts rs e) k) ∧ Below (w.heap.size + 1) W1 wr) (fun _ _ i _ => (d + 1) - (intOf i).toNat)
      case atStart => exact ⟨0, Nat.zero_le _, rfl, H4.out, HB.out⟩
      case round =>
        clear HB H4
        obtain ⟨k, hk, rfl, h4, hbw⟩ := hrel
        have H4 := Lib.hid h4
        have H4s := Lib.hid h4.sw1
        have HB := Lib.hid hbw
        clear h4 hbw
        by_cases hlt : k < d + 1
        · obtain ⟨hbx, hb, bq, oq, q, q1, hbq, hcol⟩ := read_row ((hA.ext HH.out.1 (Nat.le_refl _)).below HB.out (Nat.le_succ _)) ((hB.ext HH.out.1 (Nat.le_refl _)).below HB.out (Nat.le_succ _)) hok (y := 0) (by omega) (by rw [HSAME.out 0 (by omega)]; omega)
          rw [HSAME.out 0 (by omega)] at q1 hcol
          have Q1 := Lib.hid q1
          have HCOL := Lib.hid hcol
          clear hcol
          obtain ⟨j, q2, hj, hT⟩ := HCOL.out k (by omega)
          have tj := hT.2.1
          have EY : bN ts rs k = (tat ts rs 0 k).2.1 := rfl
          generalize (tat ts rs 0 k).2.1 = z at tj EY
          have EZ := Lib.hid EY
          have r1 := (HH.out.2.1.below (B := w.heap.size + 1) HB.out (Nat.lt_succ_self _)).rd 1 rfl
          have hj3 : (j : Int) < (n : Int) := by omega
          have n0 : some w.heap.size ≠ u6.ownBlock := fun e2 => by have := (H4s.out.o0.lt e2.symm).1; omega
          have n1 : some bx ≠ u6.ownBlock := fun e2 => by have := (H4s.out.o0.lt e2.symm).1; omega
          have n2 : some bq ≠ u6.ownBlock := fun e2 => by have := (H4s.out.o0.lt e2.symm).1; omega
          have n3 : some b ≠ u6.ownBlock := fun e2 => by have := (H4s.out.o0.lt e2.symm).1; omega
          have NN := Lib.hid (And.intro n0 (And.intro n1 (And.intro n2 n3)))
          clear n0 n1 n2 n3 hT EY
          try simp only [Nat.add_zero] at q1 q2 tj
          go_wp2_with fail
          go_region_held3 (fun w' => w'.cell? ⟨w.heap.size, 1, none⟩ = some (.slice (some ⟨b, o, none⟩) n c) ∧ w'.cell? ⟨bx, ox, none⟩ = some (.slice (some ⟨bq, oq, none⟩) (d + 1) q) ∧ w'.cell? ⟨bq, oq + k, none⟩ = some (.int .i64 (j : Int)) ∧ w'.cell? ⟨b, o + j * 4 + 1, none⟩ = some (.int .i64 z))
            (first | go_keep | exact ⟨hgrow3.cell (by go_simp) NN.out.1, hgrow3.cell (by go_simp) NN.out.2.1, hgrow3.cell (by go_simp) NN.out.2.2.1, hgrow3.cell (by go_simp) NN.out.2.2.2⟩)
            (first | (refine step_push (by rfl) _ _ (by rfl) (w.heap.size + 1) _ (rngm (bN ts rs) k).length _ (by rfl) (H4s.out.o0.ext (((Ext.refl wr).alloc _).drew)) wr.heap.size z (by rfl) (heap_alloc_new wr _) (by rw [rngm_len]; unfold maxLen; omega) (by rw [rngm_len]; omega) (by have := HB.out.size; have := HH.out.2.2; simp; omega) ?_; intro v3 w3 hown3 hgrow3 hat3))
          have hx3 := ((Ext.refl wr).alloc (Obj.cells #[.int .i64 z] 2)).drew
          have h43 := (H4s.out.push hx3 (by rw [rngm_len] at hown3 ⊢; exact hown3) hgrow3 hat3).sw1
          rw [show z = bN ts rs k from EZ.out.symm, ← rngm_succ] at h43
          have HD3 := Lib.hid ((hx3.below (B := w.heap.size + 1) (Nat.le_trans HH.out.2.2 HB.out.size)).grown hgrow3 (Nat.le_trans HH.out.2.2 (Nat.le_trans HB.out.size (hx3.below (Nat.le_refl _)).size)) (fun g hg => (H4s.out.o0.lt hg).1))
          have HB3 := Lib.hid (HB.out.trans HD3.out)
          have H43 := Lib.hid h43
          clear h43 hx3 hown3 hgrow3 hat3 q1 q2 tj r1 NN EZ
          have H43s := Lib.hid H43.out.sw3
          have hw1 := HWD.out.2
          obtain ⟨hbx, hb, bq, oq, q, q1, hbq, hcol⟩ := read_row ((hA.ext HH.out.1 (Nat.le_refl _)).below HB3.out (Nat.le_succ _)) ((hB.ext HH.out.1 (Nat.le_refl _)).below HB3.out (Nat.le_succ _)) hok (y := e) (by omega) (by rw [HSAME.out e (by omega)]; omega)
          rw [HSAME.out e (by omega)] at q1 hcol
          have Q1 := Lib.hid q1
          have HCOL := Lib.hid hcol
          clear hcol
          obtain ⟨j, q2, hj, hT⟩ := HCOL.out k (by omega)
          have tj := hT.2.2.2
          have EY : bS ts rs e k = (tat ts rs e k).2.2.2 := rfl
          generalize (tat ts rs e k).2.2.2 = z at tj EY
          have EZ := Lib.hid EY
          have r1 := (HH.out.2.1.below (B := w.heap.size + 1) HB3.out (Nat.lt_succ_self _)).rd 1 rfl
          have hj3 : (j : Int) < (n : Int) := by omega
          have n0 : some w.heap.size ≠ u8.ownBlock := fun e2 => by have := (H43s.out.o0.lt e2.symm).1; omega
          have n1 : some bx ≠ u8.ownBlock := fun e2 => by have := (H43s.out.o0.lt e2.symm).1; omega
          have n2 : some bq ≠ u8.ownBlock := fun e2 => by have := (H43s.out.o0.lt e2.symm).1; omega
          have n3 : some b ≠ u8.ownBlock := fun e2 => by have := (H43s.out.o0.lt e2.symm).1; omega
          have NN := Lib.hid (And.intro n0 (And.intro n1 (And.intro n2 n3)))
          clear n0 n1 n2 n3 hT EY
          try simp only [Nat.add_zero] at q1 q2 tj
          go_wp2_with fail
          go_region_held3 (fun w' => w'.cell? ⟨w.heap.size, 1, none⟩ = some (.slice (some ⟨b, o, none⟩) n c) ∧ w'.cell? ⟨bx, ox + e, none⟩ = some (.slice (some ⟨bq, oq, none⟩) (d + 1) q) ∧ w'.cell? ⟨bq, oq + k, none⟩ = some (.int .i64 (j : Int)) ∧ w'.cell? ⟨b, o + j * 4 + 3, none⟩ = some (.int .i64 z))
            (first | go_keep | exact ⟨hgrow5.cell (by go_simp) NN.out.1, hgrow5.cell (by go_simp) NN.out.2.1, hgrow5.cell (by go_simp) NN.out.2.2.1, hgrow5.cell (by go_simp) NN.out.2.2.2⟩)
            (first | (refine step_push (by rfl) _ _ (by rfl) (w.heap.size + 1) _ (rngm (bS ts rs e) k).length _ (by rfl) (H43s.out.o0.ext (((Ext.refl w3).alloc _).drew)) w3.heap.size z (by rfl) (heap_alloc_new w3 _) (by rw [rngm_len]; unfold maxLen; omega) (by rw [rngm_len]; omega) (by have := HB3.out.size; have := HH.out.2.2; simp; omega) ?_; intro v5 w5 hown5 hgrow5 hat5))
          have hx5 := ((Ext.refl w3).alloc (Obj.cells #[.int .i64 z] 2)).drew
          have h45 := (H43s.out.push hx5 (by rw [rngm_len] at hown5 ⊢; exact hown5) hgrow5 hat5).sw3
          rw [show z = bS ts rs e k from EZ.out.symm, ← rngm_succ] at h45
          have HD5 := Lib.hid ((hx5.below (B := w.heap.size + 1) (Nat.le_trans HH.out.2.2 HB3.out.size)).grown hgrow5 (Nat.le_trans HH.out.2.2 (Nat.le_trans HB3.out.size (hx5.below (Nat.le_refl _)).size)) (fun g hg => (H43s.out.o0.lt hg).1))
          have HB5 := Lib.hid (HB3.out.trans HD5.out)
          have H45 := Lib.hid h45
          clear h45 hx5 hown5 hgrow5 hat5 q1 q2 tj r1 NN EZ
          clear hw1
          go_wp2_with fail
          go_roundw
          case rel => first | exact ⟨k + 1, by omega, by go_num, H45.out, HB5.out⟩ | ((repeat apply Exists.intro); exact ⟨⟨k + 1, by omega, by go_num, H45.out, HB5.out⟩, rfl⟩)
          case measure => simp [intOf]; omega
        · obtain rfl : k = d + 1 := by omega
          obtain ⟨X5, y5, rfl, -, -⟩ := own_iwr H4.out.o0 rfl
          obtain ⟨X6, y6, rfl, -, -⟩ := own_iwr H4.out.o1 rfl
          obtain ⟨X7, y7, rfl, -, -⟩ := own_iwr H4.out.o2 rfl
          obtain ⟨X8, y8, rfl, -, -⟩ := own_iwr H4.out.o3 rfl
          go_wp2_with fail
          go_ret
          have hx := (Ext.refl wr).alloc (Obj.cells #[.slice X5 (rngm (bW ts rs) (e + 1)).length y5, .slice X6 (rngm (bN ts rs) (d + 1)).length y6, .slice X7 (rngm (bE ts rs d) (e + 1)).length y7, .slice X8 (rngm (bS ts rs e) (d + 1)).length y8] 41)
          have hsz := HB.out.size
          have h5 := HH.out.2.2
          have hn : ∀ {v : Value} {xs : List Int}, OwnI wr (w.heap.size + 1) v xs → v.ownBlock ≠ some wr.heap.size := fun h e2 => Nat.lt_irrefl _ (h.lt e2).2
          have h6 := (H4.out.ext hx).iww (Blk.new wr 41 #[.slice X5 (rngm (bW ts rs) (e + 1)).length y5, .slice X6 (rngm (bN ts rs) (d + 1)).length y6, .slice X7 (rngm (bE ts rs d) (e + 1)).length y7, .slice X8 (rngm (bS ts rs e) (d + 1)).length y8]) (by omega) (hn H4.out.o0) (hn H4.out.o1) (hn H4.out.o2) (hn H4.out.o3)
          exact ⟨_, _, rfl, (HH.out.1.below (Nat.le_refl _)).trans ((HB.out.trans (hx.below (by omega))).mono (by omega)), h6.low (by omega)⟩
end Go.Proofs.Ytjbnmkiidongmaa
