/- The classes of all tiles with some colours: the model's side, and both doors. -/
import Derived.Test.YtfhdgilddnndcaaCl1
import Derived.Deep.RegionHeld3
namespace Go.Proofs.Ytfhdgilddnndcaa
set_option linter.unusedVariables false
set_option linter.unusedSimpArgs false
open Go.RowKit Go.Sort

theorem own_empty4 {X : World} {B g : Nat} (h : Blk X g 38 #[]) (hB : B ≤ g) : X.ownsRow B 38 4 (.slice (some ⟨g, 0, none⟩) 0 0) 0 [] :=
  ⟨by simp, .inr ⟨g, 0, #[], rfl, hB, h, Nat.le_refl _, by unfold maxLen; omega, rfl, rfl⟩⟩
def NumRes' (w : World) (r code : Int) (e : Ending) (w' : World) : Prop := e = .returned (.tuple #[.int .i64 r, .int .i64 code]) ∧ Below w.heap.size w w'
set_option maxRecDepth 100000 in
set_option maxHeartbeats 1000000 in
theorem implClassesOf_0 (C : Nat) (w : World) (hC1 : 1 ≤ C) (hC4 : C ≤ 4) : Calls Try.prog 41 #[.int .i64 (C : Int)] w (TlRes w (clsL C (C ^ 4)) 0) := by
  have HC := Lib.hid (classesOf_any C w hC1 (by omega))
  generalize clsL C (C ^ 4) = L at *
  have h1 : ¬ (C : Int) < 1 := by omega
  have h4 : ¬ (4 : Int) < (C : Int) := by omega
  unfold TlRes
  go_enter Try.func41, Try.ntmps41
  go_wp2_with fail
  refine HC.out.mono ?_
  rintro e w1 ⟨A, cap, rfl, hb, hw⟩
  have HB := Lib.hid hb
  have HW := Lib.hid hw
  clear hb hw
  go_wp2_with fail
  go_ret2
  exact ⟨A, cap, rfl, HB.out, HW.out⟩
set_option maxHeartbeats 1000000 in
theorem implClassesOf_2 (c : Int) (w : World) (h : ¬ (1 ≤ c ∧ c ≤ 4)) : Calls Try.prog 41 #[.int .i64 c] w (TlRes w [] 2) := by
  by_cases h1 : c < 1
  · clear h
    go_enter Try.func41, Try.ntmps41
    go_wp2_with fail
    go_ret2
    unfold TlRes
    exact ⟨none, 0, rfl, Below.refl _ _, fun h => absurd h (Nat.lt_irrefl _)⟩
  · have h4 : 4 < c := by omega
    clear h
    go_enter Try.func41, Try.ntmps41
    go_wp2_with fail
    go_ret2
    unfold TlRes
    exact ⟨none, 0, rfl, Below.refl _ _, fun h => absurd h (Nat.lt_irrefl _)⟩
set_option maxHeartbeats 1000000 in
theorem specClassesOf_2 (c : Int) (w : World) (h : ¬ (1 ≤ c ∧ c ≤ 4)) : Calls Try.prog 40 #[.int .i64 c] w (TlRes w [] 2) := by
  have hd : decide (1 ≤ c ∧ c ≤ 4) = false := decide_eq_false h
  have hin : ∀ W, Calls Try.prog 64 #[.int .i64 c, .int .i64 1, .int .i64 4] W fun e w' => e = .returned (.bool false) ∧ W = w' := fun W => (l01In_any c 1 4 W).mono fun e w' h => ⟨by rw [h.1, hd], h.2.symm⟩
  clear h
  go_enter Try.func40, Try.ntmps40
  go_wp2_with (go_at_call 64; refine (hin _).mono ?_; rintro e w' ⟨rfl, rfl⟩)
  go_ret2
  unfold TlRes
  exact ⟨none, 0, rfl, Below.refl _ _, fun h => absurd h (Nat.lt_irrefl _)⟩

theorem tdivN (k m : Nat) (hk : k ≤ 1000000) : Int.tdiv (k : Int) (m : Int) = ((k / m : Nat) : Int) ∧ IntKind.i64.wrap ((k / m : Nat) : Int) = ((k / m : Nat) : Int) := by
  have h := Nat.div_le_self k m
  refine ⟨by rw [Int.tdiv_eq_ediv_of_nonneg (by omega)]; push_cast; rfl, ?_⟩
  generalize k / m = q at h ⊢
  exact IntWalk.i64_in _ (by omega)
theorem tmodN (k m : Nat) (hk : k ≤ 1000000) : Int.tmod (k : Int) (m : Int) = ((k % m : Nat) : Int) ∧ IntKind.i64.wrap ((k % m : Nat) : Int) = ((k % m : Nat) : Int) := by
  have h := Nat.mod_le k m
  refine ⟨by rw [Int.tmod_eq_emod_of_nonneg (by omega)]; push_cast; rfl, ?_⟩
  generalize k % m = q at h ⊢
  exact IntWalk.i64_in _ (by omega)
theorem tile_of (C k p2 p3 : Nat) (h2 : p2 = C * C) (h3 : p3 = C * C * C) (hk : k < C ^ 4) : (((k / p3 : Nat) : Int), ((k / p2 % C : Nat) : Int), ((k / C % C : Nat) : Int), ((k % C : Nat) : Int)) = tileN C k := by
  have e3 : C ^ 3 = C * C * C := by rw [Nat.pow_succ, Nat.pow_succ, Nat.pow_one]
  have e2 : C ^ 2 = C * C := by rw [Nat.pow_succ, Nat.pow_one]
  have e4 : C ^ 4 = C ^ 3 * C := Nat.pow_succ ..
  have hlt : k / C ^ 3 < C := Nat.div_lt_of_lt_mul (by rw [← e4]; exact hk)
  unfold tileN digW
  simp only [Nat.reduceSub, Nat.sub_zero]
  rw [h2, h3, e3, e2, Nat.pow_one, Nat.pow_zero, Nat.div_one]
  rw [e3] at hlt
  rw [Nat.mod_eq_of_lt hlt]

set_option maxRecDepth 100000 in
set_option maxHeartbeats 2000000 in
theorem specClassesOf_0 (C : Nat) (w : World) (hC1 : 1 ≤ C) (hC4 : C ≤ 4) : Calls Try.prog 40 #[.int .i64 (C : Int)] w (TlRes w (clsL C (C ^ 4)) 0) := by
  have mixed : Try.prog.follows .mixedOrders = true := by kernel_rfl
  have hd : decide (1 ≤ (C : Int) ∧ (C : Int) ≤ 4) = true := decide_eq_true ⟨by omega, by omega⟩
  have hin : ∀ W, Calls Try.prog 64 #[.int .i64 (C : Int), .int .i64 1, .int .i64 4] W fun e w' => e = .returned (.bool true) ∧ W = w' := fun W => (l01In_any (C : Int) 1 4 W).mono fun e w' h => ⟨by rw [h.1, hd], h.2.symm⟩
  have hN := pow_six (C := C) (k := 4) (by omega) (by omega)
  obtain ⟨p2, hp2⟩ : ∃ p, p = C * C := ⟨_, rfl⟩
  obtain ⟨p3, hp3⟩ : ∃ p, p = C * C * C := ⟨_, rfl⟩
  have e4 : C ^ 4 = p3 * C := by rw [hp3, Nat.pow_succ, Nat.pow_succ, Nat.pow_succ, Nat.pow_one]
  have HTN := Lib.hid (fun k hk => tile_of C k p2 p3 hp2 hp3 hk)
  have b2 : 1 ≤ p2 ∧ p2 ≤ 16 := by rw [hp2]; exact ⟨Nat.mul_le_mul hC1 hC1, Nat.mul_le_mul hC4 hC4⟩
  have b3 : 1 ≤ p3 ∧ p3 ≤ 64 := by rw [hp3, ← hp2]; exact ⟨Nat.mul_le_mul b2.1 hC1, Nat.mul_le_mul b2.2 hC4⟩
  have hw2 : IntKind.i64.wrap ((C : Int) * (C : Int)) = (p2 : Int) := by
    have e : ((C : Int) * (C : Int)) = (p2 : Int) := by rw [hp2]; push_cast; rfl
    rw [e]; exact IntWalk.i64_in _ (by omega)
  have hw3 : IntKind.i64.wrap ((p2 : Int) * (C : Int)) = (p3 : Int) := by
    have e : ((p2 : Int) * (C : Int)) = (p3 : Int) := by rw [hp3, hp2]; push_cast; rfl
    rw [e]; exact IntWalk.i64_in _ (by omega)
  have hw4 : IntKind.i64.wrap ((p3 : Int) * (C : Int)) = ((C ^ 4 : Nat) : Int) := by
    have e : ((p3 : Int) * (C : Int)) = ((C ^ 4 : Nat) : Int) := by rw [e4]; push_cast; rfl
    rw [e]; exact IntWalk.i64_in _ (by omega)
  obtain ⟨b2, b2'⟩ := b2
  obtain ⟨b3, b3'⟩ := b3
  generalize C ^ 4 = N at *
  clear hp2 hp3 e4 hd
  have HIN := Lib.hid hin
  unfold TlRes
  clear hin
  go_enter Try.func40, Try.ntmps40
  go_wp2_with (go_at_call 64; refine (HIN.out _).mono ?_; rintro e w' ⟨rfl, rfl⟩)
  have HO0 := Lib.hid (own_empty4 (Blk.new w 38 #[]) (Nat.le_refl w.heap.size))
  have HK0 := Lib.hid (((Ext.refl w).alloc (Obj.cells #[] 38)).below (Nat.le_refl w.heap.size))
  generalize (w.alloc (Obj.cells #[] 38)) = W1 at *
  go_loopw [5, 4] (fun i v wr => ∃ k : Nat, k ≤ N ∧ i = .int .i64 k ∧ wr.ownsRow w.heap.size 38 4 v (clsL C k).length (flat (clsL C k)) ∧ Below w.heap.size w wr) (fun i _ _ => N - (intOf i).toNat)
  case atStart => exact ⟨0, Nat.zero_le _, rfl, HO0.out, HK0.out⟩
  case round =>
    obtain ⟨k, hk, rfl, hown, hb⟩ := hrel
    have HO := Lib.hid hown
    have HB := Lib.hid hb
    have hlen := clsL_len C k
    have HLEN := Lib.hid hlen
    by_cases hlt : k < N
    · have hTN := HTN.out k hlt
      obtain ⟨g1, g1'⟩ := tdivN k p3 (by omega)
      obtain ⟨g2, g2'⟩ := tdivN k p2 (by omega)
      obtain ⟨g3, g3'⟩ := tdivN k C (by omega)
      obtain ⟨g4, g4'⟩ := tmodN k C (by omega)
      have l2 := Nat.div_le_self k p2
      have l3 := Nat.div_le_self k C
      obtain ⟨g5, g5'⟩ := tmodN (k / p2) C (by omega)
      obtain ⟨g6, g6'⟩ := tmodN (k / C) C (by omega)
      obtain ⟨z1, z1'⟩ : ¬ (p3 : Int) = 0 ∧ ((p3 : Int) == 0) = false := ⟨by omega, by rw [beq_eq_false_iff_ne]; omega⟩
      obtain ⟨z2, z2'⟩ : ¬ (p2 : Int) = 0 ∧ ((p2 : Int) == 0) = false := ⟨by omega, by rw [beq_eq_false_iff_ne]; omega⟩
      obtain ⟨z3, z3'⟩ : ¬ (C : Int) = 0 ∧ ((C : Int) == 0) = false := ⟨by omega, by rw [beq_eq_false_iff_ne]; omega⟩
      generalize k / p3 = y0 at *
      generalize k / p2 = u1 at *
      generalize k / C = u2 at *
      generalize k % C = y3 at *
      generalize u1 % C = y1 at *
      generalize u2 % C = y2 at *
      have HY := Lib.hid hTN
      have HYES := Lib.hid (fun h => clsL_yes (c := C) (k := k) h)
      have HNO := Lib.hid (fun h => clsL_no (c := C) (k := k) h)
      rw [← hTN] at HYES HNO
      have hcls := fun W => l07Class_any ((y0 : Int), (y1 : Int), (y2 : Int), (y3 : Int)) W
      have heq := fun W => eql_tile (classT ((y0 : Int), (y1 : Int), (y2 : Int), (y3 : Int))) ((y0 : Int), (y1 : Int), (y2 : Int), (y3 : Int)) W
      generalize hr : eqT (classT ((y0 : Int), (y1 : Int), (y2 : Int), (y3 : Int))) ((y0 : Int), (y1 : Int), (y2 : Int), (y3 : Int)) = r at heq HYES HNO
      generalize classT ((y0 : Int), (y1 : Int), (y2 : Int), (y3 : Int)) = m at hcls heq
      obtain ⟨m0, m1, m2, m3⟩ := m
      unfold Ext at hcls
      simp only [tv] at hcls heq
      have HCL := Lib.hid hcls
      have HEQ := Lib.hid heq
      have b3k : (k : Int) < (N : Int) := by omega
      clear hcls hr hown hb hTN heq l2 l3 hlen
      go_wp2_with fail
      have hsb := HB.out.size
      have n1 : ¬ p3 = 0 := by omega
      have n2 : ¬ p2 = 0 := by omega
      have n3 : ¬ C = 0 := by omega
      go_region_held3 (fun w' => w.heap.size ≤ w'.heap.size) (first | assumption | (simp; omega) | go_keep) (fail)
      have hbt : Blk (wr.alloc (Obj.cells #[.int .i64 (y0 : Int), .int .i64 (y1 : Int), .int .i64 (y2 : Int), .int .i64 (y3 : Int)] 38)).drew wr.heap.size 38 #[.int .i64 (y0 : Int), .int .i64 (y1 : Int), .int .i64 (y2 : Int), .int .i64 (y3 : Int)] := Blk.new wr _ _
      have hx5 : Ext wr (wr.alloc (Obj.cells #[.int .i64 (y0 : Int), .int .i64 (y1 : Int), .int .i64 (y2 : Int), .int .i64 (y3 : Int)] 38)).drew := ((Ext.refl wr).alloc _).drew
      generalize (wr.alloc (Obj.cells #[.int .i64 (y0 : Int), .int .i64 (y1 : Int), .int .i64 (y2 : Int), .int .i64 (y3 : Int)] 38)).drew = W5 at *
      have t0 := fun q os => hbt.grown q os 0 (v := .int .i64 (y0 : Int)) rfl
      have t1 := fun q os => hbt.grown q os 1 (v := .int .i64 (y1 : Int)) rfl
      have t2 := fun q os => hbt.grown q os 2 (v := .int .i64 (y2 : Int)) rfl
      have t3 := fun q os => hbt.grown q os 3 (v := .int .i64 (y3 : Int)) rfl
      have HBT := Lib.hid hbt
      have HX5 := Lib.hid hx5
      have heq := HEQ.out
      clear hbt hx5 g1 g1' g2 g2' g3 g3' g4 g4' g5 g5' g6 g6' z1 z1' z2 z2' z3 z3' n1 n2 n3
      go_wp2_with fail
      refine wp_region_quiet_grown mixed (by kernel_rfl) ?_
      repeat (go_big_quiet_step (((go_at_call 78; with_reducible refine Calls.grown_of (HCL.out _)))))
      refine wpQuiet_nil ?_
      intro _ hw'
      obtain ⟨⟨nq, osq⟩, hw''⟩ := hw'
      subst hw''
      clear t0 t1 t2 t3 heq
      have hxx : Ext W5 (grow (W5.drewN nq) osq) := ⟨nq, osq, rfl⟩
      generalize grow (W5.drewN nq) osq = W6 at *
      have hbt := HBT.out.ext hxx
      have t0 := hbt.rd 0 (v := .int .i64 (y0 : Int)) rfl
      have t1 := hbt.rd 1 (v := .int .i64 (y1 : Int)) rfl
      have t2 := hbt.rd 2 (v := .int .i64 (y2 : Int)) rfl
      have t3 := hbt.rd 3 (v := .int .i64 (y3 : Int)) rfl
      have O2 := Lib.hid (own_ext (own_ext HO.out HX5.out) hxx)
      have B2 := Lib.hid (HB.out.trans ((HX5.out.trans hxx).below HB.out.size))
      have hsq := B2.out.size
      clear hxx hbt
      cases r with
      | true =>
        have hlen2 := HLEN.out
        go_wp2_with (at_builtin; refine wpList_pushT rfl _ _ rfl w.heap.size _ (clsL C k).length _ rfl (O2.out.alloc _) W6.heap.size ((y0 : Int), (y1 : Int), (y2 : Int), (y3 : Int)) rfl (heap_alloc_new W6 _) (by unfold maxLen; omega) (by omega) (by simp; omega) ?_; intro v' w3 hown' hgrow _)
        have O3 := Lib.hid (show w3.ownsRow w.heap.size 38 4 v' (clsL C (k + 1)).length (flat (clsL C (k + 1))) by rw [HYES.out (by first | rfl | trivial), flat_snoc, List.length_append]; exact hown')
        have B3 := Lib.hid ((B2.out.alloc B2.out.size _).grown hgrow (by have := B2.out.size; simp; omega) (fun j hj => (O2.out.lt j hj).1))
        clear hown' hgrow O2 B2 t0 t1 t2 t3
        go_wp2_with fail
        go_roundw
        case rel => exact ⟨k + 1, by omega, by go_num, O3.out, B3.out⟩
        case measure => simp [intOf]; omega
      | false =>
        clear t0 t1 t2 t3
        go_wp2_with fail
        go_roundw
        case rel => exact ⟨k + 1, by omega, by go_num, by rw [HNO.out (by first | rfl | trivial)]; exact O2.out, B2.out⟩
        case measure => simp [intOf]; omega
    · obtain rfl : k = N := by omega
      obtain ⟨A2, cap2, rfl, htw⟩ := own_tw hown rfl
      have HW := Lib.hid htw
      clear hown htw HO hb hlen
      go_wp2_with fail
      go_ret2
      exact ⟨A2, cap2, rfl, HB.out, HW.out⟩

/-- How many classes there are. -/
theorem cls_count : ∀ C : Nat, 1 ≤ C → C ≤ 6 → (((clsL C (C ^ 4)).length : Nat) : Int) = ((C : Int) * C * C * C + C * C + 2 * C) / 4 := by
  intro C h1 h6
  obtain rfl | rfl | rfl | rfl | rfl | rfl : C = 1 ∨ C = 2 ∨ C = 3 ∨ C = 4 ∨ C = 5 ∨ C = 6 := by omega
  all_goals decide +kernel
set_option maxRecDepth 100000 in
set_option maxHeartbeats 1000000 in
theorem implCountClasses_any (c : Int) (w : World) : Calls Try.prog 43 #[.int .i64 c] w (NumRes' w (if 1 ≤ c ∧ c ≤ 6 then (c * c * c * c + c * c + 2 * c) / 4 else 0) (if 1 ≤ c ∧ c ≤ 6 then 0 else 2)) := by
  by_cases h : 1 ≤ c ∧ c ≤ 6
  · rw [if_pos h, if_pos h]
    obtain ⟨C, rfl⟩ : ∃ C : Nat, c = (C : Int) := ⟨c.toNat, by omega⟩
    have HC := Lib.hid (classesOf_any C w (by omega) (by omega))
    have hn := cls_count C (by omega) (by omega)
    have hd : decide (1 ≤ (C : Int) ∧ (C : Int) ≤ 6) = true := decide_eq_true h
    have hcol : ∀ W, Calls Try.prog 68 #[.int .i64 (C : Int)] W fun e w' => e = .returned (.bool true) ∧ W = w' := fun W => (isColour_any (C : Int) W).mono fun e w' h => ⟨by rw [h.1, hd], h.2.symm⟩
    have HCOL := Lib.hid hcol
    have hle := clsL_len C (C ^ 4)
    have hN := pow_six (C := C) (k := 4) (by omega) (by omega)
    rw [← hn]
    generalize (clsL C (C ^ 4)).length = L at *
    clear hn hd hcol h
    go_enter Try.func43, Try.ntmps43
    go_wp2_with (go_at_call 68; refine (HCOL.out _).mono ?_; rintro e w' ⟨rfl, rfl⟩)
    refine HC.out.mono ?_
    rintro e w1 ⟨A, cap, rfl, hb, hw⟩
    have HB := Lib.hid hb
    clear hb hw
    go_wp2_with fail
    go_ret2
    exact ⟨rfl, HB.out⟩
  · rw [if_neg h, if_neg h]
    have hd : decide (1 ≤ c ∧ c ≤ 6) = false := decide_eq_false h
    have hcol : ∀ W, Calls Try.prog 68 #[.int .i64 c] W fun e w' => e = .returned (.bool false) ∧ W = w' := fun W => (isColour_any c W).mono fun e w' h => ⟨by rw [h.1, hd], h.2.symm⟩
    have HCOL := Lib.hid hcol
    clear hd hcol h
    go_enter Try.func43, Try.ntmps43
    go_wp2_with (go_at_call 68; refine (HCOL.out _).mono ?_; rintro e w' ⟨rfl, rfl⟩)
    go_ret2
    exact ⟨rfl, Below.refl _ _⟩
set_option maxRecDepth 100000 in
set_option maxHeartbeats 1000000 in
theorem specCountClasses_any (c : Int) (w : World) : Calls Try.prog 42 #[.int .i64 c] w (NumRes' w (if 1 ≤ c ∧ c ≤ 6 then (c * c * c * c + c * c + 2 * c) / 4 else 0) (if 1 ≤ c ∧ c ≤ 6 then 0 else 2)) := by
  by_cases h : 1 ≤ c ∧ c ≤ 6
  · rw [if_pos h, if_pos h]
    obtain rfl | rfl | rfl | rfl | rfl | rfl : c = 1 ∨ c = 2 ∨ c = 3 ∨ c = 4 ∨ c = 5 ∨ c = 6 := by omega
    all_goals
      have hd : decide ((1 : Int) ≤ 1 ∧ (1 : Int) ≤ 6) = true := rfl
      clear hd h
      go_enter Try.func42, Try.ntmps42
      go_wp2_with (go_at_call 64; refine (l01In_any _ _ _ _).mono ?_; rintro e w' ⟨rfl, hww⟩; have hww := hww.symm; subst hww)
      go_ret2
      exact ⟨rfl, Below.refl _ _⟩
  · rw [if_neg h, if_neg h]
    have hd : decide (1 ≤ c ∧ c ≤ 6) = false := decide_eq_false h
    have hcol : ∀ W, Calls Try.prog 64 #[.int .i64 c, .int .i64 1, .int .i64 6] W fun e w' => e = .returned (.bool false) ∧ W = w' := fun W => (l01In_any c 1 6 W).mono fun e w' h => ⟨by rw [h.1, hd], h.2.symm⟩
    have HCOL := Lib.hid hcol
    clear hd hcol h
    go_enter Try.func42, Try.ntmps42
    go_wp2_with (go_at_call 64; refine (HCOL.out _).mono ?_; rintro e w' ⟨rfl, rfl⟩)
    go_ret2
    exact ⟨rfl, Below.refl _ _⟩
end Go.Proofs.Ytfhdgilddnndcaa
