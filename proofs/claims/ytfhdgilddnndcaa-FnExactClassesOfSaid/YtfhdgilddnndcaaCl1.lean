/- The classes of all tiles with some colours: the program's side. -/
import Derived.Test.YtfhdgilddnndcaaWn2
import Derived.Test.YtfhdgilddnndcaaTn6
import Derived.Test.YtfhdgilddnndcaaAppR
namespace Go.Proofs.Ytfhdgilddnndcaa
set_option linter.unusedVariables false
set_option linter.unusedSimpArgs false
open Go.RowKit Go.Sort

/-- The tile of a number: its sides are a word. -/
def tileN (c k : Nat) : Tl := (((digW c 4 k 0 : Nat) : Int), ((digW c 4 k 1 : Nat) : Int), ((digW c 4 k 2 : Nat) : Int), ((digW c 4 k 3 : Nat) : Int))
def clsL (c : Nat) : Nat → List Tl
  | 0 => []
  | k + 1 => if eqT (classT (tileN c k)) (tileN c k) = true then clsL c k ++ [tileN c k] else clsL c k
theorem clsL_len (c : Nat) : ∀ k, (clsL c k).length ≤ k
  | 0 => Nat.le_refl _
  | k + 1 => by
    have := clsL_len c k
    simp only [clsL]
    split
    · rw [List.length_append]; simp; omega
    · omega
theorem clsL_yes {c k : Nat} (h : eqT (classT (tileN c k)) (tileN c k) = true) : clsL c (k + 1) = clsL c k ++ [tileN c k] := by simp only [clsL]; rw [if_pos h]
theorem clsL_no {c k : Nat} (h : eqT (classT (tileN c k)) (tileN c k) = false) : clsL c (k + 1) = clsL c k := by simp only [clsL]; rw [if_neg (by rw [h]; exact Bool.false_ne_true)]
theorem pow_six {C k : Nat} (hc : C ≤ 6) (hk : k ≤ 4) : C ^ k ≤ 1296 := by
  have h1 : C ^ k ≤ 6 ^ k := Nat.pow_le_pow_left hc k
  have h2 : (6 : Nat) ^ k ≤ 6 ^ 4 := Nat.pow_le_pow_right (by omega) hk
  omega
theorem arrayAt4 (W : World) (b o c : Nat) : (Instr.arrayAt 38 (.slice (some ⟨b, o, none⟩) 4 c)).run Try.prog W = .ok (.pointer (some ⟨b, o, none⟩)) W := by
  simp [Instr.arrayAt, run_underlying Try.underlying38]
set_option maxHeartbeats 1000000 in
theorem wordsOf4_any (C : Nat) (A : Option Addr) (n c : Nat) (h : Nat) (w : World) (hc6 : C ≤ 6) (hh : h ≤ 4) :
    Calls Try.prog 113 #[.agg #[.int .i64 (C : Int), .slice A n c], .int .i64 (h : Int)] w fun e w' => e = .returned (.int .i64 ((C ^ h : Nat) : Int)) ∧ Ext w w' := by
  go_enter Try.func113, Try.ntmps113
  go_wp2_with fail
  have HX0 := Lib.hid ((Ext.refl w).alloc (Obj.cells #[.int .i64 (C : Int), .slice A n c] 26))
  have r0 := (Blk.new w 26 #[.int .i64 (C : Int), .slice A n c]).rd 0 rfl
  generalize w.alloc (Obj.cells #[.int .i64 (C : Int), .slice A n c] 26) = W0 at *
  go_loopw [5, 7] (fun v i wr => ∃ k : Nat, k ≤ h ∧ i = .int .i64 k ∧ v = .int .i64 ((C ^ k : Nat) : Int) ∧ wr = W0) (fun _ i _ => h - (intOf i).toNat)
  case atStart => exact ⟨0, Nat.zero_le _, rfl, by simp, rfl⟩
  case round =>
    obtain ⟨k, hk, rfl, rfl, rfl⟩ := hrel
    have hp := pow_six (k := k) hc6 (by omega)
    have hs : C ^ (k + 1) = C ^ k * C := Nat.pow_succ ..
    have hpc : C ^ k * C ≤ 1296 * 6 := Nat.mul_le_mul hp hc6
    have EP := Lib.hid hs
    clear hs
    obtain ⟨p, hp'⟩ : ∃ p, p = C ^ k := ⟨_, rfl⟩
    rw [← hp'] at hp hpc EP ⊢
    have EK := Lib.hid hp'
    clear hp'
    by_cases hlt : k < h
    · have hcast : ((p * C : Nat) : Int) = (p : Int) * (C : Int) := by push_cast; rfl
      have hw1 : IntKind.i64.wrap ((p : Int) * (C : Int)) = (p : Int) * (C : Int) := IntWalk.i64_in _ (by omega)
      have hlt3 : (k : Int) < (h : Int) := by omega
      go_wp2_with fail
      go_roundw
      case rel => exact ⟨k + 1, by omega, by go_num, by rw [EP.out]; push_cast; rfl, trivial⟩
      case measure => simp [intOf]; omega
    · obtain rfl : k = h := by omega
      go_wp2_with fail
      go_ret
      exact ⟨by rw [← EK.out]; rfl, HX0.out⟩

set_option maxRecDepth 100000 in
set_option maxHeartbeats 800000 in
theorem classesOf_any (C : Nat) (w : World) (hC1 : 1 ≤ C) (hC6 : C ≤ 6) :
    Calls Try.prog 81 #[.int .i64 (C : Int)] w fun e w' => ∃ A cap, e = .returned (.slice A (clsL C (C ^ 4)).length cap) ∧ Below w.heap.size w w' ∧ TW w' w.heap.size A (clsL C (C ^ 4)) := by
  have mixed : Try.prog.follows .mixedOrders = true := by kernel_rfl
  have hwo : ∀ W, Calls Try.prog 113 #[.agg #[.int .i64 (C : Int), .slice none 0 0], .int .i64 4] W _ := fun W => wordsOf4_any C none 0 0 4 W hC6 (by omega)
  have hN := pow_six (k := 4) hC6 (by omega)
  have hww : ∀ k : Nat, k ≤ 1296 → ∀ W, Calls Try.prog 85 #[.agg #[.int .i64 (C : Int), .slice none 0 0], .int .i64 4, .int .i64 (k : Int)] W _ := fun k hk W => wordWithNumber_any C 4 k none 0 0 W (by omega) (by omega) (by omega) (by omega) (by omega)
  generalize hNN : C ^ 4 = N at *
  have HWO := Lib.hid hwo
  have HWW := Lib.hid hww
  clear hwo hww hNN
  go_enter Try.func81, Try.ntmps81
  go_wp2_with fail
  refine (HWO.out _).mono ?_
  rintro e W0 ⟨rfl, hx⟩
  have HX0 := Lib.hid (((Ext.refl w).alloc (Obj.cells #[.int .i64 (C : Int), .slice none 0 0] 26)).trans hx)
  have hb0 := (Blk.new w 26 #[.int .i64 (C : Int), .slice none 0 0]).ext hx
  have HB0 := Lib.hid hb0
  have hs0 := hb0.lt
  clear hx hb0
  go_wp2_with fail
  go_loopw [11, 4] (fun i v wr => ∃ k : Nat, k ≤ N ∧ i = .int .i64 k ∧ wr.ownsRow W0.heap.size 38 4 v (clsL C k).length (flat (clsL C k)) ∧ Below W0.heap.size W0 wr) (fun i _ _ => N - (intOf i).toNat)
  case atStart => exact ⟨0, Nat.zero_le _, rfl, World.ownsRow_nil _ _ _ _, Below.refl _ _⟩
  case round =>
    obtain ⟨k, hk, rfl, hown, hb⟩ := hrel
    have HO := Lib.hid hown
    have HB := Lib.hid hb
    have hlen := clsL_len C k
    have HLEN := Lib.hid hlen
    by_cases hlt : k < N
    · have hbx := HB0.out.below hb hs0
      have q0 := hbx.rd 0 (v := .int .i64 (C : Int)) rfl
      have q1 := hbx.rd 1 (v := .slice none 0 0) rfl
      have hcon := HWW.out k (by omega) wr
      have HC := Lib.hid hcon
      have b3 : (k : Int) < (N : Int) := by omega
      have hsw := hb.size
      clear hown hb hbx hcon hlen
      go_wp2_with fail
      refine HC.out.mono ?_
      rintro e w1 ⟨rfl, hb1, hdi⟩
      have hra := fun W => arrayAt4 W (wr.heap.size + 1 + 1) 0 4
      have d0 := (hdi.at_ (j := 0) (by omega)).1
      have d1 := (hdi.at_ (j := 1) (by omega)).1
      have d2 := (hdi.at_ (j := 2) (by omega)).1
      have d3 := (hdi.at_ (j := 3) (by omega)).1
      obtain ⟨⟨y0, y1, y2, y3⟩, hY⟩ : ∃ y, y = tileN C k := ⟨_, rfl⟩
      have hY' := hY
      unfold tileN at hY'
      simp only [Prod.mk.injEq] at hY'
      obtain ⟨e0, e1, e2, e3⟩ := hY'
      rw [← e0] at d0
      rw [← e1] at d1
      rw [← e2] at d2
      rw [← e3] at d3
      have HY := Lib.hid hY
      have HYES := Lib.hid (fun h => clsL_yes (c := C) (k := k) h)
      have HNO := Lib.hid (fun h => clsL_no (c := C) (k := k) h)
      rw [← hY] at HYES HNO
      have hcls := fun W => classOf_any (y0, y1, y2, y3) W
      have heq := fun W => eql_tile (classT (y0, y1, y2, y3)) (y0, y1, y2, y3) W
      generalize hr : eqT (classT (y0, y1, y2, y3)) (y0, y1, y2, y3) = r at heq HYES HNO
      generalize classT (y0, y1, y2, y3) = m at hcls heq
      obtain ⟨m0, m1, m2, m3⟩ := m
      simp only [tv] at hcls heq
      have HCL := Lib.hid hcls
      have O1 := Lib.hid (own_belowA HO.out hb1)
      have B1 := Lib.hid (HB.out.trans (hb1.mono HB.out.size))
      have hs1 := hb1.size
      have hbt := Blk.new w1 38 #[.int .i64 y0, .int .i64 y1, .int .i64 y2, .int .i64 y3]
      have HBT := Lib.hid hbt
      have t0 := fun p : BelowBy (w1.alloc (Obj.cells #[.int .i64 y0, .int .i64 y1, .int .i64 y2, .int .i64 y3] 38)) => hbt.by_ p 0 (v := .int .i64 y0) rfl
      have t1 := fun p : BelowBy (w1.alloc (Obj.cells #[.int .i64 y0, .int .i64 y1, .int .i64 y2, .int .i64 y3] 38)) => hbt.by_ p 1 (v := .int .i64 y1) rfl
      have t2 := fun p : BelowBy (w1.alloc (Obj.cells #[.int .i64 y0, .int .i64 y1, .int .i64 y2, .int .i64 y3] 38)) => hbt.by_ p 2 (v := .int .i64 y2) rfl
      have t3 := fun p : BelowBy (w1.alloc (Obj.cells #[.int .i64 y0, .int .i64 y1, .int .i64 y2, .int .i64 y3] 38)) => hbt.by_ p 3 (v := .int .i64 y3) rfl
      clear hr hY e0 e1 e2 e3 hdi hb1 hcls q0 q1 hbt
      go_wp2_with fail
      clear d0 d1 d2 d3 hra
      refine wp_region_quiet_below mixed (by kernel_rfl) ?_
      repeat (go_big_quiet_step (((go_at_call 79; with_reducible refine Calls.below_of (HCL.out _)))))
      refine wpQuiet_nil ?_
      intro wq hw'
      obtain ⟨⟨wq0, hwq⟩, hw''⟩ := hw'
      subst hw''
      clear t0 t1 t2 t3 heq
      have hbt := HBT.out.below hwq HBT.out.lt
      have t0 := hbt.rd 0 (v := .int .i64 y0) rfl
      have t1 := hbt.rd 1 (v := .int .i64 y1) rfl
      have t2 := hbt.rd 2 (v := .int .i64 y2) rfl
      have t3 := hbt.rd 3 (v := .int .i64 y3) rfl
      have O2 := Lib.hid (own_belowA (O1.out.alloc (Obj.cells #[.int .i64 y0, .int .i64 y1, .int .i64 y2, .int .i64 y3] 38)) hwq)
      have B2 := Lib.hid ((B1.out.alloc B1.out.size (Obj.cells #[.int .i64 y0, .int .i64 y1, .int .i64 y2, .int .i64 y3] 38)).trans (hwq.mono (by have := B1.out.size; simp; omega)))
      have hsq := hwq.size
      rw [World.size_alloc] at hsq
      clear hwq hbt
      cases r with
      | true =>
        have hlen2 := HLEN.out
        go_wp2_with (at_builtin; refine wpList_pushT rfl _ _ rfl W0.heap.size _ (clsL C k).length _ rfl (O2.out.alloc _) wq.heap.size (y0, y1, y2, y3) rfl (heap_alloc_new wq _) (by unfold maxLen; omega) (by omega) (by simp; omega) ?_; intro v' w3 hown' hgrow _)
        have O3 := Lib.hid (show w3.ownsRow W0.heap.size 38 4 v' (clsL C (k + 1)).length (flat (clsL C (k + 1))) by rw [HYES.out (by first | rfl | trivial), flat_snoc, List.length_append]; exact hown')
        have B3 := Lib.hid ((B2.out.alloc B2.out.size _).grown hgrow (by have := B2.out.size; simp; omega) (fun j hj => (O2.out.lt j hj).1))
        clear hown' hgrow O2 B2 t0 t1 t2 t3
        go_wp2_with fail
        go_roundw
        case rel => exact ⟨k + 1, by omega, by go_num, O3.out, B3.out⟩
        case measure => simp [intOf]; omega
      | false =>
        clear t0 t1 t2 t3
        go_wp2_with fail
        go_roundw
        case rel => exact ⟨k + 1, by omega, by go_num, by rw [HNO.out (by first | rfl | trivial)]; exact O2.out, B2.out⟩
        case measure => simp [intOf]; omega
    · obtain rfl : k = N := by omega
      obtain ⟨A2, cap2, rfl, htw⟩ := own_tw hown rfl
      have HW := Lib.hid htw
      clear hown htw HO hb hlen
      go_wp2_with fail
      go_ret
      exact ⟨A2, cap2, rfl, (HX0.out.below (Nat.le_refl _)).trans (HB.out.mono (HX0.out.below (Nat.le_refl _)).size), HW.out.low (HX0.out.below (Nat.le_refl _)).size⟩
end Go.Proofs.Ytfhdgilddnndcaa
