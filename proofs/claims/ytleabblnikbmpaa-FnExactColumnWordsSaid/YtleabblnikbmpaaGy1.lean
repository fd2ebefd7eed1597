/- A word from its number; the model's side. -/
import Derived.Test.YtleabblnikbmpaaWn1
import Derived.RangeFuncBox
import Derived.Lib.Hide
namespace Go.Proofs.Ytleabblnikbmpaa
set_option linter.unusedVariables false
set_option linter.unusedSimpArgs false
open Go.RowKit Go.Sort

set_option maxRecDepth 100000 in
set_option maxHeartbeats 1000000 in
theorem l06Word_any (code C h : Nat) (w : World) (hC : 0 < C) (hC2 : C ≤ 1000) (hc : code ≤ 1000) (hh : h ≤ 4) :
    Calls Try.prog 57 #[.int .i64 (code : Int), .int .i64 (C : Int), .int .i64 (h : Int)] w fun e w' => ∃ g, e = .returned (.slice (some ⟨g, 0, none⟩) h h) ∧ w.heap.size ≤ g ∧ Below w.heap.size w w' ∧ DI w' g h (fun x => (digW C h code x : Int)) := by
  obtain ⟨i1, hi1, hy0, hy1, hy2⟩ := info_parts info_int
  have hmk1 := fun W => run_make_rowN (P := Try.prog) 42 2 i1 _ (by kernel_rfl) hi1 hy0 .i64 .i64 h h (Nat.le_refl _) (by rw [hy2]; omega) (by omega) W
  rw [hy1] at hmk1
  have hat := made_ints h
  have hsz := show (madeCells (Value.cells (.int .i64 0)) (h * 1)).size = h by rw [size_madeCells, Nat.mul_one]
  generalize madeCells (Value.cells (.int .i64 0)) (h * 1) = cs1 at hmk1 hat hsz
  have HD0 := Lib.hid (show DI (w.alloc (Obj.cells cs1 2)) w.heap.size h (partW C h code 0) from DI.congr (d := fun _ => 0) ⟨cs1, Blk.new w _ _, hsz, fun j hj => hat j hj⟩ fun j hj => by unfold partW; rw [if_neg (by omega)])
  have HB0 := Lib.hid (((Ext.refl w).alloc (Obj.cells cs1 2)).below (Nat.le_refl w.heap.size))
  have hw1 : IntKind.i64.wrap ((h : Int) - 1) = (h : Int) - 1 := IntWalk.i64_in _ (by omega)
  clear hi1 hy0 hy1 hy2 hat hsz
  go_enter Try.func57, Try.ntmps57
  go_wp2_with fail
  generalize (w.alloc (Obj.cells cs1 2)) = W1 at *
  clear hmk1
  go_loopw [0, 8] (fun cc ii wr => ∃ i k : Nat, i + k = h ∧ ii = .int .i64 ((i : Int) - 1) ∧ cc = .int .i64 ((code / C ^ k : Nat) : Int) ∧ DI wr w.heap.size h (partW C h code k) ∧ Below w.heap.size w wr) (fun _ ii _ => (intOf ii + 1).toNat)
  case atStart => exact ⟨h, 0, rfl, rfl, by rw [Nat.pow_zero, Nat.div_one], HD0.out, HB0.out⟩
  case round =>
    obtain ⟨i, k, hik, rfl, rfl, hdi, hb⟩ := hrel
    have HQ1 := Lib.hid (show code / C ^ (k + 1) = code / C ^ k / C by rw [Nat.pow_succ, Nat.div_div_eq_div_mul])
    have hq0 : code / C ^ k ≤ 1000 := Nat.le_trans (Nat.div_le_self _ _) hc
    by_cases h0 : 0 < i
    · obtain ⟨m, rfl⟩ : ∃ m, i = m + 1 := ⟨i - 1, by omega⟩
      have hm : m < h := by omega
      have hm2 : ((m + 1 : Nat) : Int) - 1 = (m : Int) := by omega
      rw [hm2]
      have HDG := Lib.hid (show code / C ^ k % C = digW C h code m by unfold digW; rw [show h - 1 - m = k by omega])
      generalize code / C ^ k = q at *
      obtain ⟨-, z2⟩ := hdi.at_ hm
      have d2 := (hdi.at_ hm).1
      have hr : Int.tmod (q : Int) (C : Int) = ((q % C : Nat) : Int) := by rw [Int.tmod_eq_emod_of_nonneg (by omega)]; push_cast; rfl
      have hd : Int.tdiv (q : Int) (C : Int) = ((q / C : Nat) : Int) := by rw [Int.tdiv_eq_ediv_of_nonneg (by omega)]; push_cast; rfl
      have hlt := Nat.mod_lt q hC
      have hle := Nat.div_le_self q C
      have hC4 : ¬ (C : Int) = 0 := by omega
      have hC5 : ((C : Int) == 0) = false := by rw [beq_eq_false_iff_ne]; omega
      obtain ⟨r, hrr⟩ : ∃ r, r = q % C := ⟨_, rfl⟩
      obtain ⟨d, hdd⟩ : ∃ d, d = q / C := ⟨_, rfl⟩
      rw [← hrr] at hr hlt HDG
      rw [← hdd] at hd hle HQ1
      have hwr : IntKind.i64.wrap (r : Int) = (r : Int) := IntWalk.i64_in _ (by omega)
      have hwd : IntKind.i64.wrap (d : Int) = (d : Int) := IntWalk.i64_in _ (by omega)
      have hwm : IntKind.i64.wrap ((m : Int) - 1) = (m : Int) - 1 := IntWalk.i64_in _ (by omega)
      have HD2 := Lib.hid ((hdi.set_ hm (r : Int)).congr (d' := partW C h code (k + 1)) fun x hx => by
        unfold partW
        by_cases e : x = m
        · rw [if_pos e, if_pos (by omega), e, ← HDG.out]
        · rw [if_neg e]
          by_cases e2 : h ≤ x + k
          · rw [if_pos e2, if_pos (by omega)]
          · rw [if_neg e2, if_neg (by omega)])
      have HB2 := Lib.hid (hb.setCell (p := ⟨w.heap.size, m, none⟩) (Nat.le_refl _) (.int .i64 (r : Int)))
      clear hrr hdd hdi hb
      go_wp2_with fail
      go_roundw
      case rel => exact ⟨m, k + 1, by omega, rfl, by rw [HQ1.out], HD2.out, HB2.out⟩
      case measure => simp [intOf]
    · obtain rfl : i = 0 := by omega
      obtain rfl : k = h := by omega
      have HD2 := Lib.hid (hdi.congr (d' := fun x => (digW C k code x : Int)) fun x hx => by unfold partW; rw [if_pos (by omega)])
      have HB2 := Lib.hid hb
      clear hdi hb
      go_wp2_with fail
      go_ret
      exact ⟨w.heap.size, rfl, Nat.le_refl _, HB2.out, HD2.out⟩
end Go.Proofs.Ytleabblnikbmpaa
