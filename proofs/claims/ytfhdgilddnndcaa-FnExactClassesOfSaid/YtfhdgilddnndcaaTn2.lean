/- The turns of a tile: the program's list, and the model's turning. -/
import Derived.Test.YtfhdgilddnndcaaTn1
import Derived.Test.YtfhdgilddnndcaaHc1
namespace Go.Proofs.Ytfhdgilddnndcaa
set_option linter.unusedVariables false
set_option linter.unusedSimpArgs false
open Go.RowKit Go.Sort

theorem turning_k (a : Tl) (k : Nat) (hk : k < 4) : ∃ g, (#[.func (.func 107) #[] #[], .func (.func 108) #[] #[], .func (.func 109) #[] #[], .func (.func 110) #[] #[]] : Array Value)[k]? = some (.func (.func g) #[] #[]) ∧ (∀ args w, (callFunc g args).run Try.prog w = .ok (.enter g args) w) ∧ ∀ W, Calls Try.prog g #[tv a] W fun e w' => e = .returned (tv ((turnsL a).getD k T0)) ∧ Ext W w' := by
  obtain rfl | rfl | rfl | rfl : k = 0 ∨ k = 1 ∨ k = 2 ∨ k = 3 := by omega
  · exact ⟨_, rfl, enters_of Try.func107 (by kernel_rfl) rfl, fun W => unturned_any a W⟩
  · exact ⟨_, rfl, enters_of Try.func108 (by kernel_rfl) rfl, fun W => rot_any a W⟩
  · exact ⟨_, rfl, enters_of Try.func109 (by kernel_rfl) rfl, fun W => rotTwice_any a W⟩
  · exact ⟨_, rfl, enters_of Try.func110 (by kernel_rfl) rfl, fun W => rotThrice_any a W⟩

set_option maxRecDepth 100000 in
set_option maxHeartbeats 1000000 in
theorem turnsOf_any (a : Tl) (w : World) :
    Calls Try.prog 77 #[tv a] w fun e w' => ∃ A cap, e = .returned (.slice A 4 cap) ∧ Below w.heap.size w w' ∧ TW w' w.heap.size A (turnsL a) := by
  have htk := turning_k a
  generalize hL : turnsL a = L at htk ⊢
  have hLL : L.length = 4 := by rw [← hL]; rfl
  have HTK := Lib.hid htk
  have HLL := Lib.hid hLL
  clear htk hLL hL
  obtain ⟨x0, x1, x2, x3⟩ := a
  simp only [tv]
  go_enter Try.func77, Try.ntmps77
  go_wp2_with fail
  have hx0 : Ext w ((w.alloc (Obj.cells #[.int .i64 x0, .int .i64 x1, .int .i64 x2, .int .i64 x3] 38)).alloc (Obj.cells #[.func (.func 107) #[] #[], .func (.func 108) #[] #[], .func (.func 109) #[] #[], .func (.func 110) #[] #[]] 99)) := ((Ext.refl w).alloc _).alloc _
  have hb1 : Blk ((w.alloc (Obj.cells #[.int .i64 x0, .int .i64 x1, .int .i64 x2, .int .i64 x3] 38)).alloc (Obj.cells #[.func (.func 107) #[] #[], .func (.func 108) #[] #[], .func (.func 109) #[] #[], .func (.func 110) #[] #[]] 99)) w.heap.size 38 #[.int .i64 x0, .int .i64 x1, .int .i64 x2, .int .i64 x3] := (Blk.new w _ _).ext ((Ext.refl _).alloc _)
  have hb2 : Blk ((w.alloc (Obj.cells #[.int .i64 x0, .int .i64 x1, .int .i64 x2, .int .i64 x3] 38)).alloc (Obj.cells #[.func (.func 107) #[] #[], .func (.func 108) #[] #[], .func (.func 109) #[] #[], .func (.func 110) #[] #[]] 99)) (w.heap.size + 1) 99 #[.func (.func 107) #[] #[], .func (.func 108) #[] #[], .func (.func 109) #[] #[], .func (.func 110) #[] #[]] := by
    have := Blk.new (w.alloc (Obj.cells #[.int .i64 x0, .int .i64 x1, .int .i64 x2, .int .i64 x3] 38)) 99 #[.func (.func 107) #[] #[], .func (.func 108) #[] #[], .func (.func 109) #[] #[], .func (.func 110) #[] #[]]
    simpa using this
  have hs0 : w.heap.size + 2 ≤ ((w.alloc (Obj.cells #[.int .i64 x0, .int .i64 x1, .int .i64 x2, .int .i64 x3] 38)).alloc (Obj.cells #[.func (.func 107) #[] #[], .func (.func 108) #[] #[], .func (.func 109) #[] #[], .func (.func 110) #[] #[]] 99)).heap.size := by simp
  generalize ((w.alloc (Obj.cells #[.int .i64 x0, .int .i64 x1, .int .i64 x2, .int .i64 x3] 38)).alloc (Obj.cells #[.func (.func 107) #[] #[], .func (.func 108) #[] #[], .func (.func 109) #[] #[], .func (.func 110) #[] #[]] 99)) = W0 at *
  have HX0 := Lib.hid hx0
  have HB1 := Lib.hid hb1
  have HB2 := Lib.hid hb2
  clear hx0 hb1 hb2
  go_loopw [10, 4] (fun i v wr => ∃ k : Nat, k ≤ 4 ∧ i = .int .i64 k ∧ wr.ownsRow W0.heap.size 38 4 v k (flat (L.take k)) ∧ Below W0.heap.size W0 wr) (fun i _ _ => 4 - (intOf i).toNat)
  case atStart => exact ⟨0, by omega, rfl, by simpa [flat] using World.ownsRow_nil _ _ _ _, Below.refl _ _⟩
  case round =>
    obtain ⟨k, hk, rfl, hown, hb⟩ := hrel
    have HO := Lib.hid hown
    have HB := Lib.hid hb
    by_cases hlt : k < 4
    · obtain ⟨g, hcell, eg, hcon⟩ := HTK.out k hlt
      have hbx := HB1.out.below hb (by omega)
      have q0 := hbx.rd 0 rfl
      have q1 := hbx.rd 1 rfl
      have q2 := hbx.rd 2 rfl
      have q3 := hbx.rd 3 rfl
      have f1 : wr.cell? ⟨w.heap.size + 1, k, none⟩ = some (.func (.func g) #[] #[]) := ((HB2.out.below hb (by omega)).cell k).trans hcell
      obtain ⟨⟨y0, y1, y2, y3⟩, hY⟩ : ∃ y, y = L.getD k T0 := ⟨_, rfl⟩
      rw [← hY] at hcon
      simp only [tv] at hcon
      have HC := Lib.hid hcon
      have EY := Lib.hid hY
      have hsw := hb.size
      have b3 : (k : Int) < 4 := by omega
      clear hcon hY hcell hown hb hbx
      go_wp2_with fail
      refine (HC.out _).mono ?_
      rintro e w2 ⟨rfl, hx2⟩
      have O2 := Lib.hid (own_ext HO.out hx2)
      have B2 := Lib.hid (HB.out.trans (hx2.below HB.out.size))
      have hs2 := (hx2.below (Nat.le_refl _)).size
      clear hx2 HO HB q0 q1 q2 q3 f1 eg
      go_wp2_with (at_builtin; refine wpList_pushT rfl _ _ rfl W0.heap.size _ k _ rfl (O2.out.alloc _) w2.heap.size (y0, y1, y2, y3) rfl (heap_alloc_new w2 _) (by unfold maxLen; omega) (by omega) (by simp; omega) ?_; intro v' w3 hown' hgrow _)
      have O3 := Lib.hid (own_step (us := L) (k := k) (y := (y0, y1, y2, y3)) (by have := HLL.out; omega) EY.out hown')
      have B3 := Lib.hid ((B2.out.alloc B2.out.size _).grown hgrow (by have := B2.out.size; simp; omega) (fun j hj => (O2.out.lt j hj).1))
      clear hown' hgrow O2 B2
      go_wp2_with fail
      go_roundw
      case rel => exact ⟨k + 1, by omega, by go_num, O3.out, B3.out⟩
      case measure => simp [intOf]; omega
    · obtain rfl : k = 4 := by omega
      rw [List.take_of_length_le (by have := HLL.out; omega)] at hown
      obtain ⟨A2, cap2, rfl, htw⟩ := own_tw hown HLL.out
      have HW := Lib.hid htw
      clear hown htw HO hb
      go_wp2_with fail
      go_ret
      exact ⟨A2, cap2, rfl, (HX0.out.below (Nat.le_refl _)).trans (HB.out.mono (by omega)), HW.out.low (by omega)⟩

def rotN : Nat → Tl → Tl
  | 0, a => a
  | n + 1, a => rotN n (rotT a)
set_option maxRecDepth 100000 in
set_option maxHeartbeats 1000000 in
theorem l07Turn_any (a : Tl) (n : Int) (w : World) (h0 : 0 ≤ n) (h3 : n ≤ 4) :
    Calls Try.prog 75 #[tv a, .int .i64 n] w fun e w' => e = .returned (tv (rotN n.toNat a)) ∧ Ext w w' := by
  obtain ⟨x0, x1, x2, x3⟩ := a
  obtain rfl | rfl | rfl | rfl | rfl : n = 0 ∨ n = 1 ∨ n = 2 ∨ n = 3 ∨ n = 4 := by omega
  all_goals
    simp only [tv, show (0 : Int).toNat = 0 from rfl, show (1 : Int).toNat = 1 from rfl, show (2 : Int).toNat = 2 from rfl, show (3 : Int).toNat = 3 from rfl, show (4 : Int).toNat = 4 from rfl, rotN, rotT]
    go_enter Try.func75, Try.ntmps75
    go_wp2_with fail
    refine wp_loop_rounds 5 ?_
    rw [rounds_succ]
    go_wp2
    repeat (rw [rounds_succ]; go_wp2)
    go_returns
    exact ⟨rfl, by repeat (first | exact Ext.refl _ | refine Ext.drewN ?_ _ | refine Ext.alloc ?_ _ | refine Ext.drew ?_)⟩
end Go.Proofs.Ytfhdgilddnndcaa
