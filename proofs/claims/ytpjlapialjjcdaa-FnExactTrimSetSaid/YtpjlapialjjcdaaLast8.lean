/- The lasting tiles: the model's function. -/
import Derived.Test.YtpjlapialjjcdaaLast7
import Derived.Lib.Hide
namespace Go.Proofs.Ytpjlapialjjcdaa
set_option linter.unusedVariables false
set_option linter.unusedSimpArgs false
open Go.RowKit Go.Sort

theorem numsOf_congr {n : Nat} {p q : Nat → Bool} (h : ∀ x, x < n → p x = q x) : numsOf n p = numsOf n q := by
  unfold numsOf
  rw [List.filter_congr (fun x hx => h x (List.mem_range.1 hx))]
theorem numsOf_succ (n : Nat) (p : Nat → Bool) : numsOf (n + 1) p = numsOf n p ++ (if p n = true then [(n : Int)] else []) := by
  unfold numsOf
  rw [List.range_succ, List.filter_append, List.map_append]
  congr 1
  by_cases h : p n = true <;> simp [h]
set_option maxRecDepth 100000 in
set_option maxHeartbeats 2000000 in
theorem specLast_0 (c0 : Int) (A : Option Addr) (n c : Nat) (ts : List Tl) (w : World) (hn : n ≤ 1048576) (hl : ts.length = n) (hA : TR w w.heap.size A ts) (hs : isSet c0 ts = true) :
    Calls Try.prog 16 #[.agg #[.int .i64 c0, .slice A n c]] w fun e w' => ∃ A' cap, e = .returned (.tuple #[.slice A' (lastL ts).length cap, .int .i64 0]) ∧ Below w.heap.size w w' ∧ IWr w' w.heap.size w'.heap.size A' (lastL ts) := by
  have his : ∀ W, Ext w W → Calls Try.prog 56 #[.agg #[.int .i64 c0, .slice A n c]] W _ := fun W hW => l01Is_any c0 A n c ts W (by omega) hl ((hA.ext hW (Nat.le_refl _)).more (hW.below (Nat.le_refl _)).size)
  rw [hs] at his
  have HI := Lib.hid his
  have hla : ∀ W, Below w.heap.size w W → Calls Try.prog 57 #[.agg #[.int .i64 c0, .slice A n c]] W _ := fun W hW => l02Lasting_any c0 A n c ts W hn hl ((hA.below hW (Nat.le_refl _)).more hW.size)
  have HL := Lib.hid hla
  clear his hla hs hA
  go_enter Try.func16, Try.ntmps16
  go_wp2_with fail
  refine (HI.out _ ((Ext.refl w).alloc _)).mono ?_
  rintro e w1 ⟨rfl, hx⟩
  have HB1 := Lib.hid ((Blk.new w 31 #[.int .i64 c0, .slice A n c]).ext hx)
  have HX := Lib.hid ((((Ext.refl w).alloc (Obj.cells #[.int .i64 c0, .slice A n c] 31)).trans hx).below (Nat.le_refl _))
  clear hx
  have r0 := HB1.out.rd 0 rfl
  have r1 := HB1.out.rd 1 rfl
  go_wp2_with fail
  refine (HL.out _ HX.out).mono ?_
  rintro e W0 ⟨g, p, rfl, hg, hp, hlast, hb⟩
  clear r0 r1
  have HX2 := Lib.hid (HX.out.trans (hb.mono HX.out.size))
  have HP := Lib.hid hp
  have HLA := Lib.hid hlast
  clear hb hp hlast HB1 HX
  go_wp2_with fail
  go_loopw [5, 6] (fun v i' wr => ∃ k : Nat, k ≤ n ∧ i' = .int .i64 k ∧ wr.ownsRow W0.heap.size 2 1 v (numsOf k p).length (vis (numsOf k p)) ∧ Below W0.heap.size W0 wr) (fun _ i' _ => n - (intOf i').toNat)
  case atStart => exact ⟨0, Nat.zero_le _, rfl, show _ from World.ownsRow_made (base := W0.heap.size) (e := 2) (size := 1) W0 #[] 0 (Nat.le_refl _) (by unfold maxLen; omega) rfl, (Below.refl _ _).alloc (Nat.le_refl _) _⟩
  case round =>
    obtain ⟨k, hk, rfl, hown, hb⟩ := hrel
    have HO := Lib.hid hown
    have HB := Lib.hid hb
    clear hown hb
    by_cases hlt : k < n
    · have q1 := ((HP.out.below HB.out).at_ hlt).1
      have hsu := numsOf_succ k p
      have hle := numsOf_le k p
      generalize p k = b at q1 hsu
      have HSU := Lib.hid hsu
      generalize hN : numsOf k p = ys at HO hle HSU
      have HNN := Lib.hid hN
      clear hN hsu
      cases b with
      | true =>
        go_wp2_with (at_builtin; refine wpList_push rfl _ _ rfl W0.heap.size _ ys.length _ rfl (HO.out.alloc _) wr.heap.size (k : Int) rfl (heap_alloc_new wr _) ?c1 ?c2 ?c3 ?_)
        case c1 => unfold maxLen; omega
        case c2 => omega
        case c3 => have := HB.out.size; simp; omega
        intro v' w3 hown' hgrow _
        have e1 : numsOf (k + 1) p = ys ++ [(k : Int)] := by rw [HSU.out]; simp
        have O3 := Lib.hid (show w3.ownsRow W0.heap.size 2 1 v' (numsOf (k + 1) p).length (vis (numsOf (k + 1) p)) by rw [e1, vis_snoc, List.length_append]; exact hown')
        have B3 := Lib.hid ((HB.out.alloc HB.out.size _).grown hgrow (by have := HB.out.size; simp; omega) (fun j hj => (HO.out.lt j hj).1))
        clear hown' hgrow HO HB e1
        go_wp2_with fail
        go_roundw
        case rel => first | exact ⟨k + 1, by omega, by go_num, O3.out, B3.out⟩ | ((repeat apply Exists.intro); exact ⟨⟨k + 1, by omega, by go_num, O3.out, B3.out⟩, rfl⟩)
        case measure => simp [intOf]; omega
      | false =>
        have e1 : numsOf (k + 1) p = ys := by rw [HSU.out]; simp
        have HE1 := Lib.hid e1
        clear e1
        go_wp2_with fail
        go_roundw
        case rel => first | exact ⟨k + 1, by omega, by go_num, by rw [HE1.out]; exact HO.out, HB.out⟩ | ((repeat apply Exists.intro); exact ⟨⟨k + 1, by omega, by go_num, by rw [HE1.out]; exact HO.out, HB.out⟩, rfl⟩)
        case measure => simp [intOf]; omega
    · obtain rfl : k = n := by omega
      have hlast : numsOf k p = lastL ts := by
        have := lastL_is (ts := ts) (p := p) (fun x hx => HLA.out x (by omega))
        rw [← this, hl]
        rfl
      rw [hlast] at HO
      obtain ⟨A2, cap2, rfl, hcap, htw⟩ := own_iwr HO.out rfl
      have HT := Lib.hid htw
      have HLL := Lib.hid hlast
      clear htw HO hlast
      go_wp2_with fail
      go_ret2
      refine ⟨A2, cap2, ?_, HX2.out.trans (HB.out.mono HX2.out.size), HT.out.low HX2.out.size⟩
      first | rw [HLL.out] | rfl
set_option maxRecDepth 100000 in
set_option maxHeartbeats 1000000 in
theorem specLast_1 (c0 : Int) (A : Option Addr) (n c : Nat) (ts : List Tl) (w : World) (hn : n ≤ 1048576) (hl : ts.length = n) (hA : TR w w.heap.size A ts) (hs : isSet c0 ts = false) :
    Calls Try.prog 16 #[.agg #[.int .i64 c0, .slice A n c]] w fun e w' => e = .returned (.tuple #[.slice none 0 0, .int .i64 1]) ∧ Below w.heap.size w w' := by
  have his : ∀ W, Ext w W → Calls Try.prog 56 #[.agg #[.int .i64 c0, .slice A n c]] W _ := fun W hW => l01Is_any c0 A n c ts W (by omega) hl ((hA.ext hW (Nat.le_refl _)).more (hW.below (Nat.le_refl _)).size)
  rw [hs] at his
  have HI := Lib.hid his
  clear his hs hA
  go_enter Try.func16, Try.ntmps16
  go_wp2_with fail
  refine (HI.out _ ((Ext.refl w).alloc _)).mono ?_
  rintro e w1 ⟨rfl, hx⟩
  have HX := Lib.hid ((((Ext.refl w).alloc (Obj.cells #[.int .i64 c0, .slice A n c] 31)).trans hx).below (Nat.le_refl _))
  clear hx
  go_wp2_with fail
  go_ret2
  exact ⟨rfl, HX.out⟩
end Go.Proofs.Ytpjlapialjjcdaa
