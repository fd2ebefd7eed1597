/- Neighbours: the program's iterator. -/
import Derived.RangeFuncBox
import Derived.RangeFuncLeaves
import Derived.Shelf.Abstract
import Derived.WalkKit
import Derived.OwnWalkIn
import Derived.TacticsInMore
import Derived.LoopNIn
import Derived.LoopIn
import Derived.Maps.AppendAt
import Derived.Test.YtpjlapialjjcdaaNb1
import Derived.Test.YtpjlapialjjcdaaIs2
namespace Go.Proofs.Ytpjlapialjjcdaa
set_option linter.unusedVariables false
set_option linter.unusedSimpArgs false
open Go.RowKit Go.Shelf

attribute [local go_sem] Oper.semAt_some

theorem grown_of_ext {w w' : World} (h : Ext w w') : w.grownBy w' none := by
  have := h.below (Nat.le_refl _)
  exact ⟨this.os, this.tape, this.output, this.size, fun k hk _ => this.block k hk⟩

theorem nbl_add (fb : Nat → Bool) (k d : Nat) : nbl fb k <+: nbl fb (k + d) := by
  induction d with
  | zero => exact List.prefix_refl _
  | succ d ih =>
    cases h : fb (k + d) with
    | true => rw [← Nat.add_assoc, nbl_yes h]; exact ih.trans (List.prefix_append _ _)
    | false => rw [← Nat.add_assoc, nbl_no h]; exact ih
theorem nbl_prefix (fb : Nat → Bool) {k n : Nat} (h : k < n) : nbl fb (k + 1) <+: nbl fb n := by
  have := nbl_add fb (k + 1) (n - (k + 1))
  rwa [show k + 1 + (n - (k + 1)) = n by omega] at this
/-- What a round that goes on leaves as it was: all below n₀, and the boxes that the iterator reads. -/
def Keep3 (n₀ B : Nat) (W W' : World) : Prop := Below n₀ W W' ∧ ∀ k, B ≤ k → k < B + 3 → W'.heap[k]? = W.heap[k]?
theorem Keep3.refl (n₀ B : Nat) (W : World) : Keep3 n₀ B W W := ⟨Below.refl _ _, fun _ _ _ => rfl⟩
theorem Keep3.trans {n₀ B : Nat} {a b c : World} (h : Keep3 n₀ B a b) (k : Keep3 n₀ B b c) : Keep3 n₀ B a c := ⟨h.1.trans k.1, fun i h1 h2 => (k.2 i h1 h2).trans (h.2 i h1 h2)⟩
theorem Keep3.blk {n₀ B : Nat} {a b : World} (h : Keep3 n₀ B a b) {g : Nat} {t : TypeId} {cs : Array Value} (hb : Blk a g t cs) (h1 : B ≤ g) (h2 : g < B + 3) : Blk b g t cs := (h.2 g h1 h2).trans hb
theorem Keep3.ext {n₀ B : Nat} {a b : World} (h : Ext a b) (h0 : n₀ ≤ a.heap.size) (h1 : B + 3 ≤ a.heap.size) : Keep3 n₀ B a b := ⟨h.below h0, fun k h2 h3 => (h.below (Nat.le_refl _)).block k (by omega)⟩
set_option maxRecDepth 100000 in
set_option maxHeartbeats 2000000 in
/-- The iterator over the numbers of the tiles that fit. -/
theorem nb1_in (m l B n₀ n c : Nat) (c0 i side : Int) (A : Option Addr) (fb : Nat → Bool) (hm : 1 ≤ m) (hn : n ≤ 1048576)  (J Jx : List Int → World → Prop)
    (hY : ∀ pre x W, J pre W → pre.length < n → YieldAt Fence.wide (m - 1) Try.prog l #[.int .i64 x] W fun e W' =>
      (e = .returned (.bool true) ∧ J (pre ++ [x]) W' ∧ Keep3 n₀ B W W') ∨ (e = .returned (.bool false) ∧ Jx (pre ++ [x]) W'))
    (W : World) (hn0 : n₀ ≤ W.heap.size) (hB3 : B + 3 ≤ W.heap.size) (hJ : AbidesFrom W.heap.size J) (hb1 : Blk W B 31 #[.int .i64 c0, .slice A n c]) (hb2 : Blk W (B + 1) 2 #[.int .i64 i]) (hb3 : Blk W (B + 2) 3 #[.int .i64 side])
    (hfit : ∀ k, k < n → ∀ V, Below n₀ W V → Calls Try.prog 143 #[.agg #[.int .i64 c0, .slice A n c], .int .i64 i, .int .i64 side, .int .i64 (k : Int)] V fun e w' => e = .returned (.bool (fb k)) ∧ Ext V w')
    (h0 : J [] W) :
    CallsIn Fence.wide m Try.prog 142 #[.func (.yield l) #[] #[], .pointer (some ⟨B, 0, none⟩), .pointer (some ⟨B + 1, 0, none⟩), .pointer (some ⟨B + 2, 0, none⟩)] W fun e W' => (∃ v, e = .returned v) ∧
      ((∃ ys, ys = nbl fb n ∧ J ys W') ∨ (∃ pre, pre <+: nbl fb n ∧ Jx pre W')) := by
  have HFIT := Lib.hid hfit
  clear hfit
  refine callsIn_of_wp Try.func142 rfl trivial ?_ rfl
  simp only [Try.ntmps142, List.size_toArray, List.length_cons, List.length_nil, Nat.reduceAdd, Nat.reduceSub, Array.replicate_succ, Array.replicate_zero, List.push_toArray, List.append_toArray, List.nil_append, List.cons_append]
  have q0 := hb1.rd 0 rfl
  have q1 := hb1.rd 1 rfl
  gi_wp2
  gi_loopw [9] (fun i' wr => ∃ k : Nat, k ≤ n ∧ i' = .int .i64 k ∧ J (nbl fb k) wr ∧ Keep3 n₀ B W wr) (fun i' _ => n - (intOf i').toNat)
  case atStart => exact ⟨0, Nat.zero_le _, rfl, h0, Keep3.refl _ _ _⟩
  case round =>
    obtain ⟨k, hk, rfl, hJs, hb⟩ := hrel
    by_cases hlt : k < n
    · have r0 := (hb.blk hb1 (by omega) (by omega)).rd 0 rfl
      have r1 := (hb.blk hb1 (by omega) (by omega)).rd 1 rfl
      have r2 := (hb.blk hb2 (by omega) (by omega)).rd 0 rfl
      have r3 := (hb.blk hb3 (by omega) (by omega)).rd 0 rfl
      have hle := nbl_le fb k
      have hcon := HFIT.out k hlt wr hb.1
      have hJg : ∀ W', Ext wr W' → J (nbl fb k) W' := fun W' hx => hJ _ wr W' none hJs (grown_of_ext hx) (fun r e => by cases e)
      cases hfb : fb k with
      | true =>
        rw [hfb] at hcon
        have HC := Lib.hid hcon
        have HY2 := Lib.hid (nbl_yes hfb)
        clear hcon hfb
        gi_wp2
        refine ⟨trivial, (callsIn_wide.2 HC.out).mono ?_⟩
        rintro e w1 ⟨rfl, hx⟩
        have hJ1 := hJg _ hx
        obtain ⟨fn, tmps, assign, body, hy, hR⟩ := hY _ (k : Int) w1 hJ1 (by omega)
        clear r0 r1 r2 r3
        gi_wp2
        have hx' := Keep3.ext (n₀ := n₀) (B := B) hx (Nat.le_trans hn0 hb.1.size) (Nat.le_trans hB3 hb.1.size)
        refine hR.mono ?_
        rintro e W3 (⟨rfl, hJ3, hk3⟩ | ⟨rfl, hJx3⟩)
        · gi_wp2
          go_roundw
          case rel => exact ⟨k + 1, by omega, by go_num, by rw [HY2.out]; exact hJ3, hb.trans (hx'.trans hk3)⟩
          case measure => simp [intOf]; omega
        · gi_wp2
          refine bodyPost_ret (results_none rfl _ _ _) rfl ?_
          refine ⟨⟨_, rfl⟩, .inr ⟨_, ?_, hJx3⟩⟩
          rw [← HY2.out]
          exact nbl_prefix fb hlt
      | false =>
        rw [hfb] at hcon
        have HC := Lib.hid hcon
        have HY2 := Lib.hid (nbl_no hfb)
        clear hcon hfb
        gi_wp2
        refine ⟨trivial, (callsIn_wide.2 HC.out).mono ?_⟩
        rintro e w1 ⟨rfl, hx⟩
        clear r0 r1 r2 r3
        gi_wp2
        refine ⟨fun _ h => (by cases h), ?_⟩
        have hx' := Keep3.ext (n₀ := n₀) (B := B) hx (Nat.le_trans hn0 hb.1.size) (Nat.le_trans hB3 hb.1.size)
        have hJ1 := hJg _ hx
        gi_wp2
        go_roundw
        case rel => exact ⟨k + 1, by omega, by go_num, by rw [HY2.out]; exact hJ1, hb.trans hx'⟩
        case measure => simp [intOf]; omega
    · obtain rfl : k = n := by omega
      gi_wp2
      go_end0
      exact ⟨⟨_, rfl⟩, .inl ⟨_, rfl, hJs⟩⟩
end Go.Proofs.Ytpjlapialjjcdaa
