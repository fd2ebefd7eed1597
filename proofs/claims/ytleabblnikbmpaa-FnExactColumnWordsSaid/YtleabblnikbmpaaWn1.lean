/- A word from its number: the program's side (a range over slices.Backward whose rounds write what it reads). -/
import Derived.Test.YtleabblnikbmpaaRg1
import Derived.Test.YtleabblnikbmpaaDi1
import Derived.Lib.Hide
namespace Go.Proofs.Ytleabblnikbmpaa
set_option linter.unusedVariables false
set_option linter.unusedSimpArgs false
open Go.RowKit Go.Shelf

attribute [local go_sem] Oper.semAt_some

/-- The colour at a place of a word, from the word's number. -/
def digW (C h code x : Nat) : Nat := code / C ^ (h - 1 - x) % C
def partW (C h code k x : Nat) : Int := if h ≤ x + k then (digW C h code x : Int) else 0

set_option maxRecDepth 100000 in
set_option maxHeartbeats 4000000 in
theorem backward_in (mm Bt g n c : Nat) (w : World) (h1 : 1 ≤ mm) (hn : n ≤ 1048576) (hbt : Blk w Bt 42 #[.slice (some ⟨g, 0, none⟩) n c]) :
    SeqAllR mm Try.prog 145 #[.pointer (some ⟨Bt, 0, none⟩)] (fun x : Nat × Int => #[.int .i64 (x.1 : Int), .int .i64 x.2]) (fun k x _ => x.1 + k + 1 = n) (fun b => b = Bt) n (fun X => ∀ i, i < n → ∃ v, X.cell? ⟨g, i, none⟩ = some (.int .i64 v)) w := fun l J W hWb hJ hRd hY h0 => by
  have hsW := hWb.size
  have HBT := Lib.hid (hbt.below hWb hbt.lt)
  have HYY := Lib.hid hY
  have HJJ := Lib.hid hJ
  have HRD := Lib.hid hRd
  clear hY hJ hRd
  have hwn : IntKind.i64.wrap ((n : Int) - 1) = (n : Int) - 1 := IntWalk.i64_in _ (by omega)
  refine callsIn_of_wp Try.func145 rfl trivial ?_ rfl
  simp only [Try.ntmps145, List.size_toArray, List.length_cons, List.length_nil, Nat.reduceAdd, Nat.reduceSub, Array.replicate_succ, Array.replicate_zero, List.push_toArray, List.append_toArray, List.nil_append, List.cons_append]
  have q0 := HBT.out.rd 0 rfl
  gi_wp2
  gi_loopw [3] (fun i' wr => ∃ a k : Nat, a + k = n ∧ i' = .int .i64 ((a : Int) - 1) ∧ J k wr ∧ W.heap.size ≤ wr.heap.size ∧ wr.heap[Bt]? = W.heap[Bt]?) (fun i' _ => (intOf i' + 1).toNat)
  case atStart => exact ⟨n, 0, rfl, rfl, h0, Nat.le_refl _, rfl⟩
  case round =>
    obtain ⟨a, k, hak, rfl, hJs, hsz, hkp⟩ := hrel
    clear q0 h0 hwn
    by_cases h0 : 0 < a
    · obtain ⟨m, rfl⟩ : ∃ m, a = m + 1 := ⟨a - 1, by omega⟩
      have hm2 : ((m + 1 : Nat) : Int) - 1 = (m : Int) := by omega
      rw [hm2]
      have q1 := (show Blk wr Bt 42 #[.slice (some ⟨g, 0, none⟩) n c] from hkp.trans HBT.out).rd 0 rfl
      obtain ⟨v, hv⟩ := HRD.out k wr hJs m (by omega)
      obtain ⟨fn, tmps, assign, body, hy, hR⟩ := HYY.out k (m, v) wr (by omega) hJs (by show m + k + 1 = n; omega)
      dsimp only at hy
      have hmn : (m : Int) < (n : Int) := by omega
      have hm0 : (0 : Int) ≤ (m : Int) := by omega
      have hwm : IntKind.i64.wrap ((m : Int) - 1) = (m : Int) - 1 := IntWalk.i64_in _ (by omega)
      have HKP := Lib.hid hkp
      clear hkp hm2
      gi_wp2
      refine hR.mono ?_
      rintro e w5 ⟨rfl, hJ5, hs5, hk5⟩
      have HJ5 := Lib.hid hJ5
      have HK5 := Lib.hid ((hk5 Bt rfl).trans HKP.out)
      clear hJ5 hk5 hy hR q1 hv
      gi_wp2
      go_roundw
      case rel => exact ⟨m, k + 1, by omega, rfl, HJ5.out, by omega, HK5.out⟩
      case measure => simp [intOf]
    · obtain rfl : a = 0 := by omega
      obtain rfl : k = n := by omega
      gi_wp2
      go_end0
      exact ⟨⟨_, rfl⟩, hJs⟩
end Go.Proofs.Ytleabblnikbmpaa
