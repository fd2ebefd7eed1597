/- Sets with their lasting tiles kept: the two helpers. -/
import Derived.Test.YtleabblnikbmpaaAppT
import Derived.Test.YtleabblnikbmpaaLastB
import Derived.Test.YtleabblnikbmpaaMChanged
import Derived.Lib.Hide
namespace Go.Proofs.Ytleabblnikbmpaa
set_option linter.unusedVariables false
set_option linter.unusedSimpArgs false
open Go.RowKit Go.Sort

/-- A set handed back, its tiles in new memory. -/
def SetOnly (w : World) (c : Int) (us : List Tl) (e : Ending) (w' : World) : Prop :=
  ∃ A cap, e = .returned (.agg #[.int .i64 c, .slice A us.length cap]) ∧ Below w.heap.size w w' ∧ TW w' w.heap.size A us
theorem pick_take (ts : List Tl) (xs : List Int) {k : Nat} (hk : k < xs.length) : pick ts (xs.take (k + 1)) = pick ts (xs.take k) ++ [ts.getD (xs.getD k 0).toNat T0] := by
  rw [itake_snoc xs hk, pick_snoc]
theorem lastL_in {ts : List Tl} {k : Nat} (hk : k < (lastL ts).length) : 0 ≤ (lastL ts).getD k 0 ∧ (lastL ts).getD k 0 < ts.length := by
  classical
  exact numsOf_in (n := ts.length) (p := fun k => decide (lastT ts k)) hk

set_option maxRecDepth 100000 in
set_option maxHeartbeats 2000000 in
theorem withLasting_any (C : Nat) (A : Option Addr) (n c : Nat) (ts : List Tl) (w : World) (hn : n ≤ 1048576) (hl : ts.length = n) (hA : TR w w.heap.size A ts) (hC : C ≤ 1048576) (hs : colOk C ts) :
    Calls Try.prog 104 #[.agg #[.int .i64 (C : Int), .slice A n c]] w (SetOnly w (C : Int) (lastingT ts)) := by
  have hla : ∀ W, Below w.heap.size w W → Calls Try.prog 89 #[.agg #[.int .i64 (C : Int), .slice A n c]] W _ := fun W hW => lastingNumbers_any C A n c ts W hn hl ((hA.below hW (Nat.le_refl _)).more hW.size) hC hs
  have HL := Lib.hid hla
  have HA := Lib.hid hA
  clear hla hs hA
  unfold SetOnly lastingT
  have hin := fun k hk => lastL_in (ts := ts) (k := k) hk
  have hle := lastL_le ts
  generalize lastL ts = xs at HL hin hle ⊢
  have HIN := Lib.hid hin
  generalize hxl : xs.length = m at HL hle
  have HXL := Lib.hid hxl
  clear hin hxl
  go_enter Try.func104, Try.ntmps104
  go_wp2_with fail
  obtain ⟨W1, hW1⟩ : ∃ W1, (w.alloc (Obj.cells #[.int .i64 (C : Int), .slice A n c] 30)).alloc (Obj.cells #[.int .i64 0, .slice none 0 0] 30) = W1 := ⟨_, rfl⟩
  have hs1 : w.heap.size + 2 ≤ W1.heap.size := by rw [← hW1]; simp
  have hE : Ext w W1 := by rw [← hW1]; exact ((Ext.refl w).alloc _).alloc _
  have hS : Blk W1 w.heap.size 30 #[.int .i64 (C : Int), .slice A n c] := by rw [← hW1]; exact (Blk.new w _ _).ext ((Ext.refl _).alloc _)
  have hR : Blk W1 (w.heap.size + 1) 30 #[.int .i64 0, .slice none 0 0] := by
    rw [← hW1]
    have := Blk.new (w.alloc (Obj.cells #[.int .i64 (C : Int), .slice A n c] 30)) 30 #[.int .i64 0, .slice none 0 0]
    simpa using this
  rw [hW1]
  have HH := Lib.hid (And.intro hs1 (And.intro (hE.below (Nat.le_refl _)) (And.intro hS hR)))
  clear hs1 hE hS hR hW1
  refine (HL.out _ HH.out.2.1).mono ?_
  rintro e W2 ⟨X, cx, rfl, hb, hx⟩
  have HB := Lib.hid hb
  have HX := Lib.hid hx
  clear hb hx HL
  go_wp2_with fail
  go_loopw [3, 9] (fun v ii wr => ∃ k : Nat, k ≤ m ∧ ii = .int .i64 k ∧ wr.ownsRow W2.heap.size 69 4 v k (flat (pick ts (xs.take k))) ∧ Below W2.heap.size W2 wr) (fun _ ii _ => m - (intOf ii).toNat)
  case atStart => exact ⟨0, Nat.zero_le _, rfl, World.ownsRow_nil _ _ _ _, Below.refl _ _⟩
  case round =>
    obtain ⟨k, hk, rfl, hown, hb⟩ := hrel
    have HO := Lib.hid hown
    have HB2 := Lib.hid hb
    clear hown hb
    have hbw := HB.out.trans (HB2.out.mono HB.out.size)
    by_cases hlt : k < m
    · obtain ⟨bx, ox, rfl, hbx, hcx⟩ := (HX.out.ir.below HB2.out (Nat.le_refl _)) (by have := HXL.out; omega)
      have q1 := hcx k (by have := HXL.out; omega)
      obtain ⟨j, hj⟩ : ∃ j : Nat, xs.getD k 0 = (j : Int) := ⟨(xs.getD k 0).toNat, by have := (HIN.out k (by have := HXL.out; omega)).1; omega⟩
      have hjn : j < n := by have := (HIN.out k (by have := HXL.out; omega)).2; omega
      obtain ⟨b, o, rfl, hbb, ht⟩ := (((HA.out.below HH.out.2.1 (Nat.le_refl _)).below hbw (by have := HH.out.1; omega))) (by omega)
      replace ht := ht j (by omega)
      have hpk := pick_take ts xs (k := k) (by have := HXL.out; omega)
      rw [hj] at q1 hpk
      rw [Int.toNat_natCast] at hpk
      generalize ts.getD j T0 = t at ht hpk
      obtain ⟨t0, t1, t2, t3⟩ := t
      obtain ⟨c0, c1, c2, c3⟩ := ht
      simp only at c0 c1 c2 c3
      have r1 := (HH.out.2.2.1.below hbw (by have := HH.out.1; omega)).rd 1 rfl
      have b3 : (j : Int) < (n : Int) := by omega
      have HPK := Lib.hid hpk
      clear hcx hpk hbw
      go_wp2_with (at_builtin; refine wpList_pushT rfl _ _ rfl W2.heap.size _ k _ rfl (HO.out.alloc _) wr.heap.size (t0, t1, t2, t3) rfl (heap_alloc_new wr _) ?c1 ?c2 ?c3 ?_)
      case c1 => unfold maxLen; omega
      case c2 => omega
      case c3 => have := HB2.out.size; simp; omega
      intro v' w3 hown' hgrow _
      rw [← flat_snoc, ← HPK.out] at hown'
      have O3 := Lib.hid hown'
      have B3 := Lib.hid ((HB2.out.alloc HB2.out.size _).grown hgrow (by have := HB2.out.size; simp; omega) (fun j hj => (HO.out.lt j hj).1))
      clear hown' hgrow HO HB2
      go_wp2_with fail
      go_roundw
      case rel => exact ⟨k + 1, by omega, by go_num, O3.out, B3.out⟩
      case measure => simp [intOf]; omega
    · obtain rfl : k = m := by omega
      have hown := HO.out
      rw [List.take_of_length_le (by have := HXL.out; omega)] at hown
      obtain ⟨A2, cap2, rfl, htw⟩ := own_tw hown (by rw [pick_len]; exact HXL.out)
      have HT := Lib.hid htw
      have hbr := HH.out.2.2.2.below hbw (by have := HH.out.1; omega)
      have r0 := (HH.out.2.2.1.below hbw (by have := HH.out.1; omega)).rd 0 rfl
      have q0 := hbr.rd 0 rfl
      have q1 := hbr.rd 1 rfl
      have z0 := hbr.frozen 0
      have z1 := hbr.frozen 1
      have HBW := Lib.hid (HH.out.2.1.trans (hbw.mono HH.out.2.1.size))
      have hw2 : w.heap.size + 2 ≤ W2.heap.size := by have := HH.out.1; have := HB.out.size; omega
      clear htw hown HO hbw hbr
      go_wp2_with fail
      refine bodyPost_ret (v := .agg #[.int .i64 (C : Int), .slice A2 k cap2]) (by simp [results, Try.results104, go_sem, q0, q1, z0, z1]) rfl ⟨A2, cap2, by rw [pick_len, HXL.out], ?_, ?_⟩
      · exact (HBW.out.setCell (by simp) _).setCell (by simp) _
      · exact ((HT.out.far (by show _ < _; simp; omega) _).far (by show _ < _; simp; omega) _).low (by omega)
end Go.Proofs.Ytleabblnikbmpaa
