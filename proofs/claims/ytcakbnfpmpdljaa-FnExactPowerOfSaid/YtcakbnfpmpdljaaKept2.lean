/- Sets with their lasting tiles kept: the model's helper. -/
import Derived.Test.YtcakbnfpmpdljaaKept1
import Derived.Test.YtcakbnfpmpdljaaMChanged
import Derived.Lib.Hide
namespace Go.Proofs.Ytcakbnfpmpdljaa
set_option linter.unusedVariables false
set_option linter.unusedSimpArgs false
open Go.RowKit Go.Sort

set_option maxRecDepth 100000 in
set_option maxHeartbeats 2000000 in
theorem l04Kept_any (c0 : Int) (A : Option Addr) (n c : Nat) (ts : List Tl) (w : World) (hn : n ≤ 65536) (hl : ts.length = n) (hA : TR w w.heap.size A ts) (ha : Asc ts) :
    Calls Try.prog 67 #[.agg #[.int .i64 c0, .slice A n c]] w (SetOnly w c0 (lastingT ts)) := by
  have hla : ∀ W, Below w.heap.size w W → Calls Try.prog 104 #[.agg #[.int .i64 c0, .slice A n c]] W _ := fun W hW => l02Lasting_any c0 A n c ts W (by omega) hl ((hA.below hW (Nat.le_refl _)).more hW.size)
  have HL := Lib.hid hla
  have HA := Lib.hid hA
  have hso := sortT_of_asc (lastingT_asc ha)
  have hkl : ∀ p : Nat → Bool, (∀ x, x < n → (p x = true ↔ lastT ts x)) → pick ts (numsOf n p) = lastingT ts := fun p hp => by
    unfold lastingT
    rw [← lastL_is (ts := ts) (p := p) (fun x hx => hp x (by omega)), hl]
    rfl
  have HK := Lib.hid hkl
  have HSO := Lib.hid hso
  clear hla hA hkl hso
  unfold SetOnly
  generalize lastingT ts = us at HK HSO ⊢
  go_enter Try.func67, Try.ntmps67
  go_wp2_with fail
  obtain ⟨W1, hW1⟩ : ∃ W1, (w.alloc (Obj.cells #[.int .i64 c0, .slice A n c] 29)).alloc (Obj.cells #[.int .i64 0, .slice none 0 0] 29) = W1 := ⟨_, rfl⟩
  have hs1 : w.heap.size + 2 ≤ W1.heap.size := by rw [← hW1]; simp
  have hE : Ext w W1 := by rw [← hW1]; exact ((Ext.refl w).alloc _).alloc _
  have hS : Blk W1 w.heap.size 29 #[.int .i64 c0, .slice A n c] := by rw [← hW1]; exact (Blk.new w _ _).ext ((Ext.refl _).alloc _)
  have hR : Blk W1 (w.heap.size + 1) 29 #[.int .i64 0, .slice none 0 0] := by
    rw [← hW1]
    have := Blk.new (w.alloc (Obj.cells #[.int .i64 c0, .slice A n c] 29)) 29 #[.int .i64 0, .slice none 0 0]
    simpa using this
  rw [hW1]
  have HH := Lib.hid (And.intro hs1 (And.intro (hE.below (Nat.le_refl _)) (And.intro hS hR)))
  clear hs1 hE hS hR hW1
  refine (HL.out _ HH.out.2.1).mono ?_
  rintro e W2 ⟨g, p, rfl, hg, hp, hlast, hb⟩
  have HB := Lib.hid hb
  have HP := Lib.hid hp
  have HPK := Lib.hid (HK.out p hlast)
  clear hb hp hlast HL HK
  go_wp2_with fail
  go_loopw [4, 5] (fun v ii wr => ∃ k : Nat, k ≤ n ∧ ii = .int .i64 k ∧ wr.ownsRow W2.heap.size 33 4 v (numsOf k p).length (flat (pick ts (numsOf k p))) ∧ Below W2.heap.size W2 wr) (fun _ ii _ => n - (intOf ii).toNat)
  case atStart => exact ⟨0, Nat.zero_le _, rfl, show _ from World.ownsRow_made (base := W2.heap.size) (e := 33) (size := 4) W2 #[] 0 (Nat.le_refl _) (by unfold maxLen; omega) rfl, (Below.refl _ _).alloc (Nat.le_refl _) _⟩
  case round =>
    obtain ⟨k, hk, rfl, hown, hb⟩ := hrel
    have HO := Lib.hid hown
    have HB2 := Lib.hid hb
    clear hown hb
    have hbw := HB.out.trans (HB2.out.mono HB.out.size)
    by_cases hlt : k < n
    · have q1 := ((HP.out.below HB2.out).at_ hlt).1
      obtain ⟨b, o, rfl, hbb, ht⟩ := (((HA.out.below HH.out.2.1 (Nat.le_refl _)).below hbw (by have := HH.out.1; omega))) (by omega)
      replace ht := ht k (by omega)
      have hsu := numsOf_succ k p
      have hle := numsOf_le k p
      have hpk := pick_snoc ts (numsOf k p) (k : Int)
      rw [Int.toNat_natCast] at hpk
      generalize p k = bk at q1 hsu
      generalize ts.getD k T0 = t at ht hpk
      obtain ⟨t0, t1, t2, t3⟩ := t
      obtain ⟨c0', c1, c2, c3⟩ := ht
      simp only at c0' c1 c2 c3
      have r1 := (HH.out.2.2.1.below hbw (by have := HH.out.1; omega)).rd 1 rfl
      have b3 : (k : Int) < (n : Int) := by omega
      have HSU := Lib.hid hsu
      have HPK2 := Lib.hid hpk
      clear hbw hsu hpk
      cases bk with
      | true =>
        go_wp2_with (at_builtin; refine wpList_pushT rfl _ _ rfl W2.heap.size _ (numsOf k p).length _ rfl (HO.out.alloc _) wr.heap.size (t0, t1, t2, t3) rfl (heap_alloc_new wr _) ?c1 ?c2 ?c3 ?_)
        case c1 => unfold maxLen; omega
        case c2 => omega
        case c3 => have := HB2.out.size; simp; omega
        intro v' w3 hown' hgrow _
        have e1 : numsOf (k + 1) p = numsOf k p ++ [(k : Int)] := by rw [HSU.out]; simp
        rw [← flat_snoc, ← HPK2.out, ← e1, show (numsOf k p).length + 1 = (numsOf (k + 1) p).length by rw [e1]; simp] at hown'
        have O3 := Lib.hid hown'
        have B3 := Lib.hid ((HB2.out.alloc HB2.out.size _).grown hgrow (by have := HB2.out.size; simp; omega) (fun j hj => (HO.out.lt j hj).1))
        have E1 := Lib.hid (show (numsOf k p).length + 1 = (numsOf (k + 1) p).length by rw [e1]; simp)
        clear hown' hgrow HO HB2 e1
        go_wp2_with fail
        go_roundw
        case rel => exact ⟨k + 1, by omega, by go_num, O3.out, B3.out⟩
        case measure => simp [intOf]; omega
      | false =>
        have e1 : numsOf (k + 1) p = numsOf k p := by rw [HSU.out]; simp
        have E1 := Lib.hid e1
        clear e1
        go_wp2_with fail
        go_roundw
        case rel => exact ⟨k + 1, by omega, by go_num, by rw [E1.out]; exact HO.out, HB2.out⟩
        case measure => simp [intOf]; omega
    · obtain rfl : k = n := by omega
      have hown := HO.out
      have hln : (numsOf k p).length = us.length := by rw [← HPK.out, pick_len]
      rw [HPK.out, hln] at hown
      obtain ⟨A2, cap2, hv2, htw⟩ := own_tw hown rfl
      have HMD := Lib.hid (l01Made_any c0 A2 us.length cap2 us wr (by rw [← hln]; have := numsOf_le k p; omega) rfl htw.tr)
      subst hv2
      have r0 := (HH.out.2.2.1.below hbw (by have := HH.out.1; omega)).rd 0 rfl
      have HBR := Lib.hid (HH.out.2.2.2.below hbw (by have := HH.out.1; omega))
      have HBW := Lib.hid (HH.out.2.1.trans (hbw.mono HH.out.2.1.size))
      have hw2 : w.heap.size + 2 ≤ wr.heap.size := by have := HH.out.1; have := hbw.size; omega
      clear htw hown HO hbw hln
      rw [HSO.out] at HMD
      go_wp2_with fail
      refine HMD.out.mono ?_
      rintro e w3 ⟨A3, cap3, rfl, hb3, htw3⟩
      have HT := Lib.hid htw3
      have hbr := HBR.out.below hb3 (by omega)
      have q0 := hbr.rd 0 rfl
      have q1 := hbr.rd 1 rfl
      have z0 := hbr.frozen 0
      have z1 := hbr.frozen 1
      have HBW3 := Lib.hid (HBW.out.trans (hb3.mono HBW.out.size))
      clear hbr hb3 htw3 r0
      go_wp2_with fail
      refine bodyPost_ret (v := .agg #[.int .i64 c0, .slice A3 us.length cap3]) (by simp [results, Try.results67, go_sem, q0, q1, z0, z1]) rfl ⟨A3, cap3, rfl, ?_, ?_⟩
      · exact (HBW3.out.setCell (by simp) _).setCell (by simp) _
      · exact ((HT.out.far (by show _ < _; simp; omega) _).far (by show _ < _; simp; omega) _).low (by omega)
end Go.Proofs.Ytcakbnfpmpdljaa
