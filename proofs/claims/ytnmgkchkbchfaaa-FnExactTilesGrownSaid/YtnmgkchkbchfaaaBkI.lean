/- TilesGrown: the model. -/
import Derived.Test.YtnmgkchkbchfaaaBkH
namespace Go.Proofs.Ytnmgkchkbchfaaa
set_option linter.unusedVariables false
set_option linter.unusedSimpArgs false
open Go.RowKit Go.Sort

theorem tgL_yes {bs : List (List Int)} {k i : Nat} (h : Rch (stT bs) i k) : tgL bs (k + 1) i = tgL bs k i ++ [k] := by
  unfold tgL
  rw [List.range_succ, List.filter_append]
  simp [h]
theorem tgL_no {bs : List (List Int)} {k i : Nat} (h : ¬ Rch (stT bs) i k) : tgL bs (k + 1) i = tgL bs k i := by
  unfold tgL
  rw [List.range_succ, List.filter_append]
  simp [h]
theorem tgL_zero (bs : List (List Int)) (i : Nat) : tgL bs 0 i = [] := rfl
set_option maxRecDepth 100000 in
set_option maxHeartbeats 2000000 in
theorem specTilesGrown_any (c0 : Int) (A : Option Addr) (n c : Nat) (ts : List Tl) (B : Option Addr) (m d : Nat) (bs : List (List Int)) (i : Int) (w : World) (hn : n ≤ 1048576) (hl : ts.length = n) (hA : TR w w.heap.size A ts) (hm : m ≤ 1048576) (hlr : bs.length = m) (hB : IRR w w.heap.size B bs) (hrow : ∀ k, k < m → (bs.getD k []).length ≤ 1048576) :
    Calls Try.prog 46 #[.agg #[.int .i64 c0, .slice A n c], .slice B m d, .int .i64 i] w fun e w' => (fCode c0 ts bs i = 0 → LiRes w (ints (tgL bs m i.toNat)) 0 e w') ∧ (fCode c0 ts bs i ≠ 0 → LiRes w [] (fCode c0 ts bs i) e w') := by
  have HC := Lib.hid (l09Tile_any c0 A n c ts B m d bs i 0 0 (w.alloc (Obj.cells #[.int .i64 c0, .slice A n c] 32)) hn hl ((hA.ext ((Ext.refl w).alloc _) (Nat.le_refl _)).more (((Ext.refl w).alloc _).below (Nat.le_refl _)).size) hm hlr ((hB.ext ((Ext.refl w).alloc _) (Nat.le_refl _)).more (((Ext.refl w).alloc _).below (Nat.le_refl _)).size) hrow)
  rw [sCode_00] at HC
  unfold LiRes
  by_cases hz : fCode c0 ts bs i = 0
  · obtain ⟨hb0, hi9⟩ := gc_zero hz
    obtain ⟨hset, hok⟩ := bCode_zero hb0
    have hlen := bCode_len hb0
    have h16 := isSet_len hset
    simp only [decide_eq_true_eq] at hi9
    obtain ⟨I, rfl⟩ : ∃ I : Nat, i = (I : Int) := ⟨i.toNat, by omega⟩
    have HK := Lib.hid (fun W (hW : Ext w W) => l09Tiles_any ts B m d bs I W (by omega) hlr ((hB.ext hW (Nat.le_refl _)).more (hW.below (Nat.le_refl _)).size) hok (by omega))
    simp only [hz, ne_eq, not_true_eq_false, false_implies, and_true, forall_const, Int.toNat_natCast, ints_len]
    rw [hz] at HC
    have hm16 : m ≤ 16 := by omega
    clear hz hb0 hi9 hset hok hlen h16 hA hB
    go_enter Try.func46, Try.ntmps46
    go_wp2_with fail
    refine HC.out.mono ?_
    rintro e w1 ⟨rfl, hx⟩
    have HX := Lib.hid (((Ext.refl w).alloc (Obj.cells #[.int .i64 c0, .slice A n c] 32)).trans hx)
    clear hx
    go_wp2_with fail
    refine (HK.out _ HX.out).mono ?_
    rintro e w3 ⟨rfl, hb3, hs3⟩
    have HB3 := Lib.hid ((HX.out.below (Nat.le_refl _)).trans (hb3.mono (HX.out.below (Nat.le_refl _)).size))
    have HS3 := Lib.hid hs3
    have hg3 : w1.heap.size < w3.heap.size := hs3.choose_spec.1.lt
    have HO4 := Lib.hid (World.ownsRow_made (base := w3.heap.size) (e := 2) (size := 1) w3 #[] 0 (Nat.le_refl _) (by unfold maxLen; omega) rfl)
    have HB4 := Lib.hid ((Below.refl w3.heap.size w3).alloc (Nat.le_refl _) (Obj.cells #[] 2))
    clear hb3 hs3
    go_wp2_with fail
    generalize w3.alloc (Obj.cells #[] 2) = W4 at *
    go_loopw [10, 11] (fun v kv wr => ∃ k : Nat, k ≤ m ∧ kv = .int .i64 (k : Int) ∧ wr.ownsRow w3.heap.size 2 1 v (tgL bs k I).length (vis (ints (tgL bs k I))) ∧ Below w3.heap.size w3 wr) (fun _ kv _ => m - (intOf kv).toNat)
    case atStart => exact ⟨0, Nat.zero_le _, rfl, HO4.out, HB4.out⟩
    case round =>
      obtain ⟨k, hk, rfl, hown, hb⟩ := hrel
      have HO := Lib.hid hown
      have HB := Lib.hid hb
      by_cases hlt : k < m
      · have hkl := tgL_len bs k I
        have hmem : (decide ((k : Int) ∈ ints (tgL bs m I)) = true) ↔ Rch (stT bs) I k := by
          rw [decide_eq_true_eq, ints_mem, tgL_mem]
          exact ⟨fun h => h.2, fun h => ⟨hlt, h⟩⟩
        obtain ⟨q2, z2⟩ := (HS3.out.belowK hb hg3).at_ hlt
        clear hown hb z2
        by_cases hr : Rch (stT bs) I k
        · rw [hmem.2 hr] at q2
          have HT := Lib.hid (tgL_yes hr)
          generalize tgL bs k I = F at *
          clear hmem
          go_wp2_with (at_builtin; refine wpList_push rfl _ _ rfl w3.heap.size _ F.length _ rfl (HO.out.alloc _) wr.heap.size (k : Int) rfl (heap_alloc_new wr _) ?c1 ?c2 ?c3 ?_)
          case c1 => unfold maxLen; omega
          case c2 => omega
          case c3 => have := HB.out.size; simp; omega
          intro v' w5 hown' hgrow _
          rw [show vis (ints F) ++ [vi (k : Int)] = vis (ints (tgL bs (k + 1) I)) by rw [HT.out, ints_snoc, vis_snoc]] at hown'
          have O5 := Lib.hid hown'
          have B5 := Lib.hid ((HB.out.alloc HB.out.size (Obj.cells #[.int .i64 (k : Int)] 2)).grown hgrow (by have := HB.out.size; simp; omega) (fun j hj => (HO.out.lt j hj).1))
          clear hown' hgrow q2
          go_wp2_with fail
          go_roundw
          case rel => exact ⟨k + 1, by omega, by go_num, by have h9 := O5.out; rw [show F.length + 1 = (tgL bs (k + 1) I).length by rw [HT.out, List.length_append]; rfl] at h9; exact h9, B5.out⟩
          case measure => simp [intOf]; omega
        · have hf : decide ((k : Int) ∈ ints (tgL bs m I)) = false := by
            cases hd : decide ((k : Int) ∈ ints (tgL bs m I)) with
            | false => rfl
            | true => exact absurd (hmem.1 hd) hr
          rw [hf] at q2
          have HT := Lib.hid (tgL_no hr)
          clear hmem hf
          go_wp2_with fail
          go_roundw
          case rel => exact ⟨k + 1, by omega, by go_num, by rw [HT.out]; exact HO.out, HB.out⟩
          case measure => simp [intOf]; omega
      · obtain rfl : k = m := by omega
        obtain ⟨R, cap, hv, hcap, hw5⟩ := own_iwr hown (ints_len _)
        subst hv
        have K5 := Lib.hid (HB3.out.trans (hb.mono HB3.out.size))
        have HW5 := Lib.hid (hw5.low HB3.out.size)
        clear hown hb hw5
        go_wp2_with fail
        go_ret2
        first | exact ⟨R, cap, rfl, K5.out, HW5.out⟩ | exact ⟨R, ⟨cap, rfl⟩, K5.out, HW5.out⟩
  · have HZ := Lib.hid hz
    simp only [ne_eq, hz, not_false_eq_true, false_implies, true_and, forall_const]
    generalize fCode c0 ts bs i = cd at *
    clear hA hB
    go_enter Try.func46, Try.ntmps46
    go_wp2_with fail
    refine HC.out.mono ?_
    rintro e w1 ⟨rfl, hx⟩
    have HX := Lib.hid (((Ext.refl w).alloc _).trans hx)
    clear hx
    go_wp2_with fail
    go_ret2
    first | exact ⟨none, 0, rfl, HX.out.below (Nat.le_refl _), fun h => absurd h (Nat.lt_irrefl _)⟩ | exact ⟨none, ⟨0, rfl⟩, HX.out.below (Nat.le_refl _), fun h => absurd h (Nat.lt_irrefl _)⟩
end Go.Proofs.Ytnmgkchkbchfaaa
