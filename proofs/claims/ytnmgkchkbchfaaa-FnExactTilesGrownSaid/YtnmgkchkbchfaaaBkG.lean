/- TilesGrown: the program. -/
import Derived.Test.YtnmgkchkbchfaaaBkF
import Derived.Test.YtnmgkchkbchfaaaSo1
namespace Go.Proofs.Ytnmgkchkbchfaaa
set_option linter.unusedVariables false
set_option linter.unusedSimpArgs false
open Go.RowKit Go.Sort

/-- The tiles that come of the tile i, in their order. -/
noncomputable def tgL (bs : List (List Int)) (m i : Nat) : List Nat := (List.range m).filter fun x => @decide (Rch (stT bs) i x) (Classical.propDecidable _)
theorem tgL_mem {bs : List (List Int)} {m i x : Nat} : x ∈ tgL bs m i ↔ x < m ∧ Rch (stT bs) i x := by
  unfold tgL
  rw [List.mem_filter, List.mem_range]
  exact and_congr_right fun _ => @decide_eq_true_iff _ (Classical.propDecidable _)
theorem tgL_asc (bs : List (List Int)) (m i : Nat) : (tgL bs m i).Pairwise (· < ·) := List.Pairwise.filter _ List.pairwise_lt_range
theorem tgL_len (bs : List (List Int)) (m i : Nat) : (tgL bs m i).length ≤ m := by
  have := List.length_filter_le (fun x => @decide (Rch (stT bs) i x) (Classical.propDecidable _)) (List.range m)
  rw [List.length_range] at this
  exact this
theorem srt_tg {bs : List (List Int)} {m i : Nat} {AL : List Nat} (hlt : ∀ x, Rch (stT bs) i x → x < m) (hn : AL.Nodup) (hm : ∀ x, x ∈ AL ↔ Rch (stT bs) i x) : srt64 (ints AL) = ints (tgL bs m i) := by
  have hp : AL.Perm (tgL bs m i) := (List.perm_ext_iff_of_nodup hn ((tgL_asc bs m i).imp (fun h => Nat.ne_of_lt h))).2 fun x => by
    rw [tgL_mem, hm x]
    exact ⟨fun h => ⟨hlt x h, h⟩, fun h => h.2⟩
  refine List.Perm.eq_of_pairwise (le := fun x y => decide (x ≤ y) = true) (fun a b _ _ h1 h2 => by simp only [decide_eq_true_eq] at h1 h2; omega) ?_ ?_ ((List.mergeSort_perm _ _).trans (hp.map _))
  · exact List.pairwise_mergeSort (fun a b c h1 h2 => by simp only [decide_eq_true_eq] at *; omega) (fun a b => by simp only [Bool.or_eq_true, decide_eq_true_eq]; omega) _
  · exact List.pairwise_map.2 ((tgL_asc bs m i).imp fun h => by simp only [decide_eq_true_eq]; omega)
set_option maxRecDepth 100000 in
set_option maxHeartbeats 2000000 in
theorem implTilesGrown_any (c0 : Int) (A : Option Addr) (n c : Nat) (ts : List Tl) (B : Option Addr) (m d : Nat) (bs : List (List Int)) (i : Int) (w : World) (hn : n ≤ 1048576) (hl : ts.length = n) (hA : TR w w.heap.size A ts) (hm : m ≤ 1048576) (hlr : bs.length = m) (hB : IRR w w.heap.size B bs) (hrow : ∀ k, k < m → (bs.getD k []).length ≤ 1048576) :
    Calls Try.prog 47 #[.agg #[.int .i64 c0, .slice A n c], .slice B m d, .int .i64 i] w fun e w' => (fCode c0 ts bs i = 0 → LiRes w (ints (tgL bs m i.toNat)) 0 e w') ∧ (fCode c0 ts bs i ≠ 0 → LiRes w [] (fCode c0 ts bs i) e w') := by
  have hmf : ∀ (fn : Fn) (first cap : Array Value) (w : World), (Instr.makeFunc fn first cap).run Try.prog w = .ok (.func fn first cap) w := fun _ _ _ _ => rfl
  have HC := Lib.hid (fun QQ => growthFrom_any c0 A n c ts B m d bs i (w.alloc (Obj.cells #[.int .i64 c0, .slice A n c] 32)) hn hl ((hA.ext ((Ext.refl w).alloc _) (Nat.le_refl _)).more (((Ext.refl w).alloc _).below (Nat.le_refl _)).size) hm hlr ((hB.ext ((Ext.refl w).alloc _) (Nat.le_refl _)).more (((Ext.refl w).alloc _).below (Nat.le_refl _)).size) hrow QQ)
  have HX0 := Lib.hid (((Ext.refl w).alloc (Obj.cells #[.int .i64 c0, .slice A n c] 32)).below (Nat.le_refl w.heap.size))
  unfold LiRes
  by_cases hz : fCode c0 ts bs i = 0
  · obtain ⟨hb0, hi9⟩ := gc_zero hz
    obtain ⟨hset, hok⟩ := bCode_zero hb0
    have hlen := bCode_len hb0
    have h16 := isSet_len hset
    simp only [decide_eq_true_eq] at hi9
    obtain ⟨I, rfl⟩ : ∃ I : Nat, i = (I : Int) := ⟨i.toNat, by omega⟩
    have HOK := Lib.hid hok
    have HZ := Lib.hid hz
    have HY := Lib.hid (fun (AL : List Nat) hn hm9 => srt_tg (bs := bs) (m := m) (i := I) (AL := AL) (fun x h => by have := rch_lt hok (by omega) h; omega) hn hm9)
    simp only [hz, ne_eq, not_true_eq_false, false_implies, and_true, forall_const, Int.toNat_natCast]
    generalize ints (tgL bs m I) = ys at *
    clear hz hb0 hset hok hA hB
    go_enter Try.func47, Try.ntmps47
    go_wp2_with fail
    refine HC.out _ ?_ (fun h => absurd HZ.out h)
    intro _ e w1 ⟨G, g, he, hb1, htw⟩
    subst he
    rw [blkL_len, hlr]
    have K1 := Lib.hid (HX0.out.trans (hb1.mono HX0.out.size))
    have hx2 := (Ext.refl w1).alloc (Obj.cells #[.int .i64 c0, .slice A n c, .slice G m g] 61)
    have hx3 := hx2.alloc (Obj.cells #[.int .i64 (I : Int)] 2)
    have N3 := (Blk.new w1 61 #[.int .i64 c0, .slice A n c, .slice G m g]).ext ((Ext.refl _).alloc (Obj.cells #[.int .i64 (I : Int)] 2))
    have e30 := N3.rd 0 rfl
    have e31 := N3.rd 1 rfl
    have e32 := N3.rd 2 rfl
    have hs3 : ((w1.alloc (Obj.cells #[.int .i64 c0, .slice A n c, .slice G m g] 61)).alloc (Obj.cells #[.int .i64 (I : Int)] 2)).heap.size = w1.heap.size + 2 := by simp
    have hcI : ((w1.alloc (Obj.cells #[.int .i64 c0, .slice A n c, .slice G m g] 61)).alloc (Obj.cells #[.int .i64 (I : Int)] 2)).cell? ⟨w1.heap.size + 1, 0, none⟩ = some (.int .i64 (I : Int)) := by
      have := (Blk.new (w1.alloc (Obj.cells #[.int .i64 c0, .slice A n c, .slice G m g] 61)) 2 #[.int .i64 (I : Int)]).rd 0 rfl
      rw [World.size_alloc] at this
      exact this
    have HAF := Lib.hid (allFrom64_any ts c0 A n c G m g bs I (w1.heap.size + 1) 0 ((w1.alloc (Obj.cells #[.int .i64 c0, .slice A n c, .slice G m g] 61)).alloc (Obj.cells #[.int .i64 (I : Int)] 2)) (by omega) hlr HOK.out (by omega) (((htw.tr).ext hx3 (Nat.le_refl _)).more (by rw [hs3]; omega)) (by rw [hs3]; omega) hcI)
    have K3 := Lib.hid (K1.out.trans (hx3.below K1.out.size))
    clear hb1 htw hx2 hx3 N3 hcI
    go_wp2_with fail
    refine HAF.out.mono ?_
    rintro e w4 ⟨v, AL, rfl, hb4, hown4, hnd, hmem⟩
    have hAl : AL.length ≤ 16 := Nat.le_trans (nodup_len hnd (fun x hx => rch_lt HOK.out (by omega) ((hmem x).1 hx))) (by omega)
    have K4 := Lib.hid (K3.out.trans (hb4.mono K3.out.size))
    have HY4 := Lib.hid (HY.out AL hnd hmem)
    have HSO := Lib.hid (sort64_any _ v (ints AL) w4 (by rw [ints_len]; omega) (by rw [ints_len]; exact hown4))
    have HLO := Lib.hid (fun j (hj : v.ownBlock = some j) => (hown4.lt j hj).1)
    clear hb4 hown4 hnd hmem
    go_wp2_with fail
    refine HSO.out.mono ?_
    rintro e w5 ⟨rfl, hown5, hg5⟩
    rw [HY4.out] at hown5
    have K5 := Lib.hid (K4.out.grown hg5 K4.out.size (fun j hj => by have := HLO.out j hj; have := K1.out.size; rw [hs3] at *; omega))
    obtain ⟨R, cap, hv, hcap, hw5⟩ := own_iwr hown5 rfl
    subst hv
    have HW5 := Lib.hid (hw5.low (show w.heap.size ≤ _ by have := K1.out.size; rw [hs3]; omega))
    clear hown5 hg5 hw5
    go_wp2_with fail
    go_ret2
    first | exact ⟨R, cap, rfl, K5.out, HW5.out⟩ | exact ⟨R, ⟨cap, rfl⟩, K5.out, HW5.out⟩
  · have HZ := Lib.hid hz
    simp only [ne_eq, hz, not_false_eq_true, false_implies, true_and, forall_const]
    generalize fCode c0 ts bs i = cd at *
    clear hA hB
    go_enter Try.func47, Try.ntmps47
    go_wp2_with fail
    refine HC.out _ (fun h => absurd h HZ.out) ?_
    intro _ e w1 ⟨he, hb1⟩
    subst he
    have K1 := Lib.hid (HX0.out.trans (hb1.mono HX0.out.size))
    have hx2 := (Ext.refl w1).alloc (Obj.cells #[.int .i64 0, .slice none 0 0, .slice none 0 0] 61)
    have KK := Lib.hid (K1.out.trans (hx2.below K1.out.size))
    clear hb1 hx2
    go_wp2_with fail
    go_ret2
    first | exact ⟨none, 0, rfl, KK.out, fun h => absurd h (Nat.lt_irrefl _)⟩ | exact ⟨none, ⟨0, rfl⟩, KK.out, fun h => absurd h (Nat.lt_irrefl _)⟩
end Go.Proofs.Ytnmgkchkbchfaaa
