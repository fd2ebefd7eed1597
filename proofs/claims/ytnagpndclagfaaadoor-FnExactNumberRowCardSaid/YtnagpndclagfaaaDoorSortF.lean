/- The program's sorted sets: the library's sort, called with the program's own comparison. -/
import Derived.Test.YtnagpndclagfaaaDoorSBridge
import Derived.Test.YtnagpndclagfaaaDoorShelf
import Derived.Test.YtnagpndclagfaaaDoorSChanged
namespace Go.Proofs.YtnagpndclagfaaaDoor
set_option linter.unusedVariables false
set_option linter.unusedSimpArgs false
open Go.RowKit Go.Sort

theorem swo : SWO (ltOf cmpT) where
  irrefl x := by simp only [ltOf, lt_cmpT]; exact before_irrefl x
  trans x y z h1 h2 := by simp only [ltOf, lt_cmpT] at *; exact before_trans h1 h2
  ntrans x y z h1 h2 := by
    simp only [ltOf, lt_cmpT] at *
    cases h : before x z with
    | false => rfl
    | true =>
      exfalso
      cases hyx : before y x with
      | true => have := before_trans hyx h; rw [h2] at this; cases this
      | false => have := before_tri h1 hyx; subst this; rw [h2] at h; cases h

theorem sort_any (n cap : Nat) (A : Option Addr) (ts : List Tl) (base : Nat) (w : World) (hl : ts.length = n) (hn : n ≤ 65536) (h : w.ownsRow base 56 4 (.slice A n cap) n (flat ts)) :
    Calls Tryd.prog 59 #[.slice A n cap, .func (.func 60) #[] #[]] w fun e w' => e = .returned (.tuple #[]) ∧ w'.ownsRow base 56 4 (.slice A n cap) n (flat (sortM ts)) ∧ w.grownBy w' (Value.slice A n cap).ownBlock := by
  by_cases h0 : n = 0
  · subst h0
    have hnil : ts = [] := List.eq_nil_of_length_eq_zero hl
    subst hnil
    have hcon := AnyF.slices_SortFunc_none Tryd.sortL A cap (.func (.func 60) #[] #[]) w
    change Calls Tryd.prog 59 _ _ _ at hcon
    refine hcon.mono ?_
    rintro e w' ⟨rfl, rfl⟩
    exact ⟨rfl, by simpa [sortM] using h, World.grownBy.refl _ _⟩
  · obtain ⟨g, cap', hv, hbg, hlt⟩ := h.form (by omega)
    cases hv
    have eg : ∀ args w, (callFunc 60 args).run Tryd.prog w = .ok (.enter 60 args) w := enters_of Tryd.func60 (by kernel_rfl) rfl
    have hcmp : CmpLays Tryd.prog 60 #[] enc 4 cmpT g 0 ts.toArray.size w := fun m os dk _ x y => compareTiles_any x y _
    have hcon := AnyQ.slices_SortFunc_total Tryd.sortL 4 Tryd.isAgg56 Tryd.sizeOf56 enc (fun _ => rfl) enc_one cmpT swo 60 #[] g 0 cap ts.toArray w eg hcmp (holds_of_own h hl) hlt (by simp; omega) (fun x y h1 h2 => by simp only [ltOf, lt_cmpT] at h1 h2; exact before_tri h1 h2)
    rw [List.size_toArray, hl] at hcon
    change Calls Tryd.prog 59 _ _ _ at hcon
    refine hcon.mono ?_
    rintro e w' ⟨rfl, q, os, rfl⟩
    have hm : (ts.toArray.toList.mergeSort fun x y => !(ltOf cmpT) y x) = sortM ts := by simp only [sortM, ltOf, lt_cmpT]
    rw [hm]
    have := own_of_sort h (sortM ts).toArray (by simp [sortM_len, hl]) q os
    exact ⟨rfl, by simpa using this.1, this.2⟩

theorem own_far {w : World} {base n : Nat} {v : Value} {xs : List Value} (h : w.ownsRow base 56 4 v n xs) {p : Addr} (hp : some p.block ≠ v.ownBlock) (u : Value) : (w.setCell p u).ownsRow base 56 4 v n xs := by
  refine ⟨h.1, ?_⟩
  rcases h.2 with h0 | ⟨g, cap, cur, rfl, hb, hg, r⟩
  · exact .inl h0
  · exact .inr ⟨g, cap, cur, rfl, hb, (Below.heap_setCell w p u g (fun e => hp (by rw [e]; rfl))).trans hg, r⟩

set_option maxHeartbeats 400000 in
theorem sortedSet_any (c0 : Int) (n cap : Nat) (A : Option Addr) (ts : List Tl) (base : Nat) (w : World) (hl : ts.length = n) (hn : n ≤ 65536) (hbase : base ≤ w.heap.size) (h : w.ownsRow base 56 4 (.slice A n cap) n (flat ts)) :
    Calls Tryd.prog 56 #[.int .i64 c0, .slice A n cap] w fun e w' => e = .returned (.agg #[.int .i64 c0, .slice A n cap]) ∧ w'.ownsRow base 56 4 (.slice A n cap) n (flat (sortM ts)) ∧ Below base w w' := by
  have hcon : Calls Tryd.prog 59 _ _ _ := sort_any n cap A ts base (w.alloc (Obj.cells #[.int .i64 0, .slice none 0 0] 32)) hl hn (h.alloc _)
  have HC := Lib.hid hcon
  clear hcon
  go_enter Tryd.func56, Tryd.ntmps56
  go_wp2_with fail
  refine HC.out.mono ?_
  rintro e w1 ⟨rfl, hown, hg⟩
  have hne : some w.heap.size ≠ (Value.slice A n cap).ownBlock := fun e => Nat.lt_irrefl _ (h.lt _ e.symm).2
  have hB : Blk w1 w.heap.size 32 #[.int .i64 0, .slice none 0 0] := (hg.block w.heap.size (by simp) hne).trans (Blk.new w _ _)
  have r0 := hB.rd 0 rfl
  have r1 := hB.rd 1 rfl
  have z0 := hB.frozen 0
  have z1 := hB.frozen 1
  have HO := Lib.hid hown
  have HG := Lib.hid ((((Below.refl base w).alloc hbase _).grown hg (by simp; omega) (fun j hj => (h.lt j hj).1)))
  have HN := Lib.hid hne
  clear hown hg hne hB h
  go_wp2_with fail
  refine bodyPost_ret (v := .agg #[.int .i64 c0, .slice A n cap]) (by simp [results, Tryd.results56, go_sem, r0, r1, z0, z1]) rfl ⟨rfl, ?_, ?_⟩
  · exact own_far (own_far HO.out HN.out _) HN.out _
  · exact (HG.out.setCell hbase _).setCell hbase _
end Go.Proofs.YtnagpndclagfaaaDoor
