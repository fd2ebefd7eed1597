/- Neighbours: the program's lists. -/
import Derived.Test.YtjbnmkiidongmaaNb2
namespace Go.Proofs.Ytjbnmkiidongmaa
set_option linter.unusedVariables false
set_option linter.unusedSimpArgs false
open Go.RowKit Go.Shelf

attribute [local go_sem] Oper.semAt_some

theorem ownsRow_base {W : World} {base base' : Nat} {e : TypeId} {size : Nat} {v : Value} {k : Nat} {xs : List Value} (h : W.ownsRow base e size v k xs) (hb : base' ≤ base) : W.ownsRow base' e size v k xs := by
  refine ⟨h.1, ?_⟩
  rcases h.2 with hn | ⟨g, cap, cur, hv, hbg, rest⟩
  · exact .inl hn
  · exact .inr ⟨g, cap, cur, hv, Nat.le_trans hb hbg, rest⟩
theorem nb_stops (m B n₀ n c : Nat) (c0 i side : Int) (A : Option Addr) (fb : Nat → Bool) (hm : 1 ≤ m) (hn : n ≤ 1048576) (w : World) (hB : B + 3 ≤ w.heap.size) (hn0 : n₀ ≤ w.heap.size)
    (hb1 : Blk w B 35 #[.int .i64 c0, .slice A n c]) (hb2 : Blk w (B + 1) 2 #[.int .i64 i]) (hb3 : Blk w (B + 2) 3 #[.int .i64 side])
    (hfit : ∀ k, k < n → ∀ V, Below n₀ w V → Calls Try.prog 98 #[.agg #[.int .i64 c0, .slice A n c], .int .i64 i, .int .i64 side, .int .i64 (k : Int)] V fun e w' => e = .returned (.bool (fb k)) ∧ Ext V w') :
    SeqStopsK Fence.wide m Try.prog 113 #[.pointer (some ⟨B, 0, none⟩), .pointer (some ⟨B + 1, 0, none⟩), .pointer (some ⟨B + 2, 0, none⟩)] (fun x : Int => #[Value.int .i64 x]) (Keep3 n₀ B) (fun ys => ys = nbl fb n) (fun pre => pre <+: nbl fb n) n w := fun l J Jx W hW hJ hJx hY h0 => by
  have hle := hW.size
  exact nb1_in m l B n₀ n c c0 i side A fb hm hn J Jx hY W (by omega) (by omega) hJ (hb1.below hW hb1.lt) (hb2.below hW hb2.lt) (hb3.below hW hb3.lt)
    (fun k hk V hV => hfit k hk V ((hW.mono hn0).trans hV)) h0

theorem neighbours_in (m : Nat) (c0 : Int) (A : Option Addr) (n c : Nat) (i side : Int) (w : World) :
    CallsIn Fence.wide m Try.prog 102 #[.agg #[.int .i64 c0, .slice A n c], .int .i64 i, .int .i64 side] w fun e w' =>
      e = .returned (.func (.func 113) #[] #[.pointer (some ⟨w.heap.size, 0, none⟩), .pointer (some ⟨w.heap.size + 1, 0, none⟩), .pointer (some ⟨w.heap.size + 2, 0, none⟩)]) ∧
      w' = ((w.alloc (.cells #[.int .i64 c0, .slice A n c] 35)).alloc (.cells #[.int .i64 i] 2)).alloc (.cells #[.int .i64 side] 3) := by
  refine callsIn_of_wp Try.func102 rfl trivial ?_ rfl
  simp only [Try.ntmps102, List.size_toArray, List.length_cons, List.length_nil, Nat.reduceAdd, Nat.reduceSub, Array.replicate_succ, Array.replicate_zero, List.push_toArray, List.append_toArray, List.nil_append, List.cons_append]
  gi_wp2
  go_ret
  exact ⟨rfl, rfl⟩

set_option maxRecDepth 100000 in
set_option maxHeartbeats 4000000 in
theorem nbList_in (m : Nat) (hm : 5 ≤ m) (c0 : Int) (A : Option Addr) (n c : Nat) (ts : List Tl) (i : Nat) (side : Int) (fb : Nat → Bool) (w : World) (hn : n ≤ 1048576) (hl : ts.length = n) (hA : TR w w.heap.size A ts) (hi : i < n) (hs : isSet c0 ts = true)
    (hfit : ∀ k, k < n → ∀ V, Below w.heap.size w V → Calls Try.prog 98 #[.agg #[.int .i64 c0, .slice A n c], .int .i64 (i : Int), .int .i64 side, .int .i64 (k : Int)] V fun e w' => e = .returned (.bool (fb k)) ∧ Ext V w') :
    CallsIn Fence.wide m Try.prog 75 #[.agg #[.int .i64 c0, .slice A n c], .int .i64 (i : Int), .int .i64 side] w fun e W' => ∃ R p, e = .returned (.tuple #[.slice R (nbl fb n).length p, .int .i64 0]) ∧ Below w.heap.size w W' ∧ IWr W' w.heap.size W'.heap.size R (nbl fb n) := by
  obtain ⟨i0, hi0, hz0, hz1, hz2⟩ := info_parts info_int
  have his : ∀ W, Below w.heap.size w W → Calls Try.prog 70 #[.agg #[.int .i64 c0, .slice A n c]] W _ := fun W hW => isSet_any c0 A n c ts W (by omega) hl ((hA.below hW (Nat.le_refl _)).more hW.size)
  rw [hs] at his
  have HI := Lib.hid his
  have htn := fun W => isTileNumber_any c0 A n c (i : Int) W (by omega)
  rw [decide_eq_true (show 0 ≤ (i : Int) ∧ (i : Int) < (n : Int) by omega)] at htn
  have HT := Lib.hid htn
  have HF := Lib.hid hfit
  have h1 : 1 ≤ m := by omega
  have h2 : 1 ≤ m - 1 := by omega
  clear his htn hfit hA
  refine callsIn_of_wp_marks Try.func75 rfl trivial ?_ rfl
  simp only [Try.ntmps75, List.size_toArray, List.length_cons, List.length_nil, Nat.reduceAdd, Nat.reduceSub, Array.replicate_succ, Array.replicate_zero, List.push_toArray, List.append_toArray, List.nil_append, List.cons_append]
  gi_wp2
  refine ⟨trivial, (callsIn_wide.2 (HI.out _ ((Below.refl _ w).alloc (Nat.le_refl _) _))).mono ?_⟩
  rintro e w1 ⟨rfl, hx⟩
  have hb1 := (Blk.new w 35 #[.int .i64 c0, .slice A n c]).ext hx
  have hk1 := ((Ext.refl w).alloc (Obj.cells #[.int .i64 c0, .slice A n c] 35)).trans hx
  have B1 := Lib.hid hb1
  have K1 := Lib.hid hk1
  have r0 := hb1.rd 0 rfl
  have r1 := hb1.rd 1 rfl
  clear hx hb1 hk1
  gi_wp2
  refine ⟨trivial, (callsIn_wide.2 (HT.out _)).mono ?_⟩
  rintro e w2 ⟨rfl, hx⟩
  have hb1 := B1.out.ext hx
  have B2 := Lib.hid hb1
  have K2 := Lib.hid (K1.out.trans hx)
  clear r0 r1
  have r0 := (hb1.ext ((Ext.refl w2).alloc (Obj.cells #[.slice none 0 0] 41))).rd 0 rfl
  have r1 := (hb1.ext ((Ext.refl w2).alloc (Obj.cells #[.slice none 0 0] 41))).rd 1 rfl
  clear hx hb1 B1 K1
  gi_wp2
  refine ⟨trivial, (neighbours_in _ c0 A n c i side _).mono ?_⟩
  rintro e w3 ⟨rfl, rfl⟩
  clear r0 r1
  gi_wp2
  obtain ⟨W3, hW3⟩ : ∃ W3, ((((w2.alloc (Obj.cells #[.slice none 0 0] 41)).alloc (Obj.cells #[.int .i64 c0, .slice A n c] 35)).alloc (Obj.cells #[.int .i64 (i : Int)] 2)).alloc (Obj.cells #[.int .i64 side] 3)) = W3 := ⟨_, rfl⟩
  have hs3 : W3.heap.size = w2.heap.size + 4 := by rw [← hW3]; simp
  have hbel : Below w2.heap.size w2 W3 := by rw [← hW3]; exact (((((Ext.refl w2).alloc _).alloc _).alloc _).alloc _).below (Nat.le_refl _)
  have bO : Boxed W3 w2.heap.size 41 (.slice none 0 0) := by rw [← hW3]; exact (((Boxed.new w2 _ _).alloc _).alloc _).alloc _
  have b1 : Blk W3 (w2.heap.size + 1) 35 #[.int .i64 c0, .slice A n c] := by
    rw [← hW3]
    have := ((Blk.new (w2.alloc (Obj.cells #[.slice none 0 0] 41)) 35 #[.int .i64 c0, .slice A n c]).ext ((Ext.refl _).alloc (Obj.cells #[.int .i64 (i : Int)] 2))).ext ((Ext.refl _).alloc (Obj.cells #[.int .i64 side] 3))
    simpa using this
  have b2 : Blk W3 (w2.heap.size + 1 + 1) 2 #[.int .i64 (i : Int)] := by
    rw [← hW3]
    have := (Blk.new ((w2.alloc (Obj.cells #[.slice none 0 0] 41)).alloc (Obj.cells #[.int .i64 c0, .slice A n c] 35)) 2 #[.int .i64 (i : Int)]).ext ((Ext.refl _).alloc (Obj.cells #[.int .i64 side] 3))
    simpa using this
  have b3 : Blk W3 (w2.heap.size + 1 + 2) 3 #[.int .i64 side] := by
    rw [← hW3]
    have := (Blk.new (((w2.alloc (Obj.cells #[.slice none 0 0] 41)).alloc (Obj.cells #[.int .i64 c0, .slice A n c] 35)).alloc (Obj.cells #[.int .i64 (i : Int)] 2)) 3 #[.int .i64 side])
    simpa using this
  rw [hW3]
  clear hW3
  have hw2 := (K2.out.below (Nat.le_refl _)).size
  refine wpIn_rangeFunc_ownG rfl h1 (gf := 113) (lb := #[.pointer (some ⟨w2.heap.size + 1, 0, none⟩), .pointer (some ⟨w2.heap.size + 1 + 1, 0, none⟩), .pointer (some ⟨w2.heap.size + 1 + 2, 0, none⟩)]) rfl trivial (enters_of Try.func113 (by kernel_rfl) rfl)
    (nb_stops (m - 1) (w2.heap.size + 1) w2.heap.size n c c0 i side A fb (by omega) hn W3 (by omega) (by omega) b1 b2 b3 (fun k hk V hV => HF.out k hk V ((K2.out.below (Nat.le_refl _)).trans ((hbel.trans hV).mono hw2))))
    (fun h k => h.trans k) (fun W l o o' hl ho hc hw => ⟨belowK_b (w := W3) (by omega) W l o o' hl ho hc hw, fun k h1 h2 => World.putObj_heap_other (by omega)⟩) (Below.refl _ _) (fun _ => rfl)
    (fun pre W => (∃ v, Boxed W w2.heap.size 41 v ∧ W.ownsRow W3.heap.size 2 1 v pre.length (vis pre) ∧ True) ∧ Below w2.heap.size W3 W)
    (fun _ _ _ => False)
    (OwnFrom.and (Own.from (holdsRow_own W3.heap.size w2.heap.size 41 2 1 (fun pre => pre.length) (fun pre => vis pre) (fun _ _ => True)) _) (ownFrom_below (by omega) (by omega)))
    (fun _ _ _ _ _ hs _ _ => hs)
    ⟨⟨_, bO, World.ownsRow_nil _ _ _ _, trivial⟩, Below.refl _ _⟩
    (fun x => { tmps := #[.agg #[.int .i64 c0, .slice A n c], .int .i64 (i : Int), .int .i64 side, .pointer (some ⟨w.heap.size, 0, none⟩), undef, undef, .slice none 0 0, .int .i64 0, .pointer (some ⟨w2.heap.size, 0, none⟩), .int .i64 x, .agg #[.int .i64 c0, .slice A n c], .bool true, .bool false, .agg #[.int .i64 c0, .slice A n c], .int .i64 (i : Int), .bool true, .bool false, .agg #[.int .i64 c0, .slice A n c], .int .i64 (i : Int), .int .i64 side, .func (.func 113) #[] #[.pointer (some ⟨w2.heap.size + 1, 0, none⟩), .pointer (some ⟨w2.heap.size + 1 + 1, 0, none⟩), .pointer (some ⟨w2.heap.size + 1 + 2, 0, none⟩)], .int .i64 x, undef, undef, undef, undef, undef], defers := [] }) ?assign ?body ?done ?stop
  case assign =>
    intro l x W K hK
    gi_wp2
    exact hK
  case body =>
    rintro l pre x W ⟨⟨v, hv, hrow, -⟩, hB⟩ hlt
    have hc := hv.cell
    have hlow := ownsRow_base hrow (show w2.heap.size ≤ W3.heap.size by omega)
    have hWs := hB.size
    have hW3 := (hrow.lt)
    gi_wp2_with (gi_at_builtin; refine wpListIn_append_own _ rfl _ _ 41 rfl W3.heap.size 2 i0 (.int .i64 0) 1 8 Try.underlying41 hi0 hz0 hz1 hz2 rfl (by decide) _ _ _ rfl (hrow.alloc _) ⟨W.heap.size, 0, none⟩ 1 1 [.int .i64 x] rfl rfl (cell_one_new _ _ _) (by simp [Value.oneCell']) (by unfold maxLen; omega) (by omega) (by simp; omega) ?_; intro v' w1 hown' hgrow _; obtain ⟨g', cap', rfl⟩ := ownsRow_succ hown'; have hlow' := ownsRow_base hown' (show w2.heap.size ≤ W3.heap.size by omega); obtain ⟨hv1, hv2, hr2, hk2, hb2⟩ := hv.appended (by decide) hlow (by omega) (Nat.le_refl _) hlow' hgrow; have hc1 := hv1.cell; have hf1 := hv1.frozen)
    refine ⟨hk2.from _, ⟨hb2, fun k k1 k2 => ?_⟩, ⟨_, hv2, ?_, trivial⟩, hB.trans hb2⟩
    · exact (Below.heap_setCell w1 _ _ k (by show k ≠ w2.heap.size; omega)).trans ((hgrow.block k (by simp; omega) (fun e => by have := (hrow.lt k e.symm).1; omega)).trans (Below.heap_alloc W _ k (by omega)))
    · have := hown'.kept (grownBy_setCell' w1 w2.heap.size (.slice (some ⟨g', 0, none⟩) (pre.length + 1) cap')) (.inr (hv1.not_row (by decide) hown').symm)
      simpa [vis, vi] using this
  case done =>
    rintro D ys W hD rfl ⟨⟨v, hv, hrow, -⟩, hB⟩ hK
    have hc := hv.cell
    gi_wp2
    obtain ⟨R, cap, rfl, hcap, htw⟩ := own_iwr hrow rfl
    refine ⟨by simp, .inl ⟨_, _, rfl, run_takeDeferred hK, ?_⟩⟩
    have hb4 := belowK_b (w := w2) (Nat.le_refl _) W D _ (.deferred none) (by omega) hK rfl rfl
    have hfin : Below w.heap.size w (W.putObj D (.deferred none)) := (K2.out.below (Nat.le_refl _)).trans ((hbel.trans (hB.trans hb4)).mono hw2)
    refine ⟨_, results_tmp2 rfl _ _ _, R, cap, rfl, hfin, ?_⟩
    intro h0
    obtain ⟨b, off, t, cs, e, hl1, hl2, hbk, hc'⟩ := htw h0
    refine ⟨b, off, t, cs, e, by omega, by simpa using hl2, ?_, hc'⟩
    have hbk' : W.heap[b]? = some (.cells cs t (0, 0)) := hbk
    refine (World.putObj_heap_other (fun e2 => ?_)).trans hbk
    subst e2
    exact absurd (hK.symm.trans hbk') (by simp)
  case stop =>
    rintro D c pre W _ _ h _
    exact h.elim
end Go.Proofs.Ytjbnmkiidongmaa
