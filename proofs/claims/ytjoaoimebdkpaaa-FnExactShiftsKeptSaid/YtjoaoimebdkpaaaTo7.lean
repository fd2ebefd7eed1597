/- The least shift: the program's side. -/
import Derived.Test.YtjoaoimebdkpaaaTo4
import Derived.Test.YtjoaoimebdkpaaaTo6
import Derived.Lib.SliceRun
import Derived.WalkSpells
namespace Go.Proofs.Ytjoaoimebdkpaaa
set_option linter.unusedVariables false
set_option linter.unusedSimpArgs false
open Go.RowKit Go.Shelf

attribute [local go_sem] Oper.semAt_some

theorem iwr_kept {W W' : World} {row : Option Nat} {lo hi : Nat} {A : Option Addr} {xs : List Int} (h : IWr W lo hi A xs) (hg : W.grownBy W' row) (hr : ∀ r, row = some r → ∃ o : Obj, W.heap[r]? = some o ∧ o.isCells = false) : IWr W' lo hi A xs := fun h0 => by
  obtain ⟨b, off, t, cs, e, h1, h2, h3, h4⟩ := h h0
  refine ⟨b, off, t, cs, e, h1, h2, (hg.block b h3.lt fun e2 => ?_).trans h3, h4⟩
  obtain ⟨o, ho, hc⟩ := hr b e2.symm
  have h5 : W.heap[b]? = _ := h3
  rw [h5] at ho
  cases ho
  cases hc
theorem iww_kept' {W W' : World} {row : Option Nat} {lo hi : Nat} {A : Option Addr} {rs : List (List Int)} (h : IWW W lo hi A rs) (hg : W.grownBy W' row) (hr : ∀ r, row = some r → ∃ o : Obj, W.heap[r]? = some o ∧ o.isCells = false) : IWW W' lo hi A rs := fun h0 => by
  obtain ⟨b, off, t, cs, Q, q, e, h1, h2, h3, h4, h5⟩ := h h0
  refine ⟨b, off, t, cs, Q, q, e, h1, h2, (hg.block b h3.lt fun e2 => ?_).trans h3, fun k hk => ?_, h5⟩
  · obtain ⟨o, ho, hc⟩ := hr b e2.symm
    have h6 : W.heap[b]? = _ := h3
    rw [h6] at ho
    cases ho
    cases hc
  · obtain ⟨g1, g2, g3, g4⟩ := h4 k hk
    exact ⟨g1, g2, iwr_kept g3 hg hr, g4⟩
theorem iwr_grown {W W' : World} {row : Option Nat} {lo hi : Nat} {A : Option Addr} {xs : List Int} (h : IWr W lo hi A xs) (hg : W.grownBy W' row) (hr : ∀ r, row = some r → r < lo) : IWr W' lo hi A xs := fun h0 => by
  obtain ⟨b, off, t, cs, e, h1, h2, h3, h4⟩ := h h0
  exact ⟨b, off, t, cs, e, h1, h2, (hg.block b h3.lt fun e2 => by have := hr b e2.symm; omega).trans h3, h4⟩
theorem iww_grown {W W' : World} {row : Option Nat} {lo hi : Nat} {A : Option Addr} {rs : List (List Int)} (h : IWW W lo hi A rs) (hg : W.grownBy W' row) (hr : ∀ r, row = some r → r < lo) : IWW W' lo hi A rs := fun h0 => by
  obtain ⟨b, off, t, cs, Q, q, e, h1, h2, h3, h4, h5⟩ := h h0
  refine ⟨b, off, t, cs, Q, q, e, h1, h2, (hg.block b h3.lt fun e2 => by have := hr b e2.symm; omega).trans h3, fun k hk => ?_, h5⟩
  obtain ⟨g1, g2, g3, g4⟩ := h4 k hk
  exact ⟨g1, g2, iwr_grown g3 hg hr, g4⟩
theorem iww_some {W : World} {lo hi : Nat} {A : Option Addr} {rs : List (List Int)} (h : IWW W lo hi A rs) (h0 : 0 < rs.length) : ∃ b o, A = some ⟨b, o, none⟩ := by
  obtain ⟨b, off, t, cs, Q, q, e, _⟩ := h h0
  exact ⟨b, off, e⟩
theorem boxed_kept' {W W' : World} {row : Option Nat} {B : Nat} {t : TypeId} {v : Value} (h : Boxed W B t v) (hg : W.grownBy W' row) (hr : ∀ r, row = some r → ∃ o : Obj, W.heap[r]? = some o ∧ o.isCells = false) : Boxed W' B t v := by
  refine h.kept hg fun e => ?_
  obtain ⟨o, ho, hc⟩ := hr B e.symm
  have h6 : W.heap[B]? = _ := h
  rw [h6] at ho
  cases ho
  cases hc
theorem shIs_own (B lo m wd : Nat) (rs : List (List Int)) (k : Nat) (x : Sh) {W W' : World} {row : Option Nat} (h : ShIs lo m wd rs k x W) (hg : W.grownBy W' row) (hr : ∀ r, row = some r → B ≤ r ∧ ∃ o : Obj, W.heap[r]? = some o ∧ o.isCells = false) : ShIs lo m wd rs k x W' :=
  ⟨h.1, h.2.1, h.2.2.1, (iww_kept' h.2.2.2 hg fun r e => (hr r e).2).loose_ (Nat.le_refl _) hg.size⟩
theorem shiftsOf_in (m : Nat) (B : Option Addr) (n d : Nat) (w : World) :
    CallsIn Fence.wide m Try.prog 123 #[.slice B n d] w fun e w' =>
      e = .returned (.func (.func 162) #[] #[.pointer (some ⟨w.heap.size, 0, none⟩)]) ∧
      w' = w.alloc (.cells #[.slice B n d] 25) := by
  refine callsIn_of_wp Try.func123 rfl trivial ?_ rfl
  simp only [Try.ntmps123, List.size_toArray, List.length_cons, List.length_nil, Nat.reduceAdd, Nat.reduceSub, Array.replicate_succ, Array.replicate_zero, List.push_toArray, List.append_toArray, List.nil_append, List.cons_append]
  gi_wp2
  go_ret
  exact ⟨rfl, rfl⟩

/-- What stands in the box of the least one so far. -/
def LeastI (lo m bx : Nat) (rs : List (List Int)) (k : Nat) (W : World) : Prop :=
  (k = 0 ∧ Boxed W bx 25 (.slice none 0 0)) ∨ (0 < k ∧ ∃ b o cap, Boxed W bx 25 (.slice (some ⟨b, o, none⟩) m cap) ∧ IWW W lo W.heap.size (some ⟨b, o, none⟩) (leastUp rs k))
theorem leastI_own (B lo m bx : Nat) (rs : List (List Int)) : OwnFrom B (LeastI lo m bx rs) := fun k W W' row h hg hr => by
  have hr' := fun r e => (hr r e).2
  rcases h with ⟨h0, hb⟩ | ⟨h0, b, o, cap, hb, hi⟩
  · exact .inl ⟨h0, boxed_kept' hb hg hr'⟩
  · exact .inr ⟨h0, b, o, cap, boxed_kept' hb hg hr', (iww_kept' hi hg hr').loose_ (Nat.le_refl _) hg.size⟩

set_option maxRecDepth 100000 in
set_option maxHeartbeats 4000000 in
theorem leastForm_in (mm : Nat) (h1 : 3 ≤ mm) (B : Option Addr) (m d wd : Nat) (rs : List (List Int)) (w : World) (hm : 1 ≤ m ∧ m ≤ 8) (hmd : m ≤ d) (hw : 1 ≤ wd ∧ wd ≤ 8) (hsh : Shape m wd rs) (hB : IRR w w.heap.size B rs) :
    CallsIn Fence.wide mm Try.prog 72 #[.slice B m d] w fun e w' => ∃ A cap, e = .returned (.slice A m cap) ∧ IWW w' w.heap.size w'.heap.size A (leastUp rs (m * wd)) ∧ Below w.heap.size w w' := by
  have h2 : 1 ≤ mm := by omega
  have h3 : 1 ≤ mm - 1 := by omega
  refine callsIn_of_wp_marks Try.func72 rfl trivial ?_ rfl
  simp only [Try.ntmps72, List.size_toArray, List.length_cons, List.length_nil, Nat.reduceAdd, Nat.reduceSub, Array.replicate_succ, Array.replicate_zero, List.push_toArray, List.append_toArray, List.nil_append, List.cons_append]
  gi_wp2
  refine ⟨trivial, (shiftsOf_in _ B m d _).mono ?_⟩
  rintro e w3 ⟨rfl, rfl⟩
  gi_wp2
  obtain ⟨W3, hW3⟩ : ∃ W3, ((w.alloc (Obj.cells #[.slice none 0 0] 25)).alloc (Obj.cells #[.slice B m d] 25)) = W3 := ⟨_, rfl⟩
  have hs3 : W3.heap.size = w.heap.size + 2 := by rw [← hW3]; simp
  have hbel : Below w.heap.size w W3 := by rw [← hW3]; exact ((((Ext.refl w).alloc _).alloc _)).below (Nat.le_refl _)
  have bO : Boxed W3 w.heap.size 25 (.slice none 0 0) := by rw [← hW3]; exact (Boxed.new w _ _).alloc _
  have bT : Blk W3 (w.heap.size + 1) 25 #[.slice B m d] := by
    rw [← hW3]
    have := Blk.new (w.alloc (Obj.cells #[.slice none 0 0] 25)) 25 #[.slice B m d]
    simpa using this
  try rw [World.size_alloc]
  try rw [hW3]
  clear hW3
  refine rangeAll h2 (gf := 162) (lb := #[.pointer (some ⟨w.heap.size + 1, 0, none⟩)]) rfl (enters_of Try.func162 (by kernel_rfl) rfl)
    (shifts_in (mm - 1) w.heap.size (w.heap.size + 1) B m d wd rs W3 h3 hm hmd hw hsh.1 hsh.2 hbel.size bT (hB.below hbel (Nat.le_refl _)))
    (fun b hb => by rcases hb with h | h <;> omega) (fun _ => rfl)
    (fun k W => LeastI W3.heap.size m w.heap.size rs k W ∧ Below w.heap.size W3 W) ((leastI_own _ _ _ _ _).and (ownFrom_below (by omega) (by omega)))
    (fun k x a' W => a' = { tmps := #[.slice B m d, undef, .slice none 0 0, .pointer (some ⟨w.heap.size, 0, none⟩), undef, .slice x.A m x.cap, .slice B m d, .func (.func 162) #[] #[.pointer (some ⟨w.heap.size + 1, 0, none⟩)], .agg #[.int .i64 (x.a : Int), .int .i64 (x.b : Int)], .slice x.A m x.cap, undef, undef, undef, undef, undef, undef, undef, undef, undef, undef], defers := [] } ∧ (LeastI W3.heap.size m w.heap.size rs k W ∧ Below w.heap.size W3 W) ∧ ShIs W3.heap.size m wd rs k x W)
    (fun k x a' s W W' row h hg hr => ⟨h.1, ((leastI_own _ _ _ _ _).and (ownFrom_below (by omega) (by omega))) k W W' row h.2.1 hg hr, shIs_own _ _ _ _ _ _ _ h.2.2 hg hr⟩)
    ⟨.inl ⟨rfl, bO⟩, Below.refl _ _⟩ ?assign ?body ?done
  case assign =>
    intro l k x W K hk hi hx hK
    unfold Sh.enc
    gi_wp2
    exact hK _ _ ⟨rfl, hi, hx⟩ (KeepsFrom.refl _ _) (fun _ _ => rfl)
  case body =>
    rintro l k ⟨xa, xb, xA, xc⟩ a' W hk ⟨rfl, ⟨hI, hb⟩, hx1, hxa, hxb, hxw⟩
    simp only at hx1 hxa hxb hxw
    have hshx := hsh.shR xb hxa
    obtain ⟨b4, o4, rfl⟩ := iww_some hxw (by rw [hshx.1]; omega)
    have hwd0 : (rs.getD 0 []).length = wd := hsh.2 0 (by omega)
    have hskk : shK k rs = shR xa xb rs := by
      have := shK_at (a := xa) (b := xb) (rs := rs) (by rw [hwd0]; exact hxb)
      rw [hwd0, hx1] at this
      exact this
    have hsz := hb.size
    rcases hI with ⟨rfl, bx⟩ | ⟨h0, b, o, cap, bx, hiw⟩
    · have hc := bx.cell
      have hf := bx.frozen
      have hl1 : leastUp rs 1 = shR xa xb rs := by
        have h5 : shK 0 rs = rs := shK_zero (by rw [hwd0]; omega)
        have := leastUp_no (rs := rs) (k := 0) (by rw [h5]; exact lessLL_self _)
        rw [this, ← hskk, h5]
        rfl
      have hnil : ∀ w, (binOp .eql 25 (.slice none 0 0) (.slice none 0 0)).run Try.prog w = .ok (.bool true) w := fun w => Lib.run_eql_slice_nil w 25 51 none 0 0 0 0 Try.underlying25
      gi_wp2
      refine ⟨trivial, ?_⟩
      gi_wp2
      refine ⟨(KeepsOthers.setCell _ _ _).from _, fun b2 hb2 => Below.heap_setCell W _ _ b2 (by rcases hb2 with h | h <;> (show b2 ≠ w.heap.size; omega)), .inr ⟨by omega, b4, o4, xc, bx.set _, ?_⟩, hb.setCell (p := ⟨w.heap.size, 0, none⟩) (Nat.le_refl _) _⟩
      rw [Nat.zero_add, hl1]
      exact (iww_grown hxw (grownBy_setCell' W w.heap.size _) (fun r e => by cases e; omega)).loose_ (Nat.le_refl _) (by simp)
    · have hc := bx.cell
      have hf := bx.frozen
      have hnil : ∀ w, (binOp .eql 25 (.slice (some ⟨b, o, none⟩) m cap) (.slice none 0 0)).run Try.prog w = .ok (.bool false) w := fun w => Lib.run_eql_slice_nil w 25 51 (some ⟨b, o, none⟩) m cap 0 0 Try.underlying25
      have hshl := hsh.least (by omega) k (Nat.le_of_lt hk)
      have hcmp := fun W' (hW : W' = W) => compareRows_any (some ⟨b4, o4, none⟩) (some ⟨b, o, none⟩) m xc cap (shR xa xb rs) (leastUp rs k) W' (by omega) hshx.1 hshl.1 (fun j hj => by rw [hshx.2 j hj]; omega) (fun j hj => by rw [hshl.2 j hj]; omega) (by rw [hW]; exact hxw.irr) (by rw [hW]; exact hiw.irr)
      have hy := leastUp_yes (rs := rs) (k := k)
      have hn := leastUp_no (rs := rs) (k := k)
      rw [hskk] at hy hn
      unfold lessLL at hy hn
      generalize cmpLL (shR xa xb rs) (leastUp rs k) = z at hcmp hy hn
      have HC := Lib.hid hcmp
      have HY := Lib.hid hy
      have HN := Lib.hid hn
      have HXW := Lib.hid hxw
      have HIW := Lib.hid hiw
      clear hcmp hy hn hxw hiw hskk hshl
      by_cases hz : z < 0
      · have hzd : decide (z < 0) = true := decide_eq_true hz
        have HE := Lib.hid (HY.out hzd)
        gi_wp2
        refine ⟨trivial, fun _ => by omega, (CallsIn.inRound l (callsIn_wide.2 (HC.out _ rfl))).mono ?_⟩
        rintro e w' ⟨rfl, rfl⟩
        gi_wp2
        refine ⟨(KeepsOthers.setCell _ _ _).from _, fun b2 hb2 => Below.heap_setCell _ _ _ b2 (by rcases hb2 with h | h <;> (show b2 ≠ w.heap.size; omega)), .inr ⟨by omega, b4, o4, xc, bx.set _, ?_⟩, hb.setCell (p := ⟨w.heap.size, 0, none⟩) (Nat.le_refl _) _⟩
        rw [HE.out]
        exact (iww_grown HXW.out (grownBy_setCell' _ w.heap.size _) (fun r e => by cases e; omega)).loose_ (Nat.le_refl _) (by simp)
      · have hzd : decide (z < 0) = false := decide_eq_false hz
        have HE := Lib.hid (HN.out hzd)
        gi_wp2
        refine ⟨trivial, fun _ => by omega, (CallsIn.inRound l (callsIn_wide.2 (HC.out _ rfl))).mono ?_⟩
        rintro e w' ⟨rfl, rfl⟩
        gi_wp2
        refine ⟨KeepsFrom.refl _ _, fun b2 hb2 => rfl, .inr ⟨by omega, b, o, cap, bx, ?_⟩, hb⟩
        rw [HE.out]
        exact HIW.out
  case done =>
    rintro D W hD ⟨hI, hb⟩ hK
    have hpos : 0 < m * wd := Nat.mul_pos (by omega) (by omega)
    rcases hI with ⟨h0, _⟩ | ⟨_, b, o, cap, bx, hiw⟩
    · omega
    · have hc := bx.cell
      gi_wp2
      refine ⟨by simp, .inl ⟨_, _, rfl, run_takeDeferred hK, ?_⟩⟩
      have hb4 := belowK_b (n₀ := w.heap.size) (w := W3) (by omega) W D _ (.deferred none) hD hK rfl rfl
      have hfin : Below w.heap.size w (W.putObj D (.deferred none)) := hbel.trans (hb.trans hb4)
      refine ⟨_, results_tmp rfl _ _ _, some ⟨b, o, none⟩, cap, rfl, ?_, hfin⟩
      exact (iww_kept' hiw (grownBy_putObj' W D _) (fun r e => by cases e; exact ⟨_, hK, rfl⟩)).loose_ (by omega) (by simp)
end Go.Proofs.Ytjoaoimebdkpaaa
