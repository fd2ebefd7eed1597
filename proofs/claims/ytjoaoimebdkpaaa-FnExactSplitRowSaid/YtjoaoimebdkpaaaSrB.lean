/- The tile of a stacked pair, made in new memory alone. -/
import Derived.Test.YtjoaoimebdkpaaaSkA
import Derived.Test.YtjoaoimebdkpaaaSrA
import Derived.Deep.RegionHeld3
namespace Go.Proofs.Ytjoaoimebdkpaaa
section
set_option linter.unusedVariables false
set_option linter.unusedSimpArgs false
open Go.RowKit Go.Sort

theorem modify_right {os : Array Obj} (h : Array Obj) {k : Nat} (hk : h.size ≤ k) (f : Obj → Obj) : (h ++ os).modify k f = h ++ os.modify (k - h.size) f := by
  apply Array.ext
  · simp
  · intro i h1 h2
    simp only [Array.getElem_modify, Array.getElem_append, Array.size_modify]
    split <;> split <;> (try split) <;> first | rfl | omega
theorem Ext.setNew {w a : World} (h : Ext w a) {p : Addr} (hp : w.heap.size ≤ p.block) (v : Value) : Ext w (a.setCell p v) := by
  obtain ⟨q, os, rfl⟩ := h
  have hs : (w.drewN q).heap.size ≤ p.block := hp
  exact ⟨q, _, congrArg (fun hh => ({ w.drewN q with heap := hh } : World)) (modify_right (os := os) (w.drewN q).heap hs _)⟩
set_option maxRecDepth 100000 in
set_option maxHeartbeats 2000000 in
theorem l04Tile_ext (a b : Tl) (A : Option Addr) (n c : Nat) (ps : List Int) (w : World) (hn : n ≤ 1048576) (hl : ps.length = n) (hA : IR w w.heap.size A ps) (hps : AscI ps) (hw : cw (a, b) ∈ ps) (he : ce (a, b) ∈ ps) (ha : tileOk 6 a = true) (hb : tileOk 6 b = true) :
    Calls Try.prog 89 #[tv a, tv b, .slice A n c] w fun e w' => e = .returned (tv (stT ps (a, b))) ∧ Ext w w' := by
  have hf1 := fun W (hW : Ext w W) => l04Find_any A n c ps (cw (a, b)) W hn hl ((hA.ext hW (Nat.le_refl _)).more (hW.below (Nat.le_refl _)).size) hps hw
  have hf2 := fun W (hW : Ext w W) => l04Find_any A n c ps (ce (a, b)) W hn hl ((hA.ext hW (Nat.le_refl _)).more (hW.below (Nat.le_refl _)).size) hps he
  unfold stT
  generalize hr1 : rk ps (cw (a, b)) = r1 at hf1 ⊢
  generalize hr2 : rk ps (ce (a, b)) = r2 at hf2 ⊢
  obtain ⟨a0, a1, a2, a3⟩ := a
  obtain ⟨b0, b1, b2, b3⟩ := b
  simp only [tileOk, decide_eq_true_eq] at ha hb
  simp only [cw, ce] at hf1 hf2
  have HF1 := Lib.hid hf1
  have HF2 := Lib.hid hf2
  clear hf1 hf2 hr1 hr2 hw he hps hA hl
  simp only [tv]
  go_enter Try.func89, Try.ntmps89
  go_wp2_with fail
  have hx0 : Ext w (((w.alloc (Obj.cells #[.int .i64 a0, .int .i64 a1, .int .i64 a2, .int .i64 a3] 48)).alloc (Obj.cells #[.int .i64 b0, .int .i64 b1, .int .i64 b2, .int .i64 b3] 48)).alloc (Obj.cells #[.int .i64 0, .int .i64 0, .int .i64 0, .int .i64 0] 48)) := (((Ext.refl w).alloc _).alloc _).alloc _
  have hb0 : Blk (((w.alloc (Obj.cells #[.int .i64 a0, .int .i64 a1, .int .i64 a2, .int .i64 a3] 48)).alloc (Obj.cells #[.int .i64 b0, .int .i64 b1, .int .i64 b2, .int .i64 b3] 48)).alloc (Obj.cells #[.int .i64 0, .int .i64 0, .int .i64 0, .int .i64 0] 48)) w.heap.size 48 #[.int .i64 a0, .int .i64 a1, .int .i64 a2, .int .i64 a3] := (Blk.new w _ _).ext (((Ext.refl _).alloc _).alloc _)
  have hb1 : Blk (((w.alloc (Obj.cells #[.int .i64 a0, .int .i64 a1, .int .i64 a2, .int .i64 a3] 48)).alloc (Obj.cells #[.int .i64 b0, .int .i64 b1, .int .i64 b2, .int .i64 b3] 48)).alloc (Obj.cells #[.int .i64 0, .int .i64 0, .int .i64 0, .int .i64 0] 48)) (w.heap.size + 1) 48 #[.int .i64 b0, .int .i64 b1, .int .i64 b2, .int .i64 b3] := by have := (Blk.new (w.alloc (Obj.cells #[.int .i64 a0, .int .i64 a1, .int .i64 a2, .int .i64 a3] 48)) 48 #[.int .i64 b0, .int .i64 b1, .int .i64 b2, .int .i64 b3]).ext ((Ext.refl _).alloc (Obj.cells #[.int .i64 0, .int .i64 0, .int .i64 0, .int .i64 0] 48)); simpa using this
  have hb2 : Blk (((w.alloc (Obj.cells #[.int .i64 a0, .int .i64 a1, .int .i64 a2, .int .i64 a3] 48)).alloc (Obj.cells #[.int .i64 b0, .int .i64 b1, .int .i64 b2, .int .i64 b3] 48)).alloc (Obj.cells #[.int .i64 0, .int .i64 0, .int .i64 0, .int .i64 0] 48)) (w.heap.size + 1 + 1) 48 #[.int .i64 0, .int .i64 0, .int .i64 0, .int .i64 0] := by have := (Blk.new ((w.alloc (Obj.cells #[.int .i64 a0, .int .i64 a1, .int .i64 a2, .int .i64 a3] 48)).alloc (Obj.cells #[.int .i64 b0, .int .i64 b1, .int .i64 b2, .int .i64 b3] 48)) 48 #[.int .i64 0, .int .i64 0, .int .i64 0, .int .i64 0]); simpa using this
  have HX0 := Lib.hid hx0
  have HB2 := Lib.hid hb2
  have p0 := hb0.rd 0 (v := .int .i64 a0) rfl
  have p1 := hb0.rd 1 (v := .int .i64 a1) rfl
  have p2 := hb0.rd 2 (v := .int .i64 a2) rfl
  have s0 := hb1.rd 0 (v := .int .i64 b0) rfl
  have s2 := hb1.rd 2 (v := .int .i64 b2) rfl
  have s3 := hb1.rd 3 (v := .int .i64 b3) rfl
  have q0 := hb2.rd 0 (v := .int .i64 0) rfl
  have z0 := hb2.frozen 0
  have q1 := hb2.rd 1 (v := .int .i64 0) rfl
  have z1 := hb2.frozen 1
  have q2 := hb2.rd 2 (v := .int .i64 0) rfl
  have z2 := hb2.frozen 2
  have q3 := hb2.rd 3 (v := .int .i64 0) rfl
  have z3 := hb2.frozen 3
  have HB0 := Lib.hid hb0
  have HB1 := Lib.hid hb1
  clear hx0 hb0 hb1 hb2
  generalize (((w.alloc (Obj.cells #[.int .i64 a0, .int .i64 a1, .int .i64 a2, .int .i64 a3] 48)).alloc (Obj.cells #[.int .i64 b0, .int .i64 b1, .int .i64 b2, .int .i64 b3] 48)).alloc (Obj.cells #[.int .i64 0, .int .i64 0, .int .i64 0, .int .i64 0] 48)) = w0 at *
  have wr1 : IntKind.i64.wrap (16 * a0) = 16 * a0 := IntWalk.i64_in _ (by omega)
  have wr2 : IntKind.i64.wrap (16 * a0 + b0) = 16 * a0 + b0 := IntWalk.i64_in _ (by omega)
  have wr3 : IntKind.i64.wrap (16 * a2) = 16 * a2 := IntWalk.i64_in _ (by omega)
  have wr4 : IntKind.i64.wrap (16 * a2 + b2) = 16 * a2 + b2 := IntWalk.i64_in _ (by omega)
  go_wp2_with fail
  have hne0 : w.heap.size ≠ w.heap.size + 1 + 1 := by omega
  have hne1 : w.heap.size + 1 ≠ w.heap.size + 1 + 1 := by omega
  go_region_held3 (fun w' => w'.cell? ⟨w.heap.size, 0, none⟩ = some (.int .i64 a0) ∧ w'.cell? ⟨w.heap.size, 1, none⟩ = some (.int .i64 a1) ∧ w'.cell? ⟨w.heap.size, 2, none⟩ = some (.int .i64 a2) ∧ w'.cell? ⟨w.heap.size + 1, 0, none⟩ = some (.int .i64 b0) ∧ w'.cell? ⟨w.heap.size + 1, 2, none⟩ = some (.int .i64 b2) ∧ w'.cell? ⟨w.heap.size + 1, 3, none⟩ = some (.int .i64 b3))
    (first | exact ⟨p0, p1, p2, s0, s2, s3⟩ | exact ⟨((HB0.out.far4 hne0).ext ((Ext.refl _).drew)).rd 0 rfl, ((HB0.out.far4 hne0).ext ((Ext.refl _).drew)).rd 1 rfl, ((HB0.out.far4 hne0).ext ((Ext.refl _).drew)).rd 2 rfl, ((HB1.out.far4 hne1).ext ((Ext.refl _).drew)).rd 0 rfl, ((HB1.out.far4 hne1).ext ((Ext.refl _).drew)).rd 2 rfl, ((HB1.out.far4 hne1).ext ((Ext.refl _).drew)).rd 3 rfl⟩ | exact ⟨((HB0.out.far4 hne0)).rd 0 rfl, ((HB0.out.far4 hne0)).rd 1 rfl, ((HB0.out.far4 hne0)).rd 2 rfl, ((HB1.out.far4 hne1)).rd 0 rfl, ((HB1.out.far4 hne1)).rd 2 rfl, ((HB1.out.far4 hne1)).rd 3 rfl⟩ | go_keep)
    (first
    | (go_at_call 133; with_reducible refine (HF1.out _ (HX0.out.trans (Ext.refl _).drew)).mono ?_; rintro e w9 ⟨rfl, rfl⟩)
    | (go_at_call 133; with_reducible refine (HF2.out _ (HX0.out.trans (Ext.refl _).drew)).mono ?_; rintro e w9 ⟨rfl, rfl⟩))
  all_goals
    go_wp2_with fail
    refine bodyPost_ret (v := .agg #[.int .i64 (r1 : Int), .int .i64 a1, .int .i64 (r2 : Int), .int .i64 b3]) (by simp [results, Try.results89, go_sem, q0, q1, q2, q3, z0, z1, z2, z3]) rfl ⟨rfl, ?_⟩
    repeat (first | exact HX0.out | refine Ext.setNew ?_ (show w.heap.size ≤ w.heap.size + 1 + 1 by omega) _ | refine Ext.drew ?_ | refine Ext.drewN ?_ _)
end

section
set_option linter.unusedVariables false
set_option linter.unusedSimpArgs false
open Go.RowKit Go.Sort

theorem firstK_ok {ts us : List Tl} {ps : List Int} {x : Tl} {k : Nat} (hk : k < ts.length * us.length) (h : okK ts us ps x k = true) : okK ts us ps x (firstK ts us ps x) = true ∧ firstK ts us ps x ≤ k := by
  unfold firstK
  cases h3 : (List.range (ts.length * us.length)).find? (okK ts us ps x) with
  | none =>
    have := List.find?_eq_none.1 h3 k (List.mem_range.2 hk)
    exact absurd h this
  | some j =>
    refine ⟨List.find?_some h3, ?_⟩
    obtain ⟨h4, i, hi, h5, h6⟩ := List.find?_eq_some_iff_getElem.1 h3
    simp at h5
    subst h5
    rcases Nat.lt_or_ge k i with hlt | hge
    · have := h6 k hlt
      simp [h] at this
    · exact hge
theorem fk_ok {ts us : List Tl} {i : Int} (hi : 0 ≤ i ∧ i < (stkT ts us).length) : fk ts us i < ts.length * us.length ∧ okK ts us (prs ts us) ((stkT ts us).getD i.toNat T0) (fk ts us i) = true := by
  obtain ⟨j, hj, h1, h2, h3, h4⟩ := fk_facts hi
  refine ⟨h3, ?_⟩
  have hm : (stk ts us).getD j P0 ∈ stk ts us := by simp [List.getD, hj]
  have hf := (stk_mem hm).2.2
  rw [h4] at hf
  unfold okK fitK
  rw [decide_eq_true hf, Bool.true_and]
  rw [show ((stk ts us).map (stT (prs ts us))).getD j T0 = stT (prs ts us) ((stk ts us).getD j P0) by simp [List.getD, hj], h4] at h1
  exact decide_eq_true h1
theorem okK_at {ts us : List Tl} {ps : List Int} {x : Tl} {a b : Nat} (hb : b < us.length) : okK ts us ps x (a * us.length + b) = (decide ((ts.getD a T0).2.2.2 = (us.getD b T0).2.1) && decide (stT ps (ts.getD a T0, us.getD b T0) = x)) := by
  unfold okK fitK
  rw [pairK_at hb]
theorem div_at {m a b : Nat} (hb : b < m) : (a * m + b) / m = a ∧ (a * m + b) % m = b := by
  refine ⟨?_, ?_⟩
  · rw [Nat.mul_comm, Nat.mul_add_div (by omega), Nat.div_eq_of_lt hb]; rfl
  · rw [Nat.mul_comm, Nat.mul_add_mod, Nat.mod_eq_of_lt hb]
/-- What the search for a tile has made so far: nothing, or the one pair. -/
def Srch (n1 : Nat) (ok : Nat → Bool) (k : Nat) (f : Bool) (one two : List Int) (y : Nat) (v u : Value) (base : Nat) (wr : World) : Prop :=
  ∃ z : Nat, wr.ownsRow base 2 1 v z (vis (one.take z)) ∧ wr.ownsRow base 2 1 u z (vis (two.take z)) ∧ Away v u ∧ ((f = false ∧ z = y ∧ ∀ j, j < k → ok j = false) ∨ (f = true ∧ z = y + 1))
theorem Srch.ext {n1 : Nat} {ok : Nat → Bool} {k : Nat} {f : Bool} {one two : List Int} {y : Nat} {v u : Value} {base : Nat} {wr wx : World} (h : Srch n1 ok k f one two y v u base wr) (hx : Below wr.heap.size wr wx) : Srch n1 ok k f one two y v u base wx := by
  obtain ⟨z, h1, h2, h3⟩ := h
  exact ⟨z, own_belowA h1 hx, own_belowA h2 hx, h3⟩

set_option maxRecDepth 100000 in
set_option maxHeartbeats 2000000 in
theorem specSplit_0 (c0 : Int) (A0 : Option Addr) (n0 q0 : Nat) (ts : List Tl) (c1 : Int) (A1 : Option Addr) (n1 q1 : Nat) (us : List Tl) (B : Option Addr) (m d : Nat) (xs : List Int) (w : World) (hn0 : n0 ≤ 1048576) (hl0 : ts.length = n0) (hA0 : TR w w.heap.size A0 ts) (hn1 : n1 ≤ 1048576) (hl1 : us.length = n1) (hA1 : TR w w.heap.size A1 us) (hm : m ≤ 1048576) (hlx : xs.length = m) (hB : IR w w.heap.size B xs) (hs0 : isSet c0 ts = true) (hs1 : isSet c1 us = true) (hrow : isRow (stkT ts us) xs = true) (C : Int) (h16 : (stkT ts us).length ≤ 16)
    (hst : ∀ W, Below w.heap.size w W → Calls Try.prog 86 #[.agg #[.int .i64 c0, .slice A0 n0 q0], .agg #[.int .i64 c1, .slice A1 n1 q1]] W (SetRes W C (stkT ts us) 0)) :
    Calls Try.prog 40 #[.agg #[.int .i64 c0, .slice A0 n0 q0], .agg #[.int .i64 c1, .slice A1 n1 q1], .slice B m d] w fun e w' => ∃ R0 p0 R1 p1, e = .returned (.tuple #[.slice R0 (upL ts us xs).length p0, .slice R1 (loL ts us xs).length p1, .int .i64 0]) ∧ Below w.heap.size w w' ∧ IWr w' w.heap.size w'.heap.size R0 (upL ts us xs) ∧ IWr w' w.heap.size w'.heap.size R1 (loL ts us xs) := by
  have hle0 := isSet_len hs0
  have hle1 := isSet_len hs1
  rw [hl0] at hle0
  rw [hl1] at hle1
  have HTA0 := Lib.hid hA0
  have HTA1 := Lib.hid hA1
  unfold SetRes at hst
  have hir : ∀ W A cap, Below w.heap.size w W → TR W W.heap.size A (stkT ts us) → Calls Try.prog 87 #[.agg #[.int .i64 C, .slice A (stkT ts us).length cap], .slice B m d] W _ := fun W A cap hW hA => l02Row_any C A (stkT ts us).length cap (stkT ts us) B m d xs W (by omega) rfl hA (by omega) hlx ((hB.below hW (Nat.le_refl _)).more hW.size)
  rw [hrow] at hir
  have hpr : ∀ W, Below w.heap.size w W → Calls Try.prog 88 #[.agg #[.int .i64 c0, .slice A0 n0 q0], .agg #[.int .i64 c1, .slice A1 n1 q1]] W _ := fun W hW => l04Pairs_any c0 A0 n0 q0 ts c1 A1 n1 q1 us W hl0 ((hA0.below hW (Nat.le_refl _)).more hW.size) hl1 ((hA1.below hW (Nat.le_refl _)).more hW.size) hs0 hs1
  obtain ⟨⟨hr1, hr2⟩, hrg⟩ := isRow_facts hrow
  rw [hlx] at hr1 hr2 hrg
  have hpl : (prs ts us).length ≤ 512 := by
    have h1 := prs_len (ts := ts) (us := us)
    have h2 : ts.length * us.length ≤ 16 * 16 := Nat.mul_le_mul (by omega) (by omega)
    omega
  have htl : ∀ a b, a < n0 → b < n1 → (ts.getD a T0).2.2.2 = (us.getD b T0).2.1 → ∀ W A cap, IR W W.heap.size A (prs ts us) → Calls Try.prog 89 #[tv (ts.getD a T0), tv (us.getD b T0), .slice A (prs ts us).length cap] W _ := fun a b ha hb hf W A cap hA => by
    have ha1 : ts.getD a T0 ∈ ts := by simp [List.getD, show a < ts.length by omega]
    have hb1 : us.getD b T0 ∈ us := by simp [List.getD, show b < us.length by omega]
    have hm : (ts.getD a T0, us.getD b T0) ∈ stk ts us := by
      simp only [stk, List.mem_flatMap, List.mem_map, List.mem_filter]
      exact ⟨_, ha1, _, ⟨hb1, by simpa using hf⟩, rfl⟩
    exact l04Tile_ext (ts.getD a T0) (us.getD b T0) A (prs ts us).length cap (prs ts us) W (by omega) rfl hA (sortI_asc _) (sortI_mem.2 (cw_mem hm)) (sortI_mem.2 (ce_mem hm)) (tok6 (ok_of_isSet hs0 _ ha1) (isSet_col hs0).2) (tok6 (ok_of_isSet hs1 _ hb1) (isSet_col hs1).2)
  have HST := Lib.hid hst
  have HIR := Lib.hid hir
  have HPR := Lib.hid hpr
  have HRG := Lib.hid hrg
  have HTL := Lib.hid htl
  have HBX := Lib.hid hB
  clear hst hir hpr hrg htl hrow hA0 hA1 hs0 hs1 hB
  go_enter Try.func40, Try.ntmps40
  have hx0 : Ext w ((w.alloc (Obj.cells #[.int .i64 c0, .slice A0 n0 q0] 32)).alloc (Obj.cells #[.int .i64 c1, .slice A1 n1 q1] 32)) := ((Ext.refl w).alloc _).alloc _
  have hb0 := (Blk.new w 32 #[.int .i64 c0, .slice A0 n0 q0]).ext ((Ext.refl _).alloc (Obj.cells #[.int .i64 c1, .slice A1 n1 q1] 32))
  have hb1 := blk_at_one w (Obj.cells #[.int .i64 c0, .slice A0 n0 q0] 32) 32 #[.int .i64 c1, .slice A1 n1 q1]
  have r0 := hb0.rd 0 rfl
  have r1 := hb0.rd 1 rfl
  have r2 := hb1.rd 0 rfl
  have r3 := hb1.rd 1 rfl
  have HX0 := Lib.hid hx0
  have HB0 := Lib.hid hb0
  have HB1 := Lib.hid hb1
  clear hx0 hb0 hb1
  go_wp2_with fail
  generalize ((w.alloc (Obj.cells #[.int .i64 c0, .slice A0 n0 q0] 32)).alloc (Obj.cells #[.int .i64 c1, .slice A1 n1 q1] 32)) = w0 at *
  have HW0 := Lib.hid (HX0.out.below (Nat.le_refl w.heap.size))
  clear r0 r1 r2 r3
  refine (HST.out w0 HW0.out).mono ?_
  rintro e w1 ⟨A2, cap2, rfl, hb, htw⟩
  have HT2 := Lib.hid htw
  have HW1 := Lib.hid (HW0.out.trans (hb.mono HW0.out.size))
  have HB01 := Lib.hid (And.intro (HB0.out.below hb HB0.out.lt) (HB1.out.below hb HB1.out.lt))
  have hx2 := (Ext.refl w1).alloc (Obj.cells #[.int .i64 C, .slice A2 (stkT ts us).length cap2] 32)
  have hs2 := Blk.new w1 32 #[.int .i64 C, .slice A2 (stkT ts us).length cap2]
  have r0 := hs2.rd 0 rfl
  have r1 := hs2.rd 1 rfl
  have HX2 := Lib.hid hx2
  have HS2 := Lib.hid hs2
  clear hb htw HB0 HB1 hx2 hs2
  go_wp2_with fail
  generalize w1.alloc (Obj.cells #[.int .i64 C, .slice A2 (stkT ts us).length cap2] 32) = w2 at *
  have HW2 := Lib.hid (HW1.out.trans (HX2.out.below HW1.out.size))
  have HB2 := Lib.hid (And.intro (HB01.out.1.ext HX2.out) (And.intro (HB01.out.2.ext HX2.out) HS2.out))
  have HTS2 := Lib.hid ((HT2.out.tr.ext HX2.out (Nat.le_refl _)).more (HX2.out.below (Nat.le_refl _)).size)
  clear HX2 HS2 HB01 HT2 r0 r1
  refine (HIR.out w2 A2 cap2 HW2.out HTS2.out).mono ?_
  rintro e w3 ⟨rfl, hx3⟩
  have hb3 := hx3.below (Nat.le_refl w2.heap.size)
  have HW3 := Lib.hid (HW2.out.trans (hb3.mono HW2.out.size))
  have HB3 := Lib.hid (And.intro (HB2.out.1.below hb3 HB2.out.1.lt) (And.intro (HB2.out.2.1.below hb3 HB2.out.2.1.lt) (HB2.out.2.2.below hb3 HB2.out.2.2.lt)))
  have HTS3 := Lib.hid ((HTS2.out.below hb3 (Nat.le_refl _)).more hb3.size)
  clear hx3 hb3 HB2 HTS2 HIR
  have r0 := HB3.out.1.rd 0 rfl
  have r1 := HB3.out.1.rd 1 rfl
  have r2 := HB3.out.2.1.rd 0 rfl
  have r3 := HB3.out.2.1.rd 1 rfl
  go_wp2_with fail
  clear r0 r1 r2 r3
  refine (HPR.out w3 HW3.out).mono ?_
  rintro e w4 ⟨A4, cap4, rfl, hpc4, hir4, hb4⟩
  have HW4 := Lib.hid (HW3.out.trans (hb4.mono HW3.out.size))
  have HB4 := Lib.hid (And.intro (HB3.out.1.below hb4 HB3.out.1.lt) (And.intro (HB3.out.2.1.below hb4 HB3.out.2.1.lt) (HB3.out.2.2.below hb4 HB3.out.2.2.lt)))
  have HTS4 := Lib.hid ((HTS3.out.below hb4 (Nat.le_refl _)).more hb4.size)
  have HPI4 := Lib.hid hir4
  clear hb4 HB3 HTS3 HPR hir4
  obtain ⟨bB, oB, rfl, hbB, hcB⟩ := HBX.out (by omega)
  have HCB := Lib.hid hcB
  have hul : (upL ts us xs).length = m := by unfold upL; rw [List.length_map, hlx]
  have hll : (loL ts us xs).length = m := by unfold loL; rw [List.length_map, hlx]
  have hsz4 := HW4.out.size
  clear hcB HBX
  go_wp2_with fail
  go_loopw [12, 13, 14] (fun v u i wr => ∃ y : Nat, y ≤ m ∧ i = .int .i64 y ∧ wr.ownsRow w4.heap.size 2 1 v y (vis ((upL ts us xs).take y)) ∧ wr.ownsRow w4.heap.size 2 1 u y (vis ((loL ts us xs).take y)) ∧ Away v u ∧ Below w4.heap.size w4 wr) (fun _ _ i _ => m - (intOf i).toNat)
  case atStart =>
    have e1 := World.ownsRow_made (base := w4.heap.size) (e := 2) (size := 1) w4 #[] 0 (Nat.le_refl _) (by unfold maxLen; omega) rfl
    have e2 : ((w4.alloc (Obj.cells #[] 2)).alloc (Obj.cells #[] 2)).ownsRow w4.heap.size 2 1 (.slice (some ⟨w4.heap.size + 1, 0, none⟩) 0 0) 0 [] := by
      have := World.ownsRow_made (base := w4.heap.size) (e := 2) (size := 1) (w4.alloc (Obj.cells #[] 2)) #[] 0 (by simp) (by unfold maxLen; omega) rfl
      simpa using this
    exact ⟨0, Nat.zero_le _, rfl, own_belowA e1 (((Ext.refl _).alloc _).below (Nat.le_refl _)), e2, fun k h1 h2 => by simp [Value.ownBlock] at h1 h2; omega, (((Ext.refl w4).alloc _).alloc _).below (Nat.le_refl _)⟩
  case round =>
    obtain ⟨y, hy, rfl, hov, hou, haw, hbr⟩ := hrel
    have HOV := Lib.hid hov
    have HOU := Lib.hid hou
    have HAW := Lib.hid haw
    have HBR := Lib.hid hbr
    have hszr := hbr.size
    clear hov hou haw
    by_cases hlt : y < m
    · have hup := lmap_succ (fun i => ((fk ts us i / us.length : Nat) : Int)) xs (k := y) (by omega)
      have hlo := lmap_succ (fun i => ((fk ts us i % us.length : Nat) : Int)) xs (k := y) (by omega)
      rw [List.map_take, List.map_take] at hup hlo
      change (upL ts us xs).take (y + 1) = (upL ts us xs).take y ++ _ at hup
      change (loL ts us xs).take (y + 1) = (loL ts us xs).take y ++ _ at hlo
      obtain ⟨i, hi, hi2⟩ := natOf' (HRG.out y (by omega))
      rw [hi] at hup hlo
      have hfo := fk_ok (ts := ts) (us := us) (i := (i : Int)) (by omega)
      rw [Int.toNat_natCast] at hfo
      have hfu : ∀ k, k < ts.length * us.length → okK ts us (prs ts us) ((stkT ts us).getD i T0) k = true → (∀ j, j < k → okK ts us (prs ts us) ((stkT ts us).getD i T0) j = false) → fk ts us (i : Int) = k := fun k hk h1 h2 => by
        have := firstK_eq hk h1 h2
        unfold fk
        rw [Int.toNat_natCast]
        exact this
      generalize fk ts us (i : Int) = f at hup hlo hfo hfu
      rw [hl1] at hup hlo
      rw [hl0, hl1] at hfo hfu
      have cx0 := HCB.out y (by omega)
      rw [hi] at cx0
      obtain ⟨bs, oS, hA2e, hbs, hcs⟩ := (HTS4.out) (by omega)
      obtain ⟨z0, z1, z2, z3⟩ := hcs i (by omega)
      obtain ⟨τ, hT⟩ : ∃ τ, τ = (stkT ts us).getD i T0 := ⟨_, rfl⟩
      rw [← hT] at z0 z1 z2 z3 hfo hfu
      have HZ := Lib.hid (And.intro z0 (And.intro z1 (And.intro z2 z3)))
      have HUL := Lib.hid (And.intro hup hlo)
      have HFO := Lib.hid hfo
      have HFU := Lib.hid hfu
      have HCX := Lib.hid cx0
      have HHI := Lib.hid hi
      have HTAU := Lib.hid hT
      clear hup hlo hfo hfu cx0 hi hT z0 z1 z2 z3 hcs
      subst hA2e
      go_wp2_with fail
      go_loopw [12, 13, 15, 16] (fun v u fd i wr => ∃ (a : Nat) (g : Bool), a ≤ n0 + 1 ∧ (g = false → a ≤ n0) ∧ i = .int .i64 a ∧ fd = .bool g ∧ Srch n1 (okK ts us (prs ts us) τ) (a * n1) g (upL ts us xs) (loL ts us xs) y v u w4.heap.size wr ∧ Below w4.heap.size w4 wr) (fun _ _ _ i _ => n0 + 1 - (intOf i).toNat)
      case atStart => exact ⟨0, false, Nat.zero_le _, fun _ => Nat.zero_le _, rfl, rfl, ⟨y, HOV.out, HOU.out, HAW.out, .inl ⟨rfl, rfl, fun j hj => by simp at hj⟩⟩, HBR.out⟩
      case round =>
        clear HOV HOU HAW HBR hbr hszr
        obtain ⟨a, g, ha, hag, rfl, rfl, hsr, hbr⟩ := hrel
        have HSR := Lib.hid hsr
        have HBR := Lib.hid hbr
        have hszr := hbr.size
        have p0 := (HB4.out.1.below hbr HB4.out.1.lt).rd 0 rfl
        have p1 := (HB4.out.1.below hbr HB4.out.1.lt).rd 1 rfl
        clear hsr
        cases g with
        | true =>
          have hend : ∃ z, z = y + 1 ∧ wr.ownsRow w4.heap.size 2 1 u12 z (vis ((upL ts us xs).take z)) ∧ wr.ownsRow w4.heap.size 2 1 u13 z (vis ((loL ts us xs).take z)) ∧ Away u12 u13 := by
            obtain ⟨z, h1, h2, h3, h4⟩ := HSR.out
            rcases h4 with ⟨h4, _⟩ | ⟨_, h4⟩
            · cases h4
            · exact ⟨z, h4, h1, h2, h3⟩
          obtain ⟨z, rfl, e1, e2, e3⟩ := hend
          have E1 := Lib.hid e1
          have E2 := Lib.hid e2
          have E3 := Lib.hid e3
          clear e1 e2 e3
          by_cases han : a < n0
          all_goals
            go_wp2_with fail
            clear p0 p1
            go_roundw
            case rel => first | exact ⟨y + 1, by omega, by go_num, E1.out, E2.out, E3.out, HBR.out⟩ | ((repeat apply Exists.intro); exact ⟨⟨y + 1, by omega, by go_num, E1.out, E2.out, E3.out, HBR.out⟩, rfl⟩)
            case measure => simp [intOf]; omega
        | false =>
          have ha2 := hag rfl
          by_cases han : a < n0
          · go_wp2_with fail
            clear p0 p1
            go_loopw [12, 13, 15, 17] (fun v u fd i wr => ∃ (b : Nat) (g : Bool), b ≤ n1 + 1 ∧ (g = false → b ≤ n1) ∧ i = .int .i64 b ∧ fd = .bool g ∧ Srch n1 (okK ts us (prs ts us) τ) (a * n1 + b) g (upL ts us xs) (loL ts us xs) y v u w4.heap.size wr ∧ Below w4.heap.size w4 wr) (fun _ _ _ i _ => n1 + 1 - (intOf i).toNat)
            case atStart => exact ⟨0, false, Nat.zero_le _, fun _ => Nat.zero_le _, rfl, rfl, HSR.out, HBR.out⟩
            case round =>
              clear HSR HBR hbr hszr
              obtain ⟨b, g, hb, hbg, rfl, rfl, hsr, hbr⟩ := hrel
              have HSR := Lib.hid hsr
              have HBR := Lib.hid hbr
              have hszr := hbr.size
              have p0 := (HB4.out.1.below hbr HB4.out.1.lt).rd 0 rfl
              have p1 := (HB4.out.1.below hbr HB4.out.1.lt).rd 1 rfl
              have p2 := (HB4.out.2.1.below hbr HB4.out.2.1.lt).rd 0 rfl
              have p3 := (HB4.out.2.1.below hbr HB4.out.2.1.lt).rd 1 rfl
              clear hsr
              cases g with
              | true =>
                have HEX := Lib.hid (show Srch n1 (okK ts us (prs ts us) τ) ((a + 1) * n1) true (upL ts us xs) (loL ts us xs) y u12 u13 w4.heap.size wr from by
                  obtain ⟨z, h1, h2, h3, h4⟩ := HSR.out
                  rcases h4 with ⟨h4, _⟩ | h4
                  · cases h4
                  · exact ⟨z, h1, h2, h3, .inr h4⟩)
                by_cases hbn : b < n1
                all_goals
                  go_wp2_with fail
                  clear p0 p1 p2 p3
                  go_roundw
                  case rel =>
                    refine ⟨a + 1, true, ?_, ?_, ?_, ?_, ?_, ?_⟩
                    · exact Nat.succ_le_succ (Nat.le_of_lt han)
                    · exact fun h => by cases h
                    · go_num
                    · rfl
                    · exact HEX.out
                    · exact HBR.out
                  case measure => simp [intOf]; omega
              | false =>
                have hb2 := hbg rfl
                by_cases hbn : b < n1
                · have hwr := HW4.out.trans (hbr.mono hsz4)
                  obtain ⟨b5, o5, hA0e, hb5, hc5⟩ := ((HTA0.out.below hwr (Nat.le_refl _))) (by omega)
                  obtain ⟨b6, o6, hA1e, hb6, hc6⟩ := ((HTA1.out.below hwr (Nat.le_refl _))) (by omega)
                  subst hA0e hA1e
                  obtain ⟨t0, t1, t2, t3⟩ := hc5 a (by omega)
                  obtain ⟨v0, v1, v2, v3⟩ := hc6 b (by omega)
                  have hkk := okK_at (ts := ts) (us := us) (ps := prs ts us) (x := τ) (a := a) (b := b) (by omega)
                  rw [hl1] at hkk
                  have htl := HTL.out a b han hbn
                  have hkn : a * n1 + b < n0 * n1 := by
                    have := Nat.mul_le_mul_right n1 (show a + 1 ≤ n0 from han)
                    rw [Nat.succ_mul] at this
                    omega
                  obtain ⟨⟨x0, x1, x2, x3⟩, hX⟩ : ∃ x, x = ts.getD a T0 := ⟨_, rfl⟩
                  obtain ⟨⟨y0, y1, y2, y3⟩, hY⟩ : ∃ x, x = us.getD b T0 := ⟨_, rfl⟩
                  rw [← hX] at t0 t1 t2 t3 hkk htl
                  rw [← hY] at v0 v1 v2 v3 hkk htl
                  simp only at t0 t1 t2 t3 v0 v1 v2 v3
                  have HKK := Lib.hid hkk
                  have HTLL := Lib.hid htl
                  have han3 : (a : Int) < (n0 : Int) := by omega
                  have hbn3 : (b : Int) < (n1 : Int) := by omega
                  clear hkk htl hX hY hc5 hc6 hwr
                  by_cases hxy : x3 = y1
                  · subst hxy
                    have hqs := HB4.out.2.2.below hbr HB4.out.2.2.lt
                    have q1 := hqs.rd 1 rfl
                    have cx := ((HW4.out.trans (hbr.mono hsz4)).cell (p := ⟨bB, oB + y, none⟩) hbB).trans HCX.out
                    have z0 := (hbr.cell (p := ⟨bs, oS + i * 4, none⟩) hbs).trans HZ.out.1
                    have z1 := (hbr.cell (p := ⟨bs, oS + i * 4 + 1, none⟩) hbs).trans HZ.out.2.1
                    have z2 := (hbr.cell (p := ⟨bs, oS + i * 4 + 2, none⟩) hbs).trans HZ.out.2.2.1
                    have z3 := (hbr.cell (p := ⟨bs, oS + i * 4 + 3, none⟩) hbs).trans HZ.out.2.2.2
                    have hi3 : (i : Int) < ((stkT ts us).length : Int) := by omega
                    have hm3 : (y : Int) < (m : Int) := by omega
                    have hte : ∀ W, Ext wr W → Calls Try.prog 89 #[tv (x0, x1, x2, x3), tv (y0, x3, y2, y3), .slice A4 (prs ts us).length cap4] W _ := fun W hW => HTLL.out rfl W A4 cap4 ((HPI4.out.below (hbr.trans (hW.below hszr)) (Nat.le_refl _)).more (Nat.le_trans hszr (hW.below (Nat.le_refl _)).size))
                    obtain ⟨⟨e0, e1, e2, e3⟩, hE⟩ : ∃ e, e = stT (prs ts us) ((x0, x1, x2, x3), (y0, x3, y2, y3)) := ⟨_, rfl⟩
                    rw [← hE] at hte
                    simp only [tv] at hte
                    have hkk := HKK.out
                    rw [← hE] at hkk
                    have heq : ∀ w, (binOp .eql 48 (.agg #[.int .i64 e0, .int .i64 e1, .int .i64 e2, .int .i64 e3]) (.agg #[.int .i64 τ.1, .int .i64 τ.2.1, .int .i64 τ.2.2.1, .int .i64 τ.2.2.2])).run Try.prog w = .ok (.bool (eqT (e0, e1, e2, e3) τ)) w := fun w => eql_tile (e0, e1, e2, e3) τ w
                    have hkk2 : okK ts us (prs ts us) τ (a * n1 + b) = eqT (e0, e1, e2, e3) τ := by rw [hkk]; simp [eqT]
                    generalize hz : eqT (e0, e1, e2, e3) τ = r at heq hkk2
                    have HTE := Lib.hid hte
                    unfold Ext at HTE
                    have HK2 := Lib.hid hkk2
                    clear hqs hte hE hkk hkk2 hz hbr HTLL
                    cases r with
                    | false =>
                      go_wp2_with fail
                      have gp1 := fun dn os => (cell?_grow (wr.drewN dn) os ⟨w.heap.size, 1, none⟩ (by have := World.block_lt_of_cell? wr _ p1; exact this)).trans p1
                      have gp3 := fun dn os => (cell?_grow (wr.drewN dn) os ⟨w.heap.size + 1, 1, none⟩ (by have := World.block_lt_of_cell? wr _ p3; exact this)).trans p3
                      have gq1 := fun dn os => (cell?_grow (wr.drewN dn) os ⟨w1.heap.size, 1, none⟩ (by have := World.block_lt_of_cell? wr _ q1; exact this)).trans q1
                      have gcx := fun dn os => (cell?_grow (wr.drewN dn) os ⟨bB, oB + y, none⟩ (by have := World.block_lt_of_cell? wr _ cx; exact this)).trans cx
                      have gt0 := fun dn os => (cell?_grow (wr.drewN dn) os ⟨b5, o5 + a * 4, none⟩ (by have := World.block_lt_of_cell? wr _ t0; exact this)).trans t0
                      have gt1 := fun dn os => (cell?_grow (wr.drewN dn) os ⟨b5, o5 + a * 4 + 1, none⟩ (by have := World.block_lt_of_cell? wr _ t1; exact this)).trans t1
                      have gt2 := fun dn os => (cell?_grow (wr.drewN dn) os ⟨b5, o5 + a * 4 + 2, none⟩ (by have := World.block_lt_of_cell? wr _ t2; exact this)).trans t2
                      have gt3 := fun dn os => (cell?_grow (wr.drewN dn) os ⟨b5, o5 + a * 4 + 3, none⟩ (by have := World.block_lt_of_cell? wr _ t3; exact this)).trans t3
                      have gv0 := fun dn os => (cell?_grow (wr.drewN dn) os ⟨b6, o6 + b * 4, none⟩ (by have := World.block_lt_of_cell? wr _ v0; exact this)).trans v0
                      have gv1 := fun dn os => (cell?_grow (wr.drewN dn) os ⟨b6, o6 + b * 4 + 1, none⟩ (by have := World.block_lt_of_cell? wr _ v1; exact this)).trans v1
                      have gv2 := fun dn os => (cell?_grow (wr.drewN dn) os ⟨b6, o6 + b * 4 + 2, none⟩ (by have := World.block_lt_of_cell? wr _ v2; exact this)).trans v2
                      have gv3 := fun dn os => (cell?_grow (wr.drewN dn) os ⟨b6, o6 + b * 4 + 3, none⟩ (by have := World.block_lt_of_cell? wr _ v3; exact this)).trans v3
                      have gz0 := fun dn os => (cell?_grow (wr.drewN dn) os ⟨bs, oS + i * 4, none⟩ (by have := World.block_lt_of_cell? wr _ z0; exact this)).trans z0
                      have gz1 := fun dn os => (cell?_grow (wr.drewN dn) os ⟨bs, oS + i * 4 + 1, none⟩ (by have := World.block_lt_of_cell? wr _ z1; exact this)).trans z1
                      have gz2 := fun dn os => (cell?_grow (wr.drewN dn) os ⟨bs, oS + i * 4 + 2, none⟩ (by have := World.block_lt_of_cell? wr _ z2; exact this)).trans z2
                      have gz3 := fun dn os => (cell?_grow (wr.drewN dn) os ⟨bs, oS + i * 4 + 3, none⟩ (by have := World.block_lt_of_cell? wr _ z3; exact this)).trans z3
                      clear p0 p1 p2 p3 t0 t1 t2 t3 v0 v1 v2 v3 z0 z1 z2 z3 q1 cx
                      refine wp_region_quiet_grown mixed (by kernel_rfl) ?_
                      repeat (go_big_quiet_step ((((first | (go_at_call 89; with_reducible refine Calls.grown_of (HTE.out _ ⟨_, _, rfl⟩)))))))
                      refine wpQuiet_nil ?_
                      intro _ hw'
                      obtain ⟨⟨nq, osq⟩, hw''⟩ := hw'
                      subst hw''
                      clear gp1 gp3 gq1 gcx gt0 gt1 gt2 gt3 gv0 gv1 gv2 gv3 gz0 gz1 gz2 gz3
                      have hx6 : Ext wr (grow (wr.drewN nq) osq) := ⟨nq, osq, rfl⟩
                      have HX6 := Lib.hid hx6
                      clear hx6 heq
                      generalize grow (wr.drewN nq) osq = w6 at *
                      have HS6 := Lib.hid (show Srch n1 (okK ts us (prs ts us) τ) (a * n1 + (b + 1)) false (upL ts us xs) (loL ts us xs) y u12 u13 w4.heap.size w6 from by
                        obtain ⟨z, h1, h2, h3, h4⟩ := HSR.out.ext (HX6.out.below (Nat.le_refl _))
                        rcases h4 with ⟨_, h5, h6⟩ | ⟨h4, _⟩
                        · refine ⟨z, h1, h2, h3, .inl ⟨rfl, h5, fun j hj => ?_⟩⟩
                          by_cases hjk : j = a * n1 + b
                          · rw [hjk]; exact HK2.out
                          · exact h6 j (by omega)
                        · cases h4)
                      have HB6 := Lib.hid (HBR.out.trans (HX6.out.below hszr))
                      go_wp2_with fail
                      go_roundw
                      case rel => first | exact ⟨b + 1, false, by omega, fun _ => by omega, by go_num, rfl, HS6.out, HB6.out⟩ | ((repeat apply Exists.intro); exact ⟨⟨b + 1, false, by omega, fun _ => by omega, by go_num, rfl, HS6.out, HB6.out⟩, rfl⟩)
                      case measure => simp [intOf]; omega
                    | true =>
                      go_wp2_with fail
                      have gp1 := fun dn os => (cell?_grow (wr.drewN dn) os ⟨w.heap.size, 1, none⟩ (by have := World.block_lt_of_cell? wr _ p1; exact this)).trans p1
                      have gp3 := fun dn os => (cell?_grow (wr.drewN dn) os ⟨w.heap.size + 1, 1, none⟩ (by have := World.block_lt_of_cell? wr _ p3; exact this)).trans p3
                      have gq1 := fun dn os => (cell?_grow (wr.drewN dn) os ⟨w1.heap.size, 1, none⟩ (by have := World.block_lt_of_cell? wr _ q1; exact this)).trans q1
                      have gcx := fun dn os => (cell?_grow (wr.drewN dn) os ⟨bB, oB + y, none⟩ (by have := World.block_lt_of_cell? wr _ cx; exact this)).trans cx
                      have gt0 := fun dn os => (cell?_grow (wr.drewN dn) os ⟨b5, o5 + a * 4, none⟩ (by have := World.block_lt_of_cell? wr _ t0; exact this)).trans t0
                      have gt1 := fun dn os => (cell?_grow (wr.drewN dn) os ⟨b5, o5 + a * 4 + 1, none⟩ (by have := World.block_lt_of_cell? wr _ t1; exact this)).trans t1
                      have gt2 := fun dn os => (cell?_grow (wr.drewN dn) os ⟨b5, o5 + a * 4 + 2, none⟩ (by have := World.block_lt_of_cell? wr _ t2; exact this)).trans t2
                      have gt3 := fun dn os => (cell?_grow (wr.drewN dn) os ⟨b5, o5 + a * 4 + 3, none⟩ (by have := World.block_lt_of_cell? wr _ t3; exact this)).trans t3
                      have gv0 := fun dn os => (cell?_grow (wr.drewN dn) os ⟨b6, o6 + b * 4, none⟩ (by have := World.block_lt_of_cell? wr _ v0; exact this)).trans v0
                      have gv1 := fun dn os => (cell?_grow (wr.drewN dn) os ⟨b6, o6 + b * 4 + 1, none⟩ (by have := World.block_lt_of_cell? wr _ v1; exact this)).trans v1
                      have gv2 := fun dn os => (cell?_grow (wr.drewN dn) os ⟨b6, o6 + b * 4 + 2, none⟩ (by have := World.block_lt_of_cell? wr _ v2; exact this)).trans v2
                      have gv3 := fun dn os => (cell?_grow (wr.drewN dn) os ⟨b6, o6 + b * 4 + 3, none⟩ (by have := World.block_lt_of_cell? wr _ v3; exact this)).trans v3
                      have gz0 := fun dn os => (cell?_grow (wr.drewN dn) os ⟨bs, oS + i * 4, none⟩ (by have := World.block_lt_of_cell? wr _ z0; exact this)).trans z0
                      have gz1 := fun dn os => (cell?_grow (wr.drewN dn) os ⟨bs, oS + i * 4 + 1, none⟩ (by have := World.block_lt_of_cell? wr _ z1; exact this)).trans z1
                      have gz2 := fun dn os => (cell?_grow (wr.drewN dn) os ⟨bs, oS + i * 4 + 2, none⟩ (by have := World.block_lt_of_cell? wr _ z2; exact this)).trans z2
                      have gz3 := fun dn os => (cell?_grow (wr.drewN dn) os ⟨bs, oS + i * 4 + 3, none⟩ (by have := World.block_lt_of_cell? wr _ z3; exact this)).trans z3
                      clear p0 p1 p2 p3 t0 t1 t2 t3 v0 v1 v2 v3 z0 z1 z2 z3 q1 cx
                      refine wp_region_quiet_grown mixed (by kernel_rfl) ?_
                      repeat (go_big_quiet_step ((((first | (go_at_call 89; with_reducible refine Calls.grown_of (HTE.out _ ⟨_, _, rfl⟩)))))))
                      refine wpQuiet_nil ?_
                      intro _ hw'
                      obtain ⟨⟨nq, osq⟩, hw''⟩ := hw'
                      subst hw''
                      clear gp1 gp3 gq1 gcx gt0 gt1 gt2 gt3 gv0 gv1 gv2 gv3 gz0 gz1 gz2 gz3
                      have hx6 : Ext wr (grow (wr.drewN nq) osq) := ⟨nq, osq, rfl⟩
                      have HX6 := Lib.hid hx6
                      clear hx6 heq
                      generalize grow (wr.drewN nq) osq = w6 at *
                      have hst6 : wr.ownsRow w4.heap.size 2 1 u12 y (vis ((upL ts us xs).take y)) ∧ wr.ownsRow w4.heap.size 2 1 u13 y (vis ((loL ts us xs).take y)) ∧ Away u12 u13 ∧ f = a * n1 + b := by
                        obtain ⟨z, h1, h2, h3, h4⟩ := HSR.out
                        rcases h4 with ⟨_, h5, h6⟩ | ⟨h4, _⟩
                        · subst h5
                          exact ⟨h1, h2, h3, HFU.out _ hkn HK2.out h6⟩
                        · cases h4
                      obtain ⟨h1, h2, h3, hfe⟩ := hst6
                      have hup := HUL.out.1
                      have hlo := HUL.out.2
                      rw [hfe, (div_at hbn).1] at hup
                      rw [hfe, (div_at hbn).2] at hlo
                      have HUP := Lib.hid hup
                      have HLO := Lib.hid hlo
                      have HV := Lib.hid h1
                      have HU := Lib.hid h2
                      have HA := Lib.hid h3
                      have hb6x := HBR.out.trans (HX6.out.below hszr)
                      have hs6x := hb6x.size
                      have HB6 := Lib.hid hb6x
                      clear h1 h2 h3 hup hlo hb6x
                      go_wp2_with (at_builtin; refine wpList_push rfl _ _ rfl w4.heap.size _ y _ rfl (iown_ext HV.out (HX6.out.alloc _)) w6.heap.size (a : Int) rfl (heap_alloc_new w6 _) ?c1 ?c2 ?c3 ?_)
                      case c1 => unfold maxLen; omega
                      case c2 => omega
                      case c3 => simp; omega
                      intro v' wd hownd hgrowd hatd
                      rw [show vis ((upL ts us xs).take y) ++ [vi (a : Int)] = vis ((upL ts us xs).take (y + 1)) by rw [HUP.out]; simp [vis]] at hownd
                      have hbd := (HB6.out.trans (((Ext.refl w6).alloc (Obj.cells #[.int .i64 (a : Int)] 2)).below hs6x)).grown hgrowd (by simp; omega) (fun k hk => (HV.out.lt k hk).1)
                      have hud := iown_blk (iown_ext HU.out (HX6.out.alloc _)) hgrowd (fun k h1 h2 => HA.out k h2 h1)
                      have hawd := HA.out.grown (iown_ext HU.out (HX6.out.alloc (Obj.cells #[.int .i64 (a : Int)] 2))) (by rw [World.size_alloc]; exact hatd)
                      have hsd := hbd.size
                      have HVD := Lib.hid hownd
                      have HUD := Lib.hid hud
                      have HAD := Lib.hid hawd
                      have HBD := Lib.hid hbd
                      clear hownd hgrowd hatd hbd hud hawd HV HU HA HB6
                      go_wp2_with (at_builtin; refine wpList_push rfl _ _ rfl w4.heap.size _ y _ rfl (iown_ext HUD.out ((Ext.refl wd).alloc _)) wd.heap.size (b : Int) rfl (heap_alloc_new wd _) ?c1 ?c2 ?c3 ?_)
                      case c1 => unfold maxLen; omega
                      case c2 => omega
                      case c3 => simp; omega
                      intro u' wf hownf hgrowf hatf
                      rw [show vis ((loL ts us xs).take y) ++ [vi (b : Int)] = vis ((loL ts us xs).take (y + 1)) by rw [HLO.out]; simp [vis]] at hownf
                      have hbf := (HBD.out.trans (((Ext.refl wd).alloc (Obj.cells #[.int .i64 (b : Int)] 2)).below hsd)).grown hgrowf (by simp; omega) (fun k hk => (HUD.out.lt k hk).1)
                      have hvf := iown_blk (iown_ext HVD.out ((Ext.refl wd).alloc _)) hgrowf (fun k h1 h2 => HAD.out k h1 h2)
                      have hawf := (HAD.out.symm.grown (iown_ext HVD.out ((Ext.refl wd).alloc (Obj.cells #[.int .i64 (b : Int)] 2))) (by rw [World.size_alloc]; exact hatf)).symm
                      have HSF := Lib.hid (show Srch n1 (okK ts us (prs ts us) τ) (a * n1 + (b + 1)) true (upL ts us xs) (loL ts us xs) y v' u' w4.heap.size wf from ⟨y + 1, hvf, hownf, hawf, .inr ⟨rfl, rfl⟩⟩)
                      have HBF := Lib.hid hbf
                      clear hownf hgrowf hatf hbf hvf hawf HVD HUD HAD HBD
                      go_wp2_with fail
                      go_roundw
                      case rel =>
                        refine ⟨b + 1, true, ?_, ?_, ?_, ?_, ?_, ?_⟩
                        · exact Nat.succ_le_succ (Nat.le_of_lt hbn)
                        · exact fun h => by cases h
                        · go_num
                        · rfl
                        · exact HSF.out
                        · exact HBF.out
                      case measure => simp [intOf]; omega
                  · have hne : (x3 == y1) = false := by simp [hxy]
                    have hne2 : decide (x3 = y1) = false := by simp [hxy]
                    have HK2 := Lib.hid (show okK ts us (prs ts us) τ (a * n1 + b) = false by rw [HKK.out, decide_eq_false hxy]; rfl)
                    go_wp2_with fail
                    have gp1 := fun dn os => (cell?_grow (wr.drewN dn) os ⟨w.heap.size, 1, none⟩ (by have := World.block_lt_of_cell? wr _ p1; exact this)).trans p1
                    have gp3 := fun dn os => (cell?_grow (wr.drewN dn) os ⟨w.heap.size + 1, 1, none⟩ (by have := World.block_lt_of_cell? wr _ p3; exact this)).trans p3
                    have gt3 := fun dn os => (cell?_grow (wr.drewN dn) os ⟨b5, o5 + a * 4 + 3, none⟩ (by have := World.block_lt_of_cell? wr _ t3; exact this)).trans t3
                    have gv1 := fun dn os => (cell?_grow (wr.drewN dn) os ⟨b6, o6 + b * 4 + 1, none⟩ (by have := World.block_lt_of_cell? wr _ v1; exact this)).trans v1
                    clear p0 p1 p2 p3 t0 t1 t2 t3 v0 v1 v2 v3
                    refine wp_region_quiet_grown mixed (by kernel_rfl) ?_
                    repeat (go_big_quiet_step ((fail)))
                    refine wpQuiet_nil ?_
                    intro _ hw'
                    obtain ⟨⟨nq, osq⟩, hw''⟩ := hw'
                    subst hw''
                    clear gp1 gp3 gt3 gv1
                    have hx6 : Ext wr (grow (wr.drewN nq) osq) := ⟨nq, osq, rfl⟩
                    have HX6 := Lib.hid hx6
                    clear hx6
                    generalize grow (wr.drewN nq) osq = w6 at *
                    have HS6 := Lib.hid (show Srch n1 (okK ts us (prs ts us) τ) (a * n1 + (b + 1)) false (upL ts us xs) (loL ts us xs) y u12 u13 w4.heap.size w6 from by
                      obtain ⟨z, h1, h2, h3, h4⟩ := HSR.out.ext (HX6.out.below (Nat.le_refl _))
                      rcases h4 with ⟨_, h5, h6⟩ | ⟨h4, _⟩
                      · refine ⟨z, h1, h2, h3, .inl ⟨rfl, h5, fun j hj => ?_⟩⟩
                        by_cases hjk : j = a * n1 + b
                        · rw [hjk]; exact HK2.out
                        · exact h6 j (by omega)
                      · cases h4)
                    have HB6 := Lib.hid (HBR.out.trans (HX6.out.below hszr))
                    go_wp2_with fail
                    go_roundw
                    case rel => first | exact ⟨b + 1, false, by omega, fun _ => by omega, by go_num, rfl, HS6.out, HB6.out⟩ | ((repeat apply Exists.intro); exact ⟨⟨b + 1, false, by omega, fun _ => by omega, by go_num, rfl, HS6.out, HB6.out⟩, rfl⟩)
                    case measure => simp [intOf]; omega
                · obtain rfl : b = n1 := by omega
                  have HEX := Lib.hid (show Srch b (okK ts us (prs ts us) τ) ((a + 1) * b) false (upL ts us xs) (loL ts us xs) y u12 u13 w4.heap.size wr by rw [Nat.succ_mul]; exact HSR.out)
                  go_wp2_with fail
                  clear p0 p1 p2 p3
                  go_roundw
                  case rel => first | exact ⟨a + 1, false, by omega, fun _ => by omega, by go_num, rfl, HEX.out, HBR.out⟩ | ((repeat apply Exists.intro); exact ⟨⟨a + 1, false, by omega, fun _ => by omega, by go_num, rfl, HEX.out, HBR.out⟩, rfl⟩)
                  case measure => simp [intOf]; omega
          · exfalso
            obtain rfl : a = n0 := by omega
            obtain ⟨z, h1, h2, h3, h4⟩ := HSR.out
            rcases h4 with ⟨_, _, h5⟩ | ⟨h4, _⟩
            · have := h5 f HFO.out.1
              rw [HFO.out.2] at this
              cases this
            · cases h4
    · obtain rfl : y = m := by omega
      have hov := HOV.out
      have hou := HOU.out
      rw [List.take_of_length_le (by omega)] at hov hou
      obtain ⟨R0, p0, rfl, -, hi0⟩ := own_iwr hov hul
      obtain ⟨R1, p1, rfl, -, hi1⟩ := own_iwr hou hll
      have HI0 := Lib.hid (hi0.low hsz4)
      have HI1 := Lib.hid (hi1.low hsz4)
      have HBW := Lib.hid (HW4.out.trans (HBR.out.mono hsz4))
      clear hov hou hi0 hi1 HOV HOU HAW
      go_wp2_with fail
      refine bodyPost_ret (v := .tuple #[.slice R0 y p0, .slice R1 y p1, .int .i64 0]) (by simp [results, Try.results40, go_sem]) rfl ?_
      exact ⟨R0, p0, R1, p1, by rw [hul, hll], HBW.out, HI0.out, HI1.out⟩
end
end Go.Proofs.Ytjoaoimebdkpaaa
