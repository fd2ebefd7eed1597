/- Quiet regions over worlds in which nothing old has turned; ClassOf and AreAlike on both sides. -/
import Derived.Test.YtfhdgilddnndcaaTn5
import Derived.Test.YtfhdgilddnndcaaEq
namespace Go.Proofs.Ytfhdgilddnndcaa
set_option linter.unusedVariables false
set_option linter.unusedSimpArgs false
open Go.RowKit Go.Sort

/-- A world in which nothing that w held has turned. -/
structure BelowBy (w : World) where
  v : World
  h : Below w.heap.size w v
instance (w : World) : Inhabited (BelowBy w) := ⟨⟨w, Below.refl _ _⟩⟩
theorem wp_region_quiet_below {P : Program} {id : Nat} {Q : Exit → Act → World → Prop} {a : Act} {w : World} {l : List Oper} (hm : P.follows .mixedOrders = true) (hB : Region.lexB .any l.toArray = true)
    (h : wpQuiet P l.toArray (fun w' => ∃ p : BelowBy w, w' = p.v) (fun a' => ∀ w', (∃ p : BelowBy w, w' = p.v) → Q .normal a' w') l a) : (Code.region id l.toArray true).wp P Q a w :=
  wp_region_quiet (C := fun w' => ∃ p : BelowBy w, w' = p.v) hm hB ⟨⟨{ w with drawn := w.drawn + 1 }, ⟨rfl, rfl, rfl, Nat.le_refl _, fun _ _ => rfl⟩⟩, rfl⟩ (by simpa using h)
theorem Calls.below_of {P : Program} {f : FuncId} {args : Array Value} {w : World} {p : BelowBy w} {v : Value}
    (h : Calls P f args p.v fun e w' => e = .returned v ∧ Below p.v.heap.size p.v w') : Calls P f args p.v fun e w'' => e = .returned v ∧ ∃ p' : BelowBy w, w'' = p'.v :=
  h.mono fun _ _ ⟨he, hb⟩ => ⟨he, ⟨_, p.h.trans (hb.mono p.h.size)⟩, rfl⟩
theorem Blk.by_ {w : World} {g : Nat} {t : TypeId} {cs : Array Value} (h : Blk w g t cs) (p : BelowBy w) (i : Nat) {v : Value} (hv : cs[i]? = some v) : p.v.cell? ⟨g, i, none⟩ = some v := ((h.below p.h h.lt).cell i).trans hv

theorem tiles_callG (x0 x1 x2 x3 : Int) (W : World) (g : Nat) (hg : W.heap.size = g) : Calls Try.prog 74 #[.slice (some ⟨g, 0, none⟩) 1 1] (W.alloc (Obj.cells #[.int .i64 x0, .int .i64 x1, .int .i64 x2, .int .i64 x3] 38)) fun e w' => e = .returned (.int .i64 (tilesCode [(x0, x1, x2, x3)])) ∧ Ext (W.alloc (Obj.cells #[.int .i64 x0, .int .i64 x1, .int .i64 x2, .int .i64 x3] 38)) w' := by
  subst hg
  exact l07Tiles_any (some ⟨W.heap.size, 0, none⟩) 1 1 [(x0, x1, x2, x3)] _ (by omega) rfl (by have := tr_one W (x0, x1, x2, x3); simpa using this)
theorem tr_two (w : World) (a b : Tl) : TR (w.alloc (.cells #[.int .i64 a.1, .int .i64 a.2.1, .int .i64 a.2.2.1, .int .i64 a.2.2.2, .int .i64 b.1, .int .i64 b.2.1, .int .i64 b.2.2.1, .int .i64 b.2.2.2] 38)) (w.heap.size + 1) (some ⟨w.heap.size, 0, none⟩) [a, b] := fun _ =>
  ⟨_, 0, rfl, by omega, fun k hk => by
    obtain rfl | rfl : k = 0 ∨ k = 1 := by simp at hk; omega
    · exact At4.cell4 (cs := #[.int .i64 a.1, .int .i64 a.2.1, .int .i64 a.2.2.1, .int .i64 a.2.2.2, .int .i64 b.1, .int .i64 b.2.1, .int .i64 b.2.2.1, .int .i64 b.2.2.2]) ⟨rfl, rfl, rfl, rfl⟩ (Blk.new w _ _)
    · exact At4.cell4 (cs := #[.int .i64 a.1, .int .i64 a.2.1, .int .i64 a.2.2.1, .int .i64 a.2.2.2, .int .i64 b.1, .int .i64 b.2.1, .int .i64 b.2.2.1, .int .i64 b.2.2.2]) ⟨rfl, rfl, rfl, rfl⟩ (Blk.new w _ _)⟩
theorem tiles_call2 (a b : Tl) (W : World) (g : Nat) (hg : W.heap.size = g) : Calls Try.prog 74 #[.slice (some ⟨g, 0, none⟩) 2 2] (W.alloc (Obj.cells #[.int .i64 a.1, .int .i64 a.2.1, .int .i64 a.2.2.1, .int .i64 a.2.2.2, .int .i64 b.1, .int .i64 b.2.1, .int .i64 b.2.2.1, .int .i64 b.2.2.2] 38)) fun e w' => e = .returned (.int .i64 (tilesCode [a, b])) ∧ Ext (W.alloc (Obj.cells #[.int .i64 a.1, .int .i64 a.2.1, .int .i64 a.2.2.1, .int .i64 a.2.2.2, .int .i64 b.1, .int .i64 b.2.1, .int .i64 b.2.2.1, .int .i64 b.2.2.2] 38)) w' := by
  subst hg
  exact l07Tiles_any (some ⟨W.heap.size, 0, none⟩) 2 2 [a, b] _ (by omega) rfl (by have := tr_two W a b; simpa using this)
theorem code2 (a b : Tl) : tilesCode [a, b] = if tileOk 6 a = true ∧ tileOk 6 b = true then 0 else 2 := by simp [tilesCode, allOk]

/-- A function that answers with one tile: this tile, this code; what was there is as it was. -/
def OneRes (w : World) (t : Tl) (code : Int) (e : Ending) (w' : World) : Prop := e = .returned (.tuple #[tv t, .int .i64 code]) ∧ Below w.heap.size w w'
set_option maxRecDepth 100000 in
set_option maxHeartbeats 1000000 in
theorem implClassOf_any (a : Tl) (w : World) : Calls Try.prog 29 #[tv a] w (OneRes w (if tileOk 6 a = true then classT a else T0) (if tileOk 6 a = true then 0 else 2)) := by
  have h1 := fun W => hasColours_any 6 a W
  have h2 := fun W => classOf_any a W
  cases ha : tileOk 6 a with
  | false =>
    rw [ha] at h1
    rw [if_neg Bool.false_ne_true, if_neg Bool.false_ne_true]
    clear h2 ha
    obtain ⟨x0, x1, x2, x3⟩ := a
    unfold OneRes
    simp only [tv] at h1 ⊢
    have H1 := Lib.hid h1
    clear h1
    go_enter Try.func29, Try.ntmps29
    go_wp2_with fail
    refine (H1.out _).mono ?_
    rintro e w1 ⟨rfl, hx⟩
    have hbk : Blk w1 (w.heap.size + 1) 38 #[.int .i64 0, .int .i64 0, .int .i64 0, .int .i64 0] := by
      have h := (Blk.new (w.alloc (Obj.cells #[.int .i64 x0, .int .i64 x1, .int .i64 x2, .int .i64 x3] 38)) 38 #[.int .i64 0, .int .i64 0, .int .i64 0, .int .i64 0]).ext hx
      simpa using h
    have q0 := hbk.rd 0 (v := .int .i64 0) rfl
    have q1 := hbk.rd 1 (v := .int .i64 0) rfl
    have q2 := hbk.rd 2 (v := .int .i64 0) rfl
    have q3 := hbk.rd 3 (v := .int .i64 0) rfl
    have z0 := hbk.frozen 0
    have z1 := hbk.frozen 1
    have z2 := hbk.frozen 2
    have z3 := hbk.frozen 3
    have HX := Lib.hid ((((Ext.refl w).alloc (Obj.cells #[.int .i64 x0, .int .i64 x1, .int .i64 x2, .int .i64 x3] 38)).alloc _).trans hx)
    clear hx hbk
    go_wp2_with fail
    refine bodyPost_ret (v := .tuple #[.agg #[.int .i64 0, .int .i64 0, .int .i64 0, .int .i64 0], .int .i64 2]) (by simp [results, Try.results29, go_sem, q0, q1, q2, q3, z0, z1, z2, z3]) rfl ⟨rfl, ?_⟩
    exact ((((HX.out.below (Nat.le_refl _)).setCell (by dsimp only; omega) _).setCell (by dsimp only; omega) _).setCell (by dsimp only; omega) _).setCell (by dsimp only; omega) _
  | true =>
    rw [ha] at h1
    rw [if_pos rfl, if_pos rfl]
    clear ha
    obtain ⟨⟨m0, m1, m2, m3⟩, hM⟩ : ∃ x, x = classT a := ⟨_, rfl⟩
    rw [← hM] at h2 ⊢
    obtain ⟨x0, x1, x2, x3⟩ := a
    unfold OneRes
    simp only [tv] at h1 h2 ⊢
    have H1 := Lib.hid h1
    have H2 := Lib.hid h2
    clear h1 h2 hM
    go_enter Try.func29, Try.ntmps29
    go_wp2_with fail
    refine (H1.out _).mono ?_
    rintro e w1 ⟨rfl, hx⟩
    have hba : Blk w1 w.heap.size 38 #[.int .i64 x0, .int .i64 x1, .int .i64 x2, .int .i64 x3] := ((Blk.new w 38 #[.int .i64 x0, .int .i64 x1, .int .i64 x2, .int .i64 x3]).ext ((Ext.refl _).alloc _)).ext hx
    have hbk : Blk w1 (w.heap.size + 1) 38 #[.int .i64 0, .int .i64 0, .int .i64 0, .int .i64 0] := by
      have h := (Blk.new (w.alloc (Obj.cells #[.int .i64 x0, .int .i64 x1, .int .i64 x2, .int .i64 x3] 38)) 38 #[.int .i64 0, .int .i64 0, .int .i64 0, .int .i64 0]).ext hx
      simpa using h
    have HX := Lib.hid ((((Ext.refl w).alloc (Obj.cells #[.int .i64 x0, .int .i64 x1, .int .i64 x2, .int .i64 x3] 38)).alloc _).trans hx)
    have HBK := Lib.hid hbk
    have a0 := hba.rd 0 rfl
    have a1 := hba.rd 1 rfl
    have a2 := hba.rd 2 rfl
    have a3 := hba.rd 3 rfl
    clear hx hbk hba
    go_wp2_with fail
    refine (H2.out _).mono ?_
    rintro e w2 ⟨rfl, hb⟩
    have hbk := HBK.out.below hb HBK.out.lt
    have q0 := hbk.rd 0 (v := .int .i64 0) rfl
    have q1 := hbk.rd 1 (v := .int .i64 0) rfl
    have q2 := hbk.rd 2 (v := .int .i64 0) rfl
    have q3 := hbk.rd 3 (v := .int .i64 0) rfl
    have z0 := hbk.frozen 0
    have z1 := hbk.frozen 1
    have z2 := hbk.frozen 2
    have z3 := hbk.frozen 3
    have HB := Lib.hid ((HX.out.below (Nat.le_refl _)).trans (hb.mono (HX.out.below (Nat.le_refl _)).size))
    clear hb hbk a0 a1 a2 a3
    go_wp2_with fail
    refine bodyPost_ret (v := .tuple #[.agg #[.int .i64 m0, .int .i64 m1, .int .i64 m2, .int .i64 m3], .int .i64 0]) (by simp [results, Try.results29, go_sem, q0, q1, q2, q3, z0, z1, z2, z3]) rfl ⟨rfl, ?_⟩
    exact (((HB.out.setCell (by dsimp only; omega) _).setCell (by dsimp only; omega) _).setCell (by dsimp only; omega) _).setCell (by dsimp only; omega) _

set_option maxRecDepth 100000 in
set_option maxHeartbeats 1000000 in
theorem specClassOf_any (a : Tl) (w : World) : Calls Try.prog 28 #[tv a] w (OneRes w (if tileOk 6 a = true then classT a else T0) (if tileOk 6 a = true then 0 else 2)) := by
  have h2 := fun W => l07Class_any a W
  cases ha : tileOk 6 a with
  | false =>
    rw [if_neg Bool.false_ne_true, if_neg Bool.false_ne_true]
    clear h2
    obtain ⟨x0, x1, x2, x3⟩ := a
    have h1 := tiles_callG x0 x1 x2 x3 ((w.alloc (Obj.cells #[.int .i64 x0, .int .i64 x1, .int .i64 x2, .int .i64 x3] 38)).alloc (Obj.cells #[.int .i64 0, .int .i64 0, .int .i64 0, .int .i64 0] 38)) (w.heap.size + 1 + 1) (by simp)
    rw [code_no ha] at h1
    unfold OneRes
    simp only [tv] at h1 ⊢
    have H1 := Lib.hid h1
    clear h1 ha
    go_enter Try.func28, Try.ntmps28
    go_wp2_with fail
    refine H1.out.mono ?_
    rintro e w1 ⟨rfl, hx⟩
    have hbk : Blk w1 (w.heap.size + 1) 38 #[.int .i64 0, .int .i64 0, .int .i64 0, .int .i64 0] := by
      have h := ((Blk.new (w.alloc (Obj.cells #[.int .i64 x0, .int .i64 x1, .int .i64 x2, .int .i64 x3] 38)) 38 #[.int .i64 0, .int .i64 0, .int .i64 0, .int .i64 0]).ext ((Ext.refl _).alloc _)).ext hx
      simpa using h
    have q0 := hbk.rd 0 (v := .int .i64 0) rfl
    have q1 := hbk.rd 1 (v := .int .i64 0) rfl
    have q2 := hbk.rd 2 (v := .int .i64 0) rfl
    have q3 := hbk.rd 3 (v := .int .i64 0) rfl
    have z0 := hbk.frozen 0
    have z1 := hbk.frozen 1
    have z2 := hbk.frozen 2
    have z3 := hbk.frozen 3
    have HX := Lib.hid (((((Ext.refl w).alloc (Obj.cells #[.int .i64 x0, .int .i64 x1, .int .i64 x2, .int .i64 x3] 38)).alloc _).alloc _).trans hx)
    clear hx hbk
    go_wp2_with fail
    refine bodyPost_ret (v := .tuple #[.agg #[.int .i64 0, .int .i64 0, .int .i64 0, .int .i64 0], .int .i64 2]) (by simp [results, Try.results28, go_sem, q0, q1, q2, q3, z0, z1, z2, z3]) rfl ⟨rfl, ?_⟩
    exact ((((HX.out.below (Nat.le_refl _)).setCell (by dsimp only; omega) _).setCell (by dsimp only; omega) _).setCell (by dsimp only; omega) _).setCell (by dsimp only; omega) _
  | true =>
    rw [if_pos rfl, if_pos rfl]
    obtain ⟨⟨m0, m1, m2, m3⟩, hM⟩ : ∃ x, x = classT a := ⟨_, rfl⟩
    rw [← hM] at h2 ⊢
    clear hM
    obtain ⟨x0, x1, x2, x3⟩ := a
    have h1 := tiles_callG x0 x1 x2 x3 ((w.alloc (Obj.cells #[.int .i64 x0, .int .i64 x1, .int .i64 x2, .int .i64 x3] 38)).alloc (Obj.cells #[.int .i64 0, .int .i64 0, .int .i64 0, .int .i64 0] 38)) (w.heap.size + 1 + 1) (by simp)
    rw [code_yes ha] at h1
    unfold OneRes
    simp only [tv] at h1 h2 ⊢
    have H1 := Lib.hid h1
    have H2 := Lib.hid h2
    clear h1 h2 ha
    go_enter Try.func28, Try.ntmps28
    go_wp2_with fail
    refine H1.out.mono ?_
    rintro e w1 ⟨rfl, hx⟩
    have hba : Blk w1 w.heap.size 38 #[.int .i64 x0, .int .i64 x1, .int .i64 x2, .int .i64 x3] := ((Blk.new w 38 #[.int .i64 x0, .int .i64 x1, .int .i64 x2, .int .i64 x3]).ext (((Ext.refl _).alloc _).alloc _)).ext hx
    have hbk : Blk w1 (w.heap.size + 1) 38 #[.int .i64 0, .int .i64 0, .int .i64 0, .int .i64 0] := by
      have h := ((Blk.new (w.alloc (Obj.cells #[.int .i64 x0, .int .i64 x1, .int .i64 x2, .int .i64 x3] 38)) 38 #[.int .i64 0, .int .i64 0, .int .i64 0, .int .i64 0]).ext ((Ext.refl _).alloc _)).ext hx
      simpa using h
    have HX := Lib.hid (((((Ext.refl w).alloc (Obj.cells #[.int .i64 x0, .int .i64 x1, .int .i64 x2, .int .i64 x3] 38)).alloc _).alloc _).trans hx)
    have HBK := Lib.hid hbk
    have a0 := hba.rd 0 rfl
    have a1 := hba.rd 1 rfl
    have a2 := hba.rd 2 rfl
    have a3 := hba.rd 3 rfl
    clear hx hbk hba
    go_wp2_with fail
    refine (H2.out _).mono ?_
    rintro e w2 ⟨rfl, hx⟩
    have hbk := HBK.out.ext hx
    have q0 := hbk.rd 0 (v := .int .i64 0) rfl
    have q1 := hbk.rd 1 (v := .int .i64 0) rfl
    have q2 := hbk.rd 2 (v := .int .i64 0) rfl
    have q3 := hbk.rd 3 (v := .int .i64 0) rfl
    have z0 := hbk.frozen 0
    have z1 := hbk.frozen 1
    have z2 := hbk.frozen 2
    have z3 := hbk.frozen 3
    have HB := Lib.hid ((HX.out.trans hx).below (Nat.le_refl _))
    clear hx hbk a0 a1 a2 a3
    go_wp2_with fail
    refine bodyPost_ret (v := .tuple #[.agg #[.int .i64 m0, .int .i64 m1, .int .i64 m2, .int .i64 m3], .int .i64 0]) (by simp [results, Try.results28, go_sem, q0, q1, q2, q3, z0, z1, z2, z3]) rfl ⟨rfl, ?_⟩
    exact (((HB.out.setCell (by dsimp only; omega) _).setCell (by dsimp only; omega) _).setCell (by dsimp only; omega) _).setCell (by dsimp only; omega) _
end Go.Proofs.Ytfhdgilddnndcaa
