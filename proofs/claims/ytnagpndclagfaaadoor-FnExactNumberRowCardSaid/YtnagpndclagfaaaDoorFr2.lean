/- Fractions at places in a row: the door behind which what is none is a panic. -/
import Derived.Test.YtnagpndclagfaaaDoorFr1
import Derived.Laws.Pointers
namespace Go.Proofs.YtnagpndclagfaaaDoor
set_option linter.unusedVariables false
set_option linter.unusedSimpArgs false
open Go.RowKit Go.Sort

def fracB (a b : Int) : Bool := decide (1 ≤ b ∧ b ≤ 20) && decide (0 ≤ a ∧ a ≤ 5 * b)
def placeB (pl n : Int) : Bool := decide (1 ≤ pl ∧ pl ≤ 1000) && decide (1 ≤ n ∧ n ≤ 20)
/-- The value of an error that errors.New made. -/
def errV (p : Addr) : Value := .iface 108 (.pointer (some p))
set_option maxRecDepth 100000 in
set_option maxHeartbeats 1000000 in
theorem newFraction_ok (a b : Int) (w : World) (h : fracB a b = true) : Calls Tryd.prog 40 #[.int .i64 a, .int .i64 b] w fun e w' => e = .returned (.agg #[.int .i64 a, .int .i64 b]) ∧ Below w.heap.size w w' := by
  simp only [fracB, Bool.and_eq_true] at h
  obtain ⟨hb, ha⟩ := h
  have h1 := fun W => areWithin1 1 20 b W
  have h2 := fun W => areWithin1 0 (5 * b) a W
  rw [hb] at h1
  rw [ha] at h2
  simp only [decide_eq_true_eq] at hb ha
  obtain ⟨m, hm⟩ : ∃ m, 5 * b = m := ⟨_, rfl⟩
  have hw : IntKind.i64.wrap (5 * b) = m := by rw [hm]; exact wrap_in _ (by omega)
  rw [hm] at h2
  have H1 := Lib.hid (h1 (w.alloc (Obj.cells #[.int .i64 0, .int .i64 0] 40)))
  have H2 := Lib.hid (h2 ((w.alloc (Obj.cells #[.int .i64 0, .int .i64 0] 40)).alloc (.cells #[.int .i64 b] 2)))
  clear h1 h2 hm
  go_enter Tryd.func40, Tryd.ntmps40
  go_wp2_with fail
  have h1 := H1.out
  simp only [World.size_alloc] at h1
  refine h1.mono ?_
  rintro e w' ⟨rfl, rfl⟩
  clear h1
  go_wp2_with fail
  have h2 := H2.out
  simp only [World.size_alloc] at h2
  refine h2.mono ?_
  rintro e w' ⟨rfl, rfl⟩
  clear h2
  go_wp2_with fail
  refine bodyPost_ret (v := .agg #[.int .i64 a, .int .i64 b]) (by simp [results, Tryd.results40, go_sem]) rfl ⟨rfl, ?_⟩
  first
  | exact ((((Ext.refl w).alloc _).alloc _).alloc _).below (Nat.le_refl _)
  | exact ((((((Ext.refl w).alloc _).alloc _).alloc _).below (Nat.le_refl _)).setCell (by simp) _).setCell (by simp) _
set_option maxRecDepth 100000 in
set_option maxHeartbeats 1000000 in
theorem newFraction_no (a b : Int) (p : Addr) (w : World) (h : fracB a b = false) (hg : w.cell? ⟨1, 0, none⟩ = some (errV p)) : Calls Tryd.prog 40 #[.int .i64 a, .int .i64 b] w fun e w' => e = .panicked [{ v := errV p, recovered := false }] ∧ Below w.heap.size w w' := by
  have h1 := fun W => areWithin1 1 20 b W
  have HX := Lib.hid ((Ext.refl w).alloc (Obj.cells #[.int .i64 0, .int .i64 0] 40))
  unfold errV at hg ⊢
  by_cases hb : 1 ≤ b ∧ b ≤ 20
  · have h2 := fun W => areWithin1 0 (5 * b) a W
    rw [decide_eq_true hb] at h1
    have ha : decide (0 ≤ a ∧ a ≤ 5 * b) = false := by simpa [fracB, hb] using h
    rw [ha] at h2
    obtain ⟨m, hm⟩ : ∃ m, 5 * b = m := ⟨_, rfl⟩
    have hw : IntKind.i64.wrap (5 * b) = m := by rw [hm]; exact wrap_in _ (by omega)
    rw [hm] at h2
    have H1 := Lib.hid (h1 (w.alloc (Obj.cells #[.int .i64 0, .int .i64 0] 40)))
    have H2 := Lib.hid (h2 ((w.alloc (Obj.cells #[.int .i64 0, .int .i64 0] 40)).alloc (.cells #[.int .i64 b] 2)))
    clear h1 h2 hm ha h
    go_enter Tryd.func40, Tryd.ntmps40
    go_wp2_with fail
    have h1 := H1.out
    simp only [World.size_alloc] at h1
    refine h1.mono ?_
    rintro e w' ⟨rfl, rfl⟩
    clear h1
    go_wp2_with fail
    have h2 := H2.out
    simp only [World.size_alloc] at h2
    refine h2.mono ?_
    rintro e w' ⟨rfl, rfl⟩
    clear h2
    have hg2 := ((HX.out.alloc (.cells #[.int .i64 b] 2)).alloc (.cells #[.int .i64 a] 2)).cell_ hg
    go_wp2_with fail
    exact ⟨rfl, rfl, ((HX.out.alloc _).alloc _).below (Nat.le_refl _)⟩
  · rw [decide_eq_false hb] at h1
    have H1 := Lib.hid (h1 (w.alloc (Obj.cells #[.int .i64 0, .int .i64 0] 40)))
    clear h1 h
    go_enter Tryd.func40, Tryd.ntmps40
    go_wp2_with fail
    have h1 := H1.out
    simp only [World.size_alloc] at h1
    refine h1.mono ?_
    rintro e w' ⟨rfl, rfl⟩
    clear h1
    have hg2 := (HX.out.alloc (.cells #[.int .i64 b] 2)).cell_ hg
    go_wp2_with fail
    exact ⟨rfl, rfl, (HX.out.alloc _).below (Nat.le_refl _)⟩
set_option maxRecDepth 100000 in
set_option maxHeartbeats 1000000 in
theorem newStretch_ok (a b pl n : Int) (w : World) (h : placeB pl n = true) : Calls Tryd.prog 39 #[.agg #[.int .i64 a, .int .i64 b], .int .i64 pl, .int .i64 n] w fun e w' => e = .returned (.agg #[.int .i64 a, .int .i64 b, .int .i64 pl, .int .i64 n]) ∧ Below w.heap.size w w' := by
  simp only [placeB, Bool.and_eq_true] at h
  obtain ⟨hb, ha⟩ := h
  have h1 := fun W => areWithin1 1 1000 pl W
  have h2 := fun W => areWithin1 1 20 n W
  rw [hb] at h1
  rw [ha] at h2
  obtain ⟨W0, hW0⟩ : ∃ W0, (w.alloc (Obj.cells #[.int .i64 a, .int .i64 b] 40)).alloc (Obj.cells #[.int .i64 0, .int .i64 0, .int .i64 0, .int .i64 0] 42) = W0 := ⟨_, rfl⟩
  have hE : Ext w W0 := by rw [← hW0]; exact ((Ext.refl w).alloc _).alloc _
  have hP0 : Blk W0 w.heap.size 40 #[.int .i64 a, .int .i64 b] := by rw [← hW0]; exact (Blk.new w _ _).ext ((Ext.refl _).alloc _)
  have hS0 : Blk W0 (w.heap.size + 1) 42 #[.int .i64 0, .int .i64 0, .int .i64 0, .int .i64 0] := by rw [← hW0]; have := Blk.new (w.alloc (Obj.cells #[.int .i64 a, .int .i64 b] 40)) 42 #[.int .i64 0, .int .i64 0, .int .i64 0, .int .i64 0]; simpa using this
  have hsz : W0.heap.size = w.heap.size + 2 := by rw [← hW0]; simp
  have HX := Lib.hid (And.intro hE (And.intro hP0 hS0))
  have H1 := Lib.hid (h1 W0)
  have H2 := Lib.hid (h2 (W0.alloc (.cells #[.int .i64 pl] 2)))
  clear h1 h2 hE hP0 hS0
  go_enter Tryd.func39, Tryd.ntmps39
  go_wp2_with fail
  have h1 := H1.out
  rw [hsz] at h1
  refine h1.mono ?_
  rintro e w' ⟨rfl, rfl⟩
  clear h1
  go_wp2_with fail
  have h2 := H2.out
  simp only [World.size_alloc, hsz] at h2
  refine h2.mono ?_
  rintro e w' ⟨rfl, rfl⟩
  clear h2 hW0
  have hx := ((Ext.refl W0).alloc (.cells #[.int .i64 pl] 2)).alloc (.cells #[.int .i64 n] 2)
  have HX2 := Lib.hid (HX.out.1.trans hx)
  have hP := HX.out.2.1.ext hx
  have hS := HX.out.2.2.ext hx
  generalize (W0.alloc (.cells #[.int .i64 pl] 2)).alloc (.cells #[.int .i64 n] 2) = W2 at *
  have p0 := hP.rd 0 rfl
  have p1 := hP.rd 1 rfl
  have s0 := hS.rd 0 rfl
  have s1 := hS.rd 1 rfl
  have s2 := hS.rd 2 rfl
  have s3 := hS.rd 3 rfl
  have z0 := hS.frozen 0
  have z1 := hS.frozen 1
  have z2 := hS.frozen 2
  have z3 := hS.frozen 3
  clear hx hP hS
  go_wp2_with fail
  refine bodyPost_ret (v := .agg #[.int .i64 a, .int .i64 b, .int .i64 pl, .int .i64 n]) (by simp [results, Tryd.results39, go_sem, s0, s1, s2, s3, z0, z1, z2, z3]) rfl ⟨rfl, ?_⟩
  exact ((((HX2.out.below (Nat.le_refl _)).setCell (by dsimp only; omega) _).setCell (by dsimp only; omega) _).setCell (by dsimp only; omega) _).setCell (by dsimp only; omega) _
set_option maxRecDepth 100000 in
set_option maxHeartbeats 1000000 in
theorem newStretch_no (a b pl n : Int) (p : Addr) (w : World) (h : placeB pl n = false) (hg : w.cell? ⟨0, 0, none⟩ = some (errV p)) : Calls Tryd.prog 39 #[.agg #[.int .i64 a, .int .i64 b], .int .i64 pl, .int .i64 n] w fun e w' => e = .panicked [{ v := errV p, recovered := false }] ∧ Below w.heap.size w w' := by
  have h1 := fun W => areWithin1 1 1000 pl W
  have HX := Lib.hid (((Ext.refl w).alloc (Obj.cells #[.int .i64 a, .int .i64 b] 40)).alloc (Obj.cells #[.int .i64 0, .int .i64 0, .int .i64 0, .int .i64 0] 42))
  unfold errV at hg ⊢
  by_cases hb : 1 ≤ pl ∧ pl ≤ 1000
  · have h2 := fun W => areWithin1 1 20 n W
    rw [decide_eq_true hb] at h1
    have ha : decide (1 ≤ n ∧ n ≤ 20) = false := by simpa [placeB, hb] using h
    rw [ha] at h2
    have H1 := Lib.hid (h1 ((w.alloc (Obj.cells #[.int .i64 a, .int .i64 b] 40)).alloc (Obj.cells #[.int .i64 0, .int .i64 0, .int .i64 0, .int .i64 0] 42)))
    have H2 := Lib.hid (h2 (((w.alloc (Obj.cells #[.int .i64 a, .int .i64 b] 40)).alloc (Obj.cells #[.int .i64 0, .int .i64 0, .int .i64 0, .int .i64 0] 42)).alloc (.cells #[.int .i64 pl] 2)))
    clear h1 h2 ha h
    go_enter Tryd.func39, Tryd.ntmps39
    go_wp2_with fail
    have h1 := H1.out
    simp only [World.size_alloc] at h1
    refine h1.mono ?_
    rintro e w' ⟨rfl, rfl⟩
    clear h1
    go_wp2_with fail
    have h2 := H2.out
    simp only [World.size_alloc] at h2
    refine h2.mono ?_
    rintro e w' ⟨rfl, rfl⟩
    clear h2
    have hg2 := ((HX.out.alloc (.cells #[.int .i64 pl] 2)).alloc (.cells #[.int .i64 n] 2)).cell_ hg
    go_wp2_with fail
    exact ⟨rfl, rfl, ((HX.out.alloc _).alloc _).below (Nat.le_refl _)⟩
  · rw [decide_eq_false hb] at h1
    have H1 := Lib.hid (h1 ((w.alloc (Obj.cells #[.int .i64 a, .int .i64 b] 40)).alloc (Obj.cells #[.int .i64 0, .int .i64 0, .int .i64 0, .int .i64 0] 42)))
    clear h1 h
    go_enter Tryd.func39, Tryd.ntmps39
    go_wp2_with fail
    have h1 := H1.out
    simp only [World.size_alloc] at h1
    refine h1.mono ?_
    rintro e w' ⟨rfl, rfl⟩
    clear h1
    have hg2 := (HX.out.alloc (.cells #[.int .i64 pl] 2)).cell_ hg
    go_wp2_with fail
    exact ⟨rfl, rfl, (HX.out.alloc _).below (Nat.le_refl _)⟩
end Go.Proofs.YtnagpndclagfaaaDoor
