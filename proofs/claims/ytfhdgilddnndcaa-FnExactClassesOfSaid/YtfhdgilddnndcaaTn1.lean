/- Tiles that may be turned: plain words, and the small functions of both sides. -/
import Derived.Test.YtfhdgilddnndcaaAppT
import Derived.Lib.Hide
namespace Go.Proofs.Ytfhdgilddnndcaa
set_option linter.unusedVariables false
set_option linter.unusedSimpArgs false
open Go.RowKit Go.Sort

theorem modify_right' {os : Array Obj} (h : Array Obj) {k : Nat} (hk : h.size ≤ k) (f : Obj → Obj) : (h ++ os).modify k f = h ++ os.modify (k - h.size) f := by
  apply Array.ext
  · simp
  · intro i h1 h2
    simp only [Array.getElem_modify, Array.getElem_append, Array.size_modify]
    split <;> split <;> (try split) <;> first | rfl | omega
theorem Ext.setNew' {w a : World} (h : Ext w a) {p : Addr} (hp : w.heap.size ≤ p.block) (v : Value) : Ext w (a.setCell p v) := by
  obtain ⟨q, os, rfl⟩ := h
  have hs : (w.drewN q).heap.size ≤ p.block := hp
  exact ⟨q, _, congrArg (fun hh => ({ w.drewN q with heap := hh } : World)) (modify_right' (os := os) (w.drewN q).heap hs _)⟩

/-- A tile turned once. -/
def rotT (x : Tl) : Tl := (x.2.2.2, x.1, x.2.1, x.2.2.1)
def turnsL (a : Tl) : List Tl := [a, rotT a, rotT (rotT a), rotT (rotT (rotT a))]
/-- The lesser of two tiles, the first one if they are equal. -/
def pickT (m x : Tl) : Tl := if before x m = true then x else m
def classT (a : Tl) : Tl := pickT (pickT (pickT a (rotT a)) (rotT (rotT a))) (rotT (rotT (rotT a)))
def turnNum (a : Tl) : Nat := if rotT a = a then 1 else if rotT (rotT a) = a then 2 else 4
theorem rot4 (a : Tl) : rotT (rotT (rotT (rotT a))) = a := rfl
theorem cmpT_neg (a b : Tl) : (cmpT a b < 0) ↔ before a b = true := by
  unfold cmpT
  constructor
  · intro h
    by_cases h1 : before a b = true
    · exact h1
    · rw [if_neg h1] at h
      split at h <;> omega
  · intro h
    rw [if_pos h]
    omega
theorem tileOk_rot {c : Int} {a : Tl} (h : tileOk c a = true) : tileOk c (rotT a) = true := by
  unfold tileOk rotT at *
  simp only [decide_eq_true_eq] at *
  omega

theorem unturned_any (x : Tl) (w : World) : Calls Try.prog 107 #[tv x] w fun e w' => e = .returned (tv x) ∧ Ext w w' := by
  obtain ⟨x0, x1, x2, x3⟩ := x
  unfold tv
  go_enter Try.func107, Try.ntmps107
  go_wp2
  go_returns
  exact ⟨rfl, by repeat (first | exact Ext.refl _ | refine Ext.drewN ?_ _ | refine Ext.alloc ?_ _ | refine Ext.drew ?_ | refine Ext.grow ?_ _)⟩
theorem rot_any (x : Tl) (w : World) : Calls Try.prog 108 #[tv x] w fun e w' => e = .returned (tv (rotT x)) ∧ Ext w w' := by
  obtain ⟨x0, x1, x2, x3⟩ := x
  unfold tv rotT
  go_enter Try.func108, Try.ntmps108
  go_wp2
  go_returns
  exact ⟨rfl, by repeat (first | exact Ext.refl _ | refine Ext.drewN ?_ _ | refine Ext.alloc ?_ _ | refine Ext.drew ?_ | refine Ext.grow ?_ _)⟩
def mirT (x : Tl) : Tl := (x.2.2.1, x.2.1, x.1, x.2.2.2)
theorem mir_any (x : Tl) (w : World) : Calls Try.prog 80 #[tv x] w fun e w' => e = .returned (tv (mirT x)) ∧ Ext w w' := by
  obtain ⟨x0, x1, x2, x3⟩ := x
  unfold tv mirT
  go_enter Try.func80, Try.ntmps80
  go_wp2
  go_returns
  exact ⟨rfl, by repeat (first | exact Ext.refl _ | refine Ext.drewN ?_ _ | refine Ext.alloc ?_ _ | refine Ext.drew ?_ | refine Ext.grow ?_ _)⟩
theorem rotTwice_any (x : Tl) (w : World) : Calls Try.prog 109 #[tv x] w fun e w' => e = .returned (tv (rotT (rotT x))) ∧ Ext w w' := by
  have h1 := fun W => rot_any x W
  have h2 := fun W => rot_any (rotT x) W
  obtain ⟨x0, x1, x2, x3⟩ := x
  simp only [tv, rotT] at h1 h2 ⊢
  have H1 := Lib.hid h1
  have H2 := Lib.hid h2
  clear h1 h2
  go_enter Try.func109, Try.ntmps109
  go_wp2_with fail
  refine (H1.out _).mono ?_
  rintro e w1 ⟨rfl, hx1⟩
  have X1 := Lib.hid hx1
  clear hx1
  go_wp2_with fail
  refine (H2.out _).mono ?_
  rintro e w2 ⟨rfl, hx2⟩
  have hx0 : Ext w ((w.alloc (Obj.cells #[.int .i64 x0, .int .i64 x1, .int .i64 x2, .int .i64 x3] 38)).alloc (Obj.cells #[.int .i64 0, .int .i64 0, .int .i64 0, .int .i64 0] 38)) := ((Ext.refl w).alloc _).alloc _
  have hb : Blk w2 (w.heap.size + 1) 38 #[.int .i64 0, .int .i64 0, .int .i64 0, .int .i64 0] := by
    have := ((Blk.new (w.alloc (Obj.cells #[.int .i64 x0, .int .i64 x1, .int .i64 x2, .int .i64 x3] 38)) 38 #[.int .i64 0, .int .i64 0, .int .i64 0, .int .i64 0]).ext X1.out).ext hx2
    simpa using this
  have X2 := Lib.hid ((hx0.trans X1.out).trans hx2)
  have q0 := hb.rd 0 (v := .int .i64 0) rfl
  have q1 := hb.rd 1 (v := .int .i64 0) rfl
  have q2 := hb.rd 2 (v := .int .i64 0) rfl
  have q3 := hb.rd 3 (v := .int .i64 0) rfl
  have z0 := hb.frozen 0
  have z1 := hb.frozen 1
  have z2 := hb.frozen 2
  have z3 := hb.frozen 3
  clear hx0 hx2 hb
  go_wp2_with fail
  refine bodyPost_ret (v := .agg #[.int .i64 x2, .int .i64 x3, .int .i64 x0, .int .i64 x1]) (by simp [results, Try.results109, go_sem, q0, q1, q2, q3, z0, z1, z2, z3]) rfl ⟨rfl, ?_⟩
  repeat (first | exact X2.out | refine Ext.setNew' ?_ (show w.heap.size ≤ w.heap.size + 1 by omega) _)
theorem rotThrice_any (x : Tl) (w : World) : Calls Try.prog 110 #[tv x] w fun e w' => e = .returned (tv (rotT (rotT (rotT x)))) ∧ Ext w w' := by
  have h1 := fun W => rotTwice_any x W
  have h2 := fun W => rot_any (rotT (rotT x)) W
  obtain ⟨x0, x1, x2, x3⟩ := x
  simp only [tv, rotT] at h1 h2 ⊢
  have H1 := Lib.hid h1
  have H2 := Lib.hid h2
  clear h1 h2
  go_enter Try.func110, Try.ntmps110
  go_wp2_with fail
  refine (H1.out _).mono ?_
  rintro e w1 ⟨rfl, hx1⟩
  have X1 := Lib.hid hx1
  clear hx1
  go_wp2_with fail
  refine (H2.out _).mono ?_
  rintro e w2 ⟨rfl, hx2⟩
  have hx0 : Ext w ((w.alloc (Obj.cells #[.int .i64 x0, .int .i64 x1, .int .i64 x2, .int .i64 x3] 38)).alloc (Obj.cells #[.int .i64 0, .int .i64 0, .int .i64 0, .int .i64 0] 38)) := ((Ext.refl w).alloc _).alloc _
  have hb : Blk w2 (w.heap.size + 1) 38 #[.int .i64 0, .int .i64 0, .int .i64 0, .int .i64 0] := by
    have := ((Blk.new (w.alloc (Obj.cells #[.int .i64 x0, .int .i64 x1, .int .i64 x2, .int .i64 x3] 38)) 38 #[.int .i64 0, .int .i64 0, .int .i64 0, .int .i64 0]).ext X1.out).ext hx2
    simpa using this
  have X2 := Lib.hid ((hx0.trans X1.out).trans hx2)
  have q0 := hb.rd 0 (v := .int .i64 0) rfl
  have q1 := hb.rd 1 (v := .int .i64 0) rfl
  have q2 := hb.rd 2 (v := .int .i64 0) rfl
  have q3 := hb.rd 3 (v := .int .i64 0) rfl
  have z0 := hb.frozen 0
  have z1 := hb.frozen 1
  have z2 := hb.frozen 2
  have z3 := hb.frozen 3
  clear hx0 hx2 hb
  go_wp2_with fail
  refine bodyPost_ret (v := .agg #[.int .i64 x1, .int .i64 x2, .int .i64 x3, .int .i64 x0]) (by simp [results, Try.results110, go_sem, q0, q1, q2, q3, z0, z1, z2, z3]) rfl ⟨rfl, ?_⟩
  repeat (first | exact X2.out | refine Ext.setNew' ?_ (show w.heap.size ≤ w.heap.size + 1 by omega) _)
end Go.Proofs.Ytfhdgilddnndcaa
