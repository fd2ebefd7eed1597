/- Fractions at places in a row: the door. -/
import Derived.Test.YtnagpndclagfaaaDoorFr2
namespace Go.Proofs.YtnagpndclagfaaaDoor
set_option linter.unusedVariables false
set_option linter.unusedSimpArgs false
open Go.RowKit Go.Sort

theorem assert_err (v : Value) (xT : TypeId) (w : World) : (Instr.typeAssert (.iface 108 v) xT 66 true).run Tryd.prog w = .ok (.tuple #[.iface 108 v, .bool true]) w := run_typeAssert_hasB Tryd.underlying66 (by kernel_rfl) v xT w
theorem assert_nil (xT : TypeId) (w : World) : (Instr.typeAssert .nilIface xT 66 true).run Tryd.prog w = .ok (.tuple #[.nilIface, .bool false]) w := by kernel_rfl
theorem catch_idle (a8 a9 : Value) (w : World) :
    CallsD Tryd.prog 38 #[a8, a9] .returning w fun e u' w' => e = .returned (.tuple #[]) ∧ u' = .returning ∧ w' = w := by
  refine callsD_of_wpS Tryd.func38 rfl fun c₀ cs hu => ?_
  have ha := assert_nil
  apply wpS_seq
  apply wpS_region
  simp [wpOpsS, go_sem, recoverD, hu, Tryd.ntmps38, Exit.thenS, ha]
  apply wpS_seq
  apply wpS_region
  simp [wpOpsS, go_sem, Exit.thenS]
  refine wpS_cond (t := false) (by simp [Act.eval, Array.replicate]) ?_
  simp only [Bool.false_eq_true, if_false]
  refine wpS_of_wp (wp_skip ?_)
  cases c₀
  simp_all [bodyPostS, results, Tryd.results38]
theorem catch_panicking (g8 g9 : Nat) (p : Addr) (older : List PanicEntry) (w : World) (c0 c1 c2 c3 c4 : Value)
    (h0 : w.cell? ⟨g8, 0, none⟩ = some c0) (h1 : w.cell? ⟨g8, 1, none⟩ = some c1) (h2 : w.cell? ⟨g8, 2, none⟩ = some c2) (h3 : w.cell? ⟨g8, 3, none⟩ = some c3) (h4 : w.cell? ⟨g9, 0, none⟩ = some c4)
    (z0 : w.frozen? ⟨g8, 0, none⟩ = false) (z1 : w.frozen? ⟨g8, 1, none⟩ = false) (z2 : w.frozen? ⟨g8, 2, none⟩ = false) (z3 : w.frozen? ⟨g8, 3, none⟩ = false) (z4 : w.frozen? ⟨g9, 0, none⟩ = false) (hne : g8 ≠ g9) :
    CallsD Tryd.prog 38 #[.pointer (some ⟨g8, 0, none⟩), .pointer (some ⟨g9, 0, none⟩)] (.panicking ({ v := errV p, recovered := false } :: older)) w fun e u' w' =>
      e = .returned (.tuple #[]) ∧ u' = .panicking ({ v := errV p, recovered := true } :: older) ∧ w' = ((((w.setCell ⟨g8, 0, none⟩ (.int .i64 0)).setCell ⟨g8, 1, none⟩ (.int .i64 0)).setCell ⟨g8, 2, none⟩ (.int .i64 0)).setCell ⟨g8, 3, none⟩ (.int .i64 0)).setCell ⟨g9, 0, none⟩ (.int .i64 2) := by
  unfold errV
  refine callsD_of_wpS Tryd.func38 rfl fun c₀ cs hu => ?_
  have ha := assert_err
  apply wpS_seq
  apply wpS_region
  simp [wpOpsS, go_sem, recoverD, hu, Tryd.ntmps38, Exit.thenS, ha]
  apply wpS_seq
  apply wpS_region
  simp [wpOpsS, go_sem, Exit.thenS]
  refine wpS_cond (t := true) (by simp [Act.eval, Array.replicate]) ?_
  simp only [if_true]
  apply wpS_region
  simp [wpOpsS, go_sem, h0, h1, h2, h3, h4, z0, z1, z2, z3, z4, hne, bodyPostS, results, Tryd.results38]
theorem lt_of_cell2 {w : World} {b o : Nat} {v : Value} (h : w.cell? ⟨b, o, none⟩ = some v) : b < w.heap.size := World.block_lt_of_cell? w ⟨b, o, none⟩ h
set_option maxRecDepth 100000 in
set_option maxHeartbeats 2000000 in
theorem stretchOf_ok (a b pl n : Int) (w : World) (h1 : fracB a b = true) (h2 : placeB pl n = true) :
    Calls Tryd.prog 21 #[.int .i64 a, .int .i64 b, .int .i64 pl, .int .i64 n] w fun e w' => e = .returned (.tuple #[.agg #[.int .i64 a, .int .i64 b, .int .i64 pl, .int .i64 n], .int .i64 0]) ∧ Below w.heap.size w w' := by
  have hmf : ∀ (fn : Fn) (first cap : Array Value) (w : World), (Instr.makeFunc fn first cap).run Tryd.prog w = .ok (.func fn first cap) w := fun _ _ _ _ => rfl
  have H1 := Lib.hid (fun W => newFraction_ok a b W h1)
  have H2 := Lib.hid (fun W => newStretch_ok a b pl n W h2)
  obtain ⟨W0, hW0⟩ : ∃ W0, (w.alloc (Obj.cells #[.int .i64 0, .int .i64 0, .int .i64 0, .int .i64 0] 42)).alloc (Obj.cells #[.int .i64 0] 2) = W0 := ⟨_, rfl⟩
  have hE : Below w.heap.size w W0 := by rw [← hW0]; exact (((Ext.refl w).alloc _).alloc _).below (Nat.le_refl _)
  have hS0 : Blk W0 w.heap.size 42 #[.int .i64 0, .int .i64 0, .int .i64 0, .int .i64 0] := by rw [← hW0]; exact (Blk.new w _ _).ext ((Ext.refl _).alloc _)
  have hC0 : Blk W0 (w.heap.size + 1) 2 #[.int .i64 0] := by rw [← hW0]; have := Blk.new (w.alloc (Obj.cells #[.int .i64 0, .int .i64 0, .int .i64 0, .int .i64 0] 42)) 2 #[.int .i64 0]; simpa using this
  have HX := Lib.hid (And.intro hE (And.intro hS0 hC0))
  clear h1 h2 hE hS0 hC0
  go_enter_defers Tryd.func21, Tryd.ntmps21
  go_wp2_with fail
  refine (H1.out _).mono ?_
  rintro e w1 ⟨rfl, hb1⟩
  have HK1 := Lib.hid (HX.out.1.trans (hb1.mono HX.out.1.size))
  have HS1 := Lib.hid (HX.out.2.1.below hb1 HX.out.2.1.lt)
  have HC1 := Lib.hid (HX.out.2.2.below hb1 HX.out.2.2.lt)
  clear hb1 HX hW0
  go_wp2_with fail
  refine (H2.out _).mono ?_
  rintro e w2 ⟨rfl, hb2⟩
  have HK2 := Lib.hid (HK1.out.trans (hb2.mono HK1.out.size))
  have hS := HS1.out.below hb2 HS1.out.lt
  have hC := HC1.out.below hb2 HC1.out.lt
  have s0 := hS.rd 0 rfl
  have s1 := hS.rd 1 rfl
  have s2 := hS.rd 2 rfl
  have s3 := hS.rd 3 rfl
  have z0 := hS.frozen 0
  have z1 := hS.frozen 1
  have z2 := hS.frozen 2
  have z3 := hS.frozen 3
  have c0 := hC.rd 0 rfl
  have y0 := hC.frozen 0
  clear hb2 hS hC HK1 HS1 HC1
  go_wp2_with fail
  refine leaves_cons (f := 38) (args := #[.pointer (some ⟨w.heap.size, 0, none⟩), .pointer (some ⟨w.heap.size + 1, 0, none⟩)]) (by simp) (by simp [go_sem]) ?_
  refine (catch_idle _ _ _).mono ?_
  rintro e u' w'' ⟨rfl, rfl, rfl⟩
  have HF := Lib.hid (((((HK2.out.setCell (p := ⟨w.heap.size, 0, none⟩) (Nat.le_refl _) (.int .i64 a)).setCell (p := ⟨w.heap.size, 1, none⟩) (Nat.le_refl _) (.int .i64 b)).setCell (p := ⟨w.heap.size, 2, none⟩) (Nat.le_refl _) (.int .i64 pl)).setCell (p := ⟨w.heap.size, 3, none⟩) (Nat.le_refl _) (.int .i64 n)).setCell (p := ⟨w.heap.size + 1, 0, none⟩) (Nat.le_succ _) (.int .i64 0))
  simp [Leaves, settle, results, Tryd.results21, go_sem, s0, s1, s2, s3, z0, z1, z2, z3, c0, y0]
  exact HF.out
set_option maxRecDepth 100000 in
set_option maxHeartbeats 2000000 in
theorem stretchOf_no (a b pl n : Int) (pf pp : Addr) (w : World) (h : (fracB a b && placeB pl n) = false) (hgf : w.cell? ⟨1, 0, none⟩ = some (errV pf)) (hgp : w.cell? ⟨0, 0, none⟩ = some (errV pp)) :
    Calls Tryd.prog 21 #[.int .i64 a, .int .i64 b, .int .i64 pl, .int .i64 n] w fun e w' => e = .returned (.tuple #[.agg #[.int .i64 0, .int .i64 0, .int .i64 0, .int .i64 0], .int .i64 2]) ∧ Below w.heap.size w w' := by
  have hmf : ∀ (fn : Fn) (first cap : Array Value) (w : World), (Instr.makeFunc fn first cap).run Tryd.prog w = .ok (.func fn first cap) w := fun _ _ _ _ => rfl
  obtain ⟨W0, hW0⟩ : ∃ W0, (w.alloc (Obj.cells #[.int .i64 0, .int .i64 0, .int .i64 0, .int .i64 0] 42)).alloc (Obj.cells #[.int .i64 0] 2) = W0 := ⟨_, rfl⟩
  have hE : Below w.heap.size w W0 := by rw [← hW0]; exact (((Ext.refl w).alloc _).alloc _).below (Nat.le_refl _)
  have hS0 : Blk W0 w.heap.size 42 #[.int .i64 0, .int .i64 0, .int .i64 0, .int .i64 0] := by rw [← hW0]; exact (Blk.new w _ _).ext ((Ext.refl _).alloc _)
  have hC0 : Blk W0 (w.heap.size + 1) 2 #[.int .i64 0] := by rw [← hW0]; have := Blk.new (w.alloc (Obj.cells #[.int .i64 0, .int .i64 0, .int .i64 0, .int .i64 0] 42)) 2 #[.int .i64 0]; simpa using this
  have HX := Lib.hid (And.intro hE (And.intro hS0 hC0))
  clear hS0 hC0
  cases hf : fracB a b with
  | false =>
    have hgf0 := (hE.cell (p := ⟨1, 0, none⟩) (lt_of_cell2 hgf)).trans hgf
    have H1 := Lib.hid (newFraction_no a b pf W0 hf hgf0)
    clear h hgf0 hE hgf hgp hf
    go_enter_defers Tryd.func21, Tryd.ntmps21
    go_wp2_with fail
    refine H1.out.mono ?_
    rintro e w1 ⟨rfl, hb⟩
    have hS := HX.out.2.1.below hb HX.out.2.1.lt
    have hC := HX.out.2.2.below hb HX.out.2.2.lt
    have HK := Lib.hid (HX.out.1.trans (hb.mono HX.out.1.size))
    have s0 := hS.rd 0 rfl
    have s1 := hS.rd 1 rfl
    have s2 := hS.rd 2 rfl
    have s3 := hS.rd 3 rfl
    have z0 := hS.frozen 0
    have z1 := hS.frozen 1
    have z2 := hS.frozen 2
    have z3 := hS.frozen 3
    have c0 := hC.rd 0 rfl
    have y0 := hC.frozen 0
    have hlt0 := hS.lt
    have hlt1 := hC.lt
    clear hS hC hb hW0
    go_wp2_with fail
    refine leaves_cons (f := 38) (args := #[.pointer (some ⟨w.heap.size, 0, none⟩), .pointer (some ⟨w.heap.size + 1, 0, none⟩)]) (by simp) (by simp [go_sem]) ?_
    refine (catch_panicking w.heap.size (w.heap.size + 1) _ [] w1 _ _ _ _ _ s0 s1 s2 s3 c0 z0 z1 z2 z3 y0 (by omega)).mono ?_
    rintro e u' w'' ⟨rfl, rfl, rfl⟩
    have HF := Lib.hid (((((HK.out.setCell (p := ⟨w.heap.size, 0, none⟩) (Nat.le_refl _) (.int .i64 0)).setCell (p := ⟨w.heap.size, 1, none⟩) (Nat.le_refl _) (.int .i64 0)).setCell (p := ⟨w.heap.size, 2, none⟩) (Nat.le_refl _) (.int .i64 0)).setCell (p := ⟨w.heap.size, 3, none⟩) (Nat.le_refl _) (.int .i64 0)).setCell (p := ⟨w.heap.size + 1, 0, none⟩) (Nat.le_succ _) (.int .i64 2))
    simp [Leaves, settle, results, Tryd.results21, go_sem, s0, s1, s2, s3, z0, z1, z2, z3, c0, y0, hlt0, hlt1]
    exact HF.out
  | true =>
    have hp : placeB pl n = false := by rw [hf] at h; simpa using h
    have H1 := Lib.hid (newFraction_ok a b W0 hf)
    have HGP := Lib.hid (fun W (hW : Below W0.heap.size W0 W) => newStretch_no a b pl n pp W hp ((hW.cell (p := ⟨0, 0, none⟩) (Nat.lt_of_lt_of_le (lt_of_cell2 hgp) hE.size)).trans ((hE.cell (p := ⟨0, 0, none⟩) (lt_of_cell2 hgp)).trans hgp)))
    clear h hE hgf hgp hf hp
    go_enter_defers Tryd.func21, Tryd.ntmps21
    go_wp2_with fail
    refine H1.out.mono ?_
    rintro e w1 ⟨rfl, hb1⟩
    have HB1 := Lib.hid hb1
    clear hb1
    go_wp2_with fail
    refine (HGP.out _ HB1.out).mono ?_
    rintro e w2 ⟨rfl, hb2⟩
    have hb := HB1.out.trans (hb2.mono HB1.out.size)
    clear hb2
    have hS := HX.out.2.1.below hb HX.out.2.1.lt
    have hC := HX.out.2.2.below hb HX.out.2.2.lt
    have HK := Lib.hid (HX.out.1.trans (hb.mono HX.out.1.size))
    have s0 := hS.rd 0 rfl
    have s1 := hS.rd 1 rfl
    have s2 := hS.rd 2 rfl
    have s3 := hS.rd 3 rfl
    have z0 := hS.frozen 0
    have z1 := hS.frozen 1
    have z2 := hS.frozen 2
    have z3 := hS.frozen 3
    have c0 := hC.rd 0 rfl
    have y0 := hC.frozen 0
    have hlt0 := hS.lt
    have hlt1 := hC.lt
    clear hS hC hb hW0
    go_wp2_with fail
    refine leaves_cons (f := 38) (args := #[.pointer (some ⟨w.heap.size, 0, none⟩), .pointer (some ⟨w.heap.size + 1, 0, none⟩)]) (by simp) (by simp [go_sem]) ?_
    refine (catch_panicking w.heap.size (w.heap.size + 1) _ [] w2 _ _ _ _ _ s0 s1 s2 s3 c0 z0 z1 z2 z3 y0 (by omega)).mono ?_
    rintro e u' w'' ⟨rfl, rfl, rfl⟩
    have HF := Lib.hid (((((HK.out.setCell (p := ⟨w.heap.size, 0, none⟩) (Nat.le_refl _) (.int .i64 0)).setCell (p := ⟨w.heap.size, 1, none⟩) (Nat.le_refl _) (.int .i64 0)).setCell (p := ⟨w.heap.size, 2, none⟩) (Nat.le_refl _) (.int .i64 0)).setCell (p := ⟨w.heap.size, 3, none⟩) (Nat.le_refl _) (.int .i64 0)).setCell (p := ⟨w.heap.size + 1, 0, none⟩) (Nat.le_succ _) (.int .i64 2))
    simp [Leaves, settle, results, Tryd.results21, go_sem, s0, s1, s2, s3, z0, z1, z2, z3, c0, y0, hlt0, hlt1]
    exact HF.out
end Go.Proofs.YtnagpndclagfaaaDoor
