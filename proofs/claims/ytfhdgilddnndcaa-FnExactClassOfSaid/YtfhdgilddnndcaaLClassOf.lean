/- The exact law over ClassOf: walked. -/
import Derived.Test.YtfhdgilddnndcaaTn6
namespace Go.Proofs.Ytfhdgilddnndcaa
set_option linter.unusedVariables false
set_option linter.unusedSimpArgs false
open Go.RowKit Go.Sort

set_option maxRecDepth 100000 in
set_option maxHeartbeats 2000000 in
theorem law_ClassOf (a0 b0 d0 f0 : Int) (w : World) :
    Calls Try.prog 5 #[.agg #[.int .i64 a0, .int .i64 b0, .int .i64 d0, .int .i64 f0]] w fun e w' => e = .returned (.bool true) ∧ Below w.heap.size w w' := by
  have hs := fun W => specClassOf_any (a0, b0, d0, f0) W
  have hi := fun W => implClassOf_any (a0, b0, d0, f0) W
  generalize (if tileOk 6 (a0, b0, d0, f0) = true then (0 : Int) else 2) = code at hs hi
  generalize (if tileOk 6 (a0, b0, d0, f0) = true then classT (a0, b0, d0, f0) else T0) = m at hs hi
  obtain ⟨m0, m1, m2, m3⟩ := m
  have ht := fun W => toTile_any (a0, b0, d0, f0) W
  have he := fun W => eqTile_any (m0, m1, m2, m3) (m0, m1, m2, m3) W
  have hee : eqT (m0, m1, m2, m3) (m0, m1, m2, m3) = true := by simp [eqT]
  rw [hee] at he
  unfold OneRes at hs hi
  simp only [tv] at hs hi ht he
  have HS := Lib.hid hs
  have HI := Lib.hid hi
  have HT := Lib.hid ht
  have HE := Lib.hid he
  have hcc : (code != code) = false := by simp
  clear hs hi ht he hee
  go_enter Try.func5, Try.ntmps5
  go_wp2_with fail
  refine (HT.out _).mono ?_
  rintro e w1 ⟨rfl, hx1⟩
  have HX1 := Lib.hid (((Ext.refl w).alloc (Obj.cells #[.int .i64 a0, .int .i64 b0, .int .i64 d0, .int .i64 f0] 35)).trans hx1)
  have B1 := Lib.hid ((Blk.new w 35 #[.int .i64 a0, .int .i64 b0, .int .i64 d0, .int .i64 f0]).ext hx1)
  clear hx1
  go_wp2_with fail
  refine (HS.out _).mono ?_
  rintro e w2 ⟨rfl, hb2⟩
  have K2 := Lib.hid ((HX1.out.below (Nat.le_refl _)).trans (hb2.mono (HX1.out.below (Nat.le_refl _)).size))
  have B2 := Lib.hid (B1.out.below hb2 B1.out.lt)
  have N2 := Lib.hid (Blk.new w2 38 #[.int .i64 m0, .int .i64 m1, .int .i64 m2, .int .i64 m3])
  have hc2 := B2.out.ext ((Ext.refl w2).alloc (Obj.cells #[.int .i64 m0, .int .i64 m1, .int .i64 m2, .int .i64 m3] 38))
  have r0 := hc2.rd 0 rfl
  have r1 := hc2.rd 1 rfl
  have r2 := hc2.rd 2 rfl
  have r3 := hc2.rd 3 rfl
  clear hb2 hc2
  go_wp2_with fail
  refine (HT.out _).mono ?_
  rintro e w3 ⟨rfl, hx3⟩
  have K3 := Lib.hid ((K2.out.alloc K2.out.size (Obj.cells #[.int .i64 m0, .int .i64 m1, .int .i64 m2, .int .i64 m3] 38)).trans (hx3.below (by have := K2.out.size; simp; omega)))
  have N3 := Lib.hid (N2.out.ext hx3)
  clear hx3 r0 r1 r2 r3
  go_wp2_with fail
  refine (HI.out _).mono ?_
  rintro e w4 ⟨rfl, hb4⟩
  have K4 := Lib.hid (K3.out.trans (hb4.mono K3.out.size))
  have N4 := Lib.hid (N3.out.below hb4 N3.out.lt)
  have hn4 := N4.out.ext ((Ext.refl w4).alloc (Obj.cells #[.int .i64 m0, .int .i64 m1, .int .i64 m2, .int .i64 m3] 38))
  have r0 := hn4.rd 0 rfl
  have r1 := hn4.rd 1 rfl
  have r2 := hn4.rd 2 rfl
  have r3 := hn4.rd 3 rfl
  clear hb4 hn4
  go_wp2_with fail
  refine (HE.out _).mono ?_
  rintro e w5 ⟨rfl, hx5⟩
  have K5 := Lib.hid ((K4.out.alloc K4.out.size (Obj.cells #[.int .i64 m0, .int .i64 m1, .int .i64 m2, .int .i64 m3] 38)).trans (hx5.below (by have := K4.out.size; simp; omega)))
  clear hx5 r0 r1 r2 r3
  go_wp2_with fail
  go_ret
  exact ⟨rfl, K5.out⟩
end Go.Proofs.Ytfhdgilddnndcaa
