/- AreAlike: both sides. -/
import Derived.Test.YtfhdgilddnndcaaTn6
namespace Go.Proofs.Ytfhdgilddnndcaa
set_option linter.unusedVariables false
set_option linter.unusedSimpArgs false
open Go.RowKit Go.Sort

def AlikeRes (w : World) (r0 r1 : Bool) (code : Int) (e : Ending) (w' : World) : Prop := e = .returned (.tuple #[.bool r0, .bool r1, .int .i64 code]) ∧ Below w.heap.size w w'
set_option maxRecDepth 100000 in
set_option maxHeartbeats 1000000 in
theorem implAreAlike_2 (a b : Tl) (w : World) (h : tileOk 6 a = true → tileOk 6 b = false) : Calls Try.prog 34 #[tv a, tv b] w (AlikeRes w false false 2) := by
  have h1 := fun W => hasColours_any 6 a W
  have h2 := fun W => hasColours_any 6 b W
  unfold AlikeRes
  cases ha : tileOk 6 a with
  | false =>
    rw [ha] at h1
    clear h h2 ha
    obtain ⟨x0, x1, x2, x3⟩ := a
    obtain ⟨y0, y1, y2, y3⟩ := b
    simp only [tv] at h1 ⊢
    have H1 := Lib.hid h1
    clear h1
    go_enter Try.func34, Try.ntmps34
    go_wp2_with fail
    refine (H1.out _).mono ?_
    rintro e w1 ⟨rfl, hx⟩
    have HX := Lib.hid ((((Ext.refl w).alloc _).alloc _).trans hx)
    clear hx
    go_wp2_with fail
    go_ret3
    exact ⟨rfl, HX.out.below (Nat.le_refl _)⟩
  | true =>
    have hb := h ha
    rw [ha] at h1
    rw [hb] at h2
    clear h ha hb
    obtain ⟨x0, x1, x2, x3⟩ := a
    obtain ⟨y0, y1, y2, y3⟩ := b
    simp only [tv] at h1 h2 ⊢
    have H1 := Lib.hid h1
    have H2 := Lib.hid h2
    clear h1 h2
    go_enter Try.func34, Try.ntmps34
    go_wp2_with fail
    refine (H1.out _).mono ?_
    rintro e w1 ⟨rfl, hx⟩
    have HX := Lib.hid ((((Ext.refl w).alloc _).alloc _).trans hx)
    have hbb : Blk w1 (w.heap.size + 1) 38 #[.int .i64 y0, .int .i64 y1, .int .i64 y2, .int .i64 y3] := by
      have h := (Blk.new (w.alloc (Obj.cells #[.int .i64 x0, .int .i64 x1, .int .i64 x2, .int .i64 x3] 38)) 38 #[.int .i64 y0, .int .i64 y1, .int .i64 y2, .int .i64 y3]).ext hx
      simpa using h
    have r0 := hbb.rd 0 rfl
    have r1 := hbb.rd 1 rfl
    have r2 := hbb.rd 2 rfl
    have r3 := hbb.rd 3 rfl
    clear hx hbb
    go_wp2_with fail
    refine (H2.out _).mono ?_
    rintro e w2 ⟨rfl, hx⟩
    have HX2 := Lib.hid (HX.out.trans hx)
    clear hx r0 r1 r2 r3
    go_wp2_with fail
    go_ret3
    exact ⟨rfl, HX2.out.below (Nat.le_refl _)⟩

set_option maxRecDepth 100000 in
set_option maxHeartbeats 2000000 in
theorem implAreAlike_0 (a b : Tl) (w : World) (ha : tileOk 6 a = true) (hb : tileOk 6 b = true) : Calls Try.prog 34 #[tv a, tv b] w (AlikeRes w (eqT (classT a) (classT b)) (eqT (classT a) (classT (mirT b))) 0) := by
  have mixed : Try.prog.follows .mixedOrders = true := by kernel_rfl
  have h1 := fun W => hasColours_any 6 a W
  have h2 := fun W => hasColours_any 6 b W
  rw [ha] at h1
  rw [hb] at h2
  have ca := fun W => classOf_any a W
  have cb := fun W => classOf_any b W
  have cm := fun W => classOf_any (mirT b) W
  have mb : ∀ W, Calls Try.prog 80 #[tv b] W fun e w' => e = .returned (tv (mirT b)) ∧ Below W.heap.size W w' := fun W => (mir_any b W).mono fun _ _ h => ⟨h.1, h.2.below (Nat.le_refl _)⟩
  have eq1 := fun W => eql_tile (classT a) (classT b) W
  have eq2 := fun W => eql_tile (classT a) (classT (mirT b)) W
  unfold AlikeRes
  generalize eqT (classT a) (classT b) = r0 at eq1 ⊢
  generalize eqT (classT a) (classT (mirT b)) = r1 at eq2 ⊢
  generalize classT a = p at ca eq1 eq2
  generalize classT b = q at cb eq1
  generalize classT (mirT b) = s at cm eq2
  clear ha hb
  obtain ⟨x0, x1, x2, x3⟩ := a
  obtain ⟨y0, y1, y2, y3⟩ := b
  obtain ⟨p0, p1, p2, p3⟩ := p
  obtain ⟨q0, q1, q2, q3⟩ := q
  obtain ⟨s0, s1, s2, s3⟩ := s
  simp only [tv, mirT] at h1 h2 ca cb cm mb eq1 eq2 ⊢
  have H1 := Lib.hid h1
  have H2 := Lib.hid h2
  have CA := Lib.hid ca
  have CB := Lib.hid cb
  have CM := Lib.hid cm
  have MB := Lib.hid mb
  clear h1 h2 ca cb cm mb
  go_enter Try.func34, Try.ntmps34
  go_wp2_with fail
  refine (H1.out _).mono ?_
  rintro e w1 ⟨rfl, hx⟩
  have HX := Lib.hid ((((Ext.refl w).alloc _).alloc _).trans hx)
  have hba : Blk w1 w.heap.size 38 #[.int .i64 x0, .int .i64 x1, .int .i64 x2, .int .i64 x3] := ((Blk.new w 38 #[.int .i64 x0, .int .i64 x1, .int .i64 x2, .int .i64 x3]).ext ((Ext.refl _).alloc _)).ext hx
  have hbb : Blk w1 (w.heap.size + 1) 38 #[.int .i64 y0, .int .i64 y1, .int .i64 y2, .int .i64 y3] := by
    have h := (Blk.new (w.alloc (Obj.cells #[.int .i64 x0, .int .i64 x1, .int .i64 x2, .int .i64 x3] 38)) 38 #[.int .i64 y0, .int .i64 y1, .int .i64 y2, .int .i64 y3]).ext hx
    simpa using h
  have HA := Lib.hid hba
  have HB := Lib.hid hbb
  have r0' := hbb.rd 0 rfl
  have r1' := hbb.rd 1 rfl
  have r2' := hbb.rd 2 rfl
  have r3' := hbb.rd 3 rfl
  clear hx hbb hba
  go_wp2_with fail
  refine (H2.out _).mono ?_
  rintro e w2 ⟨rfl, hx⟩
  have HX2 := Lib.hid (HX.out.trans hx)
  have A2 := HA.out.ext hx
  have B2 := HB.out.ext hx
  have a0 := fun p : BelowBy w2 => A2.by_ p 0 (v := .int .i64 x0) rfl
  have a1 := fun p : BelowBy w2 => A2.by_ p 1 (v := .int .i64 x1) rfl
  have a2 := fun p : BelowBy w2 => A2.by_ p 2 (v := .int .i64 x2) rfl
  have a3 := fun p : BelowBy w2 => A2.by_ p 3 (v := .int .i64 x3) rfl
  have b0 := fun p : BelowBy w2 => B2.by_ p 0 (v := .int .i64 y0) rfl
  have b1 := fun p : BelowBy w2 => B2.by_ p 1 (v := .int .i64 y1) rfl
  have b2 := fun p : BelowBy w2 => B2.by_ p 2 (v := .int .i64 y2) rfl
  have b3 := fun p : BelowBy w2 => B2.by_ p 3 (v := .int .i64 y3) rfl
  clear hx r0' r1' r2' r3' A2 B2
  go_wp2_with fail
  refine wp_region_quiet_below mixed (by kernel_rfl) ?_
  repeat (go_big_quiet_step (((first | (go_at_call 79; with_reducible refine Calls.below_of (CA.out _)) | (go_at_call 79; with_reducible refine Calls.below_of (CB.out _)) | (go_at_call 79; with_reducible refine Calls.below_of (CM.out _)) | (go_at_call 80; with_reducible refine Calls.below_of (MB.out _))))))
  refine wpQuiet_nil ?_
  intro _ hw'
  obtain ⟨⟨wq, hwq⟩, hw''⟩ := hw'
  subst hw''
  clear a0 a1 a2 a3 b0 b1 b2 b3
  have HW := Lib.hid hwq
  clear hwq
  go_wp2_with fail
  go_ret3
  exact ⟨rfl, (HX2.out.below (Nat.le_refl _)).trans (HW.out.mono (HX2.out.below (Nat.le_refl _)).size)⟩

set_option maxRecDepth 100000 in
set_option maxHeartbeats 2000000 in
theorem specAreAlike_2 (a b : Tl) (w : World) (h : tileOk 6 a = true → tileOk 6 b = false) : Calls Try.prog 33 #[tv a, tv b] w (AlikeRes w false false 2) := by
  have hc : tilesCode [a, b] = 2 := by
    rw [code2, if_neg]
    rintro ⟨h1, h2⟩
    rw [h h1] at h2
    cases h2
  have h1 := tiles_call2 a b ((w.alloc (Obj.cells #[.int .i64 a.1, .int .i64 a.2.1, .int .i64 a.2.2.1, .int .i64 a.2.2.2] 38)).alloc (Obj.cells #[.int .i64 b.1, .int .i64 b.2.1, .int .i64 b.2.2.1, .int .i64 b.2.2.2] 38)) (w.heap.size + 1 + 1) (by simp)
  rw [hc] at h1
  clear h hc
  obtain ⟨x0, x1, x2, x3⟩ := a
  obtain ⟨y0, y1, y2, y3⟩ := b
  unfold AlikeRes
  simp only [tv] at h1 ⊢
  have H1 := Lib.hid h1
  clear h1
  go_enter Try.func33, Try.ntmps33
  go_wp2_with fail
  refine H1.out.mono ?_
  rintro e w1 ⟨rfl, hx⟩
  have HX := Lib.hid (((((Ext.refl w).alloc _).alloc _).alloc _).trans hx)
  clear hx
  go_wp2_with fail
  go_ret3
  exact ⟨rfl, HX.out.below (Nat.le_refl _)⟩

set_option maxRecDepth 100000 in
set_option maxHeartbeats 2000000 in
theorem specAreAlike_0 (a b : Tl) (w : World) (ha : tileOk 6 a = true) (hb : tileOk 6 b = true) : Calls Try.prog 33 #[tv a, tv b] w (AlikeRes w (eqT (classT a) (classT b)) (eqT (classT a) (classT (mirT b))) 0) := by
  have mixed : Try.prog.follows .mixedOrders = true := by kernel_rfl
  have hc : tilesCode [a, b] = 0 := by rw [code2, if_pos ⟨ha, hb⟩]
  have h1 := tiles_call2 a b ((w.alloc (Obj.cells #[.int .i64 a.1, .int .i64 a.2.1, .int .i64 a.2.2.1, .int .i64 a.2.2.2] 38)).alloc (Obj.cells #[.int .i64 b.1, .int .i64 b.2.1, .int .i64 b.2.2.1, .int .i64 b.2.2.2] 38)) (w.heap.size + 1 + 1) (by simp)
  rw [hc] at h1
  have ca := fun W => l07Class_any a W
  have cb := fun W => l07Class_any b W
  have cm := fun W => l07Class_any (mirT b) W
  have eq1 := fun W => eql_tile (classT a) (classT b) W
  have eq2 := fun W => eql_tile (classT a) (classT (mirT b)) W
  unfold AlikeRes
  generalize eqT (classT a) (classT b) = r0 at eq1 ⊢
  generalize eqT (classT a) (classT (mirT b)) = r1 at eq2 ⊢
  generalize classT a = p at ca eq1 eq2
  generalize classT b = q at cb eq1
  generalize classT (mirT b) = s at cm eq2
  clear ha hb hc
  obtain ⟨x0, x1, x2, x3⟩ := a
  obtain ⟨y0, y1, y2, y3⟩ := b
  obtain ⟨p0, p1, p2, p3⟩ := p
  obtain ⟨q0, q1, q2, q3⟩ := q
  obtain ⟨s0, s1, s2, s3⟩ := s
  unfold Ext at ca cb cm
  simp only [tv, mirT] at h1 ca cb cm eq1 eq2 ⊢
  have H1 := Lib.hid h1
  have CA := Lib.hid ca
  have CB := Lib.hid cb
  have CM := Lib.hid cm
  clear h1 ca cb cm
  go_enter Try.func33, Try.ntmps33
  go_wp2_with fail
  refine H1.out.mono ?_
  rintro e w1 ⟨rfl, hx⟩
  have HX := Lib.hid (((((Ext.refl w).alloc _).alloc _).alloc _).trans hx)
  have hba : Blk w1 w.heap.size 38 #[.int .i64 x0, .int .i64 x1, .int .i64 x2, .int .i64 x3] := ((Blk.new w 38 #[.int .i64 x0, .int .i64 x1, .int .i64 x2, .int .i64 x3]).ext (((Ext.refl _).alloc _).alloc _)).ext hx
  have hbb : Blk w1 (w.heap.size + 1) 38 #[.int .i64 y0, .int .i64 y1, .int .i64 y2, .int .i64 y3] := by
    have h := ((Blk.new (w.alloc (Obj.cells #[.int .i64 x0, .int .i64 x1, .int .i64 x2, .int .i64 x3] 38)) 38 #[.int .i64 y0, .int .i64 y1, .int .i64 y2, .int .i64 y3]).ext ((Ext.refl _).alloc _)).ext hx
    simpa using h
  have a0 := fun q os => hba.grown q os 0 (v := .int .i64 x0) rfl
  have a1 := fun q os => hba.grown q os 1 (v := .int .i64 x1) rfl
  have a2 := fun q os => hba.grown q os 2 (v := .int .i64 x2) rfl
  have a3 := fun q os => hba.grown q os 3 (v := .int .i64 x3) rfl
  have b0 := fun q os => hbb.grown q os 0 (v := .int .i64 y0) rfl
  have b1 := fun q os => hbb.grown q os 1 (v := .int .i64 y1) rfl
  have b2 := fun q os => hbb.grown q os 2 (v := .int .i64 y2) rfl
  have b3 := fun q os => hbb.grown q os 3 (v := .int .i64 y3) rfl
  clear hx hba hbb
  go_wp2_with fail
  refine wp_region_quiet_grown mixed (by kernel_rfl) ?_
  repeat (go_big_quiet_step (((first | (go_at_call 78; with_reducible refine Calls.grown_of (CA.out _)) | (go_at_call 78; with_reducible refine Calls.grown_of (CB.out _)) | (go_at_call 78; with_reducible refine Calls.grown_of (CM.out _))))))
  refine wpQuiet_nil ?_
  intro _ hw'
  obtain ⟨⟨nq, osq⟩, hw''⟩ := hw'
  subst hw''
  clear a0 a1 a2 a3 b0 b1 b2 b3
  go_wp2_with fail
  go_ret3
  exact ⟨rfl, (HX.out.trans ⟨nq, osq, rfl⟩).below (Nat.le_refl _)⟩
end Go.Proofs.Ytfhdgilddnndcaa
