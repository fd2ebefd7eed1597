/- TurnsOf: both sides. -/
import Derived.Test.YtfhdgilddnndcaaTn2
import Derived.Deep.RegionHeld3
namespace Go.Proofs.Ytfhdgilddnndcaa
set_option linter.unusedVariables false
set_option linter.unusedSimpArgs false
open Go.RowKit Go.Sort

/-- What a function that makes tiles hands back: these tiles in new memory, and this code. -/
def TlRes (w : World) (us : List Tl) (code : Int) (e : Ending) (w' : World) : Prop := ∃ R p, e = .returned (.tuple #[.slice R us.length p, .int .i64 code]) ∧ Below w.heap.size w w' ∧ TW w' w.heap.size R us
theorem tw_new4 (W : World) (lo : Nat) (a b c d : Tl) (h : lo ≤ W.heap.size) :
    TW (W.alloc (.cells #[.int .i64 a.1, .int .i64 a.2.1, .int .i64 a.2.2.1, .int .i64 a.2.2.2, .int .i64 b.1, .int .i64 b.2.1, .int .i64 b.2.2.1, .int .i64 b.2.2.2, .int .i64 c.1, .int .i64 c.2.1, .int .i64 c.2.2.1, .int .i64 c.2.2.2, .int .i64 d.1, .int .i64 d.2.1, .int .i64 d.2.2.1, .int .i64 d.2.2.2] 38)) lo (some ⟨W.heap.size, 0, none⟩) [a, b, c, d] := fun _ =>
  ⟨_, 0, _, _, rfl, h, Blk.new _ _ _, fun k hk => by
    obtain rfl | rfl | rfl | rfl : k = 0 ∨ k = 1 ∨ k = 2 ∨ k = 3 := by simp at hk; omega
    all_goals exact ⟨rfl, rfl, rfl, rfl⟩⟩
theorem tr_one (w : World) (a : Tl) : TR (w.alloc (.cells #[.int .i64 a.1, .int .i64 a.2.1, .int .i64 a.2.2.1, .int .i64 a.2.2.2] 38)) (w.heap.size + 1) (some ⟨w.heap.size, 0, none⟩) [a] := fun _ =>
  ⟨_, 0, rfl, by omega, fun k hk => by
    obtain rfl : k = 0 := by simp at hk; omega
    exact At4.cell4 (cs := #[.int .i64 a.1, .int .i64 a.2.1, .int .i64 a.2.2.1, .int .i64 a.2.2.2]) ⟨rfl, rfl, rfl, rfl⟩ (Blk.new w _ _)⟩

theorem tiles_call1 (x0 x1 x2 x3 : Int) (w : World) : Calls Try.prog 74 #[.slice (some ⟨w.heap.size + 1, 0, none⟩) 1 1] ((w.alloc (Obj.cells #[.int .i64 x0, .int .i64 x1, .int .i64 x2, .int .i64 x3] 38)).alloc (Obj.cells #[.int .i64 x0, .int .i64 x1, .int .i64 x2, .int .i64 x3] 38)) fun e w' => e = .returned (.int .i64 (tilesCode [(x0, x1, x2, x3)])) ∧ Ext ((w.alloc (Obj.cells #[.int .i64 x0, .int .i64 x1, .int .i64 x2, .int .i64 x3] 38)).alloc (Obj.cells #[.int .i64 x0, .int .i64 x1, .int .i64 x2, .int .i64 x3] 38)) w' :=
  l07Tiles_any (some ⟨w.heap.size + 1, 0, none⟩) 1 1 [(x0, x1, x2, x3)] _ (by omega) rfl (by have := tr_one (w.alloc (Obj.cells #[.int .i64 x0, .int .i64 x1, .int .i64 x2, .int .i64 x3] 38)) (x0, x1, x2, x3); simpa using this)
theorem code_no {a : Tl} (h : tileOk 6 a = false) : tilesCode [a] = 2 := by simp [tilesCode, allOk, h]
theorem code_yes {a : Tl} (h : tileOk 6 a = true) : tilesCode [a] = 0 := by simp [tilesCode, allOk, h]

set_option maxRecDepth 100000 in
set_option maxHeartbeats 1000000 in
theorem implTurnsOf_0 (a : Tl) (w : World) (ha : tileOk 6 a = true) : Calls Try.prog 26 #[tv a] w (TlRes w (turnsL a) 0) := by
  have h1 := fun W => hasColours_any 6 a W
  have h2 := fun W => turnsOf_any a W
  rw [ha] at h1
  have HLN := Lib.hid (show (turnsL a).length = 4 from rfl)
  generalize turnsL a = L at h2 HLN ⊢
  obtain ⟨x0, x1, x2, x3⟩ := a
  simp only [tv] at h1 h2 ⊢
  have H1 := Lib.hid h1
  have H2 := Lib.hid h2
  clear h1 h2 ha
  unfold TlRes
  rw [HLN.out]
  go_enter Try.func26, Try.ntmps26
  go_wp2_with fail
  refine (H1.out _).mono ?_
  rintro e w1 ⟨rfl, hx⟩
  have hx1 := ((Ext.refl w).alloc (Obj.cells #[.int .i64 x0, .int .i64 x1, .int .i64 x2, .int .i64 x3] 38)).trans hx
  have hb := (Blk.new w 38 #[.int .i64 x0, .int .i64 x1, .int .i64 x2, .int .i64 x3]).ext hx
  have HX := Lib.hid hx1
  have q0 := hb.rd 0 rfl
  have q1 := hb.rd 1 rfl
  have q2 := hb.rd 2 rfl
  have q3 := hb.rd 3 rfl
  clear hx hb hx1
  go_wp2_with fail
  refine (H2.out _).mono ?_
  rintro e w2 ⟨A, cap, rfl, hb, hw⟩
  have HB := Lib.hid ((HX.out.below (Nat.le_refl _)).trans (hb.mono (HX.out.below (Nat.le_refl _)).size))
  have HW := Lib.hid (hw.low (HX.out.below (Nat.le_refl _)).size)
  clear hb hw
  go_wp2_with fail
  go_ret2
  exact ⟨A, cap, rfl, HB.out, HW.out⟩
set_option maxRecDepth 100000 in
set_option maxHeartbeats 1000000 in
theorem implTurnsOf_2 (a : Tl) (w : World) (ha : tileOk 6 a = false) : Calls Try.prog 26 #[tv a] w (TlRes w [] 2) := by
  have h1 := fun W => hasColours_any 6 a W
  rw [ha] at h1
  obtain ⟨x0, x1, x2, x3⟩ := a
  simp only [tv] at h1 ⊢
  have H1 := Lib.hid h1
  clear h1 ha
  unfold TlRes
  simp only [List.length_nil]
  go_enter Try.func26, Try.ntmps26
  go_wp2_with fail
  refine (H1.out _).mono ?_
  rintro e w1 ⟨rfl, hx⟩
  have HX := Lib.hid (((Ext.refl w).alloc (Obj.cells #[.int .i64 x0, .int .i64 x1, .int .i64 x2, .int .i64 x3] 38)).trans hx)
  clear hx
  go_wp2_with fail
  go_ret2
  exact ⟨none, 0, rfl, HX.out.below (Nat.le_refl _), fun h => absurd h (Nat.lt_irrefl _)⟩
set_option maxRecDepth 100000 in
set_option maxHeartbeats 1000000 in
theorem specTurnsOf_2 (a : Tl) (w : World) (ha : tileOk 6 a = false) : Calls Try.prog 24 #[tv a] w (TlRes w [] 2) := by
  obtain ⟨x0, x1, x2, x3⟩ := a
  have h1 := tiles_call1 x0 x1 x2 x3 w
  rw [code_no ha] at h1
  simp only [tv] at h1 ⊢
  have H1 := Lib.hid h1
  clear h1 ha
  unfold TlRes
  simp only [List.length_nil]
  go_enter Try.func24, Try.ntmps24
  go_wp2_with fail
  refine H1.out.mono ?_
  rintro e w1 ⟨rfl, hx⟩
  have HX := Lib.hid ((((Ext.refl w).alloc (Obj.cells #[.int .i64 x0, .int .i64 x1, .int .i64 x2, .int .i64 x3] 38)).alloc _).trans hx)
  clear hx
  go_wp2_with fail
  go_ret2
  exact ⟨none, 0, rfl, HX.out.below (Nat.le_refl _), fun h => absurd h (Nat.lt_irrefl _)⟩
set_option maxRecDepth 100000 in
set_option maxHeartbeats 2000000 in
theorem specTurnsOf_0 (a : Tl) (w : World) (ha : tileOk 6 a = true) : Calls Try.prog 24 #[tv a] w (TlRes w (turnsL a) 0) := by
  have t1 := fun W => l07Turn_any a 1 W (by omega) (by omega)
  have t2 := fun W => l07Turn_any a 2 W (by omega) (by omega)
  have t3 := fun W => l07Turn_any a 3 W (by omega) (by omega)
  obtain ⟨x0, x1, x2, x3⟩ := a
  have h1 := tiles_call1 x0 x1 x2 x3 w
  rw [code_yes ha] at h1
  simp only [tv, show (1 : Int).toNat = 1 from rfl, show (2 : Int).toNat = 2 from rfl, show (3 : Int).toNat = 3 from rfl, rotN, rotT] at h1 t1 t2 t3 ⊢
  have H1 := Lib.hid h1
  have T1 := Lib.hid t1
  have T2 := Lib.hid t2
  have T3 := Lib.hid t3
  clear h1 ha t1 t2 t3
  unfold TlRes
  rw [show (turnsL (x0, x1, x2, x3)).length = 4 from rfl]
  go_enter Try.func24, Try.ntmps24
  go_wp2_with fail
  refine H1.out.mono ?_
  rintro e w1 ⟨rfl, hx⟩
  have HX := Lib.hid ((((Ext.refl w).alloc (Obj.cells #[.int .i64 x0, .int .i64 x1, .int .i64 x2, .int .i64 x3] 38)).alloc _).trans hx)
  have HB := Lib.hid (((Blk.new w 38 #[.int .i64 x0, .int .i64 x1, .int .i64 x2, .int .i64 x3]).ext ((Ext.refl _).alloc _)).ext hx)
  clear hx
  have q0 := HB.out.rd 0 rfl
  have q1 := HB.out.rd 1 rfl
  have q2 := HB.out.rd 2 rfl
  have q3 := HB.out.rd 3 rfl
  go_wp2_with fail
  go_region_held3 (fun w' => w'.cell? ⟨w.heap.size, 0, none⟩ = some (.int .i64 x0) ∧ w'.cell? ⟨w.heap.size, 1, none⟩ = some (.int .i64 x1) ∧ w'.cell? ⟨w.heap.size, 2, none⟩ = some (.int .i64 x2) ∧ w'.cell? ⟨w.heap.size, 3, none⟩ = some (.int .i64 x3))
    (first | exact ⟨q0, q1, q2, q3⟩ | go_keep)
    (first
      | ((with_reducible refine (T1.out _).mono ?_); rintro e w2 ⟨rfl, hx⟩; replace HX := Lib.hid ((HX.out.trans (by first | exact Ext.refl _ | exact (Ext.refl _).drew)).trans hx); replace HB := Lib.hid ((HB.out.ext (by first | exact Ext.refl _ | exact (Ext.refl _).drew)).ext hx); clear hx q0 q1 q2 q3; have q0 := HB.out.rd 0 rfl; have q1 := HB.out.rd 1 rfl; have q2 := HB.out.rd 2 rfl; have q3 := HB.out.rd 3 rfl)
      | ((with_reducible refine (T2.out _).mono ?_); rintro e w2 ⟨rfl, hx⟩; replace HX := Lib.hid ((HX.out.trans (by first | exact Ext.refl _ | exact (Ext.refl _).drew)).trans hx); replace HB := Lib.hid ((HB.out.ext (by first | exact Ext.refl _ | exact (Ext.refl _).drew)).ext hx); clear hx q0 q1 q2 q3; have q0 := HB.out.rd 0 rfl; have q1 := HB.out.rd 1 rfl; have q2 := HB.out.rd 2 rfl; have q3 := HB.out.rd 3 rfl)
      | ((with_reducible refine (T3.out _).mono ?_); rintro e w2 ⟨rfl, hx⟩; replace HX := Lib.hid ((HX.out.trans (by first | exact Ext.refl _ | exact (Ext.refl _).drew)).trans hx); replace HB := Lib.hid ((HB.out.ext (by first | exact Ext.refl _ | exact (Ext.refl _).drew)).ext hx); clear hx q0 q1 q2 q3; have q0 := HB.out.rd 0 rfl; have q1 := HB.out.rd 1 rfl; have q2 := HB.out.rd 2 rfl; have q3 := HB.out.rd 3 rfl))
  all_goals
    go_wp2_with fail
    go_ret2
    exact ⟨_, _, rfl, (HX.out.alloc _).below (Nat.le_refl _), tw_new4 _ _ (x0, x1, x2, x3) (rotT (x0, x1, x2, x3)) (rotT (rotT (x0, x1, x2, x3))) (rotT (rotT (rotT (x0, x1, x2, x3)))) (HX.out.below (Nat.le_refl _)).size⟩
end Go.Proofs.Ytfhdgilddnndcaa
