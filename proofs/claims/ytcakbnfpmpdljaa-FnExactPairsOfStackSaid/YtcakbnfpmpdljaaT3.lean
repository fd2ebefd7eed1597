/- Copies of slices of tiles and of sets; their sizes. -/
import Derived.Test.YtcakbnfpmpdljaaMem
namespace Go.Proofs.Ytcakbnfpmpdljaa
set_option linter.unusedVariables false
set_option linter.unusedSimpArgs false
open Go.RowKit Go.Sort

set_option maxRecDepth 100000 in
set_option maxHeartbeats 400000 in
theorem toTile_any (a : Tl) (w : World) : Calls Try.prog 16 #[tv a] w fun e w' => e = .returned (tv a) ∧ Ext w w' := by
  obtain ⟨a0, a1, a2, a3⟩ := a
  unfold tv
  go_enter Try.func16, Try.ntmps16
  go_wp2_with fail
  refine wp_loop_rounds 5 ?_
  rw [rounds_succ]
  go_wp2
  rw [rounds_succ]
  go_wp2
  rw [rounds_succ]
  go_wp2
  rw [rounds_succ]
  go_wp2
  rw [rounds_succ]
  go_wp2
  go_returns
  exact ⟨rfl, by repeat (first | exact Ext.refl _ | refine Ext.drewN ?_ _ | refine Ext.alloc ?_ _ | refine Ext.drew ?_)⟩

theorem szTileS_any (A : Option Addr) (n c : Nat) (left : Int) (w : World) (hn : n ≤ 9223372036854775807) (h1 : 0 ≤ left) (h2 : left ≤ 1048576) :
    Calls Try.prog 46 #[.slice A n c, .int .i64 left] w fun e w' => e = .returned (.int .i64 (if left < n then -1 else left - n)) ∧ Ext w w' := by
  go_enter Try.func46, Try.ntmps46
  by_cases hl : left < n
  · have hl' : left - (n : Int) < 0 := by omega
    go_wp2_with fail
    go_ret
    exact ⟨ret_i (by simp [hl]), Ext.refl _⟩
  · have hl' : ¬ left - (n : Int) < 0 := by omega
    go_wp2_with fail
    go_ret
    exact ⟨ret_i (by simp [hl]), Ext.refl _⟩

theorem szSet_any (c0 : Int) (A : Option Addr) (n c : Nat) (left : Int) (w : World) (hn : n ≤ 9223372036854775807) (h1 : 0 ≤ left) (h2 : left ≤ 1048576) :
    Calls Try.prog 13 #[.agg #[.int .i64 c0, .slice A n c], .int .i64 left] w fun e w' => e = .returned (.int .i64 (if left < n then -1 else left - n)) ∧ Ext w w' := by
  have hcon : ∀ W, Calls Try.prog 46 #[.slice A n c, .int .i64 left] W _ := fun W => szTileS_any A n c left W hn h1 h2
  go_enter Try.func13, Try.ntmps13
  by_cases hl : left < n
  · simp only [if_pos hl] at hcon
    go_wp2_with fail
    refine (hcon _).mono ?_
    rintro e w' ⟨rfl, hx⟩
    have HX := Lib.hid hx
    clear hx
    go_wp2_with fail
    go_ret
    exact ⟨ret_i (by simp [hl]), ((Ext.refl w).alloc _).trans HX.out⟩
  · have hl' : ¬ left - (n : Int) < 0 := by omega
    simp only [if_neg hl] at hcon
    go_wp2_with fail
    refine (hcon _).mono ?_
    rintro e w' ⟨rfl, hx⟩
    have HX := Lib.hid hx
    clear hx
    go_wp2_with fail
    go_ret
    exact ⟨ret_i (by simp [hl]), ((Ext.refl w).alloc _).trans HX.out⟩

theorem info_tile : (Try.prog.info? 33).map (fun i => (i.zero, i.size, i.bytes)) = some (some (.agg #[.int .i64 0, .int .i64 0, .int .i64 0, .int .i64 0]), 4, 32) := by kernel_rfl

set_option maxRecDepth 100000 in
set_option maxHeartbeats 400000 in
theorem toTileS_any (A : Option Addr) (n c : Nat) (ts : List Tl) (w : World) (hn : n ≤ 1048576) (hl : ts.length = n) (hA : TR w w.heap.size A ts) :
    Calls Try.prog 52 #[.slice A n c] w fun e w' => ∃ A', e = .returned (.slice A' n n) ∧ Below w.heap.size w w' ∧ TW w' w.heap.size A' ts := by
  obtain ⟨i0, hi, hz0, hz1, hz2⟩ := info_parts info_tile
  have hmk := fun W => run_make_rowN (P := Try.prog) 27 33 i0 _ (by kernel_rfl) hi hz0 .i64 .i64 n n (Nat.le_refl _) (by rw [hz2]; omega) (by omega) W
  rw [hz1] at hmk
  generalize hcs : madeCells (Value.cells (.agg #[.int .i64 0, .int .i64 0, .int .i64 0, .int .i64 0])) (n * 4) = cs0 at hmk
  have hsz : cs0.size = n * 4 := by rw [← hcs, size_madeCells]
  clear hcs hi hz0 hz1 hz2
  have HS := Lib.hid hsz
  clear hsz
  go_enter Try.func52, Try.ntmps52
  go_wp2_with fail
  go_loopw [4] (fun i wr => ∃ k : Nat, k ≤ n ∧ i = .int .i64 k ∧ Copied w wr w.heap.size n k ts) (fun i _ => n - (intOf i).toNat)
  case atStart => exact ⟨0, Nat.zero_le _, rfl, Copied.start w n _ cs0 HS.out ts⟩
  case round =>
    clear hmk
    obtain ⟨k, hk, rfl, hx⟩ := hrel
    have HX := Lib.hid hx
    by_cases hlt : k < n
    · obtain ⟨b, off, rfl, -, hc⟩ := (hA.below hx.below (Nat.le_refl _)) (by omega)
      have hc := hc k (by omega)
      clear hx hA
      obtain ⟨⟨x0, x1, x2, x3⟩, hX⟩ : ∃ x, x = ts.getD k T0 := ⟨_, rfl⟩
      rw [← hX] at hc
      have EX := Lib.hid hX
      clear hX
      obtain ⟨c0, c1, c2, c3⟩ := hc
      simp only at c0 c1 c2 c3
      go_wp2_with fail
      refine (toTile_any (x0, x1, x2, x3) _).mono ?_
      rintro e w1 ⟨rfl, he⟩
      unfold tv
      have HE := HX.out.ext he
      obtain ⟨v0, v1, v2, v3, r0, r1, r2, r3, z0, z1, z2, z3⟩ := HE.room hlt
      have HN := Lib.hid HE
      clear HE he HX c0 c1 c2 c3
      go_wp2_with fail
      go_roundw
      case rel => exact ⟨k + 1, by omega, by go_num, HN.out.step (x := (x0, x1, x2, x3)) hlt EX.out⟩
      case measure => simp [intOf]; omega
    · clear hx hA
      go_wp2_with fail
      go_ret
      obtain rfl : k = n := by omega
      have := HX.out.done hl
      exact ⟨_, rfl, this.1, this.2⟩

theorem TW.far {w : World} {lo : Nat} {A : Option Addr} {ts : List Tl} (h : TW w lo A ts) {p : Addr} (hp : p.block < lo) (u : Value) : TW (w.setCell p u) lo A ts := fun h0 => by
  obtain ⟨b, off, t, cs, e, hl', hb, hc⟩ := h h0
  exact ⟨b, off, t, cs, e, hl', hb.far (by omega) u, hc⟩
theorem bcell {W w1 : World} (hb : Below W.heap.size W w1) : (∀ b o, b < W.heap.size → w1.cell? ⟨b, o, none⟩ = W.cell? ⟨b, o, none⟩) ∧ (∀ b o, b < W.heap.size → w1.frozen? ⟨b, o, none⟩ = W.frozen? ⟨b, o, none⟩) :=
  ⟨fun b o h => hb.cell (p := ⟨b, o, none⟩) h, fun b o h => hb.frozen (p := ⟨b, o, none⟩) h⟩

set_option maxHeartbeats 400000 in
theorem toSet_any (c0 : Int) (A : Option Addr) (n c : Nat) (ts : List Tl) (w : World) (hn : n ≤ 1048576) (hl : ts.length = n) (hA : TR w w.heap.size A ts) :
    Calls Try.prog 15 #[.agg #[.int .i64 c0, .slice A n c]] w fun e w' => ∃ A', e = .returned (.agg #[.int .i64 c0, .slice A' n n]) ∧ Below w.heap.size w w' ∧ TW w' w.heap.size A' ts := by
  have hcon : ∀ W, Ext w W → Calls Try.prog 52 #[.slice A n c] W _ := fun W hW => toTileS_any A n c ts W hn hl ((hA.ext hW (Nat.le_refl _)).more (hW.below (Nat.le_refl _)).size)
  have HC := Lib.hid hcon
  clear hcon hA
  go_enter Try.func15, Try.ntmps15
  go_wp2_with fail
  refine (HC.out _ ?_).mono ?_
  · repeat (first | exact Ext.refl _ | refine Ext.drewN ?_ _ | refine Ext.alloc ?_ _ | refine Ext.drew ?_)
  rintro e w1 ⟨A', rfl, hb, hw⟩
  have HB := Lib.hid hb
  have HW := Lib.hid hw
  clear hw
  obtain ⟨hc, hf⟩ := bcell hb
  have hz : w.heap.size + 2 < w1.heap.size := by have := hb.size; simp at this; omega
  clear hb
  go_wp2_with fail
  refine bodyPost_ret (v := .agg #[.int .i64 c0, .slice A' n n]) (by simp [results, Try.results15, go_sem, hc, hz]) rfl ⟨A', rfl, ?_, ?_⟩
  · have h0 : Below w.heap.size w w1 := ((((Below.refl w.heap.size w).alloc (Nat.le_refl _) _).alloc (by simp) _).alloc (by simp; omega) _).trans (HB.out.mono (by simp; omega))
    exact ((h0.setCell (by simp; omega) _).setCell (by simp) _).setCell (by simp) _
  · have h0 : TW w1 (w.heap.size + 1 + 1 + 1) A' ts := by simpa using HW.out
    exact (((h0.far (by simp) _).far (by simp) _).far (by simp) _).low (by omega)
end Go.Proofs.Ytcakbnfpmpdljaa
