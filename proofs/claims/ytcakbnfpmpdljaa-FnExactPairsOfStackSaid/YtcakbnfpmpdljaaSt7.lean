/- The program's pairs of colours in order. -/
import Derived.Test.YtcakbnfpmpdljaaSt6
namespace Go.Proofs.Ytcakbnfpmpdljaa
set_option linter.unusedVariables false
set_option linter.unusedSimpArgs false
open Go.RowKit Go.Sort

theorem apart_12 {w5 w6 : World} {lo hi lo' hi' n m : Nat} {A B : Option Addr} {xs ys : List Int} (h : IWr w5 lo hi A xs) (h' : IWr w6 lo' hi' B ys) (hle : hi ≤ lo') (h1 : xs.length = n) (h2 : ys.length = m) : Apart A n B m := fun b o c u e1 e2 h3 h4 => by
  obtain ⟨b1, o1, _, _, e3, _, h5, _⟩ := h (by omega)
  obtain ⟨b2, o2, _, _, e4, h6, _, _⟩ := h' (by omega)
  rw [e1] at e3
  rw [e2] at e4
  cases e3
  cases e4
  exact .inl (by omega)
theorem apart_21 {w5 w6 : World} {lo hi lo' hi' n m : Nat} {A B : Option Addr} {xs ys : List Int} (h : IWr w5 lo hi A xs) (h' : IWr w6 lo' hi' B ys) (hle : hi ≤ lo') (h1 : xs.length = n) (h2 : ys.length = m) : Apart B m A n := apart_symm (apart_12 h h' hle h1 h2)
theorem blk_grown8 {w w' : World} {g : Nat} {t : TypeId} {cs : Array Value} {row : Option Nat} (h : Blk w g t cs) (hg : w.grownBy w' row) (hne : row ≠ some g) : Blk w' g t cs := (hg.block g h.lt (fun e => hne e.symm)).trans h
theorem enc8_cells {w : World} {b o : Nat} {p : Tl × Tl} (h : ∀ j, j < 8 → w.cell? ⟨b, o + j, none⟩ = (enc8 p)[j]?) : w.cell? ⟨b, o, none⟩ = some (.int .i64 p.1.1) ∧ w.cell? ⟨b, o + 1, none⟩ = some (.int .i64 p.1.2.1) ∧ w.cell? ⟨b, o + 2, none⟩ = some (.int .i64 p.1.2.2.1) ∧ w.cell? ⟨b, o + 3, none⟩ = some (.int .i64 p.1.2.2.2) ∧
    w.cell? ⟨b, o + 4, none⟩ = some (.int .i64 p.2.1) ∧ w.cell? ⟨b, o + 5, none⟩ = some (.int .i64 p.2.2.1) ∧ w.cell? ⟨b, o + 6, none⟩ = some (.int .i64 p.2.2.2.1) ∧ w.cell? ⟨b, o + 7, none⟩ = some (.int .i64 p.2.2.2.2) :=
  ⟨h 0 (by omega), h 1 (by omega), h 2 (by omega), h 3 (by omega), h 4 (by omega), h 5 (by omega), h 6 (by omega), h 7 (by omega)⟩

set_option maxRecDepth 100000 in
set_option maxHeartbeats 4000000 in
theorem colourPairs_any (A : Option Addr) (n c : Nat) (l : List (Tl × Tl)) (w : World) (hn : n ≤ 65536) (hl : l.length = n) (hA : SR w w.heap.size A l) (hok : ∀ p ∈ l, (0 ≤ p.2.1 ∧ p.2.1 < 16) ∧ 0 ≤ p.2.2.2.1 ∧ p.2.2.2.1 < 16) :
    Calls Try.prog 62 #[.slice A n c] w fun e w' => ∃ v es, e = .returned v ∧ OwnE w' w.heap.size v es ∧ es.map El.xs = (sortI (codes l)).map dec ∧ Below w.heap.size w w' := by
  have HA := Lib.hid hA
  have HOK := Lib.hid hok
  have HLN := Lib.hid hl
  clear hA hok
  obtain ⟨w2, hw2⟩ : ∃ w2, w2 = w := ⟨_, rfl⟩
  subst hw2
  go_enter Try.func62, Try.ntmps62
  go_wp2_with fail
  go_loopw [3, 8] (fun v ii wr => ∃ (i : Nat) (es : List El), i ≤ n ∧ ii = .int .i64 i ∧ OwnE wr w2.heap.size v es ∧ es.map El.xs = crow (l.take i) ∧ Below w2.heap.size w2 wr) (fun _ ii _ => n - (intOf ii).toNat)
  case atStart => exact ⟨0, [], Nat.zero_le _, rfl, OwnE.nil _ _, rfl, Below.refl _ _⟩
  case round =>
    obtain ⟨i, es, hi, rfl, hown, hes, hb⟩ := hrel
    have HO := Lib.hid hown
    have HES := Lib.hid hes
    have HBW := Lib.hid hb
    have hszw := hb.size
    have heslen : es.length ≤ 131072 := by
      have := congrArg List.length hes
      rw [List.length_map, crow_len, List.length_take] at this
      omega
    by_cases hlt : i < n
    · obtain ⟨b0, o, rfl, hbb, ht⟩ := (HA.out.below hb (Nat.le_refl _)) (by omega)
      replace ht := enc8_cells (ht i (by omega))
      have hcs := crow_succ l (k := i) (by omega)
      clear hown hes hb
      generalize l.getD i P0 = pp at *
      obtain ⟨⟨a0, a1, a2, a3⟩, b0', b1, b2, b3⟩ := pp
      obtain ⟨t0, t1, t2, t3, t4, t5, t6, t7⟩ := ht
      simp only at t0 t1 t2 t3 t4 t5 t6 t7 hcs
      have HCS := Lib.hid hcs
      have b9 : (i : Int) < (n : Int) := by omega
      clear hcs
      have hcw := fun W => coloursW_any ((a0, a1, a2, a3), b0', b1, b2, b3) W
      have hce := fun W => coloursE_any ((a0, a1, a2, a3), b0', b1, b2, b3) W
      simp only [encA8] at hcw hce
      have HCW := Lib.hid hcw
      have HCE := Lib.hid hce
      clear hcw hce
      go_wp2_with fail
      clear t0 t1 t2 t3 t4 t5 t6 t7
      have HBX := Lib.hid (Blk.new wr 85 #[.int .i64 a0, .int .i64 a1, .int .i64 a2, .int .i64 a3, .int .i64 b0', .int .i64 b1, .int .i64 b2, .int .i64 b3])
      have hx4 : Ext wr (wr.alloc (Obj.cells #[.int .i64 a0, .int .i64 a1, .int .i64 a2, .int .i64 a3, .int .i64 b0', .int .i64 b1, .int .i64 b2, .int .i64 b3] 85)) := (Ext.refl wr).alloc _
      have HO4 := Lib.hid (HO.out.below (hx4.below (Nat.le_refl _)))
      have HB4 := Lib.hid (HBW.out.trans (hx4.below (B := w2.heap.size) hszw))
      have hs4 : w2.heap.size ≤ (wr.alloc (Obj.cells #[.int .i64 a0, .int .i64 a1, .int .i64 a2, .int .i64 a3, .int .i64 b0', .int .i64 b1, .int .i64 b2, .int .i64 b3] 85)).heap.size := by simp; omega
      have hne8 : u3.ownBlock ≠ some wr.heap.size := fun e9 => Nat.lt_irrefl _ (HO.out.1.lt _ e9).2
      clear hx4
      generalize wr.alloc (Obj.cells #[.int .i64 a0, .int .i64 a1, .int .i64 a2, .int .i64 a3, .int .i64 b0', .int .i64 b1, .int .i64 b2, .int .i64 b3] 85) = w4 at *
      generalize wr.heap.size = gt at *
      have r0 := HBX.out.rd 0 rfl
      have r1 := HBX.out.rd 1 rfl
      have r2 := HBX.out.rd 2 rfl
      have r3 := HBX.out.rd 3 rfl
      have r4 := HBX.out.rd 4 rfl
      have r5 := HBX.out.rd 5 rfl
      have r6 := HBX.out.rd 6 rfl
      have r7 := HBX.out.rd 7 rfl

      go_region_held3 (fun w' => w'.cell? ⟨gt, 0, none⟩ = some (.int .i64 a0) ∧ w'.cell? ⟨gt, 1, none⟩ = some (.int .i64 a1) ∧ w'.cell? ⟨gt, 2, none⟩ = some (.int .i64 a2) ∧ w'.cell? ⟨gt, 3, none⟩ = some (.int .i64 a3) ∧ w'.cell? ⟨gt, 4, none⟩ = some (.int .i64 b0') ∧ w'.cell? ⟨gt, 5, none⟩ = some (.int .i64 b1) ∧ w'.cell? ⟨gt, 6, none⟩ = some (.int .i64 b2) ∧ w'.cell? ⟨gt, 7, none⟩ = some (.int .i64 b3))
        (first | exact ⟨r0, r1, r2, r3, r4, r5, r6, r7⟩ | exact ⟨(HBX.out.ext (by with_reducible first | exact Ext.refl _ | exact (Ext.refl _).drew | exact (Ext.refl _).alloc _ | exact ((Ext.refl _).alloc _).drew | exact ((Ext.refl _).drew).alloc _ | exact (((Ext.refl _).drew).alloc _).drew)).rd 0 rfl, (HBX.out.ext (by with_reducible first | exact Ext.refl _ | exact (Ext.refl _).drew | exact (Ext.refl _).alloc _ | exact ((Ext.refl _).alloc _).drew | exact ((Ext.refl _).drew).alloc _ | exact (((Ext.refl _).drew).alloc _).drew)).rd 1 rfl, (HBX.out.ext (by with_reducible first | exact Ext.refl _ | exact (Ext.refl _).drew | exact (Ext.refl _).alloc _ | exact ((Ext.refl _).alloc _).drew | exact ((Ext.refl _).drew).alloc _ | exact (((Ext.refl _).drew).alloc _).drew)).rd 2 rfl, (HBX.out.ext (by with_reducible first | exact Ext.refl _ | exact (Ext.refl _).drew | exact (Ext.refl _).alloc _ | exact ((Ext.refl _).alloc _).drew | exact ((Ext.refl _).drew).alloc _ | exact (((Ext.refl _).drew).alloc _).drew)).rd 3 rfl, (HBX.out.ext (by with_reducible first | exact Ext.refl _ | exact (Ext.refl _).drew | exact (Ext.refl _).alloc _ | exact ((Ext.refl _).alloc _).drew | exact ((Ext.refl _).drew).alloc _ | exact (((Ext.refl _).drew).alloc _).drew)).rd 4 rfl, (HBX.out.ext (by with_reducible first | exact Ext.refl _ | exact (Ext.refl _).drew | exact (Ext.refl _).alloc _ | exact ((Ext.refl _).alloc _).drew | exact ((Ext.refl _).drew).alloc _ | exact (((Ext.refl _).drew).alloc _).drew)).rd 5 rfl, (HBX.out.ext (by with_reducible first | exact Ext.refl _ | exact (Ext.refl _).drew | exact (Ext.refl _).alloc _ | exact ((Ext.refl _).alloc _).drew | exact ((Ext.refl _).drew).alloc _ | exact (((Ext.refl _).drew).alloc _).drew)).rd 6 rfl, (HBX.out.ext (by with_reducible first | exact Ext.refl _ | exact (Ext.refl _).drew | exact (Ext.refl _).alloc _ | exact ((Ext.refl _).alloc _).drew | exact ((Ext.refl _).drew).alloc _ | exact (((Ext.refl _).drew).alloc _).drew)).rd 7 rfl⟩ | exact ⟨(c5.ext (by with_reducible first | exact Ext.refl _ | exact (Ext.refl _).drew | exact (Ext.refl _).alloc _ | exact ((Ext.refl _).alloc _).drew | exact ((Ext.refl _).drew).alloc _ | exact (((Ext.refl _).drew).alloc _).drew)).rd 0 rfl, (c5.ext (by with_reducible first | exact Ext.refl _ | exact (Ext.refl _).drew | exact (Ext.refl _).alloc _ | exact ((Ext.refl _).alloc _).drew | exact ((Ext.refl _).drew).alloc _ | exact (((Ext.refl _).drew).alloc _).drew)).rd 1 rfl, (c5.ext (by with_reducible first | exact Ext.refl _ | exact (Ext.refl _).drew | exact (Ext.refl _).alloc _ | exact ((Ext.refl _).alloc _).drew | exact ((Ext.refl _).drew).alloc _ | exact (((Ext.refl _).drew).alloc _).drew)).rd 2 rfl, (c5.ext (by with_reducible first | exact Ext.refl _ | exact (Ext.refl _).drew | exact (Ext.refl _).alloc _ | exact ((Ext.refl _).alloc _).drew | exact ((Ext.refl _).drew).alloc _ | exact (((Ext.refl _).drew).alloc _).drew)).rd 3 rfl, (c5.ext (by with_reducible first | exact Ext.refl _ | exact (Ext.refl _).drew | exact (Ext.refl _).alloc _ | exact ((Ext.refl _).alloc _).drew | exact ((Ext.refl _).drew).alloc _ | exact (((Ext.refl _).drew).alloc _).drew)).rd 4 rfl, (c5.ext (by with_reducible first | exact Ext.refl _ | exact (Ext.refl _).drew | exact (Ext.refl _).alloc _ | exact ((Ext.refl _).alloc _).drew | exact ((Ext.refl _).drew).alloc _ | exact (((Ext.refl _).drew).alloc _).drew)).rd 5 rfl, (c5.ext (by with_reducible first | exact Ext.refl _ | exact (Ext.refl _).drew | exact (Ext.refl _).alloc _ | exact ((Ext.refl _).alloc _).drew | exact ((Ext.refl _).drew).alloc _ | exact (((Ext.refl _).drew).alloc _).drew)).rd 6 rfl, (c5.ext (by with_reducible first | exact Ext.refl _ | exact (Ext.refl _).drew | exact (Ext.refl _).alloc _ | exact ((Ext.refl _).alloc _).drew | exact ((Ext.refl _).drew).alloc _ | exact (((Ext.refl _).drew).alloc _).drew)).rd 7 rfl⟩ | exact ⟨(c6.ext (by with_reducible first | exact Ext.refl _ | exact (Ext.refl _).drew | exact (Ext.refl _).alloc _ | exact ((Ext.refl _).alloc _).drew | exact ((Ext.refl _).drew).alloc _ | exact (((Ext.refl _).drew).alloc _).drew)).rd 0 rfl, (c6.ext (by with_reducible first | exact Ext.refl _ | exact (Ext.refl _).drew | exact (Ext.refl _).alloc _ | exact ((Ext.refl _).alloc _).drew | exact ((Ext.refl _).drew).alloc _ | exact (((Ext.refl _).drew).alloc _).drew)).rd 1 rfl, (c6.ext (by with_reducible first | exact Ext.refl _ | exact (Ext.refl _).drew | exact (Ext.refl _).alloc _ | exact ((Ext.refl _).alloc _).drew | exact ((Ext.refl _).drew).alloc _ | exact (((Ext.refl _).drew).alloc _).drew)).rd 2 rfl, (c6.ext (by with_reducible first | exact Ext.refl _ | exact (Ext.refl _).drew | exact (Ext.refl _).alloc _ | exact ((Ext.refl _).alloc _).drew | exact ((Ext.refl _).drew).alloc _ | exact (((Ext.refl _).drew).alloc _).drew)).rd 3 rfl, (c6.ext (by with_reducible first | exact Ext.refl _ | exact (Ext.refl _).drew | exact (Ext.refl _).alloc _ | exact ((Ext.refl _).alloc _).drew | exact ((Ext.refl _).drew).alloc _ | exact (((Ext.refl _).drew).alloc _).drew)).rd 4 rfl, (c6.ext (by with_reducible first | exact Ext.refl _ | exact (Ext.refl _).drew | exact (Ext.refl _).alloc _ | exact ((Ext.refl _).alloc _).drew | exact ((Ext.refl _).drew).alloc _ | exact (((Ext.refl _).drew).alloc _).drew)).rd 5 rfl, (c6.ext (by with_reducible first | exact Ext.refl _ | exact (Ext.refl _).drew | exact (Ext.refl _).alloc _ | exact ((Ext.refl _).alloc _).drew | exact ((Ext.refl _).drew).alloc _ | exact (((Ext.refl _).drew).alloc _).drew)).rd 6 rfl, (c6.ext (by with_reducible first | exact Ext.refl _ | exact (Ext.refl _).drew | exact (Ext.refl _).alloc _ | exact ((Ext.refl _).alloc _).drew | exact ((Ext.refl _).drew).alloc _ | exact (((Ext.refl _).drew).alloc _).drew)).rd 7 rfl⟩ | exact ⟨(c7.ext (by with_reducible first | exact Ext.refl _ | exact (Ext.refl _).drew | exact (Ext.refl _).alloc _ | exact ((Ext.refl _).alloc _).drew | exact ((Ext.refl _).drew).alloc _ | exact (((Ext.refl _).drew).alloc _).drew)).rd 0 rfl, (c7.ext (by with_reducible first | exact Ext.refl _ | exact (Ext.refl _).drew | exact (Ext.refl _).alloc _ | exact ((Ext.refl _).alloc _).drew | exact ((Ext.refl _).drew).alloc _ | exact (((Ext.refl _).drew).alloc _).drew)).rd 1 rfl, (c7.ext (by with_reducible first | exact Ext.refl _ | exact (Ext.refl _).drew | exact (Ext.refl _).alloc _ | exact ((Ext.refl _).alloc _).drew | exact ((Ext.refl _).drew).alloc _ | exact (((Ext.refl _).drew).alloc _).drew)).rd 2 rfl, (c7.ext (by with_reducible first | exact Ext.refl _ | exact (Ext.refl _).drew | exact (Ext.refl _).alloc _ | exact ((Ext.refl _).alloc _).drew | exact ((Ext.refl _).drew).alloc _ | exact (((Ext.refl _).drew).alloc _).drew)).rd 3 rfl, (c7.ext (by with_reducible first | exact Ext.refl _ | exact (Ext.refl _).drew | exact (Ext.refl _).alloc _ | exact ((Ext.refl _).alloc _).drew | exact ((Ext.refl _).drew).alloc _ | exact (((Ext.refl _).drew).alloc _).drew)).rd 4 rfl, (c7.ext (by with_reducible first | exact Ext.refl _ | exact (Ext.refl _).drew | exact (Ext.refl _).alloc _ | exact ((Ext.refl _).alloc _).drew | exact ((Ext.refl _).drew).alloc _ | exact (((Ext.refl _).drew).alloc _).drew)).rd 5 rfl, (c7.ext (by with_reducible first | exact Ext.refl _ | exact (Ext.refl _).drew | exact (Ext.refl _).alloc _ | exact ((Ext.refl _).alloc _).drew | exact ((Ext.refl _).drew).alloc _ | exact (((Ext.refl _).drew).alloc _).drew)).rd 6 rfl, (c7.ext (by with_reducible first | exact Ext.refl _ | exact (Ext.refl _).drew | exact (Ext.refl _).alloc _ | exact ((Ext.refl _).alloc _).drew | exact ((Ext.refl _).drew).alloc _ | exact (((Ext.refl _).drew).alloc _).drew)).rd 7 rfl⟩ | go_keep)
        (first
        | (go_at_call 100; with_reducible refine (HCW.out _).mono ?_; rintro e w5 ⟨A1, rfl, hfW, hb5⟩; have k5W := below_next (Below.refl w4.heap.size w4) (by with_reducible first | exact Ext.refl _ | exact (Ext.refl _).drew | exact (Ext.refl _).alloc _ | exact ((Ext.refl _).alloc _).drew | exact ((Ext.refl _).drew).alloc _ | exact (((Ext.refl _).drew).alloc _).drew) hb5 (Nat.le_refl _); have c5 := blk_next HBX.out (by with_reducible first | exact Ext.refl _ | exact (Ext.refl _).drew | exact (Ext.refl _).alloc _ | exact ((Ext.refl _).alloc _).drew | exact ((Ext.refl _).drew).alloc _ | exact (((Ext.refl _).drew).alloc _).drew) hb5; have s5 := below_pair (Below.refl w4.heap.size w4) (by with_reducible first | exact Ext.refl _ | exact (Ext.refl _).drew | exact (Ext.refl _).alloc _ | exact ((Ext.refl _).alloc _).drew | exact ((Ext.refl _).drew).alloc _ | exact (((Ext.refl _).drew).alloc _).drew) hb5 (Nat.le_refl _); have z5 := s5.size; have y5 := k5W.size; replace hfW := hfW.low z5)
        | (go_at_call 100; with_reducible refine (HCE.out _).mono ?_; rintro e w6 ⟨A2, rfl, hsE, hb6⟩; have k6 := below_next k5W (by with_reducible first | exact Ext.refl _ | exact (Ext.refl _).drew | exact (Ext.refl _).alloc _ | exact ((Ext.refl _).alloc _).drew | exact ((Ext.refl _).drew).alloc _ | exact (((Ext.refl _).drew).alloc _).drew) hb6 (Nat.le_refl _); have c6 := blk_next c5 (by with_reducible first | exact Ext.refl _ | exact (Ext.refl _).drew | exact (Ext.refl _).alloc _ | exact ((Ext.refl _).alloc _).drew | exact ((Ext.refl _).drew).alloc _ | exact (((Ext.refl _).drew).alloc _).drew) hb6; have s6 := below_pair (Below.refl w5.heap.size w5) (by with_reducible first | exact Ext.refl _ | exact (Ext.refl _).drew | exact (Ext.refl _).alloc _ | exact ((Ext.refl _).alloc _).drew | exact ((Ext.refl _).drew).alloc _ | exact (((Ext.refl _).drew).alloc _).drew) hb6 (Nat.le_refl _); have z6 := s6.size; have y6 := k6.size; have hap : Apart A1 2 A2 2 := apart_12 (hfW) hsE z6 rfl rfl; have hr1 := (hfW.below (s6.trans (hb6.mono z6))).up (show w5.heap.size ≤ w6.heap.size by have := hb6.size; omega); have hr2 := hsE.low (show w4.heap.size ≤ _ by omega))
        | (go_at_call 100; with_reducible refine (HCE.out _).mono ?_; rintro e w5 ⟨A2, rfl, hfE, hb5⟩; have k5E := below_next (Below.refl w4.heap.size w4) (by with_reducible first | exact Ext.refl _ | exact (Ext.refl _).drew | exact (Ext.refl _).alloc _ | exact ((Ext.refl _).alloc _).drew | exact ((Ext.refl _).drew).alloc _ | exact (((Ext.refl _).drew).alloc _).drew) hb5 (Nat.le_refl _); have c5 := blk_next HBX.out (by with_reducible first | exact Ext.refl _ | exact (Ext.refl _).drew | exact (Ext.refl _).alloc _ | exact ((Ext.refl _).alloc _).drew | exact ((Ext.refl _).drew).alloc _ | exact (((Ext.refl _).drew).alloc _).drew) hb5; have s5 := below_pair (Below.refl w4.heap.size w4) (by with_reducible first | exact Ext.refl _ | exact (Ext.refl _).drew | exact (Ext.refl _).alloc _ | exact ((Ext.refl _).alloc _).drew | exact ((Ext.refl _).drew).alloc _ | exact (((Ext.refl _).drew).alloc _).drew) hb5 (Nat.le_refl _); have z5 := s5.size; have y5 := k5E.size; replace hfE := hfE.low z5)
        | (go_at_call 100; with_reducible refine (HCW.out _).mono ?_; rintro e w6 ⟨A1, rfl, hsW, hb6⟩; have k6 := below_next k5E (by with_reducible first | exact Ext.refl _ | exact (Ext.refl _).drew | exact (Ext.refl _).alloc _ | exact ((Ext.refl _).alloc _).drew | exact ((Ext.refl _).drew).alloc _ | exact (((Ext.refl _).drew).alloc _).drew) hb6 (Nat.le_refl _); have c6 := blk_next c5 (by with_reducible first | exact Ext.refl _ | exact (Ext.refl _).drew | exact (Ext.refl _).alloc _ | exact ((Ext.refl _).alloc _).drew | exact ((Ext.refl _).drew).alloc _ | exact (((Ext.refl _).drew).alloc _).drew) hb6; have s6 := below_pair (Below.refl w5.heap.size w5) (by with_reducible first | exact Ext.refl _ | exact (Ext.refl _).drew | exact (Ext.refl _).alloc _ | exact ((Ext.refl _).alloc _).drew | exact ((Ext.refl _).drew).alloc _ | exact (((Ext.refl _).drew).alloc _).drew) hb6 (Nat.le_refl _); have z6 := s6.size; have y6 := k6.size; have hap : Apart A1 2 A2 2 := apart_21 (hfE) hsW z6 rfl rfl; have hr2 := (hfE.below (s6.trans (hb6.mono z6))).up (show w5.heap.size ≤ w6.heap.size by have := hb6.size; omega); have hr1 := hsW.low (show w4.heap.size ≤ _ by omega))
        | (refine step_pushE2 rfl (.tmp 12) (.tmp 17) rfl w2.heap.size u3 es (by go_simp) w4 HO4.out (below_next0 k6 (by with_reducible first | exact Ext.refl _ | exact (Ext.refl _).drew | exact (Ext.refl _).alloc _ | exact ((Ext.refl _).alloc _).drew | exact ((Ext.refl _).drew).alloc _ | exact (((Ext.refl _).drew).alloc _).drew) (Nat.le_refl _)) w6.heap.size A1 A2 [a0, b0'] [a2, b2] (by go_simp) ((Blk.new w6 49 #[.slice A1 2 2, .slice A2 2 2]).ext (by with_reducible first | exact Ext.refl _ | exact (Ext.refl _).drew | exact (Ext.refl _).alloc _ | exact ((Ext.refl _).alloc _).drew | exact ((Ext.refl _).drew).alloc _ | exact (((Ext.refl _).drew).alloc _).drew)) ((hr1.ext (by with_reducible first | exact Ext.refl _ | exact (Ext.refl _).drew | exact (Ext.refl _).alloc _ | exact ((Ext.refl _).alloc _).drew | exact ((Ext.refl _).drew).alloc _ | exact (((Ext.refl _).drew).alloc _).drew)).up (by simp)) ((hr2.ext (by with_reducible first | exact Ext.refl _ | exact (Ext.refl _).drew | exact (Ext.refl _).alloc _ | exact ((Ext.refl _).alloc _).drew | exact ((Ext.refl _).drew).alloc _ | exact (((Ext.refl _).drew).alloc _).drew)).up (by simp)) rfl rfl hap (by omega) (by omega) ?_; intro v7 w7 hown7 hbel7 hgrow7; have hB7 := (HB4.out.trans ((below_next0 k6 (by with_reducible first | exact Ext.refl _ | exact (Ext.refl _).drew | exact (Ext.refl _).alloc _ | exact ((Ext.refl _).alloc _).drew | exact ((Ext.refl _).drew).alloc _ | exact (((Ext.refl _).drew).alloc _).drew) (Nat.le_refl _)).mono hs4)).trans hbel7; have c7 := blk_grown8 (c6.ext ((Ext.refl w6).alloc (Obj.cells #[.slice A1 2 2, .slice A2 2 2] 49))) hgrow7 hne8))
      all_goals
        have HN7 := Lib.hid (And.intro hown7 hB7)
        have HX7 := Lib.hid (show (es ++ [El.mk A1 2 [a0, b0'], El.mk A2 2 [a2, b2]]).map El.xs = crow (l.take (i + 1)) by rw [List.map_append, HES.out, HCS.out]; rfl)
        clear hown7 hbel7 hgrow7 hB7 c7 c6 c5 hap r0 r1 r2 r3 r4 r5 r6 r7
        go_wp2_with fail
        go_roundw
        case rel => first | exact ⟨i + 1, _, by omega, by go_num, HN7.out.1, HX7.out, HN7.out.2⟩ | ((repeat apply Exists.intro); exact ⟨⟨i + 1, _, by omega, by go_num, HN7.out.1, HX7.out, HN7.out.2⟩, rfl⟩)
        case measure => simp [intOf]; omega
    · obtain rfl : i = n := by omega
      have hes2 : es.map El.xs = crow l := by rw [hes, ← hl, List.take_length]
      have hlen2 : ∀ e ∈ es, e.xs.length ≤ 1048576 := fun e he => by
        have h9 := crow_two l e.xs (by rw [← hes2]; exact List.mem_map_of_mem he)
        omega
      have HS := Lib.hid (sortR_any w2.heap.size u3 es wr (by omega) hlen2 hown)
      have HES2 := Lib.hid hes2
      have HLEN2 := Lib.hid hlen2
      have hlt8 := hown.1.lt
      have HLT := Lib.hid hlt8
      clear hown hes hb hes2 hlen2 hlt8 HO HES
      go_wp2_with fail
      refine HS.out.mono ?_
      rintro e w5 ⟨rfl, es', hp, hs, hown5, hgr5⟩
      have HP := Lib.hid hp
      have HSO := Lib.hid hs
      have hbw5 := HBW.out.grown hgr5 hszw (fun j hj => (HLT.out j hj).1)
      have HBW5 := Lib.hid hbw5
      have HCM := Lib.hid (compactR_any w2.heap.size u3 es' w5 (by rw [hp.length_eq]; omega) (fun e he => HLEN2.out e (hp.mem_iff.1 he)) hown5)
      have HLT5 := Lib.hid hown5.1.lt
      have hsz5 := hbw5.size
      clear hp hs hown5 hgr5 hbw5
      go_wp2_with fail
      refine HCM.out.mono ?_
      rintro e w6 ⟨v6, rfl, hown6, hgr6⟩
      have HO6 := Lib.hid hown6
      have HB6 := Lib.hid (HBW5.out.grown hgr6 hsz5 (fun j hj => (HLT5.out j hj).1))
      clear hown6 hgr6
      go_wp2_with fail
      go_ret
      exact ⟨v6, _, rfl, HO6.out, cpt_codes HOK.out HES2.out HP.out HSO.out, HB6.out⟩
end Go.Proofs.Ytcakbnfpmpdljaa
