/- Tiles renamed, on both sides. -/
import Derived.Test.YtjbnmkiidongmaaRen1
import Derived.Test.YtjbnmkiidongmaaMChanged
import Derived.Test.YtjbnmkiidongmaaAppI
import Derived.Deep.RegionHeld3
namespace Go.Proofs.Ytjbnmkiidongmaa
set_option linter.unusedVariables false
set_option linter.unusedSimpArgs false
open Go.RowKit Go.Sort

def renT (p : List Int) (t : Tl) : Tl := (p.getD t.1.toNat 0, p.getD t.2.1.toNat 0, p.getD t.2.2.1.toNat 0, p.getD t.2.2.2.toNat 0)
theorem getD_inj {p : List Int} (hn : p.Nodup) {i j : Nat} (hi : i < p.length) (hj : j < p.length) (h : p.getD i 0 = p.getD j 0) : i = j := by
  simp only [List.getD, List.getElem?_eq_getElem hi, List.getElem?_eq_getElem hj, Option.getD_some] at h
  rcases Nat.lt_trichotomy i j with hij | hij | hij
  · exact absurd h (List.pairwise_iff_getElem.1 hn i j hi hj hij)
  · exact hij
  · exact absurd h.symm (List.pairwise_iff_getElem.1 hn j i hj hi hij)
theorem renT_inj {p : List Int} {c : Int} (hr : isRen p c = true) {x y : Tl} (hx : tileOk c x = true) (hy : tileOk c y = true) (h : renT p x = renT p y) : x = y := by
  simp only [isRen, Bool.and_eq_true, decide_eq_true_eq] at hr
  obtain ⟨hl, _, hn⟩ := hr
  simp only [tileOk, decide_eq_true_eq] at hx hy
  simp only [renT, Prod.mk.injEq] at h
  obtain ⟨h0, h1, h2, h3⟩ := h
  have e0 := getD_inj hn (by omega) (by omega) h0
  have e1 := getD_inj hn (by omega) (by omega) h1
  have e2 := getD_inj hn (by omega) (by omega) h2
  have e3 := getD_inj hn (by omega) (by omega) h3
  obtain ⟨x0, x1, x2, x3⟩ := x
  obtain ⟨y0, y1, y2, y3⟩ := y
  simp only [Prod.mk.injEq] at *
  omega
theorem nodup_map_on {f : Tl → Tl} {ts : List Tl} (hinj : ∀ x, x ∈ ts → ∀ y, y ∈ ts → f x = f y → x = y) (h : ts.Nodup) : (ts.map f).Nodup := by
  unfold List.Nodup at *
  rw [List.pairwise_map]
  exact h.imp_of_mem fun {a b} ha hb hne e => hne (hinj a ha b hb e)

set_option maxRecDepth 100000 in
set_option maxHeartbeats 1000000 in
theorem renClosure_any (g : Nat) (A : Option Addr) (m d : Nat) (p : List Int) (x : Tl) (w : World) (hm : m ≤ 6) (hl : p.length = m) (hg : w.cell? ⟨g, 0, none⟩ = some (.slice A m d)) (hA : IR w w.heap.size A p) (hx : tileOk (m : Int) x = true) :
    Calls Try.prog 80 #[tv x, .pointer (some ⟨g, 0, none⟩)] w fun e w' => e = .returned (tv (renT p x)) ∧ Ext w w' := by
  obtain ⟨x0, x1, x2, x3⟩ := x
  simp only [tileOk, decide_eq_true_eq] at hx
  obtain ⟨j0, rfl⟩ : ∃ n : Nat, x0 = (n : Int) := ⟨x0.toNat, by omega⟩
  obtain ⟨j1, rfl⟩ : ∃ n : Nat, x1 = (n : Int) := ⟨x1.toNat, by omega⟩
  obtain ⟨j2, rfl⟩ : ∃ n : Nat, x2 = (n : Int) := ⟨x2.toNat, by omega⟩
  obtain ⟨j3, rfl⟩ : ∃ n : Nat, x3 = (n : Int) := ⟨x3.toNat, by omega⟩
  obtain ⟨b, o, rfl, hbl, hc⟩ := hA (by omega)
  have c0 := hc j0 (by omega)
  have c1 := hc j1 (by omega)
  have c2 := hc j2 (by omega)
  have c3 := hc j3 (by omega)
  have l0 : (j0 : Int) < m := by omega
  have l1 : (j1 : Int) < m := by omega
  have l2 : (j2 : Int) < m := by omega
  have l3 : (j3 : Int) < m := by omega
  have hgl := World.block_lt_of_cell? w _ hg
  simp only at hgl
  unfold tv renT
  simp only [Int.toNat_natCast]
  generalize p.getD j0 0 = y0 at c0
  generalize p.getD j1 0 = y1 at c1
  generalize p.getD j2 0 = y2 at c2
  generalize p.getD j3 0 = y3 at c3
  have i0 : ∀ w, (Instr.index 59 (.agg #[.int .i64 (j0 : Int), .int .i64 (j1 : Int), .int .i64 (j2 : Int), .int .i64 (j3 : Int)]) (.int .i64 0)).run Try.prog w = .ok (.int .i64 (j0 : Int)) w := fun _ => by kernel_rfl
  have i1 : ∀ w, (Instr.index 59 (.agg #[.int .i64 (j0 : Int), .int .i64 (j1 : Int), .int .i64 (j2 : Int), .int .i64 (j3 : Int)]) (.int .i64 1)).run Try.prog w = .ok (.int .i64 (j1 : Int)) w := fun _ => by kernel_rfl
  have i2 : ∀ w, (Instr.index 59 (.agg #[.int .i64 (j0 : Int), .int .i64 (j1 : Int), .int .i64 (j2 : Int), .int .i64 (j3 : Int)]) (.int .i64 2)).run Try.prog w = .ok (.int .i64 (j2 : Int)) w := fun _ => by kernel_rfl
  have i3 : ∀ w, (Instr.index 59 (.agg #[.int .i64 (j0 : Int), .int .i64 (j1 : Int), .int .i64 (j2 : Int), .int .i64 (j3 : Int)]) (.int .i64 3)).run Try.prog w = .ok (.int .i64 (j3 : Int)) w := fun _ => by kernel_rfl
  have hog : ∀ o1 o2 o3 i, (((w.alloc o1).alloc o2).alloc o3).cell? ⟨g, i, none⟩ = w.cell? ⟨g, i, none⟩ := fun o1 o2 o3 i => ((((Ext.refl w).alloc o1).alloc o2).alloc o3).below (Nat.le_refl _) |>.cell (p := ⟨g, i, none⟩) hgl
  have hob : ∀ o1 o2 o3 i, (((w.alloc o1).alloc o2).alloc o3).cell? ⟨b, i, none⟩ = w.cell? ⟨b, i, none⟩ := fun o1 o2 o3 i => ((((Ext.refl w).alloc o1).alloc o2).alloc o3).below (Nat.le_refl _) |>.cell (p := ⟨b, i, none⟩) hbl
  clear hc hx hA
  go_enter Try.func80, Try.ntmps80
  go_wp2_with fail
  refine wp_loop_rounds 5 ?_
  rw [rounds_succ]
  go_wp2
  rw [rounds_succ]
  go_wp2
  rw [rounds_succ]
  go_wp2
  rw [rounds_succ]
  go_wp2
  rw [rounds_succ]
  go_wp2
  go_returns
  exact ⟨rfl, by repeat (first | exact Ext.refl _ | refine Ext.drewN ?_ _ | refine Ext.alloc ?_ _ | refine Ext.drew ?_)⟩

set_option maxRecDepth 100000 in
set_option maxHeartbeats 2000000 in
theorem l01Renamed_any (c0 : Int) (A : Option Addr) (n c : Nat) (ts : List Tl) (P0 : Option Addr) (m d : Nat) (p : List Int) (w : World) (hn : n ≤ 65536) (hl : ts.length = n) (hA : TR w w.heap.size A ts) (hm : m ≤ 6) (hlp : p.length = m) (hP : IR w w.heap.size P0 p) (hok : ∀ t ∈ ts, tileOk (m : Int) t = true) :
    Calls Try.prog 77 #[.agg #[.int .i64 c0, .slice A n c], .slice P0 m d] w fun e w' => ∃ A' cap, e = .returned (.agg #[.int .i64 c0, .slice A' (sortT (ts.map (renT p))).length cap]) ∧ Below w.heap.size w w' ∧ TW w' w.heap.size A' (sortT (ts.map (renT p))) := by
  obtain ⟨i0, hi, hz0, hz1, hz2⟩ := info_parts info_tile
  have HI := Lib.hid (And.intro hi (And.intro hz0 (And.intro hz1 hz2)))
  clear hi hz0 hz1 hz2
  go_enter Try.func77, Try.ntmps77
  go_wp2_with fail
  obtain ⟨W0, hW0⟩ : ∃ W0, ((w.alloc (Obj.cells #[.int .i64 c0, .slice A n c] 35)).alloc (Obj.cells #[.int .i64 0, .slice none 0 0] 35)) = W0 := ⟨_, rfl⟩
  have hs0 : W0.heap.size = w.heap.size + 2 := by rw [← hW0]; simp
  have hE : Ext w W0 := by rw [← hW0]; exact ((Ext.refl w).alloc _).alloc _
  have hB0 : Blk W0 w.heap.size 35 #[.int .i64 c0, .slice A n c] := by rw [← hW0]; exact (Blk.new w _ _).ext ((Ext.refl _).alloc _)
  have hR0 : Blk W0 (w.heap.size + 1) 35 #[.int .i64 0, .slice none 0 0] := by rw [← hW0]; have := Blk.new (w.alloc (Obj.cells #[.int .i64 c0, .slice A n c] 35)) 35 #[.int .i64 0, .slice none 0 0]; simpa using this
  have HH := Lib.hid (And.intro hs0 (And.intro hE (And.intro hB0 hR0)))
  rw [hW0]
  clear hW0 hE hB0 hR0
  rw [show w.heap.size + 1 + 1 = W0.heap.size by omega]
  clear hs0
  go_loopw [5, 6] (fun v i wr => ∃ k : Nat, k ≤ n ∧ i = .int .i64 k ∧ wr.ownsRow W0.heap.size 59 4 v k (flat ((ts.map (renT p)).take k)) ∧ Below W0.heap.size W0 wr) (fun _ i _ => n - (intOf i).toNat)
  case atStart => exact ⟨0, Nat.zero_le _, rfl, World.ownsRow_made (base := W0.heap.size) (e := 59) (size := 4) W0 #[] 0 (Nat.le_refl _) (by unfold maxLen; omega) rfl, (Below.refl _ _).alloc (Nat.le_refl _) _⟩
  case round =>
    obtain ⟨k, hk, rfl, hown, hb⟩ := hrel
    have HO := Lib.hid hown
    have HB := Lib.hid hb
    have hB1 := HH.out.2.2.1.below hb HH.out.2.2.1.lt
    have b0 := hB1.rd 0 rfl
    have b1 := hB1.rd 1 rfl
    clear hB1
    by_cases hlt : k < n
    · obtain ⟨b, off, rfl, hbl, hc⟩ := ((hA.ext HH.out.2.1 (Nat.le_refl _)).below hb (by have := HH.out.1; omega)) (by omega)
      replace hc := hc k (by omega)
      clear hown hb hA
      have hX : renT p (ts.getD k T0) = (ts.map (renT p)).getD k T0 := (map_getD ts (renT p) (by omega)).symm
      have hx := hok _ (show ts.getD k T0 ∈ ts by simp [List.getD, show k < ts.length by omega])
      have hP2 := (hP.ext HH.out.2.1 (Nat.le_refl _)).below HB.out (by have := HH.out.1; omega)
      generalize ts.getD k T0 = x at hc hX hx
      obtain ⟨x0, x1, x2, x3⟩ := x
      obtain ⟨d0, d1, d2, d3⟩ := hc
      simp only at d0 d1 d2 d3
      simp only [tileOk, decide_eq_true_eq] at hx
      obtain ⟨j0, rfl⟩ : ∃ n : Nat, x0 = (n : Int) := ⟨x0.toNat, by omega⟩
      obtain ⟨j1, rfl⟩ : ∃ n : Nat, x1 = (n : Int) := ⟨x1.toNat, by omega⟩
      obtain ⟨j2, rfl⟩ : ∃ n : Nat, x2 = (n : Int) := ⟨x2.toNat, by omega⟩
      obtain ⟨j3, rfl⟩ : ∃ n : Nat, x3 = (n : Int) := ⟨x3.toNat, by omega⟩
      obtain ⟨bp, op, rfl, hbp, hcp⟩ := hP2 (by omega)
      have p0 := hcp j0 (by omega)
      have p1 := hcp j1 (by omega)
      have p2 := hcp j2 (by omega)
      have p3 := hcp j3 (by omega)
      have l0 : (j0 : Int) < m := by omega
      have l1 : (j1 : Int) < m := by omega
      have l2 : (j2 : Int) < m := by omega
      have l3 : (j3 : Int) < m := by omega
      have hbq : bp < W0.heap.size := by
        obtain ⟨b', o', e, h1, _⟩ := hP (by omega)
        cases e
        have := HH.out.1
        omega
      simp only [renT, Int.toNat_natCast] at hX
      generalize p.getD j0 0 = y0 at p0 hX
      generalize p.getD j1 0 = y1 at p1 hX
      generalize p.getD j2 0 = y2 at p2 hX
      generalize p.getD j3 0 = y3 at p3 hX
      have p0 := (Ext.below ((Ext.refl wr).alloc (Obj.cells #[.int .i64 j0, .int .i64 j1, .int .i64 j2, .int .i64 j3] 59)) (Nat.le_refl _)).cell (p := ⟨bp, op + j0, none⟩) (by have := HB.out.size; show bp < _; omega) |>.trans p0
      have p1 := (Ext.below ((Ext.refl wr).alloc (Obj.cells #[.int .i64 j0, .int .i64 j1, .int .i64 j2, .int .i64 j3] 59)) (Nat.le_refl _)).cell (p := ⟨bp, op + j1, none⟩) (by have := HB.out.size; show bp < _; omega) |>.trans p1
      have p2 := (Ext.below ((Ext.refl wr).alloc (Obj.cells #[.int .i64 j0, .int .i64 j1, .int .i64 j2, .int .i64 j3] 59)) (Nat.le_refl _)).cell (p := ⟨bp, op + j2, none⟩) (by have := HB.out.size; show bp < _; omega) |>.trans p2
      have p3 := (Ext.below ((Ext.refl wr).alloc (Obj.cells #[.int .i64 j0, .int .i64 j1, .int .i64 j2, .int .i64 j3] 59)) (Nat.le_refl _)).cell (p := ⟨bp, op + j3, none⟩) (by have := HB.out.size; show bp < _; omega) |>.trans p3
      clear hx hP hP2 hcp
      have EX := Lib.hid hX
      clear hX
      go_wp2_with fail
      have O2 := Lib.hid (own_ext HO.out ((Ext.refl wr).alloc (Obj.cells #[.int .i64 j0, .int .i64 j1, .int .i64 j2, .int .i64 j3] 59)))
      have B2 := Lib.hid (HB.out.alloc HB.out.size (Obj.cells #[.int .i64 j0, .int .i64 j1, .int .i64 j2, .int .i64 j3] 59))
      have hT := Blk.new wr 59 #[.int .i64 j0, .int .i64 j1, .int .i64 j2, .int .i64 j3]
      have t0 := hT.rd 0 rfl
      have t1 := hT.rd 1 rfl
      have t2 := hT.rd 2 rfl
      have t3 := hT.rd 3 rfl
      have hzz : wr.heap.size < (wr.alloc (Obj.cells #[.int .i64 j0, .int .i64 j1, .int .i64 j2, .int .i64 j3] 59)).heap.size := by simp
      have hne3 : some bp ≠ u5.ownBlock := fun e => by have := (HO.out.lt bp e.symm).1; omega
      have hne2 := fun (e : some wr.heap.size = _) => Nat.lt_irrefl _ (HO.out.lt wr.heap.size e.symm).2
      clear hT HO HB d0 d1 d2 d3 b0 b1
      generalize wr.heap.size = gt at *
      generalize wr.alloc (Obj.cells #[.int .i64 j0, .int .i64 j1, .int .i64 j2, .int .i64 j3] 59) = w2 at *
      have N3 := Lib.hid hne3
      clear hne3
      go_region_held3 (fun w' => (w'.cell? ⟨gt, 0, none⟩ = some (.int .i64 j0) ∧ w'.cell? ⟨gt, 1, none⟩ = some (.int .i64 j1) ∧ w'.cell? ⟨gt, 2, none⟩ = some (.int .i64 j2) ∧ w'.cell? ⟨gt, 3, none⟩ = some (.int .i64 j3) ∧ w'.cell? ⟨bp, op + j0, none⟩ = some (.int .i64 y0) ∧ w'.cell? ⟨bp, op + j1, none⟩ = some (.int .i64 y1) ∧ w'.cell? ⟨bp, op + j2, none⟩ = some (.int .i64 y2) ∧ w'.cell? ⟨bp, op + j3, none⟩ = some (.int .i64 y3)))
        (first | go_keep | (exact ⟨hgrow6.cell (by go_simp) hne2, hgrow6.cell (by go_simp) hne2, hgrow6.cell (by go_simp) hne2, hgrow6.cell (by go_simp) hne2, hgrow6.cell (by go_simp) N3.out, hgrow6.cell (by go_simp) N3.out, hgrow6.cell (by go_simp) N3.out, hgrow6.cell (by go_simp) N3.out⟩))
        (first | (refine step_append_any _ (by rfl) _ _ _ (by rfl) W0.heap.size 59 i0 _ 4 32 Try.underlying33 HI.out.1 HI.out.2.1 HI.out.2.2.1 HI.out.2.2.2 rfl (by decide) _ k (flat ((ts.map (renT p)).take k)) (by rfl) (O2.out.alloc _).drew _ _ _ _ (enc (y0, y1, y2, y3)) (by rfl) (Reads.of_own (World.ownsRow_lit (base := w2.heap.size) (e := 59) (size := 4) w2 #[.int .i64 y0, .int .i64 y1, .int .i64 y2, .int .i64 y3] 1 (Nat.le_refl _) (by unfold maxLen; omega) rfl)).drew (enc_one (y0, y1, y2, y3)) (by unfold maxLen; omega) (by omega) (by have := B2.out.size; simp; omega) ?_; intro v6 w6 hown6 hgrow6 hat6))
      have O3 := Lib.hid (own_step (us := ts.map (renT p)) (k := k) (y := (y0, y1, y2, y3)) (by simp; omega) EX.out hown6)
      have B3 := Lib.hid (((B2.out.alloc B2.out.size _).drew).grown hgrow6 (by have := B2.out.size; simp; omega) (fun j hj => (O2.out.lt j hj).1))
      clear hown6 hgrow6 O2 B2 t0 t1 t2 t3 p0 p1 p2 p3
      go_wp2_with fail
      go_roundw
      case rel => exact ⟨k + 1, by omega, by go_num, O3.out, B3.out⟩
      case measure => simp [intOf]; omega
    · clear hown hb hA
      have hmk := HO.out
      obtain rfl : k = n := by omega
      rw [List.take_of_length_le (by simp; omega)] at hmk
      obtain ⟨A2, cap2, rfl, htw⟩ := own_tw hmk (by simp; omega)
      have HM := Lib.hid (l01Made_any c0 A2 k cap2 (ts.map (renT p)) wr hn (by simp; omega) htw.tr)
      clear hmk htw
      go_wp2_with fail
      refine HM.out.mono ?_
      rintro e w2 ⟨A3, cap3, rfl, hb3, htw3⟩
      have L2 := Lib.hid (HB.out.trans (hb3.mono HB.out.size))
      have T2 := Lib.hid htw3
      have hR2 := (HH.out.2.2.2.below HB.out HH.out.2.2.2.lt).below hb3 (HH.out.2.2.2.below HB.out HH.out.2.2.2.lt).lt
      have r0 := hR2.rd 0 rfl
      have r1 := hR2.rd 1 rfl
      have z0 := hR2.frozen 0
      have z1 := hR2.frozen 1
      have HZ := Lib.hid hR2
      clear hR2 hb3 htw3 b0 b1
      go_wp2_with fail
      refine bodyPost_ret (v := .agg #[.int .i64 c0, .slice A3 (sortT (ts.map (renT p))).length cap3]) (by simp [results, Try.results77, go_sem, r0, r1, z0, z1]) rfl ⟨A3, cap3, rfl, ?_, ?_⟩
      · have h0 : Below w.heap.size w w2 := (HH.out.2.1.below (Nat.le_refl _)).trans (L2.out.mono (by have := HH.out.1; omega))
        exact (h0.setCell (by simp) _).setCell (by simp) _
      · have h1 := HB.out.size
        have h2 := HH.out.1
        exact ((T2.out.far (by show _ < _; simp; omega) _).far (by show _ < _; simp; omega) _).low (by omega)

end Go.Proofs.Ytjbnmkiidongmaa
