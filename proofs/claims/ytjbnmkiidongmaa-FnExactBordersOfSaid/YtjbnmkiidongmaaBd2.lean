/- The border words of a filling: the program's side. -/
import Derived.Test.YtjbnmkiidongmaaBd1
import Derived.Test.YtjbnmkiidongmaaFil4
import Derived.Deep.RegionHeld3
import Derived.Deep.RegionLaw
import Derived.Deep.DeepCutAuto
import Derived.RangeFuncBox
import Derived.Lib.Hide
namespace Go.Proofs.Ytjbnmkiidongmaa
set_option linter.unusedVariables false
set_option linter.unusedSimpArgs false
open Go.RowKit Go.Sort

theorem info_rows4 : (Try.prog.info? 41).map (fun i => (i.zero, i.size, i.bytes)) = some (some (.slice none 0 0), 1, 24) := by kernel_rfl
theorem make4 (W : World) : (Instr.makeSlice 22 (.int .i64 4) (.int .i64 4)).run Try.prog W = .ok (.slice (some ⟨W.heap.size, 0, none⟩) 4 4) (W.alloc (.cells #[.slice none 0 0, .slice none 0 0, .slice none 0 0, .slice none 0 0] 41)) := by
  obtain ⟨i0, hi, hz0, hz1, hz2⟩ := info_parts info_rows4
  have h := run_make_rowN (P := Try.prog) 22 41 i0 _ (by kernel_rfl) hi hz0 .i64 .i64 4 4 (Nat.le_refl _) (by rw [hz2]; omega) (by omega) W
  rw [hz1] at h
  have e : madeCells (Value.cells (.slice none 0 0)) (4 * 1) = #[.slice none 0 0, .slice none 0 0, .slice none 0 0, .slice none 0 0] := by
    apply Array.ext
    · simp [size_madeCells]
    · intro i h1 h2
      have h3 : i < 4 := by simpa using h2
      obtain rfl | rfl | rfl | rfl : i = 0 ∨ i = 1 ∨ i = 2 ∨ i = 3 := by omega
      all_goals simp [madeCells, Value.cells]
  rw [e] at h
  exact h
theorem grown_frozen {w w' : World} {row : Option Nat} (hg : w.grownBy w' row) {a : Addr} (hlt : a.block < w.heap.size) (hne : some a.block ≠ row) {r : Bool} (h : w.frozen? a = r) : w'.frozen? a = r := (World.frozen?_of_block (hg.block _ hlt hne)).trans h
/-- What the loops know: the block K holds the four rows, each in a block of its own beyond K. -/
def RowsAt (w : World) (K : Nat) (v0 v1 v2 v3 : Value) (a b c d : List Int) : Prop := Blk w K 41 #[v0, v1, v2, v3] ∧ R4 w (K + 1) v0 v1 v2 v3 a b c d
theorem RowsAt.ne {w : World} {K : Nat} {v0 v1 v2 v3 : Value} {a b c d : List Int} (h : RowsAt w K v0 v1 v2 v3 a b c d) : v0.ownBlock ≠ some K ∧ v1.ownBlock ≠ some K ∧ v2.ownBlock ≠ some K ∧ v3.ownBlock ≠ some K :=
  ⟨fun e => by have := (h.2.o0.lt e).1; omega, fun e => by have := (h.2.o1.lt e).1; omega, fun e => by have := (h.2.o2.lt e).1; omega, fun e => by have := (h.2.o3.lt e).1; omega⟩
theorem RowsAt.ext {w w' : World} {K : Nat} {v0 v1 v2 v3 : Value} {a b c d : List Int} (h : RowsAt w K v0 v1 v2 v3 a b c d) (hx : Ext w w') : RowsAt w' K v0 v1 v2 v3 a b c d := ⟨h.1.ext hx, h.2.ext hx⟩
theorem OwnI.low {w : World} {base lo : Nat} {v : Value} {xs : List Int} (h : OwnI w base v xs) (hl : lo ≤ base) : OwnI w lo v xs := by
  refine ⟨h.1, ?_⟩
  rcases h.2 with h0 | ⟨g, cap, cur, e, hb, hg, r⟩
  · exact .inl h0
  · exact .inr ⟨g, cap, cur, e, Nat.le_trans hl hb, hg, r⟩
theorem R4.lowr {w : World} {base lo : Nat} {v0 v1 v2 v3 : Value} {a b c d : List Int} (h : R4 w base v0 v1 v2 v3 a b c d) (hl : lo ≤ base) : R4 w lo v0 v1 v2 v3 a b c d := ⟨h.o0.low hl, h.o1.low hl, h.o2.low hl, h.o3.low hl, h.d01, h.d02, h.d03, h.d12, h.d13, h.d23⟩
/-- A row has grown and is stored at its place. -/
theorem RowsAt.stored {w' : World} {K i : Nat} {u0 u1 u2 u3 v' : Value} {a b c d : List Int} {cs : Array Value} (hb : Blk w' K 41 cs) (h : R4 w' (K + 1) u0 u1 u2 u3 a b c d) (hcs : cs.setIfInBounds i v' = #[u0, u1, u2, u3]) :
    RowsAt (w'.setCell ⟨K, i, none⟩ v') K u0 u1 u2 u3 a b c d := by
  refine ⟨?_, h.set_far _ (fun e => ?_) (fun e => ?_) (fun e => ?_) (fun e => ?_)⟩
  · rw [← hcs]
    exact hb.set_ _ _
  · have := (h.o0.lt e).1; simp at this; omega
  · have := (h.o1.lt e).1; simp at this; omega
  · have := (h.o2.lt e).1; simp at this; omega
  · have := (h.o3.lt e).1; simp at this; omega

set_option maxRecDepth 100000 in
set_option maxHeartbeats 4000000 in
theorem implBorders_0 (c0 : Int) (A : Option Addr) (n c : Nat) (ts : List Tl) (B : Option Addr) (m p : Nat) (rs : List (List Int)) (e d : Nat) (w : World) (hn : n ≤ 1048576) (hl : ts.length = n) (hA : TR w w.heap.size A ts) (hm : m = e + 1) (he : e < 8) (hd : d < 8) (hlr : rs.length = m) (hB : IRR w w.heap.size B rs) (hrow : ∀ k, k < m → (rs.getD k []).length ≤ 1048576) (hs : isSet c0 ts = true) (hok : rowsOk ts rs = true) (hgood : goodB ts rs = true) (hwd : (rs.getD 0 []).length = d + 1) :
    Calls Try.prog 25 #[.agg #[.int .i64 c0, .slice A n c], .slice B m p] w fun ee w' => ∃ R cap, ee = .returned (.tuple #[.slice R 4 cap, .int .i64 0]) ∧ Below w.heap.size w w' ∧ IWW w' w.heap.size w'.heap.size R (brd ts rs e d) := by
  have hfill : ∀ W, Ext w W → Calls Try.prog 67 #[.agg #[.int .i64 c0, .slice A n c], .slice B m p] W _ := fun W hW => implFilling_any c0 A n c ts B m p rs W hn hl ((hA.ext hW (Nat.le_refl _)).more (hW.below (Nat.le_refl _)).size) (by omega) hlr ((hB.ext hW (Nat.le_refl _)).more (hW.below (Nat.le_refl _)).size) hrow
  rw [fa0 hs hok, hgood, fc0 hs hok] at hfill
  unfold BoolRes at hfill
  have HF := Lib.hid hfill
  have hmk := make4
  clear hfill hrow
  subst hm
  have HSAME := Lib.hid (fun (y : Nat) (hy : y < e + 1) => (rowsOk_same hok (y := y) (by omega)).trans hwd)
  go_enter Try.func25, Try.ntmps25
  go_wp2_with fail
  refine (HF.out _ ((Ext.refl w).alloc _)).mono ?_
  rintro ee W0 ⟨rfl, hx⟩
  have hE0 := (((Ext.refl w).alloc (Obj.cells #[.int .i64 c0, .slice A n c] 35)).below (Nat.le_refl _)).trans (hx.mono (by simp))
  have hS0 := (Blk.new w 35 #[.int .i64 c0, .slice A n c]).below hx (by simp)
  obtain ⟨W1, hW1⟩ : ∃ W1, W0.alloc (Obj.cells #[.slice none 0 0, .slice none 0 0, .slice none 0 0, .slice none 0 0] 41) = W1 := ⟨_, rfl⟩
  have hs1 : W1.heap.size = W0.heap.size + 1 := by rw [← hW1]; simp
  have hE : Below w.heap.size w W1 := by rw [← hW1]; exact hE0.alloc hE0.size _
  have hS : Blk W1 w.heap.size 35 #[.int .i64 c0, .slice A n c] := by rw [← hW1]; exact hS0.ext ((Ext.refl _).alloc _)
  have hK : Blk W1 W0.heap.size 41 #[.slice none 0 0, .slice none 0 0, .slice none 0 0, .slice none 0 0] := by rw [← hW1]; exact Blk.new W0 _ _
  have hwK : w.heap.size < W0.heap.size := hS0.lt
  have on : OwnI W1 (W0.heap.size + 1) (.slice none 0 0) [] := World.ownsRow_nil _ _ _ _
  have dn : Dis (.slice none 0 0) (.slice none 0 0) := fun g e1 => by simp [Value.ownBlock] at e1
  have H40 := Lib.hid (show RowsAt W1 W0.heap.size (.slice none 0 0) (.slice none 0 0) (.slice none 0 0) (.slice none 0 0) [] [] [] [] from ⟨hK, on, on, on, on, dn, dn, dn, dn, dn, dn⟩)
  have HH := Lib.hid (And.intro hE (And.intro hS (show W0.heap.size + 1 ≤ W1.heap.size by omega)))
  clear hx hE0 hS0 hE hS hK on dn
  obtain ⟨bx, ox, _, _, _, b, o, _, rfl, _, _, _, _, _, rfl, _, _⟩ := read_tile (hA.below HH.out.1 (Nat.le_refl _)) (hB.below HH.out.1 (Nat.le_refl _)) hok (y := 0) (x := 0) (by omega) (by rw [hwd]; omega)
  go_wp2_with fail
  clear hmk hW1
  have hwd1 : IntKind.i64.wrap (d : Int) = (d : Int) := IntWalk.i64_in _ (by omega)
  have hwe1 : IntKind.i64.wrap (e : Int) = (e : Int) := IntWalk.i64_in _ (by omega)
  have he1 : (e : Int) < (e : Int) + 1 := by omega
  have hd1 : (d : Int) < (d : Int) + 1 := by omega
  have HWD := Lib.hid (And.intro hwd1 hwe1)
  clear hwd1 hwe1
  go_loopw [28] (fun i wr => ∃ (k : Nat) (v0 v1 v2 v3 : Value), k ≤ e + 1 ∧ i = .int .i64 k ∧ RowsAt wr W0.heap.size v0 v1 v2 v3 (rngm (bW ts rs) k) [] (rngm (bE ts rs d) k) [] ∧ Below W0.heap.size W1 wr) (fun i _ => (e + 1) - (intOf i).toNat)
  case atStart => exact ⟨0, _, _, _, _, Nat.zero_le _, rfl, H40.out, Below.refl _ _⟩
  case round =>
    obtain ⟨k, v0, v1, v2, v3, hk, rfl, h4, hbw⟩ := hrel
    have R4a := Lib.hid h4
    have HB := Lib.hid hbw
    clear h4 hbw
    by_cases hlt : k < e + 1
    · obtain ⟨hbx, hb, bq, oq, q, q1, hbq, hcol⟩ := read_row ((hA.below HH.out.1 (Nat.le_refl _)).below HB.out (by omega)) ((hB.below HH.out.1 (Nat.le_refl _)).below HB.out (by omega)) hok (y := k) (by omega) (by rw [HSAME.out k (by omega)]; omega)
      rw [HSAME.out k (by omega)] at q1 hcol
      have HCOL := Lib.hid hcol
      clear hcol
      obtain ⟨j, q2, hj, hT⟩ := HCOL.out 0 (by omega)
      have tj := hT.1
      have EY : bW ts rs k = (tat ts rs k 0).1 := rfl
      generalize (tat ts rs k 0).1 = z at tj EY
      have EZ := Lib.hid EY
      have r1 := (HH.out.2.1.below (B := W0.heap.size) HB.out hwK).rd 1 rfl
      have hj3 : (j : Int) < (n : Int) := by omega
      clear hT EY
      try simp only [Nat.add_zero] at q1 q2 tj
      have rK := R4a.out.1.rd 0 rfl
      have lA : W0.heap.size < wr.heap.size := R4a.out.1.lt
      have lW := HB.out.size
      have n0 : some (w.heap.size) ≠ v0.ownBlock := fun e2 => by have := (R4a.out.2.o0.lt e2.symm).1; omega
      have n1 : some (bq) ≠ v0.ownBlock := fun e2 => by have := (R4a.out.2.o0.lt e2.symm).1; omega
      have n2 : some (b) ≠ v0.ownBlock := fun e2 => by have := (R4a.out.2.o0.lt e2.symm).1; omega
      have n3 : some (W0.heap.size) ≠ v0.ownBlock := fun e2 => by have := (R4a.out.2.o0.lt e2.symm).1; omega
      have NN := Lib.hid (And.intro n0 (And.intro n1 (And.intro n2 n3)))
      clear n0 n1 n2 n3
      have hm1 : (rngm (bW ts rs) k).length + 1 ≤ maxLen := by rw [rngm_len]; unfold maxLen; omega
      have hm2 : ((rngm (bW ts rs) k).length + 1) * 8 ≤ 140737488355328 := by rw [rngm_len]; omega
      have hm3 : W0.heap.size + 1 ≤ (wr.alloc (Obj.cells #[.int .i64 z] 2)).drew.heap.size := by have h2 := HH.out.2.2; simp; omega
      have HM := Lib.hid (And.intro hm1 (And.intro hm2 hm3))
      clear hm1 hm2 hm3
      have zA := fun (ob : Obj) => (R4a.out.1.ext ((Ext.refl _).alloc ob)).frozen 0
      have aA := fun (ob : Obj) (p : Addr) (hp : p.block < wr.heap.size) => (((Ext.refl wr).alloc ob).below (Nat.le_refl _)).cell hp
      have y1 := fun ob => (aA ob ⟨w.heap.size, 1, none⟩ (show w.heap.size < _ by omega)).trans r1
      have y2 := fun ob => (aA ob ⟨bq, oq, none⟩ (show bq < _ by omega)).trans q2
      have y3 := fun ob => (aA ob ⟨b, o + j * 4, none⟩ (show b < _ by omega)).trans tj
      have y4 := fun ob => (aA ob ⟨W0.heap.size, 0, none⟩ lA).trans rK
      clear aA
      go_upto_region 10 with (fail)
      go_cut [] (fun wx => ∃ v' : Value, RowsAt wx W0.heap.size v' v1 v2 v3 (rngm (bW ts rs) (k + 1)) [] (rngm (bE ts rs d) k) [] ∧ Below W0.heap.size wr wx)
      case first =>
        go_region_law (refine step_push (by rfl) (.tmp 35) (.tmp 44) (by rfl) (W0.heap.size + 1) v0 (rngm (bW ts rs) k).length _ (by go_simp) (R4a.out.2.o0.ext (((Ext.refl wr).alloc _).drew)) wr.heap.size z (by go_simp) (heap_alloc_new wr _) HM.out.1 HM.out.2.1 HM.out.2.2 ?_; intro v3 w3 hown3 hgrow3 hat3; obtain ⟨g3, cap3, rfl⟩ := ownsRow_succ hown3; have c3 := hgrow3.cell (y4 _) NN.out.2.2.2; have e3 := grown_frozen hgrow3 (a := ⟨W0.heap.size, 0, none⟩) (by simp; omega) NN.out.2.2.2 (zA _))
        all_goals
          have hx3 := ((Ext.refl wr).alloc (Obj.cells #[.int .i64 z] 2)).drew
          have h43 := ((R4a.out.2).push hx3 (by rw [rngm_len] at hown3 ⊢; exact hown3) hgrow3 hat3)
          rw [show z = (bW ts rs) k from EZ.out.symm, ← rngm_succ] at h43
          have hbk := (hgrow3.block W0.heap.size (by simp; omega) NN.out.2.2.2).trans (R4a.out.1.ext hx3)
          have hst := RowsAt.stored (i := 0) hbk h43 rfl
          have hbl := ((hx3.below (B := W0.heap.size) (by omega)).grown hgrow3 (by simp; omega) (fun g hg => by have := (R4a.out.2.o0.lt hg).1; omega)).setCell (p := ⟨W0.heap.size, 0, none⟩) (Nat.le_refl _) (.slice (some ⟨g3, 0, none⟩) ((rngm (bW ts rs) k).length + 1) cap3)
          have HST := Lib.hid (And.intro hst hbl)
          clear hx3 h43 hbk hst hbl hown3 hgrow3 hat3 c3 e3 y1 y2 y3 y4 zA rK q2 tj r1
          go_wp2_with fail
          go_meet
          exact ⟨_, HST.out.1, HST.out.2⟩
      case rest =>
        clear y1 y2 y3 y4 zA rK r1 q2 tj NN HM
        obtain ⟨v4, h4, hbw2⟩ := hcut
        clear EZ hj3 hj
        have R4b := Lib.hid h4
        have HB2 := Lib.hid (HB.out.trans hbw2)
        obtain ⟨j, q2, hj, hT⟩ := HCOL.out d (by omega)
        replace q2 := (hbw2.cell (p := ⟨bq, oq + d, none⟩) (show bq < _ by omega)).trans q2
        replace hT := hT.keep fun g => hbw2.cell (p := ⟨b, g, none⟩) (show b < _ by omega)
        have tj := hT.2.2.1
        have EY : bE ts rs d k = (tat ts rs k d).2.2.1 := rfl
        generalize (tat ts rs k d).2.2.1 = z at tj EY
        have EZ := Lib.hid EY
        have r1 := (HH.out.2.1.below (B := W0.heap.size) HB2.out hwK).rd 1 rfl
        have hj3 : (j : Int) < (n : Int) := by omega
        have hw1 := HWD.out.1
        clear h4 hbw2 hT EY HB R4a
        have rK := R4b.out.1.rd 2 rfl
        have lA : W0.heap.size < wc.heap.size := R4b.out.1.lt
        have lW := HB2.out.size
        have n0 : some (w.heap.size) ≠ v2.ownBlock := fun e2 => by have := (R4b.out.2.o2.lt e2.symm).1; omega
        have n1 : some (bq) ≠ v2.ownBlock := fun e2 => by have := (R4b.out.2.o2.lt e2.symm).1; omega
        have n2 : some (b) ≠ v2.ownBlock := fun e2 => by have := (R4b.out.2.o2.lt e2.symm).1; omega
        have n3 : some (W0.heap.size) ≠ v2.ownBlock := fun e2 => by have := (R4b.out.2.o2.lt e2.symm).1; omega
        have NN := Lib.hid (And.intro n0 (And.intro n1 (And.intro n2 n3)))
        clear n0 n1 n2 n3
        have hm1 : (rngm (bE ts rs d) k).length + 1 ≤ maxLen := by rw [rngm_len]; unfold maxLen; omega
        have hm2 : ((rngm (bE ts rs d) k).length + 1) * 8 ≤ 140737488355328 := by rw [rngm_len]; omega
        have hm3 : W0.heap.size + 1 ≤ (wc.alloc (Obj.cells #[.int .i64 z] 2)).drew.heap.size := by have h2 := HH.out.2.2; simp; omega
        have HM := Lib.hid (And.intro hm1 (And.intro hm2 hm3))
        clear hm1 hm2 hm3
        have zA := fun (ob : Obj) => (R4b.out.1.ext ((Ext.refl _).alloc ob)).frozen 2
        have aA := fun (ob : Obj) (p : Addr) (hp : p.block < wc.heap.size) => (((Ext.refl wc).alloc ob).below (Nat.le_refl _)).cell hp
        have y1 := fun ob => (aA ob ⟨w.heap.size, 1, none⟩ (show w.heap.size < _ by omega)).trans r1
        have y2 := fun ob => (aA ob ⟨bq, oq + d, none⟩ (show bq < _ by omega)).trans q2
        have y3 := fun ob => (aA ob ⟨b, o + j * 4 + 2, none⟩ (show b < _ by omega)).trans tj
        have y4 := fun ob => (aA ob ⟨W0.heap.size, 2, none⟩ lA).trans rK
        clear aA
        go_upto_region 11 with (fail)
        go_region_law (refine step_push (by rfl) (.tmp 50) (.tmp 62) (by rfl) (W0.heap.size + 1) v2 (rngm (bE ts rs d) k).length _ (by go_simp) (R4b.out.2.o2.ext (((Ext.refl wc).alloc _).drew)) wc.heap.size z (by go_simp) (heap_alloc_new wc _) HM.out.1 HM.out.2.1 HM.out.2.2 ?_; intro v4 w4 hown4 hgrow4 hat4; obtain ⟨g4, cap4, rfl⟩ := ownsRow_succ hown4; have c4 := hgrow4.cell (y4 _) NN.out.2.2.2; have e4 := grown_frozen hgrow4 (a := ⟨W0.heap.size, 2, none⟩) (by simp; omega) NN.out.2.2.2 (zA _))
        all_goals
          have hx4 := ((Ext.refl wc).alloc (Obj.cells #[.int .i64 z] 2)).drew
          have h44 := ((R4b.out.2.sw2).push hx4 (by rw [rngm_len] at hown4 ⊢; exact hown4) hgrow4 hat4).sw2
          rw [show z = (bE ts rs d) k from EZ.out.symm, ← rngm_succ] at h44
          have hbk := (hgrow4.block W0.heap.size (by simp; omega) NN.out.2.2.2).trans (R4b.out.1.ext hx4)
          have hst := RowsAt.stored (i := 2) hbk h44 rfl
          have hbl := ((hx4.below (B := W0.heap.size) (by omega)).grown hgrow4 (by simp; omega) (fun g hg => by have := (R4b.out.2.o2.lt hg).1; omega)).setCell (p := ⟨W0.heap.size, 2, none⟩) (Nat.le_refl _) (.slice (some ⟨g4, 0, none⟩) ((rngm (bE ts rs d) k).length + 1) cap4)
          have HST := Lib.hid (And.intro hst hbl)
          clear hx4 h44 hbk hst hbl hown4 hgrow4 hat4 c4 e4 y1 y2 y3 y4 zA rK q2 tj r1
          go_wp2_with fail
          go_roundw
          case rel => first | exact ⟨k + 1, v4, v1, _, v3, by omega, by go_num, HST.out.1, HB2.out.trans HST.out.2⟩ | ((repeat apply Exists.intro); exact ⟨⟨k + 1, v4, v1, _, v3, by omega, by go_num, HST.out.1, HB2.out.trans HST.out.2⟩, rfl⟩)
          case measure => simp [intOf]; omega
    · obtain rfl : k = e + 1 := by omega
      obtain ⟨W2, hW2⟩ : ∃ W2, W2 = wr := ⟨_, rfl⟩
      subst hW2
      obtain ⟨hbx, hb, tq, ot, tc, t1, hbt, htcol⟩ := read_row ((hA.below HH.out.1 (Nat.le_refl _)).below HB.out (by omega)) ((hB.below HH.out.1 (Nat.le_refl _)).below HB.out (by omega)) hok (y := 0) (by omega) (by rw [HSAME.out 0 (by omega)]; omega)
      rw [HSAME.out 0 (by omega)] at t1 htcol
      have TCOL := Lib.hid htcol
      clear htcol
      obtain ⟨hbx, hb, lq, ol, lc, l1, hbl, hlcol⟩ := read_row ((hA.below HH.out.1 (Nat.le_refl _)).below HB.out (by omega)) ((hB.below HH.out.1 (Nat.le_refl _)).below HB.out (by omega)) hok (y := e) (by omega) (by rw [HSAME.out e (by omega)]; omega)
      rw [HSAME.out e (by omega)] at l1 hlcol
      have LCOL := Lib.hid hlcol
      clear hlcol
      have hw1 := HWD.out.2
      try simp only [Nat.add_zero] at t1
      go_wp2_with fail
      go_region
      clear t1 l1 hw1
      go_wp2_with fail
      go_loopw [77] (fun i wr => ∃ (k : Nat) (u1 u3 : Value), k ≤ d + 1 ∧ i = .int .i64 k ∧ RowsAt wr W0.heap.size v0 u1 v2 u3 (rngm (bW ts rs) (e + 1)) (rngm (bN ts rs) k) (rngm (bE ts rs d) (e + 1)) (rngm (bS ts rs e) k) ∧ Below W0.heap.size W2 wr) (fun i _ => (d + 1) - (intOf i).toNat)
      case atStart => exact ⟨0, v1, v3, Nat.zero_le _, rfl, R4a.out.ext ((Ext.refl _).drewN _), ((Ext.refl _).drewN _).below (by have := R4a.out.1.lt; omega)⟩
      case round =>
        obtain ⟨k, u1, u3, hk, rfl, h4, hbw⟩ := hrel
        have R4d := Lib.hid h4
        have HBl := Lib.hid hbw
        have HB2 := Lib.hid (HB.out.trans hbw)
        by_cases hlt : k < d + 1
        · obtain ⟨j, q2, hj, hT⟩ := TCOL.out k (by omega)
          replace q2 := (hbw.cell (p := ⟨tq, ot + k, none⟩) (show tq < _ by omega)).trans q2
          replace hT := hT.keep fun g => hbw.cell (p := ⟨b, g, none⟩) (show b < _ by omega)
          have tj := hT.2.1
          have EY : bN ts rs k = (tat ts rs 0 k).2.1 := rfl
          generalize (tat ts rs 0 k).2.1 = z at tj EY
          have EZ := Lib.hid EY
          have r1 := (HH.out.2.1.below (B := W0.heap.size) HB2.out hwK).rd 1 rfl
          have hj3 : (j : Int) < (n : Int) := by omega
          clear h4 hbw hT EY
          have rK := R4d.out.1.rd 1 rfl
          have lA : W0.heap.size < wr.heap.size := R4d.out.1.lt
          have lW := HB2.out.size
          have n0 : some (w.heap.size) ≠ u1.ownBlock := fun e2 => by have := (R4d.out.2.o1.lt e2.symm).1; omega
          have n1 : some (tq) ≠ u1.ownBlock := fun e2 => by have := (R4d.out.2.o1.lt e2.symm).1; omega
          have n2 : some (b) ≠ u1.ownBlock := fun e2 => by have := (R4d.out.2.o1.lt e2.symm).1; omega
          have n3 : some (W0.heap.size) ≠ u1.ownBlock := fun e2 => by have := (R4d.out.2.o1.lt e2.symm).1; omega
          have NN := Lib.hid (And.intro n0 (And.intro n1 (And.intro n2 n3)))
          clear n0 n1 n2 n3
          have hm1 : (rngm (bN ts rs) k).length + 1 ≤ maxLen := by rw [rngm_len]; unfold maxLen; omega
          have hm2 : ((rngm (bN ts rs) k).length + 1) * 8 ≤ 140737488355328 := by rw [rngm_len]; omega
          have hm3 : W0.heap.size + 1 ≤ (wr.alloc (Obj.cells #[.int .i64 z] 2)).drew.heap.size := by have h2 := HH.out.2.2; simp; omega
          have HM := Lib.hid (And.intro hm1 (And.intro hm2 hm3))
          clear hm1 hm2 hm3
          have zA := fun (ob : Obj) => (R4d.out.1.ext ((Ext.refl _).alloc ob)).frozen 1
          have aA := fun (ob : Obj) (p : Addr) (hp : p.block < wr.heap.size) => (((Ext.refl wr).alloc ob).below (Nat.le_refl _)).cell hp
          have y1 := fun ob => (aA ob ⟨w.heap.size, 1, none⟩ (show w.heap.size < _ by omega)).trans r1
          have y2 := fun ob => (aA ob ⟨tq, ot + k, none⟩ (show tq < _ by omega)).trans q2
          have y3 := fun ob => (aA ob ⟨b, o + j * 4 + 1, none⟩ (show b < _ by omega)).trans tj
          have y4 := fun ob => (aA ob ⟨W0.heap.size, 1, none⟩ lA).trans rK
          clear aA
          go_upto_region 17 with (fail)
          go_cut [] (fun wx => ∃ v' : Value, RowsAt wx W0.heap.size v0 v' v2 u3 (rngm (bW ts rs) (e + 1)) (rngm (bN ts rs) (k + 1)) (rngm (bE ts rs d) (e + 1)) (rngm (bS ts rs e) k) ∧ Below W0.heap.size wr wx)
          case first =>
            go_region_law (refine step_push (by rfl) (.tmp 83) (.tmp 93) (by rfl) (W0.heap.size + 1) u1 (rngm (bN ts rs) k).length _ (by go_simp) (R4d.out.2.o1.ext (((Ext.refl wr).alloc _).drew)) wr.heap.size z (by go_simp) (heap_alloc_new wr _) HM.out.1 HM.out.2.1 HM.out.2.2 ?_; intro v6 w6 hown6 hgrow6 hat6; obtain ⟨g6, cap6, rfl⟩ := ownsRow_succ hown6; have c6 := hgrow6.cell (y4 _) NN.out.2.2.2; have e6 := grown_frozen hgrow6 (a := ⟨W0.heap.size, 1, none⟩) (by simp; omega) NN.out.2.2.2 (zA _))
            all_goals
              have hx6 := ((Ext.refl wr).alloc (Obj.cells #[.int .i64 z] 2)).drew
              have h46 := ((R4d.out.2.sw1).push hx6 (by rw [rngm_len] at hown6 ⊢; exact hown6) hgrow6 hat6).sw1
              rw [show z = (bN ts rs) k from EZ.out.symm, ← rngm_succ] at h46
              have hbk := (hgrow6.block W0.heap.size (by simp; omega) NN.out.2.2.2).trans (R4d.out.1.ext hx6)
              have hst := RowsAt.stored (i := 1) hbk h46 rfl
              have hbl := ((hx6.below (B := W0.heap.size) (by omega)).grown hgrow6 (by simp; omega) (fun g hg => by have := (R4d.out.2.o1.lt hg).1; omega)).setCell (p := ⟨W0.heap.size, 1, none⟩) (Nat.le_refl _) (.slice (some ⟨g6, 0, none⟩) ((rngm (bN ts rs) k).length + 1) cap6)
              have HST := Lib.hid (And.intro hst hbl)
              clear hx6 h46 hbk hst hbl hown6 hgrow6 hat6 c6 e6 y1 y2 y3 y4 zA rK q2 tj r1
              go_wp2_with fail
              go_meet
              exact ⟨_, HST.out.1, HST.out.2⟩
          case rest =>
            clear y1 y2 y3 y4 zA rK r1 q2 tj NN HM
            obtain ⟨v4, h4, hbw2⟩ := hcut
            clear EZ hj3 hj
            have R4e := Lib.hid h4
            have HBm := Lib.hid (HBl.out.trans hbw2)
            have HB3 := Lib.hid (HB2.out.trans hbw2)
            obtain ⟨j, q2, hj, hT⟩ := LCOL.out k (by omega)
            replace q2 := (HBm.out.cell (p := ⟨lq, ol + k, none⟩) (show lq < _ by omega)).trans q2
            replace hT := hT.keep fun g => HBm.out.cell (p := ⟨b, g, none⟩) (show b < _ by omega)
            have tj := hT.2.2.2
            have EY : bS ts rs e k = (tat ts rs e k).2.2.2 := rfl
            generalize (tat ts rs e k).2.2.2 = z at tj EY
            have EZ := Lib.hid EY
            have r1 := (HH.out.2.1.below (B := W0.heap.size) HB3.out hwK).rd 1 rfl
            have hj3 : (j : Int) < (n : Int) := by omega
            clear h4 hbw2 hT EY HB2 HBl R4d
            have rK := R4e.out.1.rd 3 rfl
            have lA : W0.heap.size < wc.heap.size := R4e.out.1.lt
            have lW := HB3.out.size
            have n0 : some (w.heap.size) ≠ u3.ownBlock := fun e2 => by have := (R4e.out.2.o3.lt e2.symm).1; omega
            have n1 : some (lq) ≠ u3.ownBlock := fun e2 => by have := (R4e.out.2.o3.lt e2.symm).1; omega
            have n2 : some (b) ≠ u3.ownBlock := fun e2 => by have := (R4e.out.2.o3.lt e2.symm).1; omega
            have n3 : some (W0.heap.size) ≠ u3.ownBlock := fun e2 => by have := (R4e.out.2.o3.lt e2.symm).1; omega
            have NN := Lib.hid (And.intro n0 (And.intro n1 (And.intro n2 n3)))
            clear n0 n1 n2 n3
            have hm1 : (rngm (bS ts rs e) k).length + 1 ≤ maxLen := by rw [rngm_len]; unfold maxLen; omega
            have hm2 : ((rngm (bS ts rs e) k).length + 1) * 8 ≤ 140737488355328 := by rw [rngm_len]; omega
            have hm3 : W0.heap.size + 1 ≤ (wc.alloc (Obj.cells #[.int .i64 z] 2)).drew.heap.size := by have h2 := HH.out.2.2; simp; omega
            have HM := Lib.hid (And.intro hm1 (And.intro hm2 hm3))
            clear hm1 hm2 hm3
            have zA := fun (ob : Obj) => (R4e.out.1.ext ((Ext.refl _).alloc ob)).frozen 3
            have aA := fun (ob : Obj) (p : Addr) (hp : p.block < wc.heap.size) => (((Ext.refl wc).alloc ob).below (Nat.le_refl _)).cell hp
            have y1 := fun ob => (aA ob ⟨w.heap.size, 1, none⟩ (show w.heap.size < _ by omega)).trans r1
            have y2 := fun ob => (aA ob ⟨lq, ol + k, none⟩ (show lq < _ by omega)).trans q2
            have y3 := fun ob => (aA ob ⟨b, o + j * 4 + 3, none⟩ (show b < _ by omega)).trans tj
            have y4 := fun ob => (aA ob ⟨W0.heap.size, 3, none⟩ lA).trans rK
            clear aA
            go_upto_region 18 with (fail)
            go_region_law (refine step_push (by rfl) (.tmp 99) (.tmp 109) (by rfl) (W0.heap.size + 1) u3 (rngm (bS ts rs e) k).length _ (by go_simp) (R4e.out.2.o3.ext (((Ext.refl wc).alloc _).drew)) wc.heap.size z (by go_simp) (heap_alloc_new wc _) HM.out.1 HM.out.2.1 HM.out.2.2 ?_; intro v7 w7 hown7 hgrow7 hat7; obtain ⟨g7, cap7, rfl⟩ := ownsRow_succ hown7; have c7 := hgrow7.cell (y4 _) NN.out.2.2.2; have e7 := grown_frozen hgrow7 (a := ⟨W0.heap.size, 3, none⟩) (by simp; omega) NN.out.2.2.2 (zA _))
            all_goals
              have hx7 := ((Ext.refl wc).alloc (Obj.cells #[.int .i64 z] 2)).drew
              have h47 := ((R4e.out.2.sw3).push hx7 (by rw [rngm_len] at hown7 ⊢; exact hown7) hgrow7 hat7).sw3
              rw [show z = (bS ts rs e) k from EZ.out.symm, ← rngm_succ] at h47
              have hbk := (hgrow7.block W0.heap.size (by simp; omega) NN.out.2.2.2).trans (R4e.out.1.ext hx7)
              have hst := RowsAt.stored (i := 3) hbk h47 rfl
              have hbl := ((hx7.below (B := W0.heap.size) (by omega)).grown hgrow7 (by simp; omega) (fun g hg => by have := (R4e.out.2.o3.lt hg).1; omega)).setCell (p := ⟨W0.heap.size, 3, none⟩) (Nat.le_refl _) (.slice (some ⟨g7, 0, none⟩) ((rngm (bS ts rs e) k).length + 1) cap7)
              have HST := Lib.hid (And.intro hst hbl)
              clear hx7 h47 hbk hst hbl hown7 hgrow7 hat7 c7 e7 y1 y2 y3 y4 zA rK q2 tj r1
              go_wp2_with fail
              go_roundw
              case rel => first | exact ⟨k + 1, v4, _, by omega, by go_num, HST.out.1, HBm.out.trans HST.out.2⟩ | ((repeat apply Exists.intro); exact ⟨⟨k + 1, v4, _, by omega, by go_num, HST.out.1, HBm.out.trans HST.out.2⟩, rfl⟩)
              case measure => simp [intOf]; omega
        · obtain rfl : k = d + 1 := by omega
          go_wp2_with fail
          go_ret2
          have h6 := (R4d.out.2.lowr (Nat.le_succ _)).iww R4d.out.1 (Nat.le_refl _) R4d.out.ne.1 R4d.out.ne.2.1 R4d.out.ne.2.2.1 R4d.out.ne.2.2.2
          exact ⟨_, _, rfl, HH.out.1.trans (HB2.out.mono (by omega)), h6.low (by omega)⟩
end Go.Proofs.Ytjbnmkiidongmaa
