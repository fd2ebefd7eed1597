/- Counts of rows by their east colours: the plain step, and the program's array of six. -/
import Derived.Test.YtdkodmmbgflijaaRow
namespace Go.Proofs.Ytdkodmmbgflijaa
set_option linter.unusedVariables false
set_option linter.unusedSimpArgs false
open Go.RowKit Go.Sort

def addT (now nx : Nat → Int) (t : Tl) : Nat → Int := fun e => if e = t.2.2.1.toNat then min (nx e + now t.1.toNat) 1000000000000001 else nx e
/-- Rows that are a tile longer, counted by their east colours, at most 10^15 + 1. -/
def wstep (ts : List Tl) (now : Nat → Int) : Nat → Int := ts.foldl (addT now) (fun _ => 0)
def Cap (f : Nat → Int) : Prop := ∀ e, 0 ≤ f e ∧ f e ≤ 1000000000000001
theorem addT_cap {now nx : Nat → Int} (h1 : Cap now) (h2 : Cap nx) (t : Tl) : Cap (addT now nx t) := by
  intro e
  have a := h1 t.1.toNat
  have b := h2 e
  unfold addT
  split <;> omega
theorem fold_cap {now : Nat → Int} (h1 : Cap now) : ∀ (ts : List Tl) {nx : Nat → Int}, Cap nx → Cap (ts.foldl (addT now) nx)
  | [], _, h => h
  | t :: r, _, h => fold_cap h1 r (addT_cap h1 h t)
theorem wstep_cap {now : Nat → Int} (h : Cap now) (ts : List Tl) : Cap (wstep ts now) := fold_cap h ts (fun _ => ⟨by omega, by omega⟩)
theorem wstep_snoc (ts : List Tl) (now : Nat → Int) {k : Nat} (hk : k < ts.length) : wstep (ts.take (k + 1)) now = addT now (wstep (ts.take k) now) (ts.getD k T0) := by
  rw [take_snoc ts hk]
  simp [wstep, List.foldl_append]

/-- The cells are C numbers. -/
def Arr (cs : Array Value) (C : Nat) (g : Nat → Int) : Prop := cs.size = C ∧ ∀ e, e < C → cs[e]? = some (.int .i64 (g e))
theorem Arr.set {cs : Array Value} {C : Nat} {g : Nat → Int} (h : Arr cs C g) {e : Nat} (v : Int) : Arr (cs.setIfInBounds e (.int .i64 v)) C (fun i => if i = e then v else g i) := by
  refine ⟨by simpa using h.1, fun i hi => ?_⟩
  rw [Array.getElem?_setIfInBounds]
  have := h.1
  by_cases he : e = i
  · subst he
    rw [if_pos rfl, if_pos (by omega)]
    simp
  · have hne : ¬ i = e := fun x => he x.symm
    rw [if_neg he, h.2 i hi]
    simp [hne]
theorem Arr.congr {cs : Array Value} {C : Nat} {g g' : Nat → Int} (h : Arr cs C g) (hg : ∀ e, e < C → g e = g' e) : Arr cs C g' := ⟨h.1, fun e he => by rw [h.2 e he, hg e he]⟩
def l6 (g : Nat → Int) : Array Value := #[.int .i64 (g 0), .int .i64 (g 1), .int .i64 (g 2), .int .i64 (g 3), .int .i64 (g 4), .int .i64 (g 5)]
theorem arr6 (g : Nat → Int) : Arr (l6 g) 6 g := by
  refine ⟨rfl, fun e he => ?_⟩
  have : e = 0 ∨ e = 1 ∨ e = 2 ∨ e = 3 ∨ e = 4 ∨ e = 5 := by omega
  rcases this with rfl | rfl | rfl | rfl | rfl | rfl <;> rfl
theorem arr6_eq {cs : Array Value} {g : Nat → Int} (h : Arr cs 6 g) : cs = l6 g := by
  apply Array.ext_getElem?
  intro i
  rcases Nat.lt_or_ge i 6 with hi | hi
  · rw [h.2 i hi, (arr6 g).2 i hi]
  · rw [Array.getElem?_eq_none (by rw [h.1]; exact hi), Array.getElem?_eq_none (by simpa [l6] using hi)]

set_option maxRecDepth 100000 in
set_option maxHeartbeats 1000000 in
theorem extended_any (f : Nat → Int) (A : Option Addr) (n c : Nat) (ts : List Tl) (w : World) (hf : Cap f) (hn : n ≤ 1048576) (hl : ts.length = n) (hA : TR w w.heap.size A ts) (hok : ∀ t ∈ ts, tileOk 6 t = true) :
    Calls Try.prog 86 #[.agg (l6 f), .slice A n c] w fun e w' => e = .returned (.agg (l6 (wstep ts f))) ∧ Below w.heap.size w w' := by
  have HF := Lib.hid hf
  clear hf
  unfold l6
  go_enter Try.func86, Try.ntmps86
  go_wp2_with fail
  obtain ⟨W0, hW0⟩ : ∃ W0, ((w.alloc (Obj.cells #[.int .i64 (f 0), .int .i64 (f 1), .int .i64 (f 2), .int .i64 (f 3), .int .i64 (f 4), .int .i64 (f 5)] 84)).alloc (Obj.cells #[.int .i64 0, .int .i64 0, .int .i64 0, .int .i64 0, .int .i64 0, .int .i64 0] 84)).alloc (Obj.cells #[.int .i64 0, .int .i64 0, .int .i64 0, .int .i64 0, .int .i64 0, .int .i64 0] 84) = W0 := ⟨_, rfl⟩
  have hs0 : W0.heap.size = w.heap.size + 3 := by rw [← hW0]; simp
  have hE : Ext w W0 := by rw [← hW0]; exact (((Ext.refl w).alloc _).alloc _).alloc _
  have b2 : Blk W0 w.heap.size 84 (l6 f) := by rw [← hW0]; exact (Blk.new w 84 (l6 f)).ext (((Ext.refl _).alloc _).alloc _)
  have b4 : Blk W0 (w.heap.size + 1) 84 (l6 fun _ => 0) := by
    rw [← hW0]
    have := (Blk.new (w.alloc (Obj.cells (l6 f) 84)) 84 (l6 fun _ => 0)).ext ((Ext.refl _).alloc (Obj.cells (l6 fun _ => 0) 84))
    rw [show (w.alloc (Obj.cells (l6 f) 84)).heap.size = w.heap.size + 1 by simp] at this
    exact this
  have b5 : Blk W0 (w.heap.size + 2) 84 (l6 fun _ => 0) := by
    rw [← hW0]
    have := Blk.new ((w.alloc (Obj.cells (l6 f) 84)).alloc (Obj.cells (l6 fun _ => 0) 84)) 84 (l6 fun _ => 0)
    rw [show ((w.alloc (Obj.cells (l6 f) 84)).alloc (Obj.cells (l6 fun _ => 0) 84)).heap.size = w.heap.size + 2 by simp] at this
    exact this
  have HH := Lib.hid (And.intro hs0 (And.intro hE (And.intro b2 (And.intro b4 b5))))
  rw [hW0]
  clear hW0 hs0 hE b2 b4 b5
  go_loopw [11] (fun i wr => ∃ k : Nat, k ≤ n ∧ i = .int .i64 k ∧ Blk wr w.heap.size 84 (l6 f) ∧ Blk wr (w.heap.size + 1) 84 (l6 fun _ => 0) ∧ Blk wr (w.heap.size + 2) 84 (l6 (wstep (ts.take k) f)) ∧ Below w.heap.size w wr ∧ w.heap.size + 3 ≤ wr.heap.size) (fun i _ => n - (intOf i).toNat)
  case atStart => exact ⟨0, Nat.zero_le _, rfl, HH.out.2.2.1, HH.out.2.2.2.1, HH.out.2.2.2.2, HH.out.2.1.below (Nat.le_refl _), by have := HH.out.1; omega⟩
  case round =>
    obtain ⟨k, hk, rfl, hb2, hb4, hb5, hbw, hsz⟩ := hrel
    by_cases hlt : k < n
    · obtain ⟨b, o, rfl, hbl, ht⟩ := (hA.below hbw (Nat.le_refl _)) (by omega)
      have hto := hok (ts.getD k T0) (by have : ts.getD k T0 = ts[k]'(by omega) := by simp [List.getD, hl, hlt]
                                         rw [this]; exact List.getElem_mem _)
      have hst := wstep_snoc ts f (k := k) (by omega)
      replace ht := ht k (by omega)
      have hcap := wstep_cap HF.out (ts.take k)
      generalize ts.getD k T0 = t at ht hto hst
      generalize hg : wstep (ts.take k) f = g at hb5 hst hcap
      obtain ⟨x0, x1, x2, x3⟩ := t
      simp only [tileOk, decide_eq_true_eq] at hto
      obtain ⟨a, rfl⟩ : ∃ a : Nat, x0 = (a : Int) := ⟨x0.toNat, by omega⟩
      obtain ⟨e, rfl⟩ : ∃ e : Nat, x2 = (e : Int) := ⟨x2.toNat, by omega⟩
      have ha : a < 6 := by omega
      have he : e < 6 := by omega
      have ha3 : (a : Int) < 6 := by omega
      have he3 : (e : Int) < 6 := by omega
      obtain ⟨c0, c1, c2, c3⟩ := ht
      simp only at c0 c1 c2 c3
      have hx : Ext wr (wr.alloc (.cells #[.int .i64 a, .int .i64 x1, .int .i64 e, .int .i64 x3] 60)) := (Ext.refl _).alloc _
      have d2 : (wr.alloc (.cells #[.int .i64 a, .int .i64 x1, .int .i64 e, .int .i64 x3] 60)).cell? ⟨w.heap.size, a, none⟩ = some (.int .i64 (f a)) := (((hb2.ext hx).cell a).trans ((arr6 f).2 a ha))
      have d5 : (wr.alloc (.cells #[.int .i64 a, .int .i64 x1, .int .i64 e, .int .i64 x3] 60)).cell? ⟨w.heap.size + 2, e, none⟩ = some (.int .i64 (g e)) := (((hb5.ext hx).cell e).trans ((arr6 g).2 e he))
      have hca := HF.out a
      have hce := hcap e
      have HB := Lib.hid (And.intro (hb2.ext hx) (And.intro (hb4.ext hx) (And.intro (hb5.ext hx) (And.intro (hbw.trans (hx.below hbw.size)) hg))))
      have f5 := (hb5.ext hx).frozen e
      have HST := Lib.hid hst
      have hsum1 : 0 ≤ g e + f a := by omega
      have hsum2 : g e + f a ≤ 2000000000000002 := by omega
      clear hA hok hb2 hb4 hb5 hbw hst hcap hg hx hto
      go_wp2_with fail
      go_quiet (fail)
      go_wp2_with fail
      go_roundw
      case rel =>
        have hmin : (if (1000000000000001 : Int) < g e + f a then 1000000000000001 else g e + f a) = min (g e + f a) 1000000000000001 := by
          rw [Int.min_def]
          split <;> split <;> omega
        rw [hmin]
        refine ⟨k + 1, by omega, by go_num, ?_, ?_, ?_, ?_, ?_⟩
        · exact (Blk.ext HB.out.1 ((Ext.refl _).drewN nq)).far (by show _ ≠ w.heap.size + 1 + 1; omega) _
        · exact (Blk.ext HB.out.2.1 ((Ext.refl _).drewN nq)).far (by show _ ≠ w.heap.size + 1 + 1; omega) _
        · have h5 := (Blk.ext HB.out.2.2.1 ((Ext.refl _).drewN nq)).set_ e (.int .i64 (min (g e + f a) 1000000000000001))
          rw [arr6_eq ((arr6 g).set (e := e) (min (g e + f a) 1000000000000001))] at h5
          have hadd : (fun i => if i = e then min (g e + f a) 1000000000000001 else g i) = addT f g ((a : Int), x1, (e : Int), x3) := by
            funext i
            simp only [addT, Int.toNat_natCast]
            by_cases hie : i = e
            · subst hie; rfl
            · rw [if_neg hie, if_neg hie]
          rw [HST.out, ← hadd]
          exact h5
        · exact (HB.out.2.2.2.1.trans (((Ext.refl _).drewN nq).below HB.out.2.2.2.1.size)).setCell (by show w.heap.size ≤ w.heap.size + 1 + 1; omega) _
        · simp
          omega
      case measure => simp [intOf]; omega
    · have HB2 := Lib.hid (And.intro hb2 (And.intro hb4 (And.intro hb5 hbw)))
      have d0 := hb5.rd 0 (v := .int .i64 (wstep (ts.take k) f 0)) rfl
      have e0 := hb4.rd 0 (v := .int .i64 0) rfl
      have d1 := hb5.rd 1 (v := .int .i64 (wstep (ts.take k) f 1)) rfl
      have e1 := hb4.rd 1 (v := .int .i64 0) rfl
      have d2 := hb5.rd 2 (v := .int .i64 (wstep (ts.take k) f 2)) rfl
      have e2 := hb4.rd 2 (v := .int .i64 0) rfl
      have d3 := hb5.rd 3 (v := .int .i64 (wstep (ts.take k) f 3)) rfl
      have e3 := hb4.rd 3 (v := .int .i64 0) rfl
      have d4 := hb5.rd 4 (v := .int .i64 (wstep (ts.take k) f 4)) rfl
      have e4 := hb4.rd 4 (v := .int .i64 0) rfl
      have d5 := hb5.rd 5 (v := .int .i64 (wstep (ts.take k) f 5)) rfl
      have e5 := hb4.rd 5 (v := .int .i64 0) rfl
      have z0 := hb4.frozen 0
      have z1 := hb4.frozen 1
      have z2 := hb4.frozen 2
      have z3 := hb4.frozen 3
      have z4 := hb4.frozen 4
      have z5 := hb4.frozen 5
      clear hA hok hb2 hb4 hb5 hbw
      go_wp2_with fail
      obtain rfl : k = n := by omega
      rw [List.take_of_length_le (by omega)] at d0 d1 d2 d3 d4 d5 ⊢
      refine bodyPost_ret (v := .agg (l6 (wstep ts f))) (by simp [results, Try.results86, go_sem, l6, e0, e1, e2, e3, e4, e5, z0, z1, z2, z3, z4, z5]) rfl ⟨rfl, ?_⟩
      exact (((((HB2.out.2.2.2.setCell (by simp) _).setCell (by simp) _).setCell (by simp) _).setCell (by simp) _).setCell (by simp) _).setCell (by simp) _
end Go.Proofs.Ytdkodmmbgflijaa
