/- Slices of tiles and sets in memory; two of them compared. -/
import Derived.Test.YtcakbnfpmpdljaaT1
namespace Go.Proofs.Ytcakbnfpmpdljaa
set_option linter.unusedVariables false
set_option linter.unusedSimpArgs false
open Go.RowKit Go.Sort

abbrev T0 : Tl := (0, 0, 0, 0)
/-- The four cells at an address hold the tile x. -/
def Cell4 (w : World) (b o : Nat) (x : Tl) : Prop :=
  w.cell? ⟨b, o, none⟩ = some (.int .i64 x.1) ∧ w.cell? ⟨b, o + 1, none⟩ = some (.int .i64 x.2.1) ∧ w.cell? ⟨b, o + 2, none⟩ = some (.int .i64 x.2.2.1) ∧ w.cell? ⟨b, o + 3, none⟩ = some (.int .i64 x.2.2.2)
theorem Cell4.keep {w w' : World} {b o : Nat} {x : Tl} (h : Cell4 w b o x) (hk : ∀ i, w'.cell? ⟨b, i, none⟩ = w.cell? ⟨b, i, none⟩) : Cell4 w' b o x :=
  ⟨(hk _).trans h.1, (hk _).trans h.2.1, (hk _).trans h.2.2.1, (hk _).trans h.2.2.2⟩
/-- The slice at A reads as the tiles ts, all of it below block B. -/
def TR (w : World) (B : Nat) (A : Option Addr) (ts : List Tl) : Prop :=
  0 < ts.length → ∃ b off, A = some ⟨b, off, none⟩ ∧ b < B ∧ ∀ k, k < ts.length → Cell4 w b (off + k * 4) (ts.getD k T0)
theorem TR.keep {w w' : World} {B : Nat} {A : Option Addr} {ts : List Tl} (h : TR w B A ts) (hk : ∀ b, b < B → ∀ i, w'.cell? ⟨b, i, none⟩ = w.cell? ⟨b, i, none⟩) : TR w' B A ts := fun h0 => by
  obtain ⟨b, off, e, hb, hc⟩ := h h0
  exact ⟨b, off, e, hb, fun k hk' => (hc k hk').keep (hk b hb)⟩
theorem TR.below {w w' : World} {B B' : Nat} {A : Option Addr} {ts : List Tl} (h : TR w B A ts) (hB : Below B' w w') (hle : B ≤ B') : TR w' B A ts :=
  h.keep fun b hb i => hB.cell (p := ⟨b, i, none⟩) (by show b < B'; omega)
theorem TR.more {w : World} {B B' : Nat} {A : Option Addr} {ts : List Tl} (h : TR w B A ts) (hle : B ≤ B') : TR w B' A ts := fun h0 => by
  obtain ⟨b, off, e, hb, hc⟩ := h h0
  exact ⟨b, off, e, by omega, hc⟩
theorem TR.ext {w w' : World} {B : Nat} {A : Option Addr} {ts : List Tl} (h : TR w B A ts) (hx : Ext w w') (hB : B ≤ w.heap.size) : TR w' B A ts := h.below (hx.below (Nat.le_refl _)) hB
/-- What a round of a loop over the slice reads: the four cells in whatever world has grown. -/
theorem TR.at_ {w : World} {B : Nat} {A : Option Addr} {ts : List Tl} (h : TR w B A ts) {k : Nat} (hk : k < ts.length) (hB : B ≤ w.heap.size) :
    ∃ b off, A = some ⟨b, off, none⟩ ∧ b < B ∧ ∀ n os, Cell4 (grow (w.drewN n) os) b (off + k * 4) (ts.getD k T0) := by
  obtain ⟨b, off, e, hb, hc⟩ := h (by omega)
  exact ⟨b, off, e, hb, fun n os => (hc k hk).keep fun i => cell?_grow _ _ _ (by show b < (w.drewN n).heap.size; exact Nat.lt_of_lt_of_le hb hB)⟩

theorem list_eq_of {ts us : List Tl} (hl : ts.length = us.length) (h : ∀ j, j < ts.length → ts.getD j T0 = us.getD j T0) : ts = us := by
  apply List.ext_getElem hl
  intro i h1 h2
  have := h i h1
  simpa [List.getD, h1, h2] using this
theorem mixed : Try.prog.follows .mixedOrders = true := by kernel_rfl

set_option maxRecDepth 100000 in
set_option maxHeartbeats 400000 in
theorem eqTileS_any (A A' : Option Addr) (n n' c c' : Nat) (ts us : List Tl) (w : World) (hn : n ≤ 1152921504606846976) (hl : ts.length = n) (hl' : us.length = n') (hA : TR w w.heap.size A ts) (hA' : TR w w.heap.size A' us) :
   Calls Try.prog 58 #[.slice A n c, .slice A' n' c'] w fun e w' => e = .returned (.bool (decide (ts = us))) ∧ Ext w w' := by
  by_cases hne : n = n'
  · subst hne
    go_enter Try.func58, Try.ntmps58
    go_wp2_with fail
    go_loopw [5] (fun i wr => ∃ k : Nat, k ≤ n ∧ i = .int .i64 k ∧ (∀ j, j < k → ts.getD j T0 = us.getD j T0) ∧ Ext w wr) (fun i _ => n - (intOf i).toNat)
    case atStart => exact ⟨0, Nat.zero_le _, rfl, fun j hj => absurd hj (Nat.not_lt_zero _), Ext.refl _⟩
    case round =>
      obtain ⟨k, hk, rfl, heq, hx⟩ := hrel
      have H := Lib.hid heq
      have HX := Lib.hid hx
      clear heq
      by_cases hlt : k < n
      · obtain ⟨b, off, rfl, -, hc⟩ := (hA.ext hx (Nat.le_refl _)).at_ (k := k) (by omega) (hx.below (Nat.le_refl _)).size
        obtain ⟨b', off', rfl, -, hc'⟩ := (hA'.ext hx (Nat.le_refl _)).at_ (k := k) (by omega) (hx.below (Nat.le_refl _)).size
        clear hx hA hA'
        obtain ⟨⟨x0, x1, x2, x3⟩, hX⟩ : ∃ x, x = ts.getD k T0 := ⟨_, rfl⟩
        obtain ⟨⟨y0, y1, y2, y3⟩, hY⟩ : ∃ x, x = us.getD k T0 := ⟨_, rfl⟩
        rw [← hX] at hc
        rw [← hY] at hc'
        have EX := Lib.hid hX
        have EY := Lib.hid hY
        clear hX hY
        simp only [Cell4, forall_and] at hc hc'
        obtain ⟨c0, c1, c2, c3⟩ := hc
        obtain ⟨d0, d1, d2, d3⟩ := hc'
        have hcon : ∀ W, Calls Try.prog 98 _ W _ := fun W => eqTile_any (x0, x1, x2, x3) (y0, y1, y2, y3) W
        unfold Ext tv at hcon
        generalize hr : eqT (x0, x1, x2, x3) (y0, y1, y2, y3) = r at hcon
        have HR := Lib.hid hr
        clear hr
        have hm := mixed
        go_wp2_with fail
        go_quiet_grown ((go_at_call 98; refine Calls.grown_of (hcon _)))
        clear hm hcon c0 c1 c2 c3 d0 d1 d2 d3
        go_wp2_with fail
        · go_ret
          have hr : r = false := by simp_all
          refine ⟨ret_b ?_, HX.out.trans ⟨nq, osq, rfl⟩⟩
          have := HR.out
          rw [hr] at this
          have hd : (x0, x1, x2, x3) ≠ (y0, y1, y2, y3) := by simpa [eqT] using this
          rw [EX.out, EY.out] at hd
          exact (decide_eq_false (fun e => hd (by rw [e]))).symm
        · have hr : r = true := by simp_all
          refine ⟨⟨k + 1, by omega, by go_num, ?_, HX.out.trans ⟨nq, osq, rfl⟩⟩, by simp [intOf]; omega⟩
          intro j hj
          by_cases hjk : j = k
          · subst hjk
            have := HR.out
            rw [hr] at this
            have hd : (x0, x1, x2, x3) = (y0, y1, y2, y3) := by simpa [eqT] using this
            rw [EX.out, EY.out] at hd
            exact hd
          · exact H.out j (by omega)
      · clear hx hA hA'
        go_wp2_with fail
        go_ret
        refine ⟨ret_b ?_, HX.out⟩
        have hkn : k = n := by omega
        subst hkn
        exact (decide_eq_true (list_eq_of (by omega) (fun j hj => H.out j (by omega)))).symm
  · go_enter Try.func58, Try.ntmps58
    have hq : ((n : Int) != (n' : Int)) = true := by simp; omega
    go_wp2_with fail
    all_goals go_ret
    all_goals exact ⟨ret_b (decide_eq_false (fun e => hne (by rw [← hl, ← hl', e]))).symm, Ext.refl _⟩

set_option maxHeartbeats 400000 in
theorem eqSet_any (c0 c1 : Int) (A A' : Option Addr) (n n' c c' : Nat) (ts us : List Tl) (w : World) (hn : n ≤ 1152921504606846976) (hl : ts.length = n) (hl' : us.length = n') (hA : TR w w.heap.size A ts) (hA' : TR w w.heap.size A' us) :
   Calls Try.prog 18 #[.agg #[.int .i64 c0, .slice A n c], .agg #[.int .i64 c1, .slice A' n' c']] w fun e w' => e = .returned (.bool (decide (c0 = c1 ∧ ts = us))) ∧ Ext w w' := by
  have hcon : ∀ W, Ext w W → Calls Try.prog 58 #[.slice A n c, .slice A' n' c'] W _ := fun W hW => eqTileS_any A A' n n' c c' ts us W hn hl hl' ((hA.ext hW (Nat.le_refl _)).more (hW.below (Nat.le_refl _)).size) ((hA'.ext hW (Nat.le_refl _)).more (hW.below (Nat.le_refl _)).size)
  have HC := Lib.hid hcon
  clear hcon hA hA'
  by_cases hc : c0 = c1
  · subst hc
    go_enter Try.func18, Try.ntmps18
    go_wp2_with fail
    refine (HC.out _ (((Ext.refl w).alloc _).alloc _)).mono ?_
    rintro e w' ⟨rfl, hx⟩
    have HX := Lib.hid hx
    clear hx
    by_cases he : ts = us
    · have hd : decide (ts = us) = true := decide_eq_true he
      rw [hd]
      go_wp2_with fail
      go_ret
      exact ⟨ret_b (by simp [he]), (((Ext.refl w).alloc _).alloc _).trans HX.out⟩
    · have hd : decide (ts = us) = false := decide_eq_false he
      rw [hd]
      go_wp2_with fail
      go_ret
      exact ⟨ret_b (by simp [he]), (((Ext.refl w).alloc _).alloc _).trans HX.out⟩
  · go_enter Try.func18, Try.ntmps18
    have hq : (c0 != c1) = true := by simp; omega
    go_wp2_with fail
    all_goals go_ret
    all_goals exact ⟨ret_b (by simp [hc]), by repeat (first | exact Ext.refl _ | refine Ext.drewN ?_ _ | refine Ext.alloc ?_ _ | refine Ext.drew ?_)⟩
end Go.Proofs.Ytcakbnfpmpdljaa
