/- The lasting tiles: the model's side, a table of bools from which tiles are struck. -/
import Derived.Test.YtcakbnfpmpdljaaLastA
import Derived.Test.YtcakbnfpmpdljaaIsA
import Derived.BigRegion
import Derived.Deep.DeepCutAuto
import Derived.Lib.Hide
import Derived.Test.YtcakbnfpmpdljaaTA
import Derived.Test.YtcakbnfpmpdljaaRen1
namespace Go.Proofs.Ytcakbnfpmpdljaa
section
set_option linter.unusedVariables false
set_option linter.unusedSimpArgs false
open Go.RowKit Go.Sort

/-- Block g tells p for each number below n. -/
def PB (w : World) (g n : Nat) (p : Nat → Bool) : Prop := ∃ cs, Blk w g 4 cs ∧ cs.size = n ∧ ∀ x, x < n → cs[x]? = some (.bool (p x))
theorem PB.lt {w : World} {g n : Nat} {p : Nat → Bool} (h : PB w g n p) : g < w.heap.size := let ⟨_, hb, _⟩ := h; hb.lt
theorem PB.at_ {w : World} {g n : Nat} {p : Nat → Bool} (h : PB w g n p) {x : Nat} (hx : x < n) : w.cell? ⟨g, x, none⟩ = some (.bool (p x)) ∧ w.frozen? ⟨g, x, none⟩ = false := by
  obtain ⟨cs, hb, hs, hc⟩ := h
  exact ⟨(hb.cell x).trans (hc x hx), hb.frozen x⟩
theorem PB.below {w w' : World} {g n : Nat} {p : Nat → Bool} (h : PB w g n p) (hx : Below w.heap.size w w') : PB w' g n p := by
  obtain ⟨cs, hb, hs, hc⟩ := h
  exact ⟨cs, hb.below hx hb.lt, hs, hc⟩
theorem PB.ext {w w' : World} {g n : Nat} {p : Nat → Bool} (h : PB w g n p) (hx : Ext w w') : PB w' g n p := h.below (hx.below (Nat.le_refl _))
theorem PB.congr {w : World} {g n : Nat} {p q : Nat → Bool} (h : PB w g n p) (he : ∀ x, x < n → p x = q x) : PB w g n q := by
  obtain ⟨cs, hb, hs, hc⟩ := h
  exact ⟨cs, hb, hs, fun x hx => by rw [hc x hx, he x hx]⟩
def setP (p : Nat → Bool) (i : Nat) (b : Bool) (x : Nat) : Bool := if x = i then b else p x
theorem PB.set_ {w : World} {g n : Nat} {p : Nat → Bool} (h : PB w g n p) (i : Nat) (b : Bool) : PB (w.setCell ⟨g, i, none⟩ (.bool b)) g n (setP p i b) := by
  obtain ⟨cs, hb, hs, hc⟩ := h
  refine ⟨cs.setIfInBounds i (.bool b), hb.set_ _ _, by simpa using hs, fun y hy => ?_⟩
  rw [Array.getElem?_setIfInBounds]
  unfold setP
  by_cases e : i = y
  · subst e
    rw [if_pos rfl, if_pos (by omega), if_pos rfl]
  · rw [if_neg e, hc y hy, if_neg (fun h => e h.symm)]
/-- How many are true. -/
def cntP (n : Nat) (p : Nat → Bool) : Nat := ((List.range n).filter p).length
theorem cntP_strike {n i : Nat} {p : Nat → Bool} (hi : i < n) (hp : p i = true) : cntP n (setP p i false) < cntP n p := by
  unfold cntP
  have e : (List.range n).filter (setP p i false) = ((List.range n).filter p).filter (fun x => decide (x ≠ i)) := by
    rw [List.filter_filter]
    refine List.filter_congr fun x _ => ?_
    unfold setP
    by_cases h : x = i <;> simp [h]
  rw [e]
  have hm : i ∈ (List.range n).filter p := List.mem_filter.2 ⟨List.mem_range.2 hi, hp⟩
  refine Nat.lt_of_le_of_ne (List.length_filter_le _ _) fun hc => ?_
  have := filter_all hc i hm
  simp at this
/-- The count, read off the memory. -/
def cntW (w : World) (g n : Nat) : Nat := cntP n fun x => match w.cell? ⟨g, x, none⟩ with | some (.bool true) => true | _ => false
theorem PB.cnt {w : World} {g n : Nat} {p : Nat → Bool} (h : PB w g n p) : cntW w g n = cntP n p := by
  unfold cntW cntP
  congr 1
  refine List.filter_congr fun x hx => ?_
  rw [(h.at_ (List.mem_range.1 hx)).1]
  cases p x <;> rfl
def anyW (ts : List Tl) (p : Nat → Bool) (x k : Nat) : Bool := (List.range k).any (fun y => p y && decide ((ts.getD y T0).2.2.1 = (ts.getD x T0).1))
def anyE (ts : List Tl) (p : Nat → Bool) (x k : Nat) : Bool := (List.range k).any (fun y => p y && decide ((ts.getD y T0).1 = (ts.getD x T0).2.2.1))
theorem anyW_succ (ts : List Tl) (p : Nat → Bool) (x k : Nat) : anyW ts p x (k + 1) = (anyW ts p x k || (p k && decide ((ts.getD k T0).2.2.1 = (ts.getD x T0).1))) := by simp [anyW, List.range_succ]
theorem anyE_succ (ts : List Tl) (p : Nat → Bool) (x k : Nat) : anyE ts p x (k + 1) = (anyE ts p x k || (p k && decide ((ts.getD k T0).1 = (ts.getD x T0).2.2.1))) := by simp [anyE, List.range_succ]
theorem keepP_any (ts : List Tl) (n : Nat) (p : Nat → Bool) (x : Nat) : keepP ts n p x = (anyW ts p x n && anyE ts p x n) := rfl
theorem last_keep {ts : List Tl} {n : Nat} (hl : ts.length = n) {p : Nat → Bool} (h : ∀ x, lastT ts x → p x = true) {x : Nat} (hk : keepP ts n p x = false) : ¬ lastT ts x := fun hx => by
  have := keep_last hl h x hx
  rw [Bool.and_eq_true] at this
  rw [this.2] at hk
  cases hk
theorem set_last {ts : List Tl} {n : Nat} (hl : ts.length = n) {p : Nat → Bool} (h : ∀ x, lastT ts x → p x = true) {i : Nat} (hk : keepP ts n p i = false) : ∀ x, lastT ts x → setP p i false x = true := fun x hx => by
  unfold setP
  by_cases e : x = i
  · subst e
    exact absurd hx (last_keep hl h hk)
  · rw [if_neg e]
    exact h x hx
end

section
set_option linter.unusedVariables false
set_option linter.unusedSimpArgs false
open Go.RowKit Go.Sort

def bitOf : Value → Nat | .bool true => 1 | _ => 0
theorem PB.start {w : World} {g : Nat} {cs : Array Value} {n : Nat} (hb : Blk w g 4 cs) (h : cs.size = n ∧ ∀ x : Nat, x < cs.size → cs[x]? = some (.bool false)) : PB w g n (fun x => decide (x < 0)) := ⟨cs, hb, h.1, fun x hx => by rw [h.2 x (by omega)]; simp⟩
theorem vb {a b : Bool} (h : a = b) : Value.bool a = .bool b := by rw [h]

set_option maxRecDepth 100000 in
set_option maxHeartbeats 4000000 in
theorem l02Lasting_any (c0 : Int) (A : Option Addr) (n c : Nat) (ts : List Tl) (w : World) (hn : n ≤ 1048576) (hl : ts.length = n) (hA : TR w w.heap.size A ts) :
    Calls Try.prog 104 #[.agg #[.int .i64 c0, .slice A n c]] w fun e w' => ∃ (g : Nat) (p : Nat → Bool), e = .returned (.slice (some ⟨g, 0, none⟩) n n) ∧ w.heap.size ≤ g ∧ PB w' g n p ∧ (∀ x, x < n → (p x = true ↔ lastT ts x)) ∧ Below w.heap.size w w' := by
  obtain ⟨i0, hi, hz0, hz1, hz2⟩ := info_parts info_bool
  have hmk := fun W => run_make_rowN (P := Try.prog) 119 4 i0 _ (by kernel_rfl) hi hz0 .i64 .i64 n n (Nat.le_refl _) (by rw [hz2]; omega) (by omega) W
  rw [hz1] at hmk
  generalize hcs : madeCells (Value.cells (.bool false)) (n * 1) = cs0 at hmk
  have hfa := made_false hcs.symm
  have HF := Lib.hid hfa
  clear hcs hfa hi hz0 hz1 hz2
  have HA := Lib.hid hA
  clear hA
  go_enter Try.func104, Try.ntmps104
  go_wp2_with fail
  clear hmk
  obtain ⟨W1, hW1⟩ : ∃ W1, (w.alloc (Obj.cells #[.int .i64 c0, .slice A n c] 29)).alloc (Obj.cells cs0 4) = W1 := ⟨_, rfl⟩
  have hs1 : w.heap.size + 1 < W1.heap.size := by rw [← hW1]; simp
  have hE : Ext w W1 := by rw [← hW1]; exact ((Ext.refl w).alloc _).alloc _
  have hS : Blk W1 w.heap.size 29 #[.int .i64 c0, .slice A n c] := by rw [← hW1]; exact (Blk.new w _ _).ext ((Ext.refl _).alloc _)
  have hP : PB W1 (w.heap.size + 1) n (fun x => decide (x < 0)) := by
    rw [← hW1]
    have := PB.start (Blk.new (w.alloc (Obj.cells #[.int .i64 c0, .slice A n c] 29)) 4 cs0) HF.out
    simpa using this
  rw [hW1]
  have HH := Lib.hid (And.intro hs1 (And.intro hE hS))
  have HP0 := Lib.hid hP
  clear hs1 hE hS hP hW1 HF
  go_loopw [4] (fun ii wr => ∃ k : Nat, k ≤ n ∧ ii = .int .i64 k ∧ PB wr (w.heap.size + 1) n (fun x => decide (x < k)) ∧ Below (w.heap.size + 1) W1 wr) (fun ii _ => n - (intOf ii).toNat)
  case atStart => exact ⟨0, Nat.zero_le _, rfl, HP0.out, Below.refl _ _⟩
  case round =>
    obtain ⟨k, hk, rfl, hp, hb⟩ := hrel
    by_cases hlt : k < n
    · obtain ⟨q1, z1⟩ := hp.at_ hlt
      have HN := Lib.hid (And.intro ((hp.set_ k true).congr (q := fun x => decide (x < k + 1)) (fun x hx => by unfold setP; by_cases e : x = k <;> simp [e] <;> omega)) (hb.setCell (p := ⟨w.heap.size + 1, k, none⟩) (Nat.le_refl _) (.bool true)))
      clear hp hb
      go_wp2_with fail
      go_roundw
      case rel => first | exact ⟨k + 1, by omega, by go_num, HN.out⟩ | ((repeat apply Exists.intro); exact ⟨⟨k + 1, by omega, by go_num, HN.out⟩, rfl⟩)
      case measure => simp [intOf]; omega
    · obtain rfl : k = n := by omega
      obtain ⟨W0, hW0⟩ : ∃ W0, W0 = wr := ⟨_, rfl⟩
      subst hW0
      have HP1 := Lib.hid (hp.congr (q := fun _ => true) (fun x hx => by simp [hx]))
      have HB1 := Lib.hid hb
      clear hp hb HP0
      go_wp2_with fail
      go_loopw [5] (fun v wr => ∃ (b : Bool) (p : Nat → Bool), v = .bool b ∧ PB wr (w.heap.size + 1) k p ∧ (∀ x, lastT ts x → p x = true) ∧ (b = false → ∀ x, x < k → p x = true → keepP ts k p x = true) ∧ Below (w.heap.size + 1) W0 wr) (fun v wr => 2 * cntW wr (w.heap.size + 1) k + bitOf v)
      case atStart => exact ⟨true, fun _ => true, rfl, HP1.out, fun _ _ => rfl, fun h => (by cases h), Below.refl _ _⟩
      case round =>
        obtain ⟨b, p, rfl, hp, hlast, hend, hb⟩ := hrel
        have HP := Lib.hid hp
        have HL := Lib.hid hlast
        have HE := Lib.hid hend
        have HB := Lib.hid hb
        have HC := Lib.hid hp.cnt
        clear hp hlast hend hb
        cases b with
        | false =>
          go_wp2_with fail
          go_ret
          exact ⟨_, rfl, by omega, p, HP.out, fun x hx => ⟨fun h => (lastT_is (ts := ts) (P := fun x => x < k ∧ p x = true) (fun x hx => ⟨by have := lastT_lt hx; omega, HL.out x hx⟩) (fun x hx => ⟨by omega, keepP_iff.1 (HE.out trivial x hx.1 hx.2)⟩) x).1 ⟨hx, h⟩, fun h => HL.out x h⟩, (HH.out.2.1.below (Nat.le_refl _)).trans ((HB1.out.trans HB.out).mono (by omega))⟩
        | true =>
          obtain ⟨W2, hW2⟩ : ∃ W2, W2 = wr := ⟨_, rfl⟩
          subst hW2
          clear HE
          go_wp2_with fail
          go_loopw [5, 6] (fun v ii wr => ∃ (b : Bool) (i : Nat) (q : Nat → Bool), v = .bool b ∧ ii = .int .i64 i ∧ i ≤ k ∧ PB wr (w.heap.size + 1) k q ∧ (∀ x, lastT ts x → q x = true) ∧ (b = false → q = p ∧ ∀ x, x < i → p x = true → keepP ts k p x = true) ∧ (b = true → cntP k q < cntP k p) ∧ Below (w.heap.size + 1) W2 wr) (fun _ ii _ => k - (intOf ii).toNat)
          case atStart => exact ⟨false, 0, p, rfl, rfl, Nat.zero_le _, HP.out, HL.out, fun _ => ⟨rfl, fun x hx => absurd hx (Nat.not_lt_zero _)⟩, fun h => (by cases h), Below.refl _ _⟩
          case round =>
            obtain ⟨b, i, q, rfl, rfl, hik, hq, hql, hqf, hqt, hb⟩ := hrel
            have HQ := Lib.hid hq
            have HQL := Lib.hid hql
            have HQF := Lib.hid hqf
            have HQT := Lib.hid hqt
            have HB2 := Lib.hid hb
            clear hq hql hqf hqt hb
            by_cases hilt : i < k
            · obtain ⟨W3, hW3⟩ : ∃ W3, W3 = wr := ⟨_, rfl⟩
              subst hW3
              have hba := HB1.out.trans (HB.out.trans HB2.out)
              have HBA := Lib.hid hba
              have HTR := Lib.hid ((HA.out.ext HH.out.2.1 (Nat.le_refl _)).below hba (by omega))
              have HBX := Lib.hid (HH.out.2.2.below hba (by omega))
              clear hba
              go_wp2_with fail
              go_loopw [7, 8, 9] (fun v7 v8 ii wr => ∃ y : Nat, y ≤ k ∧ ii = .int .i64 y ∧ v7 = .bool (anyW ts q i y) ∧ v8 = .bool (anyE ts q i y) ∧ Ext W3 wr) (fun _ _ ii _ => k - (intOf ii).toNat)
              case atStart => exact ⟨0, Nat.zero_le _, rfl, rfl, rfl, Ext.refl _⟩
              case round =>
                obtain ⟨y, hy, rfl, rfl, rfl, hx⟩ := hrel
                have HX := Lib.hid hx
                clear hx
                by_cases hylt : y < k
                · obtain ⟨b0, o, rfl, hbl, ht⟩ := (HTR.out.ext HX.out (by have := HBX.out.lt; omega)) (by omega)
                  have r1 := (HBX.out.ext HX.out).rd 1 rfl
                  have p1 := (HQ.out.ext HX.out).at_ hylt
                  have t1 := (ht y (by omega)).2.2.1
                  have t2 := (ht i (by omega)).1
                  have hsu := anyW_succ ts q i y
                  generalize q y = qb at p1 hsu
                  generalize anyW ts q i y = aw at hsu ⊢
                  generalize (ts.getD y T0).2.2.1 = y1 at t1 hsu
                  generalize (ts.getD i T0).1 = y2 at t2 hsu
                  have HSU := Lib.hid hsu
                  replace p1 := p1.1
                  clear hsu ht
                  go_upto_region 16 with (fail)
                  go_cut [7] (fun v7 wx => v7 = .bool (anyW ts q i (y + 1)) ∧ Ext wr wx)
                  case first =>
                    cases aw with
                    | true =>
                      go_wp2_with fail
                      go_quiet (fail)
                      clear r1 p1 t1 t2
                      go_wp2_with fail
                      go_meet
                      exact ⟨vb (by rw [HSU.out]; simp_all), by repeat (first | exact Ext.refl _ | refine Ext.drewN ?_ _ | refine Ext.alloc ?_ _ | refine Ext.drew ?_)⟩
                    | false =>
                      cases qb with
                      | false =>
                        go_wp2_with fail
                        go_quiet (fail)
                        clear r1 p1 t1 t2
                        go_wp2_with fail
                        go_meet
                        exact ⟨vb (by rw [HSU.out]; simp_all), by repeat (first | exact Ext.refl _ | refine Ext.drewN ?_ _ | refine Ext.alloc ?_ _ | refine Ext.drew ?_)⟩
                      | true =>
                        by_cases e1 : y1 = y2
                        · subst e1
                          have hb1 : (y1 == y1) = true := by simp
                          go_wp2_with fail
                          go_quiet (fail)
                          clear r1 p1 t1 t2
                          go_wp2_with fail
                          go_meet
                          exact ⟨vb (by rw [HSU.out]; simp_all), by repeat (first | exact Ext.refl _ | refine Ext.drewN ?_ _ | refine Ext.alloc ?_ _ | refine Ext.drew ?_)⟩
                        · have hb1 : (y1 == y2) = false := by simp [e1]
                          go_wp2_with fail
                          go_quiet (fail)
                          clear r1 p1 t1 t2
                          go_wp2_with fail
                          go_meet
                          exact ⟨vb (by rw [HSU.out]; simp_all), by repeat (first | exact Ext.refl _ | refine Ext.drewN ?_ _ | refine Ext.alloc ?_ _ | refine Ext.drew ?_)⟩
                  case rest =>
                    obtain ⟨rfl, hx2⟩ := hcut
                    have HX2 := Lib.hid (HX.out.trans hx2)
                    clear hx2 r1 p1 t1 t2 HSU HX
                    obtain ⟨b0', o', hbe, hbl', ht⟩ := (HTR.out.ext HX2.out (by have := HBX.out.lt; omega)) (by omega)
                    obtain ⟨rfl, rfl⟩ : b0' = b0 ∧ o' = o := by simp at hbe; exact ⟨hbe.1.symm, hbe.2.symm⟩
                    have r1 := (HBX.out.ext HX2.out).rd 1 rfl
                    have p1 := (HQ.out.ext HX2.out).at_ hylt
                    have t1 := (ht y (by omega)).1
                    have t2 := (ht i (by omega)).2.2.1
                    have hsu := anyE_succ ts q i y
                    generalize q y = qb2 at p1 hsu
                    generalize anyE ts q i y = ae at hsu ⊢
                    generalize (ts.getD y T0).1 = y3 at t1 hsu
                    generalize (ts.getD i T0).2.2.1 = y4 at t2 hsu
                    have HSU := Lib.hid hsu
                    replace p1 := p1.1
                    clear hsu ht hbe hbl'
                    cases ae with
                    | true =>
                      go_wp2_with fail
                      go_quiet (fail)
                      clear r1 p1 t1 t2
                      go_wp2_with fail
                      go_roundw
                      case rel => first | exact ⟨y + 1, by omega, by go_num, rfl, vb (by rw [HSU.out]; simp_all), HX2.out.trans (by repeat (first | exact Ext.refl _ | refine Ext.drewN ?_ _ | refine Ext.alloc ?_ _ | refine Ext.drew ?_))⟩ | ((repeat apply Exists.intro); exact ⟨⟨y + 1, by omega, by go_num, rfl, vb (by rw [HSU.out]; simp_all), HX2.out.trans (by repeat (first | exact Ext.refl _ | refine Ext.drewN ?_ _ | refine Ext.alloc ?_ _ | refine Ext.drew ?_))⟩, rfl⟩)
                      case measure => simp [intOf]; omega
                    | false =>
                      cases qb2 with
                      | false =>
                        go_wp2_with fail
                        go_quiet (fail)
                        clear r1 p1 t1 t2
                        go_wp2_with fail
                        go_roundw
                        case rel => first | exact ⟨y + 1, by omega, by go_num, rfl, vb (by rw [HSU.out]; simp_all), HX2.out.trans (by repeat (first | exact Ext.refl _ | refine Ext.drewN ?_ _ | refine Ext.alloc ?_ _ | refine Ext.drew ?_))⟩ | ((repeat apply Exists.intro); exact ⟨⟨y + 1, by omega, by go_num, rfl, vb (by rw [HSU.out]; simp_all), HX2.out.trans (by repeat (first | exact Ext.refl _ | refine Ext.drewN ?_ _ | refine Ext.alloc ?_ _ | refine Ext.drew ?_))⟩, rfl⟩)
                        case measure => simp [intOf]; omega
                      | true =>
                        by_cases e1 : y3 = y4
                        · subst e1
                          have hb1 : (y3 == y3) = true := by simp
                          go_wp2_with fail
                          go_quiet (fail)
                          clear r1 p1 t1 t2
                          go_wp2_with fail
                          go_roundw
                          case rel => first | exact ⟨y + 1, by omega, by go_num, rfl, vb (by rw [HSU.out]; simp_all), HX2.out.trans (by repeat (first | exact Ext.refl _ | refine Ext.drewN ?_ _ | refine Ext.alloc ?_ _ | refine Ext.drew ?_))⟩ | ((repeat apply Exists.intro); exact ⟨⟨y + 1, by omega, by go_num, rfl, vb (by rw [HSU.out]; simp_all), HX2.out.trans (by repeat (first | exact Ext.refl _ | refine Ext.drewN ?_ _ | refine Ext.alloc ?_ _ | refine Ext.drew ?_))⟩, rfl⟩)
                          case measure => simp [intOf]; omega
                        · have hb1 : (y3 == y4) = false := by simp [e1]
                          go_wp2_with fail
                          go_quiet (fail)
                          clear r1 p1 t1 t2
                          go_wp2_with fail
                          go_roundw
                          case rel => first | exact ⟨y + 1, by omega, by go_num, rfl, vb (by rw [HSU.out]; simp_all), HX2.out.trans (by repeat (first | exact Ext.refl _ | refine Ext.drewN ?_ _ | refine Ext.alloc ?_ _ | refine Ext.drew ?_))⟩ | ((repeat apply Exists.intro); exact ⟨⟨y + 1, by omega, by go_num, rfl, vb (by rw [HSU.out]; simp_all), HX2.out.trans (by repeat (first | exact Ext.refl _ | refine Ext.drewN ?_ _ | refine Ext.alloc ?_ _ | refine Ext.drew ?_))⟩, rfl⟩)
                          case measure => simp [intOf]; omega
                · obtain rfl : y = k := by omega
                  have hkp := keepP_any ts y q i
                  have p1 := (HQ.out.ext HX.out).at_ hilt
                  have HST := Lib.hid ((HQ.out.ext HX.out).set_ i false)
                  generalize hqi : q i = qi at p1
                  generalize anyW ts q i y = aw at hkp ⊢
                  generalize anyE ts q i y = ae at hkp ⊢
                  have HKP := Lib.hid hkp
                  have HQI := Lib.hid hqi
                  obtain ⟨p1, z1⟩ := p1
                  have hb3 := HB2.out.trans (HX.out.below (B := w.heap.size + 1) (by have := HBX.out.lt; omega))
                  have HB3 := Lib.hid hb3
                  have HB4 := Lib.hid (hb3.setCell (p := ⟨w.heap.size + 1, i, none⟩) (Nat.le_refl _) (.bool false))
                  clear hkp hqi hb3
                  cases qi with
                  | false =>
                    go_wp2_with fail
                    go_roundw
                    case rel => first | exact ⟨b, i + 1, q, rfl, by go_num, by omega, HQ.out.ext HX.out, HQL.out, fun h => ⟨(HQF.out h).1, fun x hx hpx => by by_cases e : x = i; (subst e; have := (HQF.out h).1; subst this; first | (rw [HKP.out]; rfl) | (rw [HQI.out] at hpx; cases hpx)); exact (HQF.out h).2 x (by omega) hpx⟩, HQT.out, HB3.out⟩ | ((repeat apply Exists.intro); exact ⟨⟨b, i + 1, q, rfl, by go_num, by omega, HQ.out.ext HX.out, HQL.out, fun h => ⟨(HQF.out h).1, fun x hx hpx => by by_cases e : x = i; (subst e; have := (HQF.out h).1; subst this; first | (rw [HKP.out]; rfl) | (rw [HQI.out] at hpx; cases hpx)); exact (HQF.out h).2 x (by omega) hpx⟩, HQT.out, HB3.out⟩, rfl⟩)
                    case measure => simp [intOf]; omega
                  | true =>
                    cases aw with
                    | false =>
                      go_wp2_with fail
                      go_roundw
                      case rel => first | exact ⟨true, i + 1, setP q i false, rfl, by go_num, by omega, HST.out, set_last (by omega) HQL.out (by rw [HKP.out]; rfl), fun h => (by cases h), fun _ => Nat.lt_of_lt_of_le (cntP_strike hilt HQI.out) (by cases b with | false => rw [(HQF.out rfl).1]; exact Nat.le_refl _ | true => exact Nat.le_of_lt (HQT.out rfl)), HB4.out⟩ | ((repeat apply Exists.intro); exact ⟨⟨true, i + 1, setP q i false, rfl, by go_num, by omega, HST.out, set_last (by omega) HQL.out (by rw [HKP.out]; rfl), fun h => (by cases h), fun _ => Nat.lt_of_lt_of_le (cntP_strike hilt HQI.out) (by cases b with | false => rw [(HQF.out rfl).1]; exact Nat.le_refl _ | true => exact Nat.le_of_lt (HQT.out rfl)), HB4.out⟩, rfl⟩)
                      case measure => simp [intOf]; omega
                    | true =>
                      cases ae with
                      | false =>
                        go_wp2_with fail
                        go_roundw
                        case rel => first | exact ⟨true, i + 1, setP q i false, rfl, by go_num, by omega, HST.out, set_last (by omega) HQL.out (by rw [HKP.out]; rfl), fun h => (by cases h), fun _ => Nat.lt_of_lt_of_le (cntP_strike hilt HQI.out) (by cases b with | false => rw [(HQF.out rfl).1]; exact Nat.le_refl _ | true => exact Nat.le_of_lt (HQT.out rfl)), HB4.out⟩ | ((repeat apply Exists.intro); exact ⟨⟨true, i + 1, setP q i false, rfl, by go_num, by omega, HST.out, set_last (by omega) HQL.out (by rw [HKP.out]; rfl), fun h => (by cases h), fun _ => Nat.lt_of_lt_of_le (cntP_strike hilt HQI.out) (by cases b with | false => rw [(HQF.out rfl).1]; exact Nat.le_refl _ | true => exact Nat.le_of_lt (HQT.out rfl)), HB4.out⟩, rfl⟩)
                        case measure => simp [intOf]; omega
                      | true =>
                        go_wp2_with fail
                        go_roundw
                        case rel => first | exact ⟨b, i + 1, q, rfl, by go_num, by omega, HQ.out.ext HX.out, HQL.out, fun h => ⟨(HQF.out h).1, fun x hx hpx => by by_cases e : x = i; (subst e; have := (HQF.out h).1; subst this; first | (rw [HKP.out]; rfl) | (rw [HQI.out] at hpx; cases hpx)); exact (HQF.out h).2 x (by omega) hpx⟩, HQT.out, HB3.out⟩ | ((repeat apply Exists.intro); exact ⟨⟨b, i + 1, q, rfl, by go_num, by omega, HQ.out.ext HX.out, HQL.out, fun h => ⟨(HQF.out h).1, fun x hx hpx => by by_cases e : x = i; (subst e; have := (HQF.out h).1; subst this; first | (rw [HKP.out]; rfl) | (rw [HQI.out] at hpx; cases hpx)); exact (HQF.out h).2 x (by omega) hpx⟩, HQT.out, HB3.out⟩, rfl⟩)
                        case measure => simp [intOf]; omega
            · obtain rfl : i = k := by omega
              go_wp2_with fail
              go_roundw
              case rel => first | exact ⟨b, q, rfl, HQ.out, HQL.out, fun h => by obtain ⟨rfl, h2⟩ := HQF.out h; exact h2, HB.out.trans HB2.out⟩ | ((repeat apply Exists.intro); exact ⟨⟨b, q, rfl, HQ.out, HQL.out, fun h => by obtain ⟨rfl, h2⟩ := HQF.out h; exact h2, HB.out.trans HB2.out⟩, rfl⟩)
              case measure =>
                show 2 * cntW wr (w.heap.size + 1) i + bitOf (.bool b) < 2 * cntW W2 (w.heap.size + 1) i + 1
                rw [HQ.out.cnt, HC.out]
                cases b with
                | false => rw [(HQF.out rfl).1]; show 2 * _ + 0 < _; omega
                | true => have := HQT.out rfl; show 2 * _ + 1 < _; omega
end

section
set_option linter.unusedVariables false
set_option linter.unusedSimpArgs false
open Go.RowKit Go.Sort

theorem numsOf_congr {n : Nat} {p q : Nat → Bool} (h : ∀ x, x < n → p x = q x) : numsOf n p = numsOf n q := by
  unfold numsOf
  rw [List.filter_congr (fun x hx => h x (List.mem_range.1 hx))]
theorem numsOf_succ (n : Nat) (p : Nat → Bool) : numsOf (n + 1) p = numsOf n p ++ (if p n = true then [(n : Int)] else []) := by
  unfold numsOf
  rw [List.range_succ, List.filter_append, List.map_append]
  congr 1
  by_cases h : p n = true <;> simp [h]
end
end Go.Proofs.Ytcakbnfpmpdljaa
