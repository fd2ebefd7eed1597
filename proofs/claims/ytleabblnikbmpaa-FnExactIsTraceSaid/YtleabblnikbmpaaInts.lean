/- Slices of numbers in memory: copied, compared, written over with marks, and read again. -/
import Derived.Test.YtleabblnikbmpaaMark
namespace Go.Proofs.Ytleabblnikbmpaa
set_option linter.unusedVariables false
set_option linter.unusedSimpArgs false
open Go.RowKit Go.Sort

/-- The slice at A reads as the numbers xs, all of it below block B. -/
def IR (w : World) (B : Nat) (A : Option Addr) (xs : List Int) : Prop :=
  0 < xs.length → ∃ b off, A = some ⟨b, off, none⟩ ∧ b < B ∧ ∀ k, k < xs.length → w.cell? ⟨b, off + k, none⟩ = some (.int .i64 (xs.getD k 0))
theorem IR.keep {w w' : World} {B : Nat} {A : Option Addr} {xs : List Int} (h : IR w B A xs) (hk : ∀ b, b < B → ∀ i, w'.cell? ⟨b, i, none⟩ = w.cell? ⟨b, i, none⟩) : IR w' B A xs := fun h0 => by
  obtain ⟨b, off, e, hb, hc⟩ := h h0
  exact ⟨b, off, e, hb, fun k hk' => (hk b hb _).trans (hc k hk')⟩
theorem IR.below {w w' : World} {B B' : Nat} {A : Option Addr} {xs : List Int} (h : IR w B A xs) (hB : Below B' w w') (hle : B ≤ B') : IR w' B A xs :=
  h.keep fun b hb i => hB.cell (p := ⟨b, i, none⟩) (by show b < B'; omega)
theorem IR.more {w : World} {B B' : Nat} {A : Option Addr} {xs : List Int} (h : IR w B A xs) (hle : B ≤ B') : IR w B' A xs := fun h0 => by
  obtain ⟨b, off, e, hb, hc⟩ := h h0
  exact ⟨b, off, e, by omega, hc⟩
theorem IR.ext {w w' : World} {B : Nat} {A : Option Addr} {xs : List Int} (h : IR w B A xs) (hx : Ext w w') (hB : B ≤ w.heap.size) : IR w' B A xs := h.below (hx.below (Nat.le_refl _)) hB
theorem IR.at_ {w : World} {B : Nat} {A : Option Addr} {xs : List Int} (h : IR w B A xs) {k : Nat} (hk : k < xs.length) (hB : B ≤ w.heap.size) :
    ∃ b off, A = some ⟨b, off, none⟩ ∧ b < B ∧ ∀ n os, (grow (w.drewN n) os).cell? ⟨b, off + k, none⟩ = some (.int .i64 (xs.getD k 0)) := by
  obtain ⟨b, off, e, hb, hc⟩ := h (by omega)
  exact ⟨b, off, e, hb, fun n os => (cell?_grow _ _ _ (by show b < (w.drewN n).heap.size; exact Nat.lt_of_lt_of_le hb hB)).trans (hc k hk)⟩
theorem ints_eq_of {xs ys : List Int} (hl : xs.length = ys.length) (h : ∀ j, j < xs.length → xs.getD j 0 = ys.getD j 0) : xs = ys := by
  apply List.ext_getElem hl
  intro i h1 h2
  have := h i h1
  simpa [List.getD, h1, h2] using this

/-- The slice at A holds the numbers xs, in a block from lo on and below hi that can be written. -/
def IWr (w : World) (lo hi : Nat) (A : Option Addr) (xs : List Int) : Prop :=
  0 < xs.length → ∃ b off t cs, A = some ⟨b, off, none⟩ ∧ lo ≤ b ∧ b < hi ∧ Blk w b t cs ∧ ∀ k, k < xs.length → cs[off + k]? = some (.int .i64 (xs.getD k 0))
theorem IWr.ir {w : World} {lo hi : Nat} {A : Option Addr} {xs : List Int} (h : IWr w lo hi A xs) : IR w w.heap.size A xs := fun h0 => by
  obtain ⟨b, off, t, cs, e, _, _, hb, hc⟩ := h h0
  exact ⟨b, off, e, hb.lt, fun k hk => (hb.cell _).trans (hc k hk)⟩
theorem IWr.below {w w' : World} {lo hi : Nat} {A : Option Addr} {xs : List Int} (h : IWr w lo hi A xs) (hx : Below w.heap.size w w') : IWr w' lo hi A xs := fun h0 => by
  obtain ⟨b, off, t, cs, e, hl, hh, hb, hc⟩ := h h0
  exact ⟨b, off, t, cs, e, hl, hh, hb.below hx hb.lt, hc⟩
theorem IWr.ext {w w' : World} {lo hi : Nat} {A : Option Addr} {xs : List Int} (h : IWr w lo hi A xs) (hx : Ext w w') : IWr w' lo hi A xs := h.below (hx.below (Nat.le_refl _))
theorem IWr.only {w w' : World} {lo hi lo' hi' : Nat} {A : Option Addr} {xs : List Int} (h : IWr w lo' hi' A xs) (hx : OnlyR lo hi w w') (hd : hi' ≤ lo ∨ hi ≤ lo') : IWr w' lo' hi' A xs := fun h0 => by
  obtain ⟨b, off, t, cs, e, hl, hh, hb, hc⟩ := h h0
  exact ⟨b, off, t, cs, e, hl, hh, hb.only hx (by omega), hc⟩
theorem IWr.low {w : World} {lo lo' hi : Nat} {A : Option Addr} {xs : List Int} (h : IWr w lo hi A xs) (hl : lo' ≤ lo) : IWr w lo' hi A xs := fun h0 => by
  obtain ⟨b, off, t, cs, e, hl', hh, hb, hc⟩ := h h0
  exact ⟨b, off, t, cs, e, by omega, hh, hb, hc⟩

theorem info_int : (Try.prog.info? 2).map (fun i => (i.zero, i.size, i.bytes)) = some (some (.int .i64 0), 1, 8) := by kernel_rfl

/-- What the loop of a slice of numbers that is copied knows. -/
def ICopied (w0 wr : World) (g n k : Nat) (xs : List Int) : Prop :=
  ∃ cs t, Blk wr g t cs ∧ cs.size = n ∧ w0.heap.size ≤ g ∧ Below w0.heap.size w0 wr ∧ ∀ j, j < k → cs[j]? = some (.int .i64 (xs.getD j 0))
theorem ICopied.start (w : World) (n : Nat) (t : TypeId) (cs : Array Value) (h : cs.size = n) (xs : List Int) : ICopied w (w.alloc (.cells cs t)) w.heap.size n 0 xs :=
  ⟨cs, t, Blk.new _ _ _, h, Nat.le_refl _, (Below.refl _ _).alloc (Nat.le_refl _) _, fun j hj => absurd hj (Nat.not_lt_zero _)⟩
theorem ICopied.ext {w0 wr w' : World} {g n k : Nat} {xs : List Int} (h : ICopied w0 wr g n k xs) (hx : Ext wr w') : ICopied w0 w' g n k xs := by
  obtain ⟨cs, t, hb, hs, hg, hbe, hc⟩ := h
  exact ⟨cs, t, hb.ext hx, hs, hg, hbe.trans (hx.below hbe.size), hc⟩
theorem ICopied.step {w0 wr : World} {g n k : Nat} {xs : List Int} {x : Int} (h : ICopied w0 wr g n k xs) (hk : k < n) (hx : x = xs.getD k 0) :
    ICopied w0 (wr.setCell ⟨g, k, none⟩ (.int .i64 x)) g n (k + 1) xs := by
  obtain ⟨cs, t, hb, hs, hg, hbe, hc⟩ := h
  refine ⟨cs.setIfInBounds k (.int .i64 x), t, hb.set_ _ _, by simp [hs], hg, hbe.setCell hg _, fun j hj => ?_⟩
  rw [Array.getElem?_setIfInBounds]
  by_cases hjk : k = j
  · subst hjk
    rw [if_pos rfl, if_pos (by omega), hx]
  · rw [if_neg hjk]
    exact hc j (by omega)
theorem ICopied.room {w0 wr : World} {g n k : Nat} {xs : List Int} (h : ICopied w0 wr g n k xs) (hk : k < n) :
    ∃ v0, wr.cell? ⟨g, k, none⟩ = some v0 ∧ wr.frozen? ⟨g, k, none⟩ = false := by
  obtain ⟨cs, t, hb, hs, hg, hbe, hc⟩ := h
  exact ⟨cs[k]'(by omega), by rw [hb.cell]; simp [hs, hk], hb.frozen _⟩
theorem ICopied.done {w0 wr : World} {g n : Nat} {xs : List Int} (h : ICopied w0 wr g n n xs) (hl : xs.length = n) : Below w0.heap.size w0 wr ∧ IWr wr w0.heap.size wr.heap.size (some ⟨g, 0, none⟩) xs := by
  obtain ⟨cs, t, hb, hs, hg, hbe, hc⟩ := h
  exact ⟨hbe, fun _ => ⟨g, 0, t, cs, rfl, hg, hb.lt, hb, fun k hk => by simpa using hc k (by omega)⟩⟩
theorem ICopied.below {w0 wr : World} {g n k : Nat} {xs : List Int} (h : ICopied w0 wr g n k xs) : Below w0.heap.size w0 wr := by
  obtain ⟨cs, t, hb, hs, hg, hbe, hc⟩ := h
  exact hbe

set_option maxRecDepth 100000 in
set_option maxHeartbeats 400000 in
theorem toInt64S_any (A : Option Addr) (n c : Nat) (xs : List Int) (w : World) (hn : n ≤ 1048576) (hl : xs.length = n) (hA : IR w w.heap.size A xs) :
    Calls Try.prog 36 #[.slice A n c] w fun e w' => ∃ A', e = .returned (.slice A' n n) ∧ Below w.heap.size w w' ∧ IWr w' w.heap.size w'.heap.size A' xs := by
  obtain ⟨i0, hi, hz0, hz1, hz2⟩ := info_parts info_int
  have hmk := fun W => run_make_rowN (P := Try.prog) 42 2 i0 _ (by kernel_rfl) hi hz0 .i64 .i64 n n (Nat.le_refl _) (by rw [hz2]; omega) (by omega) W
  rw [hz1] at hmk
  generalize hcs : madeCells (Value.cells (.int .i64 0)) (n * 1) = cs0 at hmk
  have hsz : cs0.size = n := by rw [← hcs, size_madeCells, Nat.mul_one]
  clear hcs hi hz0 hz1 hz2
  have HS := Lib.hid hsz
  clear hsz
  go_enter Try.func36, Try.ntmps36
  go_wp2_with fail
  go_loopw [4] (fun i wr => ∃ k : Nat, k ≤ n ∧ i = .int .i64 k ∧ ICopied w wr w.heap.size n k xs) (fun i _ => n - (intOf i).toNat)
  case atStart => exact ⟨0, Nat.zero_le _, rfl, ICopied.start w n _ cs0 HS.out xs⟩
  case round =>
    clear hmk
    obtain ⟨k, hk, rfl, hx⟩ := hrel
    have HX := Lib.hid hx
    by_cases hlt : k < n
    · obtain ⟨b, off, rfl, -, hc⟩ := (hA.below hx.below (Nat.le_refl _)) (by omega)
      replace hc := hc k (by omega)
      clear hx hA
      obtain ⟨x, hX⟩ : ∃ x, x = xs.getD k 0 := ⟨_, rfl⟩
      rw [← hX] at hc
      have EX := Lib.hid hX
      clear hX
      obtain ⟨v0, r0, z0⟩ := HX.out.room hlt
      go_wp2_with fail
      go_roundw
      case rel => exact ⟨k + 1, by omega, by go_num, HX.out.step (x := x) hlt EX.out⟩
      case measure => simp [intOf]; omega
    · clear hx hA
      go_wp2_with fail
      go_ret
      obtain rfl : k = n := by omega
      have := HX.out.done hl
      exact ⟨_, rfl, this.1, this.2⟩

set_option maxRecDepth 100000 in
set_option maxHeartbeats 400000 in
theorem eqInt64S_any (A A' : Option Addr) (n n' c c' : Nat) (xs ys : List Int) (w : World) (hn : n ≤ 1152921504606846976) (hl : xs.length = n) (hl' : ys.length = n') (hA : IR w w.heap.size A xs) (hA' : IR w w.heap.size A' ys) :
   Calls Try.prog 38 #[.slice A n c, .slice A' n' c'] w fun e w' => e = .returned (.bool (decide (xs = ys))) ∧ Ext w w' := by
  by_cases hne : n = n'
  · subst hne
    go_enter Try.func38, Try.ntmps38
    go_wp2_with fail
    go_loopw [5] (fun i wr => ∃ k : Nat, k ≤ n ∧ i = .int .i64 k ∧ (∀ j, j < k → xs.getD j 0 = ys.getD j 0) ∧ Ext w wr) (fun i _ => n - (intOf i).toNat)
    case atStart => exact ⟨0, Nat.zero_le _, rfl, fun j hj => absurd hj (Nat.not_lt_zero _), Ext.refl _⟩
    case round =>
      obtain ⟨k, hk, rfl, heq, hx⟩ := hrel
      have H := Lib.hid heq
      have HX := Lib.hid hx
      clear heq
      by_cases hlt : k < n
      · obtain ⟨b, off, rfl, -, hc⟩ := (hA.ext hx (Nat.le_refl _)) (by omega)
        obtain ⟨b', off', rfl, -, hc'⟩ := (hA'.ext hx (Nat.le_refl _)) (by omega)
        replace hc := hc k (by omega)
        replace hc' := hc' k (by omega)
        clear hx hA hA'
        obtain ⟨x, hX⟩ : ∃ x, x = xs.getD k 0 := ⟨_, rfl⟩
        obtain ⟨y, hY⟩ : ∃ x, x = ys.getD k 0 := ⟨_, rfl⟩
        rw [← hX] at hc
        rw [← hY] at hc'
        have EX := Lib.hid hX
        have EY := Lib.hid hY
        clear hX hY
        go_wp2_with fail
        go_quiet (fail)
        clear hc hc'
        go_wp2_with fail
        · go_ret
          refine ⟨ret_b ?_, HX.out.trans ((Ext.refl _).drewN _)⟩
          have hd : x ≠ y := by simp_all
          rw [EX.out, EY.out] at hd
          exact (decide_eq_false (fun e => hd (by rw [e]))).symm
        · have hd : x = y := by simp_all
          refine ⟨⟨k + 1, by omega, by go_num, ?_, HX.out.trans ((Ext.refl _).drewN _)⟩, by simp [intOf]; omega⟩
          intro j hj
          by_cases hjk : j = k
          · subst hjk
            rw [EX.out, EY.out] at hd
            exact hd
          · exact H.out j (by omega)
      · clear hx hA hA'
        go_wp2_with fail
        go_ret
        refine ⟨ret_b ?_, HX.out⟩
        have hkn : k = n := by omega
        subst hkn
        exact (decide_eq_true (ints_eq_of (by omega) (fun j hj => H.out j (by omega)))).symm
  · go_enter Try.func38, Try.ntmps38
    have hq : ((n : Int) != (n' : Int)) = true := by simp; omega
    go_wp2_with fail
    all_goals go_ret
    all_goals exact ⟨ret_b (decide_eq_false (fun e => hne (by rw [← hl, ← hl', e]))).symm, Ext.refl _⟩

/-- The marks from k on. -/
def imarks (k : Int) (n : Nat) : List Int := (List.range n).map fun (i : Nat) => k + (i : Int)
theorem imarks_len (k : Int) (n : Nat) : (imarks k n).length = n := by simp [imarks]
theorem imarks_at {k : Int} {n i : Nat} (h : i < n) : (imarks k n).getD i 0 = k + (i : Int) := by simp [imarks, List.getD, h]

def IMarking (w wr : World) (lo hi b off n : Nat) (k : Int) (i : Nat) : Prop :=
  ∃ t cs, Blk wr b t cs ∧ OnlyR lo hi w wr ∧ off + n ≤ cs.size ∧ ∀ j, j < i → cs[off + j]? = some (.int .i64 (k + (j : Int)))
theorem IMarking.room {w wr : World} {lo hi b off n i : Nat} {k : Int} (h : IMarking w wr lo hi b off n k i) (hk : i < n) :
    ∃ v0, wr.cell? ⟨b, off + i, none⟩ = some v0 ∧ wr.frozen? ⟨b, off + i, none⟩ = false := by
  obtain ⟨t, cs, hb, _, hs, _⟩ := h
  exact ⟨cs[off + i]'(by omega), by rw [hb.cell]; simp, hb.frozen _⟩
theorem IMarking.step {w wr : World} {lo hi b off n i : Nat} {k x : Int} (h : IMarking w wr lo hi b off n k i) (hk : i < n) (h1 : lo ≤ b) (h2 : b < hi) (hx : x = k + (i : Int)) :
    IMarking w (wr.setCell ⟨b, off + i, none⟩ (.int .i64 x)) lo hi b off n k (i + 1) := by
  obtain ⟨t, cs, hb, ho, hs, hc⟩ := h
  refine ⟨t, cs.setIfInBounds (off + i) (.int .i64 x), hb.set_ _ _, ho.setCell h1 h2 _, by simpa using hs, fun j hj => ?_⟩
  rw [Array.getElem?_setIfInBounds]
  by_cases hjk : off + i = off + j
  · rw [if_pos hjk, if_pos (by omega), hx, show i = j by omega]
  · rw [if_neg hjk]
    exact hc j (by omega)

set_option maxRecDepth 100000 in
set_option maxHeartbeats 400000 in
theorem markInt64S_any (A : Option Addr) (n c : Nat) (k : Int) (xs : List Int) (lo hi : Nat) (w : World) (hn : n ≤ 1048576) (hk0 : 0 ≤ k) (hk1 : k ≤ 16777216) (hl : xs.length = n) (hA : IWr w lo hi A xs) :
    Calls Try.prog 61 #[.slice A n c, .int .i64 k] w fun e w' => e = .returned (.int .i64 (k + n)) ∧ OnlyR lo hi w w' ∧ IWr w' lo hi A (imarks k n) := by
  by_cases h0 : n = 0
  · subst h0
    go_enter Try.func61, Try.ntmps61
    go_wp2_with fail
    refine wp_loop_rounds 1 ?_
    rw [rounds_succ]
    go_wp2
    go_ret
    exact ⟨ret_i (by simp), OnlyR.refl _ _ _, fun h => absurd h (by simp [imarks])⟩
  · obtain ⟨b, off, t, cs, rfl, hlo, hhi, hb, hc⟩ := hA (by omega)
    have hst : IMarking w w lo hi b off n k 0 := ⟨t, cs, hb, OnlyR.refl _ _ _, by
      have := hc (n - 1) (by omega)
      have h := (Array.getElem?_eq_some_iff.1 this).1
      omega, fun j hj => absurd hj (Nat.not_lt_zero _)⟩
    clear hA hc hb
    go_enter Try.func61, Try.ntmps61
    go_wp2_with fail
    go_loopw [1, 5] (fun kk i wr => ∃ j : Nat, j ≤ n ∧ i = .int .i64 j ∧ kk = .int .i64 (k + (j : Int)) ∧ IMarking w wr lo hi b off n k j) (fun _ i _ => n - (intOf i).toNat)
    case atStart => exact ⟨0, Nat.zero_le _, rfl, by simp, hst⟩
    case round =>
      obtain ⟨j, hj, rfl, rfl, hm⟩ := hrel
      have HM := Lib.hid hm
      clear hm
      have hj2 : k + (j : Int) + 4 ≤ 33554432 := by omega
      by_cases hlt : j < n
      · obtain ⟨v0, r0, z0⟩ := HM.out.room hlt
        go_wp2_with fail
        go_roundw
        case rel => exact ⟨j + 1, by omega, by go_num, congrArg (Value.int .i64) (by omega), HM.out.step (x := k + (j : Int)) hlt hlo hhi rfl⟩
        case measure => simp [intOf]; omega
      · go_wp2_with fail
        go_ret
        obtain rfl : j = n := by omega
        obtain ⟨t', cs', hb', ho', hs', hc'⟩ := HM.out
        exact ⟨rfl, ho', fun _ => ⟨b, off, t', cs', rfl, hlo, hhi, hb', fun q hq => by rw [imarks_len] at hq; rw [imarks_at hq]; exact hc' q hq⟩⟩

set_option maxRecDepth 100000 in
set_option maxHeartbeats 400000 in
theorem heldInt64S_any (A : Option Addr) (n c : Nat) (k : Int) (w : World) (hn : n ≤ 1048576) (hk0 : 0 ≤ k) (hk1 : k ≤ 16777216) (hA : IR w w.heap.size A (imarks k n)) :
    Calls Try.prog 62 #[.slice A n c, .int .i64 k] w fun e w' => e = .returned (.int .i64 (k + n)) ∧ Ext w w' := by
  go_enter Try.func62, Try.ntmps62
  go_wp2_with fail
  go_loop [1, 5] (fun kk i => ∃ j : Nat, j ≤ n ∧ i = .int .i64 j ∧ kk = .int .i64 (k + (j : Int))) (fun _ i => n - (intOf i).toNat)
  case atStart => exact ⟨0, Nat.zero_le _, rfl, by simp⟩
  case round =>
    obtain ⟨j, hj, rfl, rfl⟩ := hrel
    have hj2 : k + (j : Int) + 4 ≤ 33554432 := by omega
    by_cases hlt : j < n
    · obtain ⟨b, off, rfl, hb, hc⟩ := hA (by rw [imarks_len]; omega)
      replace hc := hc j (by rw [imarks_len]; exact hlt)
      rw [imarks_at hlt] at hc
      clear hA
      go_wp2_with fail
      go_round
      case rel => exact ⟨j + 1, by omega, by go_num, congrArg (Value.int .i64) (by omega)⟩
      case measure => simp [intOf]; omega
    · clear hA
      go_wp2_with fail
      go_ret
      obtain rfl : j = n := by omega
      exact ⟨rfl, Ext.refl _⟩
end Go.Proofs.Ytleabblnikbmpaa
