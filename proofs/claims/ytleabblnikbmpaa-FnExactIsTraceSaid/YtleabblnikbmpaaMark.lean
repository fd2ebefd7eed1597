/- Slices that are written over with marks, and read again. -/
import Derived.Test.YtleabblnikbmpaaTA
namespace Go.Proofs.Ytleabblnikbmpaa
set_option linter.unusedVariables false
set_option linter.unusedSimpArgs false
open Go.RowKit Go.Sort

/-- The slice at A holds the tiles ts, in a block from lo on and below hi that can be written. -/
def TWr (w : World) (lo hi : Nat) (A : Option Addr) (ts : List Tl) : Prop :=
  0 < ts.length → ∃ b off t cs, A = some ⟨b, off, none⟩ ∧ lo ≤ b ∧ b < hi ∧ Blk w b t cs ∧ ∀ k, k < ts.length → At4 cs (off + k * 4) (ts.getD k T0)
theorem TW.r {w : World} {lo : Nat} {A : Option Addr} {ts : List Tl} (h : TW w lo A ts) : TWr w lo w.heap.size A ts := fun h0 => by
  obtain ⟨b, off, t, cs, e, hl, hb, hc⟩ := h h0
  exact ⟨b, off, t, cs, e, hl, hb.lt, hb, hc⟩
theorem TWr.tr {w : World} {lo hi : Nat} {A : Option Addr} {ts : List Tl} (h : TWr w lo hi A ts) : TR w w.heap.size A ts := fun h0 => by
  obtain ⟨b, off, t, cs, e, _, _, hb, hc⟩ := h h0
  exact ⟨b, off, e, hb.lt, fun k hk => (hc k hk).cell4 hb⟩
theorem TWr.below {w w' : World} {lo hi : Nat} {A : Option Addr} {ts : List Tl} (h : TWr w lo hi A ts) (hx : Below w.heap.size w w') : TWr w' lo hi A ts := fun h0 => by
  obtain ⟨b, off, t, cs, e, hl, hh, hb, hc⟩ := h h0
  exact ⟨b, off, t, cs, e, hl, hh, hb.below hx hb.lt, hc⟩
theorem TWr.ext {w w' : World} {lo hi : Nat} {A : Option Addr} {ts : List Tl} (h : TWr w lo hi A ts) (hx : Ext w w') : TWr w' lo hi A ts := h.below (hx.below (Nat.le_refl _))

/-- Only blocks from lo on and below hi have turned, and there may be new ones. -/
structure OnlyR (lo hi : Nat) (w w' : World) : Prop where
  os : w'.os = w.os
  tape : w'.tape = w.tape
  output : w'.output = w.output
  size : w.heap.size ≤ w'.heap.size
  block : ∀ i, i < w.heap.size → (i < lo ∨ hi ≤ i) → w'.heap[i]? = w.heap[i]?
theorem OnlyR.refl (lo hi : Nat) (w : World) : OnlyR lo hi w w := ⟨rfl, rfl, rfl, Nat.le_refl _, fun _ _ _ => rfl⟩
theorem OnlyR.ext {lo hi : Nat} {a b c : World} (h : OnlyR lo hi a b) (hx : Ext b c) : OnlyR lo hi a c := by
  have k := hx.below (Nat.le_refl _)
  exact ⟨k.os.trans h.os, k.tape.trans h.tape, k.output.trans h.output, Nat.le_trans h.size k.size, fun i hi' hr => (k.block i (Nat.lt_of_lt_of_le hi' h.size)).trans (h.block i hi' hr)⟩
theorem OnlyR.after {lo hi : Nat} {a b c : World} (hx : Ext a b) (h : OnlyR lo hi b c) : OnlyR lo hi a c := by
  have k := hx.below (Nat.le_refl _)
  exact ⟨h.os.trans k.os, h.tape.trans k.tape, h.output.trans k.output, Nat.le_trans k.size h.size, fun i hi' hr => (h.block i (Nat.lt_of_lt_of_le hi' k.size) hr).trans (k.block i hi')⟩
theorem OnlyR.setCell {lo hi : Nat} {a w : World} (h : OnlyR lo hi a w) {p : Addr} (h1 : lo ≤ p.block) (h2 : p.block < hi) (u : Value) : OnlyR lo hi a (w.setCell p u) :=
  ⟨h.os, h.tape, h.output, by simpa [World.setCell] using h.size, fun i hi' hr => (Below.heap_setCell _ _ _ _ (by omega)).trans (h.block i hi' hr)⟩
theorem OnlyR.below {lo hi B : Nat} {w w' : World} (h : OnlyR lo hi w w') (hB : B ≤ lo) (hs : B ≤ w.heap.size) : Below B w w' :=
  ⟨h.os, h.tape, h.output, h.size, fun k hk => h.block k (by omega) (by omega)⟩
theorem Blk.only {w w' : World} {g : Nat} {t : TypeId} {cs : Array Value} {lo hi : Nat} (h : Blk w g t cs) (hb : OnlyR lo hi w w') (hg : g < lo ∨ hi ≤ g) : Blk w' g t cs := (hb.block g h.lt hg).trans h
theorem TWr.only {w w' : World} {lo hi lo' hi' : Nat} {A : Option Addr} {ts : List Tl} (h : TWr w lo' hi' A ts) (hx : OnlyR lo hi w w') (hd : hi' ≤ lo ∨ hi ≤ lo') : TWr w' lo' hi' A ts := fun h0 => by
  obtain ⟨b, off, t, cs, e, hl, hh, hb, hc⟩ := h h0
  exact ⟨b, off, t, cs, e, hl, hh, hb.only hx (by omega), hc⟩

/-- The marks from k on. -/
def mk4 (m : Int) : Tl := (m, m + 1, m + 1 + 1, m + 1 + 1 + 1)
def marks (k : Int) (n : Nat) : List Tl := (List.range n).map fun (i : Nat) => mk4 (k + 4 * (i : Int))
theorem marks_len (k : Int) (n : Nat) : (marks k n).length = n := by simp [marks]
theorem marks_at {k : Int} {n i : Nat} (h : i < n) : (marks k n).getD i T0 = mk4 (k + 4 * (i : Int)) := by simp [marks, List.getD, h]

def Marking (w wr : World) (lo hi b off n : Nat) (k : Int) (i : Nat) (ts : List Tl) : Prop :=
  ∃ t cs, Blk wr b t cs ∧ OnlyR lo hi w wr ∧ off + n * 4 ≤ cs.size ∧ ∀ j, j < i → At4 cs (off + j * 4) (mk4 (k + 4 * (j : Int)))
theorem Marking.room {w wr : World} {lo hi b off n i : Nat} {k : Int} {ts : List Tl} (h : Marking w wr lo hi b off n k i ts) (hk : i < n) :
    ∃ v0 v1 v2 v3, wr.cell? ⟨b, off + i * 4, none⟩ = some v0 ∧ wr.cell? ⟨b, off + i * 4 + 1, none⟩ = some v1 ∧ wr.cell? ⟨b, off + i * 4 + 2, none⟩ = some v2 ∧ wr.cell? ⟨b, off + i * 4 + 3, none⟩ = some v3 ∧
      wr.frozen? ⟨b, off + i * 4, none⟩ = false ∧ wr.frozen? ⟨b, off + i * 4 + 1, none⟩ = false ∧ wr.frozen? ⟨b, off + i * 4 + 2, none⟩ = false ∧ wr.frozen? ⟨b, off + i * 4 + 3, none⟩ = false := by
  obtain ⟨t, cs, hb, _, hs, _⟩ := h
  exact ⟨cs[off + i * 4]'(by omega), cs[off + i * 4 + 1]'(by omega), cs[off + i * 4 + 2]'(by omega), cs[off + i * 4 + 3]'(by omega), by rw [hb.cell]; simp, by rw [hb.cell]; simp, by rw [hb.cell]; simp, by rw [hb.cell]; simp, hb.frozen _, hb.frozen _, hb.frozen _, hb.frozen _⟩
theorem Marking.step {w wr : World} {lo hi b off n i : Nat} {k : Int} {ts : List Tl} {x : Tl} (h : Marking w wr lo hi b off n k i ts) (hk : i < n) (h1 : lo ≤ b) (h2 : b < hi) (hx : x = mk4 (k + 4 * (i : Int))) :
    Marking w ((((wr.setCell ⟨b, off + i * 4, none⟩ (.int .i64 x.1)).setCell ⟨b, off + i * 4 + 1, none⟩ (.int .i64 x.2.1)).setCell ⟨b, off + i * 4 + 2, none⟩ (.int .i64 x.2.2.1)).setCell ⟨b, off + i * 4 + 3, none⟩ (.int .i64 x.2.2.2)) lo hi b off n k (i + 1) ts := by
  obtain ⟨t, cs, hb, ho, hs, hc⟩ := h
  refine ⟨t, put4 cs (off + i * 4) x, hb.put4_ _ _, (((ho.setCell h1 h2 _).setCell h1 h2 _).setCell h1 h2 _).setCell h1 h2 _, by rw [put4_size]; exact hs, fun j hj => ?_⟩
  by_cases hjk : j = i
  · subst hjk
    rw [← hx]
    exact put4_at _ _ _ (by omega)
  · exact (hc j (by omega)).put4_ (by omega)

set_option maxRecDepth 100000 in
set_option maxHeartbeats 400000 in
theorem markTileS_any (A : Option Addr) (n c : Nat) (k : Int) (ts : List Tl) (lo hi : Nat) (w : World) (hn : n ≤ 1048576) (hk0 : 0 ≤ k) (hk1 : k ≤ 16777216) (hl : ts.length = n) (hA : TWr w lo hi A ts) :
    Calls Try.prog 60 #[.slice A n c, .int .i64 k] w fun e w' => e = .returned (.int .i64 (k + 4 * n)) ∧ OnlyR lo hi w w' ∧ TWr w' lo hi A (marks k n) := by
  by_cases h0 : n = 0
  · subst h0
    go_enter Try.func60, Try.ntmps60
    go_wp2_with fail
    refine wp_loop_rounds 1 ?_
    rw [rounds_succ]
    go_wp2
    go_ret
    exact ⟨ret_i (by simp), OnlyR.refl _ _ _, fun h => absurd h (by simp [marks])⟩
  · obtain ⟨b, off, t, cs, rfl, hlo, hhi, hb, hc⟩ := hA (by omega)
    have hst : Marking w w lo hi b off n k 0 ts := ⟨t, cs, hb, OnlyR.refl _ _ _, by
      have := (hc (n - 1) (by omega)).2.2.2
      have h := (Array.getElem?_eq_some_iff.1 this).1
      omega, fun j hj => absurd hj (Nat.not_lt_zero _)⟩
    clear hA hc hb
    go_enter Try.func60, Try.ntmps60
    go_wp2_with fail
    go_loopw [1, 5] (fun kk i wr => ∃ j : Nat, j ≤ n ∧ i = .int .i64 j ∧ kk = .int .i64 (k + 4 * (j : Int)) ∧ Marking w wr lo hi b off n k j ts) (fun _ i _ => n - (intOf i).toNat)
    case atStart => exact ⟨0, Nat.zero_le _, rfl, by simp, hst⟩
    case round =>
      obtain ⟨j, hj, rfl, rfl, hm⟩ := hrel
      have HM := Lib.hid hm
      clear hm
      have hj2 : k + 4 * (j : Int) + 4 ≤ 33554432 := by omega
      by_cases hlt : j < n
      · obtain ⟨v0, v1, v2, v3, r0, r1, r2, r3, z0, z1, z2, z3⟩ := HM.out.room hlt
        go_wp2_with fail
        refine wp_loop_rounds 5 ?_
        rw [rounds_succ]
        go_wp2
        rw [rounds_succ]
        go_wp2
        rw [rounds_succ]
        go_wp2
        rw [rounds_succ]
        go_wp2
        rw [rounds_succ]
        go_wp2
        go_roundw
        case rel =>
          have st := HM.out.step (x := mk4 (k + 4 * (j : Int))) hlt hlo hhi rfl
          simp only [mk4] at st
          refine ⟨j + 1, by omega, by go_num, ?_, st⟩
          exact congrArg (Value.int .i64) (by omega)
        case measure => simp [intOf]; omega
      · go_wp2_with fail
        go_ret
        obtain rfl : j = n := by omega
        obtain ⟨t', cs', hb', ho', hs', hc'⟩ := HM.out
        exact ⟨rfl, ho', fun _ => ⟨b, off, t', cs', rfl, hlo, hhi, hb', fun q hq => by rw [marks_len] at hq; rw [marks_at hq]; exact hc' q hq⟩⟩

theorem markSet_any (c0 : Int) (A : Option Addr) (n c : Nat) (ts : List Tl) (lo hi : Nat) (w : World) (hn : n ≤ 1048576) (hl : ts.length = n) (hA : TWr w lo hi A ts) :
    Calls Try.prog 24 #[.agg #[.int .i64 c0, .slice A n c], .int .i64 1] w fun e w' => e = .returned (.int .i64 (1 + 4 * n)) ∧ OnlyR lo hi w w' ∧ TWr w' lo hi A (marks 1 n) := by
  have hcon : ∀ W, Ext w W → Calls Try.prog 60 #[.slice A n c, .int .i64 1] W _ := fun W hW => markTileS_any A n c 1 ts lo hi W hn (by omega) (by omega) hl (hA.ext hW)
  have HC := Lib.hid hcon
  clear hcon hA
  go_enter Try.func24, Try.ntmps24
  go_wp2_with fail
  refine (HC.out _ ((Ext.refl w).alloc _)).mono ?_
  rintro e w' ⟨rfl, hx, hw⟩
  have HX := Lib.hid hx
  have HW := Lib.hid hw
  clear hx hw
  go_wp2_with fail
  go_ret
  exact ⟨rfl, OnlyR.after ((Ext.refl w).alloc _) HX.out, HW.out⟩
end Go.Proofs.Ytleabblnikbmpaa
