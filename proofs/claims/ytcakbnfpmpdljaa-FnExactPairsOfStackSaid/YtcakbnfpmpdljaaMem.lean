/- Blocks of memory that hold tiles, known whole; what a store of a tile does to one. -/
import Derived.Test.YtcakbnfpmpdljaaT2
namespace Go.Proofs.Ytcakbnfpmpdljaa
set_option linter.unusedVariables false
set_option linter.unusedSimpArgs false
open Go.RowKit Go.Sort

/-- Block g is just the cells cs, none frozen. -/
def Blk (w : World) (g : Nat) (t : TypeId) (cs : Array Value) : Prop := w.heap[g]? = some (.cells cs t (0, 0))
theorem Blk.lt {w : World} {g : Nat} {t : TypeId} {cs : Array Value} (h : Blk w g t cs) : g < w.heap.size := by
  rcases Nat.lt_or_ge g w.heap.size with hlt | hge
  · exact hlt
  · unfold Blk at h; rw [Array.getElem?_eq_none hge] at h; cases h
theorem Blk.cell {w : World} {g : Nat} {t : TypeId} {cs : Array Value} (h : Blk w g t cs) (i : Nat) : w.cell? ⟨g, i, none⟩ = cs[i]? := cell_of_row w g i cs t (0, 0) h
theorem Blk.frozen {w : World} {g : Nat} {t : TypeId} {cs : Array Value} (h : Blk w g t cs) (i : Nat) : w.frozen? ⟨g, i, none⟩ = false := by
  unfold Blk at h
  simp [World.frozen?, h]
theorem Blk.new (w : World) (t : TypeId) (cs : Array Value) : Blk (w.alloc (.cells cs t)) w.heap.size t cs := heap_alloc_new w _
theorem Blk.set_ {w : World} {g : Nat} {t : TypeId} {cs : Array Value} (h : Blk w g t cs) (i : Nat) (u : Value) : Blk (w.setCell ⟨g, i, none⟩ u) g t (cs.setIfInBounds i u) := by
  unfold Blk at h ⊢
  simp [World.setCell, Array.getElem?_modify, h]
theorem Blk.far {w : World} {g : Nat} {t : TypeId} {cs : Array Value} (h : Blk w g t cs) {p : Addr} (hp : g ≠ p.block) (u : Value) : Blk (w.setCell p u) g t cs := (Below.heap_setCell w p u g hp).trans h
theorem Blk.below {w w' : World} {g : Nat} {t : TypeId} {cs : Array Value} {B : Nat} (h : Blk w g t cs) (hb : Below B w w') (hg : g < B) : Blk w' g t cs := (hb.block g hg).trans h
theorem Blk.ext {w w' : World} {g : Nat} {t : TypeId} {cs : Array Value} (h : Blk w g t cs) (hb : Ext w w') : Blk w' g t cs := h.below (hb.below (Nat.le_refl _)) h.lt

/-- The four cells from o on are the tile x. -/
def At4 (cs : Array Value) (o : Nat) (x : Tl) : Prop := cs[o]? = some (.int .i64 x.1) ∧ cs[o + 1]? = some (.int .i64 x.2.1) ∧ cs[o + 2]? = some (.int .i64 x.2.2.1) ∧ cs[o + 3]? = some (.int .i64 x.2.2.2)
def put4 (cs : Array Value) (o : Nat) (x : Tl) : Array Value :=
  (((cs.setIfInBounds o (.int .i64 x.1)).setIfInBounds (o + 1) (.int .i64 x.2.1)).setIfInBounds (o + 2) (.int .i64 x.2.2.1)).setIfInBounds (o + 3) (.int .i64 x.2.2.2)
theorem put4_size (cs : Array Value) (o : Nat) (x : Tl) : (put4 cs o x).size = cs.size := by simp [put4]
theorem put4_at (cs : Array Value) (o : Nat) (x : Tl) (h : o + 4 ≤ cs.size) : At4 (put4 cs o x) o x := by
  refine ⟨?_, ?_, ?_, ?_⟩ <;> simp [put4, Array.getElem?_setIfInBounds] <;> omega
theorem put4_other (cs : Array Value) (o i : Nat) (x : Tl) (h : i < o ∨ o + 4 ≤ i) : (put4 cs o x)[i]? = cs[i]? := by
  simp only [put4, Array.getElem?_setIfInBounds]
  repeat rw [if_neg (by omega)]
theorem At4.put4_ {cs : Array Value} {o i : Nat} {x y : Tl} (hx : At4 cs i y) (h : i + 4 ≤ o ∨ o + 4 ≤ i) : At4 (put4 cs o x) i y :=
  ⟨(put4_other cs o i x (by omega)).trans hx.1, (put4_other cs o _ x (by omega)).trans hx.2.1, (put4_other cs o _ x (by omega)).trans hx.2.2.1, (put4_other cs o _ x (by omega)).trans hx.2.2.2⟩
theorem Blk.put4_ {w : World} {g : Nat} {t : TypeId} {cs : Array Value} (h : Blk w g t cs) (o : Nat) (x : Tl) :
    Blk ((((w.setCell ⟨g, o, none⟩ (.int .i64 x.1)).setCell ⟨g, o + 1, none⟩ (.int .i64 x.2.1)).setCell ⟨g, o + 2, none⟩ (.int .i64 x.2.2.1)).setCell ⟨g, o + 3, none⟩ (.int .i64 x.2.2.2)) g t (put4 cs o x) :=
  (((h.set_ _ _).set_ _ _).set_ _ _).set_ _ _
theorem At4.cell4 {w : World} {g : Nat} {t : TypeId} {cs : Array Value} {o : Nat} {x : Tl} (h : At4 cs o x) (hb : Blk w g t cs) : Cell4 w g o x :=
  ⟨(hb.cell _).trans h.1, (hb.cell _).trans h.2.1, (hb.cell _).trans h.2.2.1, (hb.cell _).trans h.2.2.2⟩

/-- The slice at A holds the tiles ts, in a block from lo on that can be written. -/
def TW (w : World) (lo : Nat) (A : Option Addr) (ts : List Tl) : Prop :=
  0 < ts.length → ∃ b off t cs, A = some ⟨b, off, none⟩ ∧ lo ≤ b ∧ Blk w b t cs ∧ ∀ k, k < ts.length → At4 cs (off + k * 4) (ts.getD k T0)
theorem TW.tr {w : World} {lo : Nat} {A : Option Addr} {ts : List Tl} (h : TW w lo A ts) : TR w w.heap.size A ts := fun h0 => by
  obtain ⟨b, off, t, cs, e, _, hb, hc⟩ := h h0
  exact ⟨b, off, e, hb.lt, fun k hk => (hc k hk).cell4 hb⟩
theorem TW.ext {w w' : World} {lo : Nat} {A : Option Addr} {ts : List Tl} (h : TW w lo A ts) (hx : Ext w w') : TW w' lo A ts := fun h0 => by
  obtain ⟨b, off, t, cs, e, hl, hb, hc⟩ := h h0
  exact ⟨b, off, t, cs, e, hl, hb.ext hx, hc⟩
theorem TW.below {w w' : World} {lo : Nat} {A : Option Addr} {ts : List Tl} (h : TW w lo A ts) (hx : Below w.heap.size w w') : TW w' lo A ts := fun h0 => by
  obtain ⟨b, off, t, cs, e, hl, hb, hc⟩ := h h0
  exact ⟨b, off, t, cs, e, hl, hb.below hx hb.lt, hc⟩
theorem TW.low {w : World} {lo lo' : Nat} {A : Option Addr} {ts : List Tl} (h : TW w lo A ts) (hl : lo' ≤ lo) : TW w lo' A ts := fun h0 => by
  obtain ⟨b, off, t, cs, e, hl', hb, hc⟩ := h h0
  exact ⟨b, off, t, cs, e, by omega, hb, hc⟩

theorem ext_of_same {w : World} : Below w.heap.size w w := Below.refl _ _

theorem run_make_rowN {P : Program} (t e : TypeId) (i : TypeInfo) (z : Value) (ht : P.underlying t = some (.slice e)) (hi : P.info? e = some i) (hz : i.zero = some z)
    (kl kc : IntKind) (n c : Nat) (hnc : n ≤ c) (hbytes : i.bytes * c ≤ 281474976710656) (h63 : c ≤ 9223372036854775807) (w : World) :
    (Instr.makeSlice t (.int kl (n : Int)) (.int kc (c : Int))).run P w = .ok (.slice (some ⟨w.heap.size, 0, none⟩) n c) (w.alloc (.cells (madeCells z.cells (c * i.size)) e)) := by
  have hb : (i.bytes : Int) * (c : Int) ≤ 281474976710656 := by
    have h : ((i.bytes * c : Nat) : Int) ≤ 281474976710656 := by omega
    rwa [Int.natCast_mul] at h
  have hr := run_make (P := P) w t e i z ht hi hz kl kc n c (by omega) (by omega) hb (by omega)
  simp only [Int.toNat_natCast] at hr
  exact hr

/-- What the loop of a slice that is copied tile by tile knows: of the call's own block g the first k tiles are done. -/
def Copied (w0 wr : World) (g n k : Nat) (ts : List Tl) : Prop :=
  ∃ cs t, Blk wr g t cs ∧ cs.size = n * 4 ∧ w0.heap.size ≤ g ∧ Below w0.heap.size w0 wr ∧ ∀ j, j < k → At4 cs (j * 4) (ts.getD j T0)
theorem Copied.start (w : World) (n : Nat) (t : TypeId) (cs : Array Value) (h : cs.size = n * 4) (ts : List Tl) : Copied w (w.alloc (.cells cs t)) w.heap.size n 0 ts :=
  ⟨cs, t, Blk.new _ _ _, h, Nat.le_refl _, (Below.refl _ _).alloc (Nat.le_refl _) _, fun j hj => absurd hj (Nat.not_lt_zero _)⟩
theorem Copied.ext {w0 wr w' : World} {g n k : Nat} {ts : List Tl} (h : Copied w0 wr g n k ts) (hx : Ext wr w') : Copied w0 w' g n k ts := by
  obtain ⟨cs, t, hb, hs, hg, hbe, hc⟩ := h
  exact ⟨cs, t, hb.ext hx, hs, hg, hbe.trans (hx.below hbe.size), hc⟩
theorem Copied.step {w0 wr : World} {g n k : Nat} {ts : List Tl} {x : Tl} (h : Copied w0 wr g n k ts) (hk : k < n) (hx : x = ts.getD k T0) :
    Copied w0 ((((wr.setCell ⟨g, k * 4, none⟩ (.int .i64 x.1)).setCell ⟨g, k * 4 + 1, none⟩ (.int .i64 x.2.1)).setCell ⟨g, k * 4 + 2, none⟩ (.int .i64 x.2.2.1)).setCell ⟨g, k * 4 + 3, none⟩ (.int .i64 x.2.2.2)) g n (k + 1) ts := by
  obtain ⟨cs, t, hb, hs, hg, hbe, hc⟩ := h
  refine ⟨put4 cs (k * 4) x, t, hb.put4_ _ _, by rw [put4_size, hs], hg, (((hbe.setCell hg _).setCell hg _).setCell hg _).setCell hg _, fun j hj => ?_⟩
  by_cases hjk : j = k
  · subst hjk
    rw [← hx]
    exact put4_at _ _ _ (by omega)
  · exact (hc j (by omega)).put4_ (by omega)
/-- The cells that the round's store asks for. -/
theorem Copied.room {w0 wr : World} {g n k : Nat} {ts : List Tl} (h : Copied w0 wr g n k ts) (hk : k < n) :
    ∃ v0 v1 v2 v3, wr.cell? ⟨g, k * 4, none⟩ = some v0 ∧ wr.cell? ⟨g, k * 4 + 1, none⟩ = some v1 ∧ wr.cell? ⟨g, k * 4 + 2, none⟩ = some v2 ∧ wr.cell? ⟨g, k * 4 + 3, none⟩ = some v3 ∧
      wr.frozen? ⟨g, k * 4, none⟩ = false ∧ wr.frozen? ⟨g, k * 4 + 1, none⟩ = false ∧ wr.frozen? ⟨g, k * 4 + 2, none⟩ = false ∧ wr.frozen? ⟨g, k * 4 + 3, none⟩ = false := by
  obtain ⟨cs, t, hb, hs, hg, hbe, hc⟩ := h
  exact ⟨cs[k * 4]'(by omega), cs[k * 4 + 1]'(by omega), cs[k * 4 + 2]'(by omega), cs[k * 4 + 3]'(by omega), by rw [hb.cell]; simp, by rw [hb.cell]; simp, by rw [hb.cell]; simp, by rw [hb.cell]; simp, hb.frozen _, hb.frozen _, hb.frozen _, hb.frozen _⟩
theorem Copied.done {w0 wr : World} {g n : Nat} {ts : List Tl} (h : Copied w0 wr g n n ts) (hl : ts.length = n) : Below w0.heap.size w0 wr ∧ TW wr w0.heap.size (some ⟨g, 0, none⟩) ts := by
  obtain ⟨cs, t, hb, hs, hg, hbe, hc⟩ := h
  exact ⟨hbe, fun _ => ⟨g, 0, t, cs, rfl, hg, hb, fun k hk => by simpa using hc k (by omega)⟩⟩
theorem Copied.below {w0 wr : World} {g n k : Nat} {ts : List Tl} (h : Copied w0 wr g n k ts) : Below w0.heap.size w0 wr := by
  obtain ⟨cs, t, hb, hs, hg, hbe, hc⟩ := h
  exact hbe
end Go.Proofs.Ytcakbnfpmpdljaa
