/- Tiles that have neighbours at all sides: the greatest list of them. -/
import Derived.Test.YtpjlapialjjcdaaSBridge
import Derived.Test.YtpjlapialjjcdaaLast3
import Derived.Test.YtpjlapialjjcdaaNb3
import Derived.RangeFuncNested
import Derived.Test.YtpjlapialjjcdaaIs2
import Derived.Test.YtpjlapialjjcdaaCut3
import Derived.Test.YtpjlapialjjcdaaJn3
import Derived.Laws.IdiomCopy
import Derived.Lib.SliceRun
import Derived.Deep.RegionLaw
import Derived.Lib.Hide
import Derived.ScopeJumps
import Derived.WalkMore
import Derived.Deep.RegionHeld3
namespace Go.Proofs.Ytpjlapialjjcdaa
section
set_option linter.unusedVariables false
set_option linter.unusedSimpArgs false
open Go.RowKit Go.Sort

/-- May y stand at the side s of x? -/
def nbT (x y : Tl) (s : Nat) : Bool := decide (colT y ((s + 2) % 4) = colT x s)
/-- Has x a neighbour of the list at the side s? -/
def hasNb (l : List Tl) (x : Tl) (s : Nat) : Bool := l.any fun y => nbT x y s
def good4 (l : List Tl) (x : Tl) : Bool := hasNb l x 0 && (hasNb l x 1 && (hasNb l x 2 && hasNb l x 3))
theorem hasNb_iff {l : List Tl} {x : Tl} {s : Nat} : hasNb l x s = true ↔ ∃ y ∈ l, nbT x y s = true := by simp [hasNb]
theorem good4_iff {l : List Tl} {x : Tl} : good4 l x = true ↔ ∀ s, s < 4 → hasNb l x s = true := by
  simp only [good4, Bool.and_eq_true]
  constructor
  · rintro ⟨h0, h1, h2, h3⟩ s hs
    obtain rfl | rfl | rfl | rfl : s = 0 ∨ s = 1 ∨ s = 2 ∨ s = 3 := by omega
    · exact h0
    · exact h1
    · exact h2
    · exact h3
  · intro h
    exact ⟨h 0 (by omega), h 1 (by omega), h 2 (by omega), h 3 (by omega)⟩
theorem good4_mono {l m : List Tl} {x : Tl} (h : ∀ y ∈ l, y ∈ m) (hg : good4 l x = true) : good4 m x = true := by
  rw [good4_iff] at hg ⊢
  intro s hs
  obtain ⟨y, hy, h1⟩ := hasNb_iff.1 (hg s hs)
  exact hasNb_iff.2 ⟨y, h y hy, h1⟩
/-- All tiles of the list have neighbours in it. -/
def closedT (l : List Tl) : Prop := ∀ x ∈ l, good4 l x = true
/-- Every list of tiles of ts that have neighbours in it lies in l. -/
def holdsAll (ts l : List Tl) : Prop := l.Sublist ts ∧ ∀ S : List Tl, closedT S → (∀ x ∈ S, x ∈ ts) → ∀ x ∈ S, x ∈ l
theorem holdsAll.start (ts : List Tl) : holdsAll ts ts := ⟨List.Sublist.refl _, fun S _ h => h⟩
/-- A list that has lost only tiles without neighbours. -/
theorem holdsAll.less {ts l m : List Tl} (h : holdsAll ts l) (hs : m.Sublist l) (hout : ∀ x ∈ l, x ∉ m → good4 l x = false) : holdsAll ts m := by
  refine ⟨hs.trans h.1, fun S hS hts x hx => ?_⟩
  have hxl := h.2 S hS hts x hx
  rcases Classical.em (x ∈ m) with h1 | h1
  · exact h1
  · have h2 := hout x hxl h1
    rw [good4_mono (h.2 S hS hts) (hS x hx)] at h2
    cases h2
def flt (l : List Tl) : List Tl := l.filter (good4 l)
theorem holdsAll.flt {ts l : List Tl} (h : holdsAll ts l) : holdsAll ts (flt l) :=
  h.less List.filter_sublist fun x hx hn => by
    cases hg : good4 l x with
    | false => rfl
    | true => exact absurd (List.mem_filter.2 ⟨hx, hg⟩) hn
theorem closed_of_flt {l : List Tl} (h : (flt l).length = l.length) : closedT l := by
  have e : flt l = l := List.filter_sublist.eq_of_length h
  intro x hx
  rw [← e] at hx
  exact (List.mem_filter.1 hx).2
def trimN : Nat → List Tl → List Tl
  | 0, l => l
  | n + 1, l => trimN n (flt l)
/-- The trimmed list. -/
def trimT (l : List Tl) : List Tl := trimN l.length l
theorem flt_len (l : List Tl) : (flt l).length ≤ l.length := List.filter_sublist.length_le
theorem trimN_end {ts : List Tl} (n : Nat) : ∀ l, l.length ≤ n → holdsAll ts l → holdsAll ts (trimN n l) ∧ closedT (trimN n l) := by
  induction n with
  | zero =>
    intro l hl h
    have : l = [] := List.eq_nil_of_length_eq_zero (by omega)
    subst this
    exact ⟨h, fun x hx => by simp [trimN] at hx⟩
  | succ n ih =>
    intro l hl h
    by_cases e : (flt l).length = l.length
    · have e2 : flt l = l := List.filter_sublist.eq_of_length e
      have hc := closed_of_flt e
      have hfix : ∀ k, trimN k l = l := by
        intro k
        induction k with
        | zero => rfl
        | succ k ihk => show trimN k (flt l) = l; rw [e2]; exact ihk
      rw [hfix (n + 1)]
      exact ⟨h, hc⟩
    · have := flt_len l
      exact ih (flt l) (by omega) h.flt
/-- There is one end alone. -/
theorem end_is {ts r : List Tl} (ha : Asc ts) (h : holdsAll ts r) (hc : closedT r) : r = trimT ts := by
  obtain ⟨h2, hc2⟩ := trimN_end ts.length ts (Nat.le_refl _) (holdsAll.start ts)
  refine asc_eq (ha.sublist h.1) (ha.sublist h2.1) fun y => ⟨fun hy => ?_, fun hy => ?_⟩
  · exact h2.2 r hc (fun x hx => h.1.subset hx) y hy
  · exact h.2 _ hc2 (fun x hx => h2.1.subset hx) y hy
theorem trimT_len (ts : List Tl) : (trimT ts).length ≤ ts.length := (trimN_end ts.length ts (Nat.le_refl _) (holdsAll.start ts)).1.1.length_le
theorem trimT_asc {ts : List Tl} (h : Asc ts) : Asc (trimT ts) := h.sublist (trimN_end ts.length ts (Nat.le_refl _) (holdsAll.start ts)).1.1
/-- A tile without neighbours is struck. -/
theorem holdsAll.erase {ts l : List Tl} (h : holdsAll ts l) {i : Nat} (hi : i < l.length) (hg : good4 l (l.getD i T0) = false) : holdsAll ts (l.eraseIdx i) := by
  have hsub : (l.eraseIdx i).Sublist l := List.eraseIdx_sublist ..
  refine h.less hsub fun x hx hn => ?_
  obtain ⟨k, hk, e⟩ := List.getElem_of_mem hx
  have hki : k = i := by
    rcases Nat.lt_trichotomy k i with h1 | h1 | h1
    · exact absurd (List.mem_iff_getElem?.2 ⟨k, by rw [List.getElem?_eraseIdx_of_lt h1, List.getElem?_eq_getElem hk, e]⟩) hn
    · exact h1
    · exact absurd (List.mem_iff_getElem?.2 ⟨k - 1, by rw [List.getElem?_eraseIdx_of_ge (by omega), show k - 1 + 1 = k by omega, List.getElem?_eq_getElem hk, e]⟩) hn
  subst hki
  rwa [show l.getD k T0 = x by simp [List.getD, hk, e]] at hg
end

section
set_option linter.unusedVariables false
set_option linter.unusedSimpArgs false
open Go.RowKit Go.Shelf

attribute [local go_sem] Oper.semAt_some

theorem colT_cell {w : World} {b o : Nat} {t : Tl} (h : Cell4 w b o t) (s : Nat) (hs : s < 4) : w.cell? ⟨b, o + s, none⟩ = some (.int .i64 (colT t s)) := by
  obtain ⟨h0, h1, h2, h3⟩ := h
  obtain rfl | rfl | rfl | rfl : s = 0 ∨ s = 1 ∨ s = 2 ∨ s = 3 := by omega
  · exact h0
  · exact h1
  · exact h2
  · exact h3
set_option maxRecDepth 100000 in
set_option maxHeartbeats 2000000 in
theorem fits_any (c0 : Int) (A : Option Addr) (n c : Nat) (ts : List Tl) (i s k : Nat) (w : World) (hn : n ≤ 1048576) (hl : ts.length = n) (hi : i < n) (hk : k < n) (hs : s < 4) (hA : TR w w.heap.size A ts) :
    Calls Try.prog 143 #[.agg #[.int .i64 c0, .slice A n c], .int .i64 i, .int .i64 s, .int .i64 k] w fun e w' => e = .returned (.bool (nbT (ts.getD i T0) (ts.getD k T0) s)) ∧ Ext w w' := by
  have hi3 : (i : Int) < (n : Int) := by omega
  have hk3 : (k : Int) < (n : Int) := by omega
  obtain ⟨b, o, rfl, hlt, ht⟩ := hA (by omega)
  have ti := (World.cell?_alloc_lt w (Obj.cells #[.int .i64 c0, .slice (some ⟨b, o, none⟩) n c] 31) ⟨b, o + i * 4 + s, none⟩ hlt).trans (colT_cell (ht i (by omega)) s hs)
  have tk := (World.cell?_alloc_lt w (Obj.cells #[.int .i64 c0, .slice (some ⟨b, o, none⟩) n c] 31) ⟨b, o + k * 4 + (s + 2) % 4, none⟩ hlt).trans (colT_cell (ht k (by omega)) ((s + 2) % 4) (by omega))
  unfold nbT
  generalize colT (ts.getD i T0) s = e at ti ⊢
  generalize colT (ts.getD k T0) ((s + 2) % 4) = f at tk ⊢
  have r1 := (Blk.new w 31 #[.int .i64 c0, .slice (some ⟨b, o, none⟩) n c]).rd 1 rfl
  clear hA ht
  obtain rfl | rfl | rfl | rfl : s = 0 ∨ s = 1 ∨ s = 2 ∨ s = 3 := by omega
  all_goals
    simp only [Nat.add_zero, Nat.reduceAdd, Nat.reduceMod] at ti tk
    go_enter Try.func143, Try.ntmps143
    go_wp2_with fail
    go_quiet (fail)
    clear ti tk r1
    go_wp2_with fail
    go_ret
    exact ⟨ret_b (by rw [Bool.eq_iff_iff]; simp), by repeat (first | exact Ext.refl _ | refine Ext.drewN ?_ _ | refine Ext.alloc ?_ _)⟩

theorem nbl_nil {fb : Nat → Bool} {n : Nat} (h : nbl fb n = []) : ∀ k, k < n → fb k = false := by
  intro k hk
  cases hf : fb k with
  | false => rfl
  | true =>
    have : (k : Int) ∈ nbl fb n := by
      unfold nbl
      exact List.mem_map.2 ⟨k, List.mem_filter.2 ⟨List.mem_range.2 hk, hf⟩, rfl⟩
    rw [h] at this
    cases this
theorem nbl_some {fb : Nat → Bool} {n : Nat} {pre : List Int} (h : pre <+: nbl fb n) (h0 : pre ≠ []) : ∃ k, k < n ∧ fb k = true := by
  obtain ⟨x, r, rfl⟩ : ∃ x r, pre = x :: r := by cases pre with | nil => exact absurd rfl h0 | cons x r => exact ⟨x, r, rfl⟩
  have hx : x ∈ nbl fb n := h.subset (List.mem_cons_self ..)
  unfold nbl at hx
  obtain ⟨k, hk, _⟩ := List.mem_map.1 hx
  exact ⟨k, List.mem_range.1 (List.mem_filter.1 hk).1, (List.mem_filter.1 hk).2⟩
set_option maxRecDepth 100000 in
set_option maxHeartbeats 4000000 in
theorem hasNeighbour_in (m : Nat) (hm : 5 ≤ m) (c0 : Int) (A : Option Addr) (n c : Nat) (ts : List Tl) (i s : Nat) (w : World) (hn : n ≤ 1048576) (hl : ts.length = n) (hA : TR w w.heap.size A ts) (hi : i < n) (hs : s < 4) :
    CallsIn Fence.wide m Try.prog 111 #[.agg #[.int .i64 c0, .slice A n c], .int .i64 (i : Int), .int .i64 (s : Int)] w fun e W' => e = .returned (.bool (hasNb ts (ts.getD i T0) s)) ∧ Below w.heap.size w W' := by
  obtain ⟨fb, hfb⟩ : ∃ fb : Nat → Bool, fb = fun k => nbT (ts.getD i T0) (ts.getD k T0) s := ⟨_, rfl⟩
  have hfit : ∀ k, k < n → ∀ V, Below w.heap.size w V → Calls Try.prog 143 #[.agg #[.int .i64 c0, .slice A n c], .int .i64 (i : Int), .int .i64 (s : Int), .int .i64 (k : Int)] V fun e w' => e = .returned (.bool (fb k)) ∧ Ext V w' := fun k hk V hV => by
    rw [hfb]; exact fits_any c0 A n c ts i s k V hn hl hi hk hs ((hA.below hV (Nat.le_refl _)).more hV.size)
  have HF := Lib.hid hfit
  have hno : (∀ k, k < n → fb k = false) → hasNb ts (ts.getD i T0) s = false := fun h => by
    cases hh : hasNb ts (ts.getD i T0) s with
    | false => rfl
    | true =>
      obtain ⟨y, hy, h1⟩ := hasNb_iff.1 hh
      obtain ⟨k, hk, e⟩ := List.getElem_of_mem hy
      have h2 := h k (by omega)
      rw [hfb] at h2
      simp only [show ts.getD k T0 = y by simp [List.getD, hk, e]] at h2
      rw [h1] at h2
      cases h2
  have hyes : (∃ k, k < n ∧ fb k = true) → hasNb ts (ts.getD i T0) s = true := fun ⟨k, hk, h⟩ => by
    rw [hfb] at h
    exact hasNb_iff.2 ⟨ts.getD k T0, by simp [List.getD, show k < ts.length by omega], h⟩
  have HNO := Lib.hid (And.intro hno hyes)
  generalize hasNb ts (ts.getD i T0) s = hb at HNO ⊢
  have h1 : 1 ≤ m := by omega
  clear hfit hno hyes hfb hA
  refine callsIn_of_wp_marks Try.func111 rfl trivial ?_ rfl
  simp only [Try.ntmps111, List.size_toArray, List.length_cons, List.length_nil, Nat.reduceAdd, Nat.reduceSub, Array.replicate_succ, Array.replicate_zero, List.push_toArray, List.append_toArray, List.nil_append, List.cons_append]
  gi_wp2
  refine ⟨trivial, (neighbours_in _ c0 A n c i s _).mono ?_⟩
  rintro e w3 ⟨rfl, rfl⟩
  gi_wp2
  obtain ⟨W2, hW2⟩ : ∃ W2, (w.alloc (Obj.cells #[.int .i64 c0, .slice A n c] 31)).alloc (Obj.cells #[.bool false] 4) = W2 := ⟨_, rfl⟩
  have hx2 : Ext w W2 := by rw [← hW2]; exact ((Ext.refl w).alloc _).alloc _
  have hs2 : W2.heap.size = w.heap.size + 1 + 1 := by rw [← hW2]; simp
  have bO2 : Boxed W2 (w.heap.size + 1) 4 (.bool false) := by
    rw [← hW2]
    have := Boxed.new (w.alloc (Obj.cells #[.int .i64 c0, .slice A n c] 31)) 4 (.bool false)
    simpa using this
  rw [hW2]
  clear hW2
  obtain ⟨W3, hW3⟩ : ∃ W3, (((W2.alloc (Obj.cells #[.int .i64 c0, .slice A n c] 31)).alloc (Obj.cells #[.int .i64 (i : Int)] 2)).alloc (Obj.cells #[.int .i64 (s : Int)] 3)) = W3 := ⟨_, rfl⟩
  have hs3 : W3.heap.size = W2.heap.size + 3 := by rw [← hW3]; simp
  have hbel : Below W2.heap.size W2 W3 := by rw [← hW3]; exact ((((Ext.refl W2).alloc _).alloc _).alloc _).below (Nat.le_refl _)
  have bO : Boxed W3 (w.heap.size + 1) 4 (.bool false) := by rw [← hW3]; exact ((bO2.alloc _).alloc _).alloc _
  have b1 : Blk W3 W2.heap.size 31 #[.int .i64 c0, .slice A n c] := by
    rw [← hW3]
    have := ((Blk.new W2 31 #[.int .i64 c0, .slice A n c]).ext ((Ext.refl _).alloc (Obj.cells #[.int .i64 (i : Int)] 2))).ext ((Ext.refl _).alloc (Obj.cells #[.int .i64 (s : Int)] 3))
    simpa using this
  have b2 : Blk W3 (W2.heap.size + 1) 2 #[.int .i64 (i : Int)] := by
    rw [← hW3]
    have := (Blk.new (W2.alloc (Obj.cells #[.int .i64 c0, .slice A n c] 31)) 2 #[.int .i64 (i : Int)]).ext ((Ext.refl _).alloc (Obj.cells #[.int .i64 (s : Int)] 3))
    simpa using this
  have b3 : Blk W3 (W2.heap.size + 2) 3 #[.int .i64 (s : Int)] := by
    rw [← hW3]
    have := (Blk.new ((W2.alloc (Obj.cells #[.int .i64 c0, .slice A n c] 31)).alloc (Obj.cells #[.int .i64 (i : Int)] 2)) 3 #[.int .i64 (s : Int)])
    simpa using this
  rw [hW3]
  rw [hs2] at b1 b2 b3
  clear hW3 bO2
  have hw2 := (hx2.below (Nat.le_refl _)).size
  refine wpIn_rangeFunc_ownG rfl h1 (gf := 142) (lb := #[.pointer (some ⟨w.heap.size + 1 + 1, 0, none⟩), .pointer (some ⟨w.heap.size + 1 + 1 + 1, 0, none⟩), .pointer (some ⟨w.heap.size + 1 + 1 + 2, 0, none⟩)]) rfl trivial (enters_of Try.func142 (by kernel_rfl) rfl)
    (nb_stops (m - 1) (w.heap.size + 1 + 1) W2.heap.size n c c0 i s A fb (by omega) hn W3 (by omega) (by omega) b1 b2 b3 (fun k hk V hV => HF.out k hk V ((hx2.below (Nat.le_refl _)).trans ((hbel.trans hV).mono hw2))))
    (fun h k => h.trans k) (fun W l o o' hl ho hc hw => ⟨belowK_b (w := W3) (by omega) W l o o' hl ho hc hw, fun k h1 h2 => World.putObj_heap_other (by omega)⟩) (Below.refl _ _) (fun _ => rfl)
    (fun pre W => (pre = [] ∧ Boxed W (w.heap.size + 1) 4 (.bool false)) ∧ Below w.heap.size W3 W)
    (fun ct pre W => ((ct = .ret ∧ pre ≠ []) ∧ Boxed W (w.heap.size + 1) 4 (.bool true)) ∧ Below w.heap.size W3 W)
    (OwnFrom.and (OwnFrom.and (ownFrom_pure _ (fun pre => pre = [])) (Own.from (boxed_own _ _ (fun _ => .bool false)) _)) (ownFrom_below (by omega) (by omega)))
    (fun ct => OwnFrom.and (OwnFrom.and (ownFrom_pure _ (fun pre => ct = .ret ∧ pre ≠ [])) (Own.from (boxed_own _ _ (fun _ => .bool true)) _)) (ownFrom_below (by omega) (by omega)))
    ⟨⟨rfl, bO⟩, Below.refl _ _⟩
    (fun x => { tmps := #[.agg #[.int .i64 c0, .slice A n c], .int .i64 (i : Int), .int .i64 (s : Int), .pointer (some ⟨w.heap.size, 0, none⟩), undef, undef, .pointer (some ⟨w.heap.size + 1, 0, none⟩), .agg #[.int .i64 c0, .slice A n c], .int .i64 (i : Int), .int .i64 (s : Int), .func (.func 142) #[] #[.pointer (some ⟨w.heap.size + 1 + 1, 0, none⟩), .pointer (some ⟨w.heap.size + 1 + 1 + 1, 0, none⟩), .pointer (some ⟨w.heap.size + 1 + 1 + 2, 0, none⟩)], .int .i64 x], defers := [] }) ?assign ?body ?done ?stop
  case assign =>
    intro l x W K hK
    gi_wp2
    first | exact hK | simpa using hK
  case body =>
    rintro l pre x W ⟨⟨rfl, hv⟩, hB⟩ hlt
    have hc := hv.cell
    have hf := hv.frozen
    gi_wp2
    exact ⟨(KeepsOthers.setCell _ _ _).from _, ⟨⟨rfl, by simp⟩, hv.set _⟩, hB.setCell (p := ⟨w.heap.size + 1, 0, none⟩) (by simp) _⟩
  case done =>
    rintro D ys W hD rfl ⟨⟨hnil, hv⟩, hB⟩ hK
    have hc := hv.cell
    have hf := hv.frozen
    have hbf : hb = false := HNO.out.1 (nbl_nil hnil)
    subst hbf
    gi_wp2
    have hv2 := hv.set (.bool false)
    have hK' : (W.setCell ⟨w.heap.size + 1, 0, none⟩ (.bool false)).heap[D]? = some (.deferred (some [])) := (KeepsOthers.setCell _ _ _).same D _ hK rfl
    refine ⟨by simp, .inl ⟨_, _, rfl, run_takeDeferred hK', ?_⟩⟩
    have hc5 := cell_kept hv2.cell (grownBy_putObj' _ D (.deferred none)) (fun r e => by cases e; exact ⟨_, hK', rfl⟩)
    refine ⟨.bool false, ?_, rfl, ?_⟩
    · simp [results, Try.results111, go_sem, hc5]
    · exact (hx2.below (Nat.le_refl _)).trans ((hbel.mono hw2).trans ((hB.setCell (p := ⟨w.heap.size + 1, 0, none⟩) (by simp) _).trans (belowK_b (w := w) (Nat.le_refl _) _ D _ _ (by omega) hK' rfl rfl)))
  case stop =>
    rintro D ct pre W hD hpre ⟨⟨⟨rfl, hne⟩, hv⟩, hB⟩ hK
    have hbt : hb = true := HNO.out.2 (nbl_some hpre hne)
    subst hbt
    gi_wp2
    refine ⟨by simp, .inl ⟨_, _, rfl, run_takeDeferred hK, ?_⟩⟩
    have hc5 := cell_kept hv.cell (grownBy_putObj' _ D (.deferred none)) (fun r e => by cases e; exact ⟨_, hK, rfl⟩)
    refine ⟨.bool true, ?_, rfl, ?_⟩
    · simp [results, Try.results111, go_sem, hc5]
    · exact (hx2.below (Nat.le_refl _)).trans ((hbel.mono hw2).trans (hB.trans (belowK_b (w := w) (Nat.le_refl _) W D _ _ (by omega) hK rfl rfl)))
end

section
set_option linter.unusedVariables false
set_option linter.unusedSimpArgs false
open Go.RowKit Go.Sort

/-- Cells, some of them laid over. -/
def putL (cs : Array Value) : Nat → List Value → Array Value
  | _, [] => cs
  | o, v :: r => putL (cs.setIfInBounds o v) (o + 1) r
theorem putL_size (vs : List Value) : ∀ (cs : Array Value) (o : Nat), (putL cs o vs).size = cs.size := by
  induction vs with
  | nil => intro cs o; rfl
  | cons v r ih => intro cs o; show (putL (cs.setIfInBounds o v) (o + 1) r).size = _; rw [ih]; simp
theorem putL_out (vs : List Value) : ∀ (cs : Array Value) (o k : Nat), k < o ∨ o + vs.length ≤ k → (putL cs o vs)[k]? = cs[k]? := by
  induction vs with
  | nil => intro cs o k _; rfl
  | cons v r ih =>
    intro cs o k h
    show (putL (cs.setIfInBounds o v) (o + 1) r)[k]? = _
    simp only [List.length_cons] at h
    rw [ih _ _ _ (by omega), Array.getElem?_setIfInBounds]
    rw [if_neg (by omega)]
theorem putL_in (vs : List Value) : ∀ (cs : Array Value) (o k : Nat), o ≤ k → k < o + vs.length → k < cs.size → (putL cs o vs)[k]? = vs[k - o]? := by
  induction vs with
  | nil => intro cs o k h1 h2; simp at h2; omega
  | cons v r ih =>
    intro cs o k h1 h2 h3
    show (putL (cs.setIfInBounds o v) (o + 1) r)[k]? = _
    simp only [List.length_cons] at h2
    by_cases e : k = o
    · subst e
      rw [putL_out _ _ _ _ (.inl (by omega)), Array.getElem?_setIfInBounds]
      simp [h3]
    · rw [ih _ _ _ (by omega) (by omega) (by simpa using h3), show k - o = k - (o + 1) + 1 by omega, List.getElem?_cons_succ]
theorem Blk.putL {w : World} {g : Nat} {t : TypeId} : ∀ (vs : List Value) {cs : Array Value} (o : Nat) {w : World}, Blk w g t cs → Blk (w.setCells g o vs) g t (putL cs o vs) := by
  intro vs
  induction vs with
  | nil => intro cs o w h; exact h
  | cons v r ih => intro cs o w h; exact ih (o + 1) (h.set_ o v)
theorem heap_setCells_far (g : Nat) : ∀ (vs : List Value) (o : Nat) (w : World) (k : Nat), k ≠ g → (w.setCells g o vs).heap[k]? = w.heap[k]? := by
  intro vs
  induction vs with
  | nil => intro o w k _; rfl
  | cons v r ih => intro o w k h; exact (ih (o + 1) _ k h).trans (Below.heap_setCell w ⟨g, o, none⟩ v k h)
theorem size_setCells_w (g : Nat) : ∀ (vs : List Value) (o : Nat) (w : World), (w.setCells g o vs).heap.size = w.heap.size := by
  intro vs
  induction vs with
  | nil => intro o w; rfl
  | cons v r ih => intro o w; exact (ih (o + 1) _).trans (by simp)
theorem below_setCells {B g : Nat} (hg : B ≤ g) : ∀ (vs : List Value) (o : Nat) (w0 w : World), Below B w0 w → Below B w0 (w.setCells g o vs) := by
  intro vs
  induction vs with
  | nil => intro o w0 w h; exact h
  | cons v r ih => intro o w0 w h; exact ih (o + 1) w0 _ (h.setCell (p := ⟨g, o, none⟩) hg v)
theorem del_cells {cs : Array Value} {F : List Value} {n i : Nat} (hF : F.length = n * 4) (ht : cs.toList.take (n * 4) = F) (hs : n * 4 ≤ cs.size) (hi : i < n) (zs : List Value) (hz : zs.length = 4) :
    (putL (putL cs (i * 4) (F.drop ((i + 1) * 4))) ((n - 1) * 4) zs).toList.take ((n - 1) * 4) = F.take (i * 4) ++ F.drop ((i + 1) * 4) := by
  have hd : (F.drop ((i + 1) * 4)).length = (n - 1 - i) * 4 := by rw [List.length_drop, hF]; omega
  have hk : ∀ k, k < n * 4 → cs[k]? = F[k]? := fun k hk => by
    rw [← ht, List.getElem?_take_of_lt hk, Array.getElem?_toList]
  apply List.ext_getElem?
  intro k
  by_cases h1 : k < (n - 1) * 4
  · rw [List.getElem?_take_of_lt h1, Array.getElem?_toList, putL_out _ _ _ _ (.inl h1)]
    by_cases h2 : k < i * 4
    · rw [putL_out _ _ _ _ (.inl h2), hk k (by omega), List.getElem?_append_left (by rw [List.length_take, hF]; omega), List.getElem?_take_of_lt h2]
    · rw [putL_in _ _ _ _ (by omega) (by rw [hd]; omega) (by omega), List.getElem?_append_right (by rw [List.length_take, hF]; omega), List.length_take, hF, show min (i * 4) (n * 4) = i * 4 by omega]
  · rw [List.getElem?_take_eq_none (by omega), List.getElem?_eq_none (by rw [List.length_append, List.length_take, hF, hd]; omega)]
theorem flat_erase (ts : List Tl) (i : Nat) : flat (ts.eraseIdx i) = (flat ts).take (i * 4) ++ (flat ts).drop ((i + 1) * 4) := by
  rw [flat_take, flat_drop, ← flat_append, List.eraseIdx_eq_take_drop_succ]
theorem zero_tile (w : World) : (zeroValue 51).run Try.prog w = .ok (.agg #[.int .i64 0, .int .i64 0, .int .i64 0, .int .i64 0]) w := by
  obtain ⟨i0, hi, hz0, hz1, hz2⟩ := info_parts info_tile
  first | exact run_zeroValue hi hz0 w | simp [zeroValue, typeInfo, hi, hz0] | kernel_rfl
def zero4 : List Value := [.int .i64 0, .int .i64 0, .int .i64 0, .int .i64 0]
theorem run_clear_tile (w : World) (ty : TypeId) (b o c : Nat) (hc : ∀ j, j < 4 → (w.cell? ⟨b, o + j, none⟩).isSome = true) (hf : ∀ j, j < 4 → w.frozen? ⟨b, o + j, none⟩ = false) :
    (Builtin.clear_ #[29] ty #[.slice (some ⟨b, o, none⟩) 1 c]).run Try.prog w = .ok (.tuple #[]) (w.setCells b o zero4) := by
  have hzc : (Builtin.zeroCells (Value.agg #[.int .i64 0, .int .i64 0, .int .i64 0, .int .i64 0]).cells 1).toList = zero4 := by
    simp [Builtin.zeroCells, Value.cells, zero4]
    rfl
  have hst := run_storeCells_cells (P := Try.prog) b o zero4 0 w (by simpa [zero4] using hc) (by simpa [zero4] using hf) (by intro v hv'; simp [zero4] at hv'; subst hv'; rfl)
  simp only [Nat.add_zero] at hst
  simp [Builtin.clear_, run_underlying Try.underlying29, zero_tile, hzc, hst]
set_option maxRecDepth 100000 in
set_option maxHeartbeats 4000000 in
theorem delete_any (base n cap i j : Nat) (A : Option Addr) (ts : List Tl) (w : World) (hl : ts.length = n) (hn : n ≤ 65536) (hi : i < n) (hj : j = i + 1) (hown : w.ownsRow base 51 4 (.slice A n cap) n (flat ts)) :
    Calls Try.prog 97 #[.slice A n cap, .int .i64 (i : Int), .int .i64 (j : Int)] w fun e w' => e = .returned (.slice A (n - 1) cap) ∧ w'.ownsRow base 51 4 (.slice A (n - 1) cap) (n - 1) (flat (ts.eraseIdx i)) ∧
      Below base w w' ∧ w'.heap.size = w.heap.size ∧ ∀ k, (Value.slice A n cap).ownBlock ≠ some k → w'.heap[k]? = w.heap[k]? := by
  obtain ⟨i0, hi0, hz0, hz1, hz2⟩ := info_parts info_tile
  rcases hown.2 with ⟨_, h0⟩ | ⟨g, cap', cur, hv, hbase, hg, hnc, hmx, hcs, hcur⟩
  · omega
  obtain ⟨rfl, rfl⟩ : A = some ⟨g, 0, none⟩ ∧ cap = cap' := by simpa using hv
  clear hv
  have hF : (flat ts).length = n * 4 := by rw [flat_len, hl]
  have hblk : Blk w g 51 cur := hg
  obtain ⟨news, hnews⟩ : ∃ news, news = (flat ts).drop (j * 4) := ⟨_, rfl⟩
  have hlen : news.length = (n - j) * 4 := by rw [hnews, List.length_drop, hF]; omega
  have hcell : ∀ k, k < n * 4 → w.cell? ⟨g, k, none⟩ = (flat ts)[k]? := fun k hk => by
    rw [hblk.cell k, ← hcur, List.getElem?_take_of_lt hk, Array.getElem?_toList]
  have hsome : ∀ k, k < cap * 4 → (w.cell? ⟨g, k, none⟩).isSome = true := fun k hk => by
    rw [hblk.cell k, Array.getElem?_eq_getElem (by omega)]; rfl
  obtain ⟨A', hA, hsrc⟩ : ∃ A' : Addr, (if cap = j then some (⟨g, 0, none⟩ : Addr) else some ⟨g, j * 4, none⟩) = some A' ∧ Hid (∀ t u, news[t]? = some u → w.drew.cell? (A'.add t) = some u) := by
    by_cases h : cap = j
    · refine ⟨⟨g, 0, none⟩, by simp [h], fun t u hu => ?_⟩
      have h0 : news.length = 0 := by rw [hlen]; omega
      rw [List.length_eq_zero_iff.1 h0] at hu
      simp at hu
    · refine ⟨⟨g, j * 4, none⟩, by simp [h], fun t u hu => ?_⟩
      have ht : t < (n - j) * 4 := by
        have := (List.getElem?_eq_some_iff.1 hu).1
        rwa [hlen] at this
      rw [hnews, List.getElem?_drop] at hu
      rw [Addr.add_lit]
      exact (hcell (j * 4 + t) (by omega)).trans hu
  have s1 : Hid (news.length = (n - j) * 4) := hlen
  have s2 : Hid (∀ u ∈ news, u.oneCell' = true) := fun u hu => by rw [hnews] at hu; exact flat_one ts u (List.mem_of_mem_drop hu)
  have s3 : Hid (∀ t, t < news.length → (w.drew.cell? ⟨g, 0 + i * 4 + t, none⟩).isSome = true ∧ w.drew.frozen? ⟨g, 0 + i * 4 + t, none⟩ = false) := fun t ht => by
    rw [hlen] at ht
    rw [Nat.zero_add]
    exact ⟨hsome (i * 4 + t) (by omega), hblk.frozen (i * 4 + t)⟩
  obtain ⟨W1, hW1⟩ : ∃ W1, W1 = w.drew.setCells g (0 + i * 4) news := ⟨_, rfl⟩
  have hblk1 : Blk W1 g 51 (putL cur (i * 4) news) := by
    rw [hW1, Nat.zero_add]
    exact Blk.putL (w := w) news (i * 4) (show Blk w.drew g 51 cur from hblk)
  have hsz1 : W1.heap.size = w.heap.size := by rw [hW1]; exact size_setCells_w _ _ _ _
  have hfar1 : ∀ k, k ≠ g → W1.heap[k]? = w.heap[k]? := fun k hk => by rw [hW1]; exact heap_setCells_far g news _ w.drew k hk
  have e1 : i + (n - j) = n - 1 := by omega
  have e2 : n - (n - 1) = 1 := by omega
  have hcl : ∀ ty, (Builtin.clear_ #[29] ty #[.slice (some ⟨g, (n - 1) * 4, none⟩) (n - (n - 1)) (cap - (n - 1))]).run Try.prog W1 = .ok (.tuple #[]) (W1.setCells g ((n - 1) * 4) zero4) := fun ty => by
    rw [e2]
    exact run_clear_tile W1 ty g ((n - 1) * 4) _ (fun t ht => by rw [hblk1.cell, Array.getElem?_eq_getElem (by rw [putL_size]; omega)]; rfl) (fun t ht => hblk1.frozen _)
  have hlast : ¬ cap = n - 1 := by omega
  have hle3 : i + (n - j) ≤ n := by omega
  clear e2
  have hW : Hid (W1 = w.drew.setCells g (0 + i * 4) news) := hW1
  have hic : i ≤ cap := by omega
  have hjc : j ≤ cap := by omega
  have hjn : j ≤ n := by omega
  have HE := Lib.hid (And.intro hblk1 (And.intro hsz1 (And.intro hfar1 (And.intro hnews (And.intro hF hcur)))))
  have HCS := Lib.hid (And.intro hcs (And.intro hbase (And.intro hmx hblk.lt)))
  have HJ := Lib.hid hj
  have hij : i < j := by omega
  have hne : ¬ (i : Int) = (j : Int) := by omega
  clear hW1 hblk1 hsz1 hfar1 hblk hg hcell hsome hlen hnews hF hcur hown hcs hj
  go_enter Try.func97, Try.ntmps97
  go_wp2_with fail
  go_region_law (refine step_append_room rfl (.tmp 22) (.tmp 25) 29 rfl 51 i0 4 Try.underlying29 hi0 hz1 g 0 i cap (by simp [Act.eval, Act.put]) A' (n - j) (cap - j) news (by simp [Act.eval, Act.put]) s1.out hsrc.out s2.out (by omega) s3.out ?_; rw [← hW.out])
  all_goals
    go_wp2
    refine bodyPost_ret (results_tmp rfl _ _ _) rfl ?_
    obtain ⟨hblk1, hsz1, hfar1, hnews, hF, hcur⟩ := HE.out
    obtain ⟨hcs, hbase, hmx, hglt⟩ := HCS.out
    have hj := HJ.out
    have hb2 : Blk (W1.setCells g ((n - 1) * 4) zero4) g 51 (putL (putL cur (i * 4) news) ((n - 1) * 4) zero4) := Blk.putL (w := W1) zero4 ((n - 1) * 4) hblk1
    have hB1 : Below base w W1 := by rw [hW.out]; exact below_setCells hbase news _ w _ ((Below.refl base w).drew)
    refine ⟨rfl, ⟨?_, .inr ⟨g, cap, _, rfl, hbase, hb2, by omega, hmx, by rw [putL_size, putL_size, hcs], ?_⟩⟩, below_setCells hbase zero4 _ w _ hB1, (size_setCells_w _ _ _ _).trans hsz1, fun k hk => ?_⟩
    · rw [flat_len, List.length_eraseIdx_of_lt (by omega), hl]
    · rw [flat_erase, hnews, hj]
      exact del_cells hF hcur (by rw [hcs]; omega) hi zero4 rfl
    · have hkg : k ≠ g := fun e => hk (by rw [e]; rfl)
      exact (heap_setCells_far g zero4 _ W1 k hkg).trans (hfar1 k hkg)
end

section
set_option linter.unusedVariables false
set_option linter.unusedSimpArgs false
open Go.RowKit Go.Sort

/-- As Q; by a goto: J. -/
def jumpM (J : Nat → Act → World → Prop) (Q : Exit → Act → World → Prop) : Exit → Act → World → Prop
  | .goto l, a, w => J l a w
  | e, a, w => Q e a w
/-- A scope with labels that the run jumps back to: what holds at every jump, with a number that every pass lowers. -/
theorem wp_scope_many {P : Program} {a : Act} {w : World} {Q : Exit → Act → World → Prop} {c : Code} (J : Nat → Nat → Act → World → Prop)
    (hf : ∀ l m a w, J l m a w → ∃ rest, findLabel c l = some rest ∧ rest.wp P (jumpM (fun l' a' w' => ∃ m', m' < m ∧ J l' m' a' w') Q) a w)
    (first : c.wp P (jumpM (fun l' a' w' => ∃ m', J l' m' a' w') Q) a w) : (Code.scope c).wp P Q a w := by
  intro b k cs
  have hg : ∀ l rest, findLabel c l = some rest → gotoIn l (.inScope c :: k) = some (.code rest :: .inScope c :: k) := fun l rest h => by simp [gotoIn, h]
  have key : ∀ n l a w, J l n a w → ∀ rest, findLabel c l = some rest → ∃ e a' w', Q e a' w' ∧ Arrives P (lone (b.at a (.code rest :: .inScope c :: k)) cs w) b k cs e a' w' := by
    intro n
    induction n using Nat.strongRecOn with
    | _ n ih =>
      intro l a w hJ rest hrest
      obtain ⟨rest', hr', hwp⟩ := hf l n a w hJ
      rw [hrest] at hr'
      cases hr'
      obtain ⟨e, a₁, w₁, hq, harr⟩ := hwp b (.inScope c :: k) cs
      cases e with
      | normal => exact ⟨.normal, a₁, w₁, hq, Steps.trans harr (.one step_inScope)⟩
      | exit id => exact ⟨.exit id, a₁, w₁, hq, fun k' hk => harr k' (by simp [exitTo, hk])⟩
      | goto l' =>
        obtain ⟨m', hlt, hJ'⟩ := hq
        obtain ⟨rest2, hr2, _⟩ := hf l' m' a₁ w₁ hJ'
        obtain ⟨e₂, a₂, w₂, hq₂, harr₂⟩ := ih m' hlt l' a₁ w₁ hJ' rest2 hr2
        exact ⟨e₂, a₂, w₂, hq₂, .of_steps (harr _ (hg l' rest2 hr2)) harr₂⟩
      | ret => exact ⟨_, a₁, w₁, hq, harr⟩
      | panic ch => exact ⟨_, a₁, w₁, hq, harr⟩
      | outgrown => exact ⟨_, a₁, w₁, hq, harr⟩
  obtain ⟨e, a₁, w₁, hq, harr⟩ := first b (.inScope c :: k) cs
  cases e with
  | normal => exact ⟨.normal, a₁, w₁, hq, .head step_scope (Steps.trans harr (.one step_inScope))⟩
  | exit id => exact ⟨.exit id, a₁, w₁, hq, fun k' hk => .head step_scope (harr k' (by simp [exitTo, hk]))⟩
  | goto l' =>
    obtain ⟨m', hJ'⟩ := hq
    obtain ⟨rest2, hr2, _⟩ := hf l' m' a₁ w₁ hJ'
    obtain ⟨e₂, a₂, w₂, hq₂, harr₂⟩ := key m' l' a₁ w₁ hJ' rest2 hr2
    exact ⟨e₂, a₂, w₂, hq₂, .of_steps (.head step_scope (harr _ (hg l' rest2 hr2))) harr₂⟩
  | ret => exact ⟨_, a₁, w₁, hq, .of_steps (.one step_scope) harr⟩
  | panic ch => exact ⟨_, a₁, w₁, hq, .of_steps (.one step_scope) harr⟩
  | outgrown => exact ⟨_, a₁, w₁, hq, .of_steps (.one step_scope) harr⟩

set_option maxRecDepth 100000 in
set_option maxHeartbeats 2000000 in
theorem hasNeighbours_any (c0 : Int) (A : Option Addr) (n c : Nat) (ts : List Tl) (i : Nat) (w : World) (hn : n ≤ 1048576) (hl : ts.length = n) (hA : TR w w.heap.size A ts) (hi : i < n) :
    Calls Try.prog 96 #[.agg #[.int .i64 c0, .slice A n c], .int .i64 (i : Int)] w fun e w' => e = .returned (.bool (good4 ts (ts.getD i T0))) ∧ Below w.heap.size w w' := by
  have hnb : ∀ s : Nat, s < 4 → ∀ W, Below w.heap.size w W → Calls Try.prog 111 #[.agg #[.int .i64 c0, .slice A n c], .int .i64 (i : Int), .int .i64 (s : Int)] W (fun e W' => e = .returned (.bool (hasNb ts (ts.getD i T0) s)) ∧ Below W.heap.size W W') := fun s hs W hW =>
    callsIn_wide.1 (hasNeighbour_in 5 (Nat.le_refl _) c0 A n c ts i s W hn hl ((hA.below hW (Nat.le_refl _)).more hW.size) hi hs)
  have HN := Lib.hid hnb
  have hg := good4_iff (l := ts) (x := ts.getD i T0)
  obtain ⟨hb, hhb⟩ : ∃ hb : Nat → Bool, hb = fun s => hasNb ts (ts.getD i T0) s := ⟨_, rfl⟩
  have HBE := Lib.hid (fun s => (congrFun hhb s : hb s = hasNb ts (ts.getD i T0) s))
  generalize good4 ts (ts.getD i T0) = r at hg ⊢
  have HG := Lib.hid hg
  clear hnb hg hA hhb
  go_enter Try.func96, Try.ntmps96
  go_wp2_with fail
  go_loopw [6] (fun sv wr => ∃ s : Nat, s ≤ 4 ∧ sv = .int .i64 s ∧ (∀ j, j < s → hb j = true) ∧ Below w.heap.size w wr ∧ Blk wr w.heap.size 31 #[.int .i64 c0, .slice A n c]) (fun sv _ => 4 - (intOf sv).toNat)
  case atStart => exact ⟨0, Nat.zero_le _, rfl, fun j hj => absurd hj (Nat.not_lt_zero _), ((Ext.refl w).alloc _).below (Nat.le_refl _), Blk.new w _ _⟩
  case round =>
    obtain ⟨s, hs, rfl, hall, hb0, hbk⟩ := hrel
    have HALL := Lib.hid hall
    have HB0 := Lib.hid hb0
    have HBK := Lib.hid hbk
    clear hall hb0
    by_cases hlt : s < 4
    · have r0 := hbk.rd 0 rfl
      have r1 := hbk.rd 1 rfl
      have hs4 : (s : Int) < 4 := by omega
      have hcon := HN.out s hlt wr HB0.out
      rw [← HBE.out s] at hcon
      have HC := Lib.hid hcon
      clear hbk hcon
      go_wp2_with fail
      refine HC.out.mono ?_
      rintro e w1 ⟨rfl, hb1⟩
      have HB1 := Lib.hid hb1
      clear hb1 r0 r1
      cases hbs : hb s with
      | true =>
        go_wp2_with fail
        go_roundw
        case rel =>
          refine ⟨s + 1, by omega, by go_num, fun j hj => ?_, HB0.out.trans (HB1.out.mono HB0.out.size), HBK.out.below HB1.out HBK.out.lt⟩
          by_cases e : j < s
          · exact HALL.out j e
          · obtain rfl : j = s := by omega
            exact hbs
        case measure => simp [intOf]; omega
      | false =>
        go_wp2_with fail
        go_ret
        refine ⟨ret_b ?_, HB0.out.trans (HB1.out.mono HB0.out.size)⟩
        cases r with
        | false => rfl
        | true =>
          have := HG.out.1 rfl s hlt
          rw [← HBE.out s, hbs] at this
          cases this
    · obtain rfl : s = 4 := by omega
      go_wp2_with fail
      go_ret
      exact ⟨ret_b (HG.out.2 fun j hj => by rw [← HBE.out j]; exact HALL.out j hj).symm, HB0.out⟩
end
end Go.Proofs.Ytpjlapialjjcdaa
