/- Lasting tiles: the greatest set of tiles with neighbours in it, and when a smaller and smaller set has come to it. -/
import Derived.Test.YtnmgkchkbchfaaaDetA
import Derived.Test.YtnmgkchkbchfaaaAppI
import Derived.Lib.Hide
import Derived.Test.YtnmgkchkbchfaaaInts
import Derived.Test.YtnmgkchkbchfaaaTA
import Derived.Test.YtnmgkchkbchfaaaRen1
import Derived.Deep.RegionLaw
import Derived.Deep.DeepCutAuto
import Derived.Test.YtnmgkchkbchfaaaIsA
namespace Go.Proofs.Ytnmgkchkbchfaaa
section
set_option linter.unusedVariables false
set_option linter.unusedSimpArgs false
open Go.RowKit Go.Sort

/-- Tile y may stand to the west of tile x. -/
def westOf (ts : List Tl) (x y : Nat) : Prop := (ts.getD y T0).2.2.1 = (ts.getD x T0).1
def eastOf (ts : List Tl) (x y : Nat) : Prop := (ts.getD y T0).1 = (ts.getD x T0).2.2.1
/-- Each tile of S is one of the set and has a western and an eastern neighbour in S. -/
def ClosedT (ts : List Tl) (S : Nat → Prop) : Prop := ∀ x, S x → x < ts.length ∧ (∃ y, S y ∧ westOf ts x y) ∧ (∃ y, S y ∧ eastOf ts x y)
/-- The lasting tiles. -/
def lastT (ts : List Tl) (x : Nat) : Prop := ∃ S, ClosedT ts S ∧ S x
theorem lastT_lt {ts : List Tl} {x : Nat} (h : lastT ts x) : x < ts.length := let ⟨S, hS, hx⟩ := h; (hS x hx).1
theorem lastT_closed (ts : List Tl) : ClosedT ts (lastT ts) := by
  intro x ⟨S, hS, hx⟩
  obtain ⟨h1, ⟨y, hy, hw⟩, z, hz, he⟩ := hS x hx
  exact ⟨h1, ⟨y, ⟨S, hS, hy⟩, hw⟩, z, ⟨S, hS, hz⟩, he⟩
/-- What holds all lasting tiles and is closed is the set of the lasting tiles. -/
theorem lastT_is {ts : List Tl} {P : Nat → Prop} (h : ∀ x, lastT ts x → P x) (hc : ClosedT ts P) (x : Nat) : P x ↔ lastT ts x := ⟨fun hx => ⟨P, hc, hx⟩, h x⟩
/-- A tile of P that lacks a neighbour in P does not last. -/
theorem lastT_not {ts : List Tl} {P : Nat → Prop} (h : ∀ x, lastT ts x → P x) {x : Nat} (hx : ¬ ((∃ y, P y ∧ westOf ts x y) ∧ (∃ y, P y ∧ eastOf ts x y))) : ¬ lastT ts x := by
  intro hl
  obtain ⟨_, ⟨y, hy, hw⟩, z, hz, he⟩ := lastT_closed ts x hl
  exact hx ⟨⟨y, h y hy, hw⟩, z, h z hz, he⟩
open Classical in
/-- Their numbers, in order. -/
noncomputable def lastL (ts : List Tl) : List Int := ((List.range ts.length).filter fun k => decide (lastT ts k)).map fun k : Nat => (k : Int)
open Classical in
theorem lastL_is {ts : List Tl} {p : Nat → Bool} (h : ∀ x, x < ts.length → (p x = true ↔ lastT ts x)) : ((List.range ts.length).filter p).map (fun k : Nat => (k : Int)) = lastL ts := by
  unfold lastL
  congr 1
  refine List.filter_congr fun x hx => ?_
  rw [Bool.eq_iff_iff, decide_eq_true_eq]
  exact h x (List.mem_range.1 hx)
theorem lastL_le (ts : List Tl) : (lastL ts).length ≤ ts.length := by
  unfold lastL
  rw [List.length_map]
  refine Nat.le_trans (List.length_filter_le _ _) ?_
  rw [List.length_range]
  exact Nat.le_refl _
/-- A filter that strikes none leaves a set that is closed. -/
theorem filter_all {α : Type} {p : α → Bool} {l : List α} (h : (l.filter p).length = l.length) : ∀ x ∈ l, p x = true := by
  induction l with
  | nil => intro x hx; cases hx
  | cons a l ih =>
    have h1 := List.length_filter_le p l
    cases hp : p a with
    | false => rw [List.filter_cons_of_neg (by rw [hp]; decide), List.length_cons] at h; omega
    | true =>
      rw [List.filter_cons_of_pos hp, List.length_cons, List.length_cons] at h
      intro x hx
      rcases List.mem_cons.1 hx with rfl | hx
      · exact hp
      · exact ih (by omega) x hx
end

section
set_option linter.unusedVariables false
set_option linter.unusedSimpArgs false
open Go.RowKit Go.Sort

/-- 0 to n - 1. -/
def upTo (n : Nat) : List Int := (List.range n).map fun k : Nat => (k : Int)
theorem upTo_len (n : Nat) : (upTo n).length = n := by simp [upTo]
set_option maxRecDepth 100000 in
set_option maxHeartbeats 1000000 in
theorem tileNumbers_any (c0 : Int) (A : Option Addr) (n c : Nat) (w : World) (hn : n ≤ 1048576) :
    Calls Try.prog 92 #[.agg #[.int .i64 c0, .slice A n c]] w fun e w' => ∃ A' cap, e = .returned (.slice A' n cap) ∧ Below w.heap.size w w' ∧ IWr w' w.heap.size w'.heap.size A' (upTo n) := by
  go_enter Try.func92, Try.ntmps92
  go_wp2_with fail
  obtain ⟨W0, hW0⟩ : ∃ W0, w.alloc (Obj.cells #[.int .i64 c0, .slice A n c] 32) = W0 := ⟨_, rfl⟩
  have hs0 : W0.heap.size = w.heap.size + 1 := by rw [← hW0]; simp
  have hE : Ext w W0 := by rw [← hW0]; exact (Ext.refl w).alloc _
  have HH := Lib.hid (And.intro hs0 hE)
  rw [hW0]
  clear hW0 hs0 hE
  go_loopw [3, 8] (fun v i wr => ∃ k : Nat, k ≤ n ∧ i = .int .i64 k ∧ wr.ownsRow W0.heap.size 2 1 v k (vis (upTo k)) ∧ Below W0.heap.size W0 wr) (fun _ i _ => n - (intOf i).toNat)
  case atStart => exact ⟨0, Nat.zero_le _, rfl, World.ownsRow_nil _ _ _ _, Below.refl _ _⟩
  case round =>
    obtain ⟨k, hk, rfl, hown, hb⟩ := hrel
    have HO := Lib.hid hown
    have HB := Lib.hid hb
    clear hown hb
    by_cases hlt : k < n
    · go_wp2_with (at_builtin; refine wpList_push rfl _ _ rfl W0.heap.size _ k _ rfl (HO.out.alloc _) wr.heap.size (k : Int) rfl (heap_alloc_new wr _) ?c1 ?c2 ?c3 ?_)
      case c1 => unfold maxLen; omega
      case c2 => omega
      case c3 => have := HB.out.size; simp; omega
      intro v' w3 hown' hgrow _
      have e1 : vis (upTo k) ++ [vi (k : Int)] = vis (upTo (k + 1)) := by simp [vis, upTo, List.range_succ]
      rw [e1] at hown'
      have O3 := Lib.hid hown'
      have B3 := Lib.hid ((HB.out.alloc HB.out.size _).grown hgrow (by have := HB.out.size; simp; omega) (fun j hj => (HO.out.lt j hj).1))
      clear hown' hgrow HO HB
      go_wp2_with fail
      go_roundw
      case rel => exact ⟨k + 1, by omega, by go_num, O3.out, B3.out⟩
      case measure => simp [intOf]; omega
    · obtain rfl : k = n := by omega
      obtain ⟨A2, cap2, rfl, hcap, htw⟩ := own_iwr HO.out (by rw [upTo_len])
      have HT := Lib.hid htw
      clear htw HO
      go_wp2_with fail
      go_ret
      exact ⟨A2, cap2, rfl, (HH.out.2.below (Nat.le_refl _)).trans (HB.out.mono (by have := HH.out.1; omega)), HT.out.low (by have := HH.out.1; omega)⟩
end

section
set_option linter.unusedVariables false
set_option linter.unusedSimpArgs false
open Go.RowKit Go.Sort

theorem SeenB.far {w : World} {g : Nat} {t : TypeId} {sz : Nat} {p : List Int} (h : SeenB w g t sz p) {a : Addr} (hp : g ≠ a.block) (u : Value) : SeenB (w.setCell a u) g t sz p := by
  obtain ⟨cs, hb, hs, hc⟩ := h
  exact ⟨cs, hb.far hp u, hs, hc⟩
theorem SeenB.lt {w : World} {g : Nat} {t : TypeId} {sz : Nat} {p : List Int} (h : SeenB w g t sz p) : g < w.heap.size := by
  obtain ⟨cs, hb, hs, hc⟩ := h
  exact hb.lt
theorem SeenB.ext {w w' : World} {g : Nat} {t : TypeId} {sz : Nat} {p : List Int} (h : SeenB w g t sz p) (hx : Ext w w') : SeenB w' g t sz p := h.below (hx.below (Nat.le_refl _))
/-- The colours of west and east of each tile are less than C. -/
def colOk (C : Nat) (ts : List Tl) : Prop := ∀ k, k < ts.length → ∃ a b : Nat, (ts.getD k T0).1 = (a : Int) ∧ a < C ∧ (ts.getD k T0).2.2.1 = (b : Int) ∧ b < C
theorem colOk_set {c : Int} {C : Nat} {ts : List Tl} (hs : isSet c ts = true) (hC : c = (C : Int)) : colOk C ts := by
  intro k hk
  have hc := (isSet_col hs).2
  have hg : good c ts k = true := by
    simp only [isSet, Bool.and_eq_true] at hs
    exact List.all_eq_true.1 hs.2 k (List.mem_range.2 hk)
  simp only [good, Bool.and_eq_true] at hg
  have ht := hg.1
  simp only [tileOk, decide_eq_true_eq] at ht
  exact ⟨(ts.getD k T0).1.toNat, (ts.getD k T0).2.2.1.toNat, by omega, by omega, by omega, by omega⟩
def wcol (ts : List Tl) (xs : List Int) (k : Nat) : Int := (ts.getD (xs.getD k 0).toNat T0).1
def ecol (ts : List Tl) (xs : List Int) (k : Nat) : Int := (ts.getD (xs.getD k 0).toNat T0).2.2.1
/-- The first k values of f. -/
def colL (f : Nat → Int) (k : Nat) : List Int := (List.range k).map f
theorem colL_succ (f : Nat → Int) (k : Nat) : colL f (k + 1) = colL f k ++ [f k] := by simp [colL, List.range_succ]
theorem colL_mem (f : Nat → Int) (k : Nat) (c : Int) : decide (c ∈ colL f k) = (List.range k).any fun y => decide (f y = c) := by
  rw [Bool.eq_iff_iff]
  simp [colL]

/-- Whether the k-th number's tile has neighbours on the list. -/
def keepB (ts : List Tl) (xs : List Int) (k : Nat) : Bool := (List.range xs.length).any (fun y => decide (ecol ts xs y = wcol ts xs k)) && (List.range xs.length).any (fun y => decide (wcol ts xs y = ecol ts xs k))
/-- The kept ones of the first k numbers. -/
def betwN (ts : List Tl) (xs : List Int) (k : Nat) : List Int := ((List.range k).filter (keepB ts xs)).map fun y => xs.getD y 0
theorem betwN_succ (ts : List Tl) (xs : List Int) (k : Nat) : betwN ts xs (k + 1) = betwN ts xs k ++ (if keepB ts xs k = true then [xs.getD k 0] else []) := by
  unfold betwN
  rw [List.range_succ, List.filter_append, List.map_append]
  congr 1
  by_cases h : keepB ts xs k = true <;> simp [h]
theorem betwN_le (ts : List Tl) (xs : List Int) (k : Nat) : (betwN ts xs k).length ≤ k := by
  unfold betwN
  rw [List.length_map]
  refine Nat.le_trans (List.length_filter_le _ _) ?_
  rw [List.length_range]
  exact Nat.le_refl _
theorem seen_two (W : World) (t : TypeId) (cs0 : Array Value) (C : Nat) (hF : cs0.size = C ∧ ∀ x : Nat, x < cs0.size → cs0[x]? = some (.bool false)) :
    SeenB ((W.alloc (Obj.cells cs0 t)).alloc (Obj.cells cs0 t)).drew W.heap.size t C [] ∧ SeenB ((W.alloc (Obj.cells cs0 t)).alloc (Obj.cells cs0 t)).drew (W.heap.size + 1) t C [] ∧ Ext W ((W.alloc (Obj.cells cs0 t)).alloc (Obj.cells cs0 t)).drew := by
  have h := hF.2
  refine ⟨?_, ?_, (((Ext.refl W).alloc _).alloc _).drew⟩
  · have := (SeenB.start (Blk.new W t cs0) hF.2).ext (((Ext.refl _).alloc (Obj.cells cs0 t)).drew)
    rw [hF.1] at this
    exact this
  · have := (SeenB.start (Blk.new (W.alloc (Obj.cells cs0 t)) t cs0) hF.2).ext ((Ext.refl _).drew)
    rw [hF.1] at this
    simpa using this
end

section
set_option linter.unusedVariables false
set_option linter.unusedSimpArgs false
open Go.RowKit Go.Sort

theorem range_getD (xs : List Int) : (List.range xs.length).map (fun y => xs.getD y 0) = xs := by
  apply List.ext_getElem
  · simp
  · intro i h1 h2
    simp [List.getD, h2]
/-- Whether tile x has neighbours among those that p holds of. -/
def keepP (ts : List Tl) (n : Nat) (p : Nat → Bool) (x : Nat) : Bool := (List.range n).any (fun y => p y && decide ((ts.getD y T0).2.2.1 = (ts.getD x T0).1)) && (List.range n).any (fun y => p y && decide ((ts.getD y T0).1 = (ts.getD x T0).2.2.1))
/-- The numbers below n that p holds of. -/
def numsOf (n : Nat) (p : Nat → Bool) : List Int := ((List.range n).filter p).map fun k : Nat => (k : Int)
theorem betwN_all (ts : List Tl) (xs : List Int) : betwN ts xs xs.length = xs.filter fun v => xs.any (fun u => decide ((ts.getD u.toNat T0).2.2.1 = (ts.getD v.toNat T0).1)) && xs.any (fun u => decide ((ts.getD u.toNat T0).1 = (ts.getD v.toNat T0).2.2.1)) := by
  have key : ∀ (q : Int → Bool), (List.range xs.length).any (fun y => q (xs.getD y 0)) = xs.any q := fun q => by
    conv => rhs; rw [← range_getD xs, List.any_map]
    rfl
  have fm : ∀ (q : Int → Bool), ((List.range xs.length).filter (fun y => q (xs.getD y 0))).map (fun y => xs.getD y 0) = xs.filter q := fun q => by
    conv => rhs; rw [← range_getD xs, List.filter_map]
    rfl
  rw [← fm]
  unfold betwN
  congr 2
  funext k
  unfold keepB wcol ecol
  rw [key (fun u => decide ((ts.getD u.toNat T0).2.2.1 = (ts.getD (xs.getD k 0).toNat T0).1)), key (fun u => decide ((ts.getD u.toNat T0).1 = (ts.getD (xs.getD k 0).toNat T0).2.2.1))]
theorem betwN_nums (ts : List Tl) (n : Nat) (p : Nat → Bool) : betwN ts (numsOf n p) (numsOf n p).length = numsOf n (fun x => p x && keepP ts n p x) := by
  rw [betwN_all]
  unfold numsOf
  rw [List.filter_map, List.filter_filter]
  congr 2
  funext x
  simp only [Function.comp_def, List.any_map, List.any_filter, Int.toNat_natCast, keepP]
  rw [Bool.and_comm]
end

section
set_option linter.unusedVariables false
set_option linter.unusedSimpArgs false
open Go.RowKit Go.Sort

theorem numsOf_le (n : Nat) (p : Nat → Bool) : (numsOf n p).length ≤ n := by
  unfold numsOf
  rw [List.length_map]
  refine Nat.le_trans (List.length_filter_le _ _) ?_
  rw [List.length_range]
  exact Nat.le_refl _
theorem numsOf_in {n : Nat} {p : Nat → Bool} {k : Nat} (hk : k < (numsOf n p).length) : 0 ≤ (numsOf n p).getD k 0 ∧ (numsOf n p).getD k 0 < n := by
  have hm : (numsOf n p).getD k 0 ∈ numsOf n p := by
    have : (numsOf n p).getD k 0 = (numsOf n p)[k] := by simp [List.getD, hk]
    rw [this]
    exact List.getElem_mem hk
  unfold numsOf at hm
  obtain ⟨y, hy, e⟩ := List.mem_map.1 hm
  have := List.mem_range.1 (List.mem_filter.1 hy).1
  unfold numsOf
  rw [← e]
  omega
theorem upTo_nums (n : Nat) : upTo n = numsOf n fun _ => true := by
  unfold upTo numsOf
  rw [List.filter_eq_self.2 (fun _ _ => rfl)]
theorem keepP_iff {ts : List Tl} {n : Nat} {p : Nat → Bool} {x : Nat} : keepP ts n p x = true ↔ (∃ y, (y < n ∧ p y = true) ∧ westOf ts x y) ∧ (∃ y, (y < n ∧ p y = true) ∧ eastOf ts x y) := by
  unfold keepP westOf eastOf
  simp only [Bool.and_eq_true, List.any_eq_true, List.mem_range, decide_eq_true_eq]
  constructor
  · rintro ⟨⟨y, h1, h2, h3⟩, z, h4, h5, h6⟩
    exact ⟨⟨y, ⟨h1, h2⟩, h3⟩, z, ⟨h4, h5⟩, h6⟩
  · rintro ⟨⟨y, ⟨h1, h2⟩, h3⟩, z, ⟨h4, h5⟩, h6⟩
    exact ⟨⟨y, h1, h2, h3⟩, z, h4, h5, h6⟩
/-- Keeping those with neighbours keeps the lasting ones. -/
theorem keep_last {ts : List Tl} {n : Nat} (hl : ts.length = n) {p : Nat → Bool} (h : ∀ x, lastT ts x → p x = true) (x : Nat) (hx : lastT ts x) : (p x && keepP ts n p x) = true := by
  rw [h x hx, Bool.true_and, keepP_iff]
  obtain ⟨_, ⟨y, hy, hw⟩, z, hz, he⟩ := lastT_closed ts x hx
  exact ⟨⟨y, ⟨by have := lastT_lt hy; omega, h y hy⟩, hw⟩, z, ⟨by have := lastT_lt hz; omega, h z hz⟩, he⟩
theorem nums_last {ts : List Tl} {n : Nat} (hl : ts.length = n) {p : Nat → Bool} (h : ∀ x, lastT ts x → p x = true) (hk : ∀ x, x < n → p x = true → keepP ts n p x = true) : numsOf n p = lastL ts := by
  subst hl
  refine lastL_is fun x hx => ?_
  have := lastT_is (ts := ts) (P := fun x => x < ts.length ∧ p x = true) (fun x hx => ⟨lastT_lt hx, h x hx⟩) (fun x hx => ⟨hx.1, keepP_iff.1 (hk x hx.1 hx.2)⟩) x
  rw [← this]
  exact ⟨fun h => ⟨hx, h⟩, fun h => h.2⟩
theorem nums_same {ts : List Tl} {n : Nat} {p : Nat → Bool} (h : (numsOf n fun x => p x && keepP ts n p x).length = (numsOf n p).length) : ∀ x, x < n → p x = true → keepP ts n p x = true := by
  unfold numsOf at h
  rw [List.length_map, List.length_map, show (fun x => p x && keepP ts n p x) = (fun x => keepP ts n p x && p x) from funext fun x => Bool.and_comm _ _, ← List.filter_filter] at h
  intro x hx hp
  exact filter_all h x (List.mem_filter.2 ⟨List.mem_range.2 hx, hp⟩)
theorem nums_less (ts : List Tl) (n : Nat) (p : Nat → Bool) : (numsOf n fun x => p x && keepP ts n p x).length ≤ (numsOf n p).length := by
  unfold numsOf
  rw [List.length_map, List.length_map, show (fun x => p x && keepP ts n p x) = (fun x => keepP ts n p x && p x) from funext fun x => Bool.and_comm _ _, ← List.filter_filter]
  exact List.length_filter_le _ _
theorem iwr_more {w : World} {lo hi hi' : Nat} {A : Option Addr} {xs : List Int} (h : IWr w lo hi A xs) (hh : hi ≤ hi') : IWr w lo hi' A xs := fun h0 => by
  obtain ⟨b, off, t, cs, e, h1, h2, h3, h4⟩ := h h0
  exact ⟨b, off, t, cs, e, h1, by omega, h3, h4⟩
def lenOf : Value → Nat | .slice _ n _ => n | _ => 0

end
end Go.Proofs.Ytnmgkchkbchfaaa
