/- Lasting tiles: the greatest set of tiles with neighbours in it, and when a smaller and smaller set has come to it. -/
import Derived.Test.YtleabblnikbmpaaDetA
import Derived.Test.YtleabblnikbmpaaAppI
import Derived.Lib.Hide
import Derived.Test.YtleabblnikbmpaaInts
import Derived.Test.YtleabblnikbmpaaTA
import Derived.Test.YtleabblnikbmpaaRen1
import Derived.Deep.RegionLaw
import Derived.Deep.DeepCutAuto
import Derived.Test.YtleabblnikbmpaaIsA
namespace Go.Proofs.Ytleabblnikbmpaa
section
set_option linter.unusedVariables false
set_option linter.unusedSimpArgs false
open Go.RowKit Go.Sort

/-- Tile y may stand to the west of tile x. -/
def westOf (ts : List Tl) (x y : Nat) : Prop := (ts.getD y T0).2.2.1 = (ts.getD x T0).1
def eastOf (ts : List Tl) (x y : Nat) : Prop := (ts.getD y T0).1 = (ts.getD x T0).2.2.1
/-- Each tile of S is one of the set and has a western and an eastern neighbour in S. -/
def ClosedT (ts : List Tl) (S : Nat → Prop) : Prop := ∀ x, S x → x < ts.length ∧ (∃ y, S y ∧ westOf ts x y) ∧ (∃ y, S y ∧ eastOf ts x y)
/-- The lasting tiles. -/
def lastT (ts : List Tl) (x : Nat) : Prop := ∃ S, ClosedT ts S ∧ S x
theorem lastT_lt {ts : List Tl} {x : Nat} (h : lastT ts x) : x < ts.length := let ⟨S, hS, hx⟩ := h; (hS x hx).1
theorem lastT_closed (ts : List Tl) : ClosedT ts (lastT ts) := by
  intro x ⟨S, hS, hx⟩
  obtain ⟨h1, ⟨y, hy, hw⟩, z, hz, he⟩ := hS x hx
  exact ⟨h1, ⟨y, ⟨S, hS, hy⟩, hw⟩, z, ⟨S, hS, hz⟩, he⟩
/-- What holds all lasting tiles and is closed is the set of the lasting tiles. -/
theorem lastT_is {ts : List Tl} {P : Nat → Prop} (h : ∀ x, lastT ts x → P x) (hc : ClosedT ts P) (x : Nat) : P x ↔ lastT ts x := ⟨fun hx => ⟨P, hc, hx⟩, h x⟩
/-- A tile of P that lacks a neighbour in P does not last. -/
theorem lastT_not {ts : List Tl} {P : Nat → Prop} (h : ∀ x, lastT ts x → P x) {x : Nat} (hx : ¬ ((∃ y, P y ∧ westOf ts x y) ∧ (∃ y, P y ∧ eastOf ts x y))) : ¬ lastT ts x := by
  intro hl
  obtain ⟨_, ⟨y, hy, hw⟩, z, hz, he⟩ := lastT_closed ts x hl
  exact hx ⟨⟨y, h y hy, hw⟩, z, h z hz, he⟩
open Classical in
/-- Their numbers, in order. -/
noncomputable def lastL (ts : List Tl) : List Int := ((List.range ts.length).filter fun k => decide (lastT ts k)).map fun k : Nat => (k : Int)
open Classical in
theorem lastL_is {ts : List Tl} {p : Nat → Bool} (h : ∀ x, x < ts.length → (p x = true ↔ lastT ts x)) : ((List.range ts.length).filter p).map (fun k : Nat => (k : Int)) = lastL ts := by
  unfold lastL
  congr 1
  refine List.filter_congr fun x hx => ?_
  rw [Bool.eq_iff_iff, decide_eq_true_eq]
  exact h x (List.mem_range.1 hx)
theorem lastL_le (ts : List Tl) : (lastL ts).length ≤ ts.length := by
  unfold lastL
  rw [List.length_map]
  refine Nat.le_trans (List.length_filter_le _ _) ?_
  rw [List.length_range]
  exact Nat.le_refl _
/-- A filter that strikes none leaves a set that is closed. -/
theorem filter_all {α : Type} {p : α → Bool} {l : List α} (h : (l.filter p).length = l.length) : ∀ x ∈ l, p x = true := by
  induction l with
  | nil => intro x hx; cases hx
  | cons a l ih =>
    have h1 := List.length_filter_le p l
    cases hp : p a with
    | false => rw [List.filter_cons_of_neg (by rw [hp]; decide), List.length_cons] at h; omega
    | true =>
      rw [List.filter_cons_of_pos hp, List.length_cons, List.length_cons] at h
      intro x hx
      rcases List.mem_cons.1 hx with rfl | hx
      · exact hp
      · exact ih (by omega) x hx
end

section
set_option linter.unusedVariables false
set_option linter.unusedSimpArgs false
open Go.RowKit Go.Sort

/-- 0 to n - 1. -/
def upTo (n : Nat) : List Int := (List.range n).map fun k : Nat => (k : Int)
theorem upTo_len (n : Nat) : (upTo n).length = n := by simp [upTo]
set_option maxRecDepth 100000 in
set_option maxHeartbeats 1000000 in
theorem tileNumbers_any (c0 : Int) (A : Option Addr) (n c : Nat) (w : World) (hn : n ≤ 1048576) :
    Calls Try.prog 134 #[.agg #[.int .i64 c0, .slice A n c]] w fun e w' => ∃ A' cap, e = .returned (.slice A' n cap) ∧ Below w.heap.size w w' ∧ IWr w' w.heap.size w'.heap.size A' (upTo n) := by
  go_enter Try.func134, Try.ntmps134
  go_wp2_with fail
  obtain ⟨W0, hW0⟩ : ∃ W0, w.alloc (Obj.cells #[.int .i64 c0, .slice A n c] 30) = W0 := ⟨_, rfl⟩
  have hs0 : W0.heap.size = w.heap.size + 1 := by rw [← hW0]; simp
  have hE : Ext w W0 := by rw [← hW0]; exact (Ext.refl w).alloc _
  have HH := Lib.hid (And.intro hs0 hE)
  rw [hW0]
  clear hW0 hs0 hE
  go_loopw [3, 8] (fun v i wr => ∃ k : Nat, k ≤ n ∧ i = .int .i64 k ∧ wr.ownsRow W0.heap.size 2 1 v k (vis (upTo k)) ∧ Below W0.heap.size W0 wr) (fun _ i _ => n - (intOf i).toNat)
  case atStart => exact ⟨0, Nat.zero_le _, rfl, World.ownsRow_nil _ _ _ _, Below.refl _ _⟩
  case round =>
    obtain ⟨k, hk, rfl, hown, hb⟩ := hrel
    have HO := Lib.hid hown
    have HB := Lib.hid hb
    clear hown hb
    by_cases hlt : k < n
    · go_wp2_with (at_builtin; refine wpList_push rfl _ _ rfl W0.heap.size _ k _ rfl (HO.out.alloc _) wr.heap.size (k : Int) rfl (heap_alloc_new wr _) ?c1 ?c2 ?c3 ?_)
      case c1 => unfold maxLen; omega
      case c2 => omega
      case c3 => have := HB.out.size; simp; omega
      intro v' w3 hown' hgrow _
      have e1 : vis (upTo k) ++ [vi (k : Int)] = vis (upTo (k + 1)) := by simp [vis, upTo, List.range_succ]
      rw [e1] at hown'
      have O3 := Lib.hid hown'
      have B3 := Lib.hid ((HB.out.alloc HB.out.size _).grown hgrow (by have := HB.out.size; simp; omega) (fun j hj => (HO.out.lt j hj).1))
      clear hown' hgrow HO HB
      go_wp2_with fail
      go_roundw
      case rel => exact ⟨k + 1, by omega, by go_num, O3.out, B3.out⟩
      case measure => simp [intOf]; omega
    · obtain rfl : k = n := by omega
      obtain ⟨A2, cap2, rfl, hcap, htw⟩ := own_iwr HO.out (by rw [upTo_len])
      have HT := Lib.hid htw
      clear htw HO
      go_wp2_with fail
      go_ret
      exact ⟨A2, cap2, rfl, (HH.out.2.below (Nat.le_refl _)).trans (HB.out.mono (by have := HH.out.1; omega)), HT.out.low (by have := HH.out.1; omega)⟩
end

section
set_option linter.unusedVariables false
set_option linter.unusedSimpArgs false
open Go.RowKit Go.Sort

theorem SeenB.far {w : World} {g : Nat} {t : TypeId} {sz : Nat} {p : List Int} (h : SeenB w g t sz p) {a : Addr} (hp : g ≠ a.block) (u : Value) : SeenB (w.setCell a u) g t sz p := by
  obtain ⟨cs, hb, hs, hc⟩ := h
  exact ⟨cs, hb.far hp u, hs, hc⟩
theorem SeenB.lt {w : World} {g : Nat} {t : TypeId} {sz : Nat} {p : List Int} (h : SeenB w g t sz p) : g < w.heap.size := by
  obtain ⟨cs, hb, hs, hc⟩ := h
  exact hb.lt
theorem SeenB.ext {w w' : World} {g : Nat} {t : TypeId} {sz : Nat} {p : List Int} (h : SeenB w g t sz p) (hx : Ext w w') : SeenB w' g t sz p := h.below (hx.below (Nat.le_refl _))
/-- The colours of west and east of each tile are less than C. -/
def colOk (C : Nat) (ts : List Tl) : Prop := ∀ k, k < ts.length → ∃ a b : Nat, (ts.getD k T0).1 = (a : Int) ∧ a < C ∧ (ts.getD k T0).2.2.1 = (b : Int) ∧ b < C
theorem colOk_set {c : Int} {C : Nat} {ts : List Tl} (hs : isSet c ts = true) (hC : c = (C : Int)) : colOk C ts := by
  intro k hk
  have hc := (isSet_col hs).2
  have hg : good c ts k = true := by
    simp only [isSet, Bool.and_eq_true] at hs
    exact List.all_eq_true.1 hs.2 k (List.mem_range.2 hk)
  simp only [good, Bool.and_eq_true] at hg
  have ht := hg.1
  simp only [tileOk, decide_eq_true_eq] at ht
  exact ⟨(ts.getD k T0).1.toNat, (ts.getD k T0).2.2.1.toNat, by omega, by omega, by omega, by omega⟩
def wcol (ts : List Tl) (xs : List Int) (k : Nat) : Int := (ts.getD (xs.getD k 0).toNat T0).1
def ecol (ts : List Tl) (xs : List Int) (k : Nat) : Int := (ts.getD (xs.getD k 0).toNat T0).2.2.1
/-- The first k values of f. -/
def colL (f : Nat → Int) (k : Nat) : List Int := (List.range k).map f
theorem colL_succ (f : Nat → Int) (k : Nat) : colL f (k + 1) = colL f k ++ [f k] := by simp [colL, List.range_succ]
theorem colL_mem (f : Nat → Int) (k : Nat) (c : Int) : decide (c ∈ colL f k) = (List.range k).any fun y => decide (f y = c) := by
  rw [Bool.eq_iff_iff]
  simp [colL]

/-- Whether the k-th number's tile has neighbours on the list. -/
def keepB (ts : List Tl) (xs : List Int) (k : Nat) : Bool := (List.range xs.length).any (fun y => decide (ecol ts xs y = wcol ts xs k)) && (List.range xs.length).any (fun y => decide (wcol ts xs y = ecol ts xs k))
/-- The kept ones of the first k numbers. -/
def betwN (ts : List Tl) (xs : List Int) (k : Nat) : List Int := ((List.range k).filter (keepB ts xs)).map fun y => xs.getD y 0
theorem betwN_succ (ts : List Tl) (xs : List Int) (k : Nat) : betwN ts xs (k + 1) = betwN ts xs k ++ (if keepB ts xs k = true then [xs.getD k 0] else []) := by
  unfold betwN
  rw [List.range_succ, List.filter_append, List.map_append]
  congr 1
  by_cases h : keepB ts xs k = true <;> simp [h]
theorem betwN_le (ts : List Tl) (xs : List Int) (k : Nat) : (betwN ts xs k).length ≤ k := by
  unfold betwN
  rw [List.length_map]
  refine Nat.le_trans (List.length_filter_le _ _) ?_
  rw [List.length_range]
  exact Nat.le_refl _
theorem seen_two (W : World) (t : TypeId) (cs0 : Array Value) (C : Nat) (hF : cs0.size = C ∧ ∀ x : Nat, x < cs0.size → cs0[x]? = some (.bool false)) :
    SeenB ((W.alloc (Obj.cells cs0 t)).alloc (Obj.cells cs0 t)).drew W.heap.size t C [] ∧ SeenB ((W.alloc (Obj.cells cs0 t)).alloc (Obj.cells cs0 t)).drew (W.heap.size + 1) t C [] ∧ Ext W ((W.alloc (Obj.cells cs0 t)).alloc (Obj.cells cs0 t)).drew := by
  have h := hF.2
  refine ⟨?_, ?_, (((Ext.refl W).alloc _).alloc _).drew⟩
  · have := (SeenB.start (Blk.new W t cs0) hF.2).ext (((Ext.refl _).alloc (Obj.cells cs0 t)).drew)
    rw [hF.1] at this
    exact this
  · have := (SeenB.start (Blk.new (W.alloc (Obj.cells cs0 t)) t cs0) hF.2).ext ((Ext.refl _).drew)
    rw [hF.1] at this
    simpa using this
set_option maxRecDepth 100000 in
set_option maxHeartbeats 2000000 in
theorem between_any (C : Nat) (A : Option Addr) (n c : Nat) (ts : List Tl) (B : Option Addr) (m p : Nat) (xs : List Int) (w : World) (hn : n ≤ 1048576) (hl : ts.length = n) (hA : TR w w.heap.size A ts) (hC : C ≤ 1048576) (hs : colOk C ts)
    (hm : m ≤ 1048576) (hlx : xs.length = m) (hB : IR w w.heap.size B xs) (hxs : ∀ k, k < m → 0 ≤ xs.getD k 0 ∧ xs.getD k 0 < n) :
    Calls Try.prog 135 #[.agg #[.int .i64 (C : Int), .slice A n c], .slice B m p] w fun e w' => ∃ A' cap, e = .returned (.slice A' (betwN ts xs m).length cap) ∧ Below w.heap.size w w' ∧ IWr w' w.heap.size w'.heap.size A' (betwN ts xs m) := by
  obtain ⟨i0, hi, hz0, hz1, hz2⟩ := info_parts info_bool
  have hmk := fun W => run_make_rowN (P := Try.prog) 79 4 i0 _ (by kernel_rfl) hi hz0 .i64 .i64 C C (Nat.le_refl _) (by rw [hz2]; omega) (by omega) W
  rw [hz1] at hmk
  generalize hcs : madeCells (Value.cells (.bool false)) (C * 1) = cs0 at hmk
  have hfa := made_false hcs.symm
  have HF := Lib.hid hfa
  clear hcs hfa hi hz0 hz1 hz2
  have HX := Lib.hid hxs
  have HS := Lib.hid hs
  have HA := Lib.hid hA
  have HB0 := Lib.hid hB
  clear hxs hs hA hB
  go_enter Try.func135, Try.ntmps135
  go_wp2_with fail
  go_upto_region 1 with (fail)
  go_cut [5, 6] (fun v5 v6 wx => ∃ g1 g2 : Nat, v5 = .slice (some ⟨g1, 0, none⟩) C C ∧ v6 = .slice (some ⟨g2, 0, none⟩) C C ∧ g1 ≠ g2 ∧ w.heap.size + 1 ≤ g1 ∧ w.heap.size + 1 ≤ g2 ∧ SeenB wx g1 4 C [] ∧ SeenB wx g2 4 C [] ∧ Ext w wx ∧ Blk wx w.heap.size 30 #[.int .i64 (C : Int), .slice A n c])
  case first =>
    go_region
    all_goals (go_wp2_with fail)
    all_goals go_meet
    all_goals
      have hb0 := Blk.new w 30 #[.int .i64 (C : Int), .slice A n c]
      obtain ⟨k1, k2, k3⟩ := seen_two (w.alloc (Obj.cells #[.int .i64 (C : Int), .slice A n c] 30)) 4 cs0 C HF.out
      simp only [World.size_alloc] at k1 k2
      have k4 := ((Ext.refl w).alloc (Obj.cells #[.int .i64 (C : Int), .slice A n c] 30)).trans k3
      have k5 := hb0.ext k3
    · exact ⟨_, _, rfl, rfl, by omega, by omega, by omega, k1, k2, k4, k5⟩
    · exact ⟨_, _, rfl, rfl, by omega, by omega, by omega, k2, k1, k4, k5⟩
  case rest =>
    obtain ⟨g1, g2, rfl, rfl, hne, hg1, hg2, h5, h6, hE, hS⟩ := hcut
    obtain ⟨W1, hW1⟩ : ∃ W1, W1 = wc := ⟨_, rfl⟩
    subst hW1
    clear hmk
    have hs1 : w.heap.size < W1.heap.size := hS.lt
    have HH := Lib.hid (And.intro hs1 (And.intro hE hS))
    have H5 := Lib.hid h5
    have H6 := Lib.hid h6
    clear hE hS h5 h6 hs1
    go_wp2_with fail
    go_loopw [20] (fun ii wr => ∃ k : Nat, k ≤ m ∧ ii = .int .i64 k ∧ SeenB wr g1 4 C (colL (wcol ts xs) k) ∧ SeenB wr g2 4 C (colL (ecol ts xs) k) ∧ Below (w.heap.size + 1) W1 wr) (fun ii _ => m - (intOf ii).toNat)
    case atStart => exact ⟨0, Nat.zero_le _, rfl, H5.out, H6.out, Below.refl _ _⟩
    case round =>
      obtain ⟨k, hk, rfl, h5, h6, hb⟩ := hrel
      by_cases hlt : k < m
      · have hcx := (HB0.out.ext HH.out.2.1 (Nat.le_refl _)).below hb (by omega)
        obtain ⟨bx, ox, rfl, hbx, hcx⟩ := hcx (by omega)
        have q1 := hcx k (by omega)
        obtain ⟨j, hj⟩ : ∃ j : Nat, xs.getD k 0 = (j : Int) := ⟨(xs.getD k 0).toNat, by have := (HX.out k hlt).1; omega⟩
        have hjn : j < n := by have := (HX.out k hlt).2; omega
        have hat := (HA.out.ext HH.out.2.1 (Nat.le_refl _)).below hb (by omega)
        obtain ⟨b, o, rfl, hbb, ht⟩ := hat (by omega)
        replace ht := ht j (by omega)
        obtain ⟨a, e, ha, ha6, he, he6⟩ := HS.out j (by omega)
        have hw : wcol ts xs k = (a : Int) := by unfold wcol; rw [hj]; exact ha
        have hee : ecol ts xs k = (e : Int) := by unfold ecol; rw [hj]; exact he
        have p1 := ht.1
        have p2 := ht.2.2.1
        rw [hj] at q1
        rw [ha] at p1
        rw [he] at p2
        have r1 := (HH.out.2.2.below (B := w.heap.size + 1) hb (by omega)).rd 1 rfl
        have hbs := (Below.refl (w.heap.size + 1) wr).setCell (p := ⟨g1, a, none⟩) (by omega) (.bool true)
        have s1 := (hbs.cell (p := ⟨w.heap.size, 1, none⟩) (by show w.heap.size < _; omega)).trans r1
        have s2 := (hbs.cell (p := ⟨b, o + j * 4 + 2, none⟩) (by show b < _; omega)).trans p2
        obtain ⟨g5, z5⟩ := h5.at_ ha6
        have h6' := h6.far (a := ⟨g1, a, none⟩) (by show g2 ≠ g1; omega) (.bool true)
        obtain ⟨g6, z6⟩ := h6'.at_ he6
        have h5' := h5.step ha6
        rw [← hw, ← colL_succ] at h5'
        have h5'' := h5'.far (a := ⟨g2, e, none⟩) (by show g1 ≠ g2; omega) (.bool true)
        have h6'' := h6'.step he6
        rw [← hee, ← colL_succ] at h6''
        have HN := Lib.hid (And.intro h5'' (And.intro h6'' ((hb.trans hbs).setCell (p := ⟨g2, e, none⟩) (by omega) (.bool true))))
        have b1 : (a : Int) < (C : Int) := by omega
        have b2 : (e : Int) < (C : Int) := by omega
        have b3 : (j : Int) < (n : Int) := by omega
        clear ht ha he hw hee hat hcx hbs h5 h6 h6' h5' h5'' h6'' hb
        go_wp2_with fail
        go_roundw
        case rel => first | exact ⟨k + 1, by omega, by go_num, HN.out⟩ | ((repeat apply Exists.intro); exact ⟨⟨k + 1, by omega, by go_num, HN.out⟩, rfl⟩)
        case measure => simp [intOf]; omega
      · obtain rfl : k = m := by omega
        obtain ⟨W2, hW2⟩ : ∃ W2, W2 = wr := ⟨_, rfl⟩
        subst hW2
        have G5 := Lib.hid h5
        have G6 := Lib.hid h6
        have HB := Lib.hid hb
        clear h5 h6 hb
        go_wp2_with fail
        go_loopw [9, 43] (fun v ii wr => ∃ k' : Nat, k' ≤ k ∧ ii = .int .i64 k' ∧ wr.ownsRow W2.heap.size 2 1 v (betwN ts xs k').length (vis (betwN ts xs k')) ∧ Below W2.heap.size W2 wr) (fun _ ii _ => k - (intOf ii).toNat)
        case atStart => exact ⟨0, Nat.zero_le _, rfl, World.ownsRow_nil _ _ _ _, Below.refl _ _⟩
        case round =>
          obtain ⟨k', hk', rfl, hown, hb2⟩ := hrel
          have HO := Lib.hid hown
          have hlo : w.heap.size + 1 ≤ W2.heap.size := by have := HB.out.size; have := HH.out.1; omega
          have HB2 := Lib.hid hb2
          have hbw := HB.out.trans (hb2.mono (by omega : w.heap.size + 1 ≤ W2.heap.size))
          by_cases hlt' : k' < k
          · obtain ⟨bx, ox, rfl, hbx, hcx⟩ := ((HB0.out.ext HH.out.2.1 (Nat.le_refl _)).below hbw (by omega)) (by omega)
            have q1 := hcx k' (by omega)
            obtain ⟨j, hj⟩ : ∃ j : Nat, xs.getD k' 0 = (j : Int) := ⟨(xs.getD k' 0).toNat, by have := (HX.out k' hlt').1; omega⟩
            have hjn : j < n := by have := (HX.out k' hlt').2; omega
            obtain ⟨b, o, rfl, hbb, ht⟩ := ((HA.out.ext HH.out.2.1 (Nat.le_refl _)).below hbw (by omega)) (by omega)
            replace ht := ht j (by omega)
            obtain ⟨a, e, ha, ha6, he, he6⟩ := HS.out j (by omega)
            have hw : wcol ts xs k' = (a : Int) := by unfold wcol; rw [hj]; exact ha
            have hee : ecol ts xs k' = (e : Int) := by unfold ecol; rw [hj]; exact he
            have hkb : keepB ts xs k' = (decide ((a : Int) ∈ colL (ecol ts xs) k) && decide ((e : Int) ∈ colL (wcol ts xs) k)) := by unfold keepB; rw [colL_mem, colL_mem, hlx, hw, hee]
            have p1 := ht.1
            have p2 := ht.2.2.1
            rw [hj] at q1
            rw [ha] at p1
            rw [he] at p2
            have r1 := (HH.out.2.2.below (B := w.heap.size + 1) hbw (by omega)).rd 1 rfl
            have g6 := ((G6.out.below hb2).at_ ha6).1
            have g5 := ((G5.out.below hb2).at_ he6).1
            have hsc := betwN_succ ts xs k'
            have hle := betwN_le ts xs k'
            rw [hkb, hj] at hsc
            generalize decide ((a : Int) ∈ colL (ecol ts xs) k) = u1 at g6 hsc
            generalize decide ((e : Int) ∈ colL (wcol ts xs) k) = u2 at g5 hsc
            have b1 : (a : Int) < (C : Int) := by omega
            have b2 : (e : Int) < (C : Int) := by omega
            have b3 : (j : Int) < (n : Int) := by omega
            have HSC := Lib.hid hsc
            generalize hus : betwN ts xs k' = us at HO hle HSC
            have HUS := Lib.hid hus
            clear hus hsc hkb hw hee ha he ht hcx hown hb2 hbw
            cases hu : (u1 && u2) with
            | true =>
              have hu1 : u1 = true := by cases u1 <;> simp_all
              have hu2 : u2 = true := by cases u2 <;> simp_all
              subst hu1 hu2
              go_wp2_with (at_builtin; refine wpList_push rfl _ _ rfl W2.heap.size _ us.length _ rfl (HO.out.alloc _) wr.heap.size (j : Int) rfl (heap_alloc_new wr _) ?c1 ?c2 ?c3 ?_)
              case c1 => unfold maxLen; omega
              case c2 => omega
              case c3 => have := HB2.out.size; simp; omega
              intro v' w3 hown' hgrow _
              have e1 : betwN ts xs (k' + 1) = us ++ [(j : Int)] := by rw [HSC.out]; simp
              have O3 := Lib.hid (show w3.ownsRow W2.heap.size 2 1 v' (betwN ts xs (k' + 1)).length (vis (betwN ts xs (k' + 1))) by rw [e1, vis_snoc, List.length_append]; exact hown')
              have B3 := Lib.hid ((HB2.out.alloc HB2.out.size _).grown hgrow (by have := HB2.out.size; simp; omega) (fun j hj => (HO.out.lt j hj).1))
              clear hown' hgrow HO HB2 e1
              go_wp2_with fail
              go_roundw
              case rel => exact ⟨k' + 1, by omega, by go_num, O3.out, B3.out⟩
              case measure => simp [intOf]; omega
            | false =>
              have e1 : betwN ts xs (k' + 1) = us := by rw [HSC.out, hu]; simp
              have HE1 := Lib.hid e1
              clear e1
              cases u1 with
              | false =>
                go_wp2_with fail
                go_roundw
                case rel => exact ⟨k' + 1, by omega, by go_num, by rw [HE1.out]; exact HO.out, HB2.out⟩
                case measure => simp [intOf]; omega
              | true =>
                obtain rfl : u2 = false := by simpa using hu
                go_wp2_with fail
                go_roundw
                case rel => exact ⟨k' + 1, by omega, by go_num, by rw [HE1.out]; exact HO.out, HB2.out⟩
                case measure => simp [intOf]; omega
          · obtain rfl : k' = k := by omega
            obtain ⟨A2, cap2, rfl, hcap, htw⟩ := own_iwr HO.out rfl
            have HT := Lib.hid htw
            clear htw HO hown hb2
            go_wp2_with fail
            go_ret
            exact ⟨A2, cap2, rfl, (HH.out.2.1.below (Nat.le_refl _)).trans (hbw.mono (by omega)), HT.out.low (by omega)⟩
end

section
set_option linter.unusedVariables false
set_option linter.unusedSimpArgs false
open Go.RowKit Go.Sort

theorem range_getD (xs : List Int) : (List.range xs.length).map (fun y => xs.getD y 0) = xs := by
  apply List.ext_getElem
  · simp
  · intro i h1 h2
    simp [List.getD, h2]
/-- Whether tile x has neighbours among those that p holds of. -/
def keepP (ts : List Tl) (n : Nat) (p : Nat → Bool) (x : Nat) : Bool := (List.range n).any (fun y => p y && decide ((ts.getD y T0).2.2.1 = (ts.getD x T0).1)) && (List.range n).any (fun y => p y && decide ((ts.getD y T0).1 = (ts.getD x T0).2.2.1))
/-- The numbers below n that p holds of. -/
def numsOf (n : Nat) (p : Nat → Bool) : List Int := ((List.range n).filter p).map fun k : Nat => (k : Int)
theorem betwN_all (ts : List Tl) (xs : List Int) : betwN ts xs xs.length = xs.filter fun v => xs.any (fun u => decide ((ts.getD u.toNat T0).2.2.1 = (ts.getD v.toNat T0).1)) && xs.any (fun u => decide ((ts.getD u.toNat T0).1 = (ts.getD v.toNat T0).2.2.1)) := by
  have key : ∀ (q : Int → Bool), (List.range xs.length).any (fun y => q (xs.getD y 0)) = xs.any q := fun q => by
    conv => rhs; rw [← range_getD xs, List.any_map]
    rfl
  have fm : ∀ (q : Int → Bool), ((List.range xs.length).filter (fun y => q (xs.getD y 0))).map (fun y => xs.getD y 0) = xs.filter q := fun q => by
    conv => rhs; rw [← range_getD xs, List.filter_map]
    rfl
  rw [← fm]
  unfold betwN
  congr 2
  funext k
  unfold keepB wcol ecol
  rw [key (fun u => decide ((ts.getD u.toNat T0).2.2.1 = (ts.getD (xs.getD k 0).toNat T0).1)), key (fun u => decide ((ts.getD u.toNat T0).1 = (ts.getD (xs.getD k 0).toNat T0).2.2.1))]
theorem betwN_nums (ts : List Tl) (n : Nat) (p : Nat → Bool) : betwN ts (numsOf n p) (numsOf n p).length = numsOf n (fun x => p x && keepP ts n p x) := by
  rw [betwN_all]
  unfold numsOf
  rw [List.filter_map, List.filter_filter]
  congr 2
  funext x
  simp only [Function.comp_def, List.any_map, List.any_filter, Int.toNat_natCast, keepP]
  rw [Bool.and_comm]
end

section
set_option linter.unusedVariables false
set_option linter.unusedSimpArgs false
open Go.RowKit Go.Sort

theorem numsOf_le (n : Nat) (p : Nat → Bool) : (numsOf n p).length ≤ n := by
  unfold numsOf
  rw [List.length_map]
  refine Nat.le_trans (List.length_filter_le _ _) ?_
  rw [List.length_range]
  exact Nat.le_refl _
theorem numsOf_in {n : Nat} {p : Nat → Bool} {k : Nat} (hk : k < (numsOf n p).length) : 0 ≤ (numsOf n p).getD k 0 ∧ (numsOf n p).getD k 0 < n := by
  have hm : (numsOf n p).getD k 0 ∈ numsOf n p := by
    have : (numsOf n p).getD k 0 = (numsOf n p)[k] := by simp [List.getD, hk]
    rw [this]
    exact List.getElem_mem hk
  unfold numsOf at hm
  obtain ⟨y, hy, e⟩ := List.mem_map.1 hm
  have := List.mem_range.1 (List.mem_filter.1 hy).1
  unfold numsOf
  rw [← e]
  omega
theorem upTo_nums (n : Nat) : upTo n = numsOf n fun _ => true := by
  unfold upTo numsOf
  rw [List.filter_eq_self.2 (fun _ _ => rfl)]
theorem keepP_iff {ts : List Tl} {n : Nat} {p : Nat → Bool} {x : Nat} : keepP ts n p x = true ↔ (∃ y, (y < n ∧ p y = true) ∧ westOf ts x y) ∧ (∃ y, (y < n ∧ p y = true) ∧ eastOf ts x y) := by
  unfold keepP westOf eastOf
  simp only [Bool.and_eq_true, List.any_eq_true, List.mem_range, decide_eq_true_eq]
  constructor
  · rintro ⟨⟨y, h1, h2, h3⟩, z, h4, h5, h6⟩
    exact ⟨⟨y, ⟨h1, h2⟩, h3⟩, z, ⟨h4, h5⟩, h6⟩
  · rintro ⟨⟨y, ⟨h1, h2⟩, h3⟩, z, ⟨h4, h5⟩, h6⟩
    exact ⟨⟨y, h1, h2, h3⟩, z, h4, h5, h6⟩
/-- Keeping those with neighbours keeps the lasting ones. -/
theorem keep_last {ts : List Tl} {n : Nat} (hl : ts.length = n) {p : Nat → Bool} (h : ∀ x, lastT ts x → p x = true) (x : Nat) (hx : lastT ts x) : (p x && keepP ts n p x) = true := by
  rw [h x hx, Bool.true_and, keepP_iff]
  obtain ⟨_, ⟨y, hy, hw⟩, z, hz, he⟩ := lastT_closed ts x hx
  exact ⟨⟨y, ⟨by have := lastT_lt hy; omega, h y hy⟩, hw⟩, z, ⟨by have := lastT_lt hz; omega, h z hz⟩, he⟩
theorem nums_last {ts : List Tl} {n : Nat} (hl : ts.length = n) {p : Nat → Bool} (h : ∀ x, lastT ts x → p x = true) (hk : ∀ x, x < n → p x = true → keepP ts n p x = true) : numsOf n p = lastL ts := by
  subst hl
  refine lastL_is fun x hx => ?_
  have := lastT_is (ts := ts) (P := fun x => x < ts.length ∧ p x = true) (fun x hx => ⟨lastT_lt hx, h x hx⟩) (fun x hx => ⟨hx.1, keepP_iff.1 (hk x hx.1 hx.2)⟩) x
  rw [← this]
  exact ⟨fun h => ⟨hx, h⟩, fun h => h.2⟩
theorem nums_same {ts : List Tl} {n : Nat} {p : Nat → Bool} (h : (numsOf n fun x => p x && keepP ts n p x).length = (numsOf n p).length) : ∀ x, x < n → p x = true → keepP ts n p x = true := by
  unfold numsOf at h
  rw [List.length_map, List.length_map, show (fun x => p x && keepP ts n p x) = (fun x => keepP ts n p x && p x) from funext fun x => Bool.and_comm _ _, ← List.filter_filter] at h
  intro x hx hp
  exact filter_all h x (List.mem_filter.2 ⟨List.mem_range.2 hx, hp⟩)
theorem nums_less (ts : List Tl) (n : Nat) (p : Nat → Bool) : (numsOf n fun x => p x && keepP ts n p x).length ≤ (numsOf n p).length := by
  unfold numsOf
  rw [List.length_map, List.length_map, show (fun x => p x && keepP ts n p x) = (fun x => keepP ts n p x && p x) from funext fun x => Bool.and_comm _ _, ← List.filter_filter]
  exact List.length_filter_le _ _
theorem iwr_more {w : World} {lo hi hi' : Nat} {A : Option Addr} {xs : List Int} (h : IWr w lo hi A xs) (hh : hi ≤ hi') : IWr w lo hi' A xs := fun h0 => by
  obtain ⟨b, off, t, cs, e, h1, h2, h3, h4⟩ := h h0
  exact ⟨b, off, t, cs, e, h1, by omega, h3, h4⟩
def lenOf : Value → Nat | .slice _ n _ => n | _ => 0

set_option maxRecDepth 100000 in
set_option maxHeartbeats 2000000 in
theorem lastingNumbers_any (C : Nat) (A : Option Addr) (n c : Nat) (ts : List Tl) (w : World) (hn : n ≤ 1048576) (hl : ts.length = n) (hA : TR w w.heap.size A ts) (hC : C ≤ 1048576) (hs : colOk C ts) :
    Calls Try.prog 89 #[.agg #[.int .i64 (C : Int), .slice A n c]] w fun e w' => ∃ A' cap, e = .returned (.slice A' (lastL ts).length cap) ∧ Below w.heap.size w w' ∧ IWr w' w.heap.size w'.heap.size A' (lastL ts) := by
  have HS := Lib.hid hs
  have HA := Lib.hid hA
  clear hs hA
  go_enter Try.func89, Try.ntmps89
  go_wp2_with fail
  obtain ⟨w1, hw1⟩ : ∃ w1, w.alloc (Obj.cells #[.int .i64 (C : Int), .slice A n c] 30) = w1 := ⟨_, rfl⟩
  have hE : Ext w w1 := by rw [← hw1]; exact (Ext.refl w).alloc _
  have hB : Blk w1 w.heap.size 30 #[.int .i64 (C : Int), .slice A n c] := by rw [← hw1]; exact Blk.new w _ _
  rw [hw1]
  clear hw1
  have HB1 := Lib.hid hB
  have HX := Lib.hid (hE.below (Nat.le_refl _))
  clear hE hB
  refine (tileNumbers_any (C : Int) A n c w1 hn).mono ?_
  rintro e w2 ⟨A2, cap2, rfl, hb, hw⟩
  have HB2 := Lib.hid (HB1.out.below hb HB1.out.lt)
  have HX2 := Lib.hid (HX.out.trans (hb.mono HX.out.size))
  have HW := Lib.hid (hw.low HX.out.size)
  clear hb hw
  go_wp2_with fail
  go_loopw [3] (fun v wr => ∃ (p : Nat → Bool) (A' : Option Addr) (cap : Nat), v = .slice A' (numsOf n p).length cap ∧ (∀ x, lastT ts x → p x = true) ∧ IWr wr w.heap.size wr.heap.size A' (numsOf n p) ∧ Blk wr w.heap.size 30 #[.int .i64 (C : Int), .slice A n c] ∧ Below w.heap.size w wr) (fun v _ => lenOf v)
  case atStart => exact ⟨fun _ => true, A2, cap2, by rw [← upTo_nums, upTo_len], fun _ _ => rfl, by rw [← upTo_nums]; exact HW.out, HB2.out, HX2.out⟩
  case round =>
    obtain ⟨p, A', cap, rfl, hp, hw, hbk, hbl⟩ := hrel
    have HP := Lib.hid hp
    have HW3 := Lib.hid hw
    have HBK := Lib.hid hbk
    have HBL := Lib.hid hbl
    have r0 := hbk.rd 0 rfl
    have r1 := hbk.rd 1 rfl
    have hle := numsOf_le n p
    have hbt := fun cq => between_any C A n c ts A' (numsOf n p).length cq (numsOf n p) wr hn hl ((HA.out.below hbl (Nat.le_refl _)).more hbl.size) hC HS.out (by omega) rfl hw.ir (fun k hk => numsOf_in hk)
    rw [betwN_nums] at hbt
    have hls := nums_less ts n p
    have hnx := nums_same (ts := ts) (n := n) (p := p)
    have HNX := Lib.hid hnx
    generalize hq : (fun x => p x && keepP ts n p x) = q at hbt hls HNX
    have HQ := Lib.hid hq
    have HBT := Lib.hid hbt
    generalize hxl : (numsOf n p).length = m at HBT hls HNX hle ⊢
    have HXL := Lib.hid hxl
    clear hp hw hbk hbl hbt hq hnx hxl
    go_wp2_with fail
    refine (HBT.out _).mono ?_
    rintro e w3 ⟨A3, cap3, rfl, hb3, hw3⟩
    have HB3 := Lib.hid hb3
    have HW4 := Lib.hid hw3
    clear hb3 hw3 r0 r1
    generalize hyl : (numsOf n q).length = m3 at hls HNX ⊢
    have HYL := Lib.hid hyl
    clear hyl
    by_cases hme : m3 = m
    · have hlast : numsOf n p = lastL ts := nums_last hl HP.out (HNX.out hme)
      subst hme
      have HL := Lib.hid hlast
      clear hlast
      go_wp2_with fail
      go_ret
      exact ⟨A', cap, by rw [← HL.out, HXL.out]; rfl, HBL.out.trans (HB3.out.mono HBL.out.size), by rw [← HL.out]; exact iwr_more (HW3.out.below HB3.out) HB3.out.size⟩
    · go_wp2_with fail
      go_roundw
      case rel => exact ⟨q, A3, cap3, by rw [HYL.out], fun x hx => by rw [← HQ.out]; exact keep_last hl HP.out x hx, HW4.out.low HBL.out.size, HBK.out.below HB3.out HBK.out.lt, HBL.out.trans (HB3.out.mono HBL.out.size)⟩
      case measure => simp [lenOf]; omega

end
end Go.Proofs.Ytleabblnikbmpaa
