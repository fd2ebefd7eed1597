/- The first stacked pair that makes a tile; the place of a tile in a list. -/
import Derived.Test.YtjoaoimebdkpaaaSjB
import Derived.Test.YtjoaoimebdkpaaaHas
import Derived.Test.YtjoaoimebdkpaaaRow
import Derived.Deep.RegionHeld3
import Derived.Test.YtjoaoimebdkpaaaRow2
import Derived.Lib.Hide
namespace Go.Proofs.Ytjoaoimebdkpaaa
section
set_option linter.unusedVariables false
set_option linter.unusedSimpArgs false
open Go.RowKit Go.Sort

theorem first_at {l : List Tl} {x : Tl} (h : x ∈ l) : ∃ j, j < l.length ∧ l.getD j T0 = x ∧ ∀ i, i < j → l.getD i T0 ≠ x := by
  induction l with
  | nil => simp at h
  | cons y l ih =>
    by_cases e : y = x
    · exact ⟨0, by simp, by simpa using e, fun i hi => absurd hi (Nat.not_lt_zero _)⟩
    · have hm : x ∈ l := by
        rcases List.mem_cons.1 h with h | h
        · exact absurd h.symm e
        · exact h
      obtain ⟨j, h1, h2, h3⟩ := ih hm
      refine ⟨j + 1, by simpa using h1, by simpa using h2, fun i hi => ?_⟩
      rcases i with _ | i
      · simpa using e
      · simpa using h3 i (by omega)

def pairK (ts us : List Tl) (k : Nat) : Tl × Tl := (ts.getD (k / us.length) T0, us.getD (k % us.length) T0)
def fitK (ts us : List Tl) (k : Nat) : Bool := decide ((pairK ts us k).1.2.2.2 = (pairK ts us k).2.2.1)
def okK (ts us : List Tl) (ps : List Int) (x : Tl) (k : Nat) : Bool := fitK ts us k && decide (stT ps (pairK ts us k) = x)
/-- The number of the first stacked pair that makes a tile. -/
def firstK (ts us : List Tl) (ps : List Int) (x : Tl) : Nat := ((List.range (ts.length * us.length)).find? (okK ts us ps x)).getD 0
theorem firstK_eq {ts us : List Tl} {ps : List Int} {x : Tl} {k : Nat} (hk : k < ts.length * us.length) (h : okK ts us ps x k = true) (hno : ∀ j, j < k → okK ts us ps x j = false) : firstK ts us ps x = k := by
  have : (List.range (ts.length * us.length)).find? (okK ts us ps x) = some k := by
    rw [List.find?_eq_some_iff_getElem]
    exact ⟨h, k, by simpa using hk, by simp, fun j hj => by simp [hno j hj]⟩
  unfold firstK
  rw [this]
  rfl
def upK (ts us : List Tl) (k : Nat) : List (Tl × Tl) := ((List.range k).filter (fitK ts us)).map (pairK ts us)
theorem upK_yes {ts us : List Tl} {k : Nat} (h : fitK ts us k = true) : upK ts us (k + 1) = upK ts us k ++ [pairK ts us k] := by simp [upK, List.range_succ, List.filter_append, h]
theorem upK_no {ts us : List Tl} {k : Nat} (h : fitK ts us k = false) : upK ts us (k + 1) = upK ts us k := by simp [upK, List.range_succ, List.filter_append, h]
theorem pairK_at {ts us : List Tl} {i b : Nat} (hb : b < us.length) : pairK ts us (i * us.length + b) = (ts.getD i T0, us.getD b T0) := by
  have h1 : (i * us.length + b) / us.length = i := by
    rw [Nat.mul_comm, Nat.mul_add_div (by omega), Nat.div_eq_of_lt hb]; rfl
  have h2 : (i * us.length + b) % us.length = b := by
    rw [Nat.mul_comm, Nat.mul_add_mod, Nat.mod_eq_of_lt hb]
  unfold pairK
  rw [h1, h2]
theorem stk_inner (ts us : List Tl) (i : Nat) (h : stk (ts.take i) us = upK ts us (i * us.length)) : ∀ b, b ≤ us.length → stk (ts.take i) us ++ stkI us (ts.getD i T0) b = upK ts us (i * us.length + b)
  | 0, _ => by rw [h]; simp [stkI]
  | b + 1, hb => by
    have ih := stk_inner ts us i h b (by omega)
    have hp := pairK_at (ts := ts) (us := us) (i := i) (b := b) (by omega)
    by_cases hf : (ts.getD i T0).2.2.2 = (us.getD b T0).2.1
    · rw [stkI_yes (by omega) hf, ← List.append_assoc, ih, ← Nat.add_assoc, upK_yes (by unfold fitK; rw [hp]; simpa using hf), hp]
    · rw [stkI_no (by omega) hf, ih, ← Nat.add_assoc, upK_no (by unfold fitK; rw [hp]; simpa using hf)]
theorem stk_outer (ts us : List Tl) : ∀ i, i ≤ ts.length → stk (ts.take i) us = upK ts us (i * us.length)
  | 0, _ => by simp [stk, upK]
  | i + 1, hi => by
    rw [stkO_succ (by omega), stk_inner ts us i (stk_outer ts us i (by omega)) us.length (Nat.le_refl _), Nat.succ_mul]
theorem stk_up (ts us : List Tl) : stk ts us = upK ts us (ts.length * us.length) := by
  have := stk_outer ts us ts.length (Nat.le_refl _)
  rwa [List.take_length] at this
/-- The first stacked pair in the list is the one with the first number. -/
theorem stk_first {ts us : List Tl} {ps : List Int} {x : Tl} {j : Nat} (hj : j < (stk ts us).length) (h : stT ps ((stk ts us).getD j P0) = x) (hno : ∀ i, i < j → stT ps ((stk ts us).getD i P0) ≠ x) :
    firstK ts us ps x < ts.length * us.length ∧ (stk ts us).getD j P0 = pairK ts us (firstK ts us ps x) := by
  have h1 : (stk ts us).find? (fun p => decide (stT ps p = x)) = some ((stk ts us).getD j P0) := by
    rw [List.find?_eq_some_iff_getElem]
    refine ⟨by simpa using h, j, hj, by simp [List.getD, hj], fun i hi => ?_⟩
    have := hno i hi
    simp only [List.getD, List.getElem?_eq_getElem (show i < (stk ts us).length by omega), Option.getD_some] at this
    simpa using this
  rw [stk_up] at h1
  unfold upK at h1
  rw [List.find?_map, List.find?_filter] at h1
  have h2 : (fun a => decide (fitK ts us a = true ∧ ((fun p => decide (stT ps p = x)) ∘ pairK ts us) a = true)) = okK ts us ps x := by
    funext k
    unfold okK
    rw [Bool.eq_iff_iff]
    simp
  rw [h2] at h1
  rw [stk_up]
  unfold upK
  cases h3 : (List.range (ts.length * us.length)).find? (okK ts us ps x) with
  | none =>
    rw [h3] at h1
    cases h1
  | some k =>
    rw [h3] at h1
    have hf : firstK ts us ps x = k := by unfold firstK; rw [h3]; rfl
    rw [hf]
    refine ⟨by simpa using List.mem_of_find?_eq_some h3, ?_⟩
    simpa using h1.symm
theorem nodup_first {ts : List Tl} (h : ts.Nodup) {a : Nat} (ha : a < ts.length) : ∀ i, i < a → ts.getD i T0 ≠ ts.getD a T0 := fun i hi e => by
  have h1 : ts[i]'(by omega) = ts[a] := by simpa [List.getD, ha, show i < ts.length by omega] using e
  have := (List.getElem_inj h).1 h1
  omega

set_option maxRecDepth 100000 in
set_option maxHeartbeats 1000000 in
theorem indexT_any (A : Option Addr) (n c : Nat) (l : List Tl) (x : Tl) (j : Nat) (w : World) (hn : n ≤ 1048576) (hl : l.length = n) (hA : TR w w.heap.size A l) (hj : j < n) (hx : l.getD j T0 = x) (hlt : ∀ i, i < j → l.getD i T0 ≠ x) :
    Calls Try.prog 94 #[.slice A n c, tv x] w fun e w' => e = .returned (.int .i64 (j : Int)) ∧ Ext w w' := by
  have HX := Lib.hid hx
  have HLT := Lib.hid hlt
  clear hx hlt
  obtain ⟨x0, x1, x2, x3⟩ := x
  unfold tv
  go_enter Try.func94, Try.ntmps94
  go_wp2_with fail
  have hE1 : Ext w (w.alloc (.cells #[.int .i64 x0, .int .i64 x1, .int .i64 x2, .int .i64 x3] 48)) := (Ext.refl w).alloc _
  have hT1 := Blk.new w 48 #[.int .i64 x0, .int .i64 x1, .int .i64 x2, .int .i64 x3]
  generalize (w.alloc (.cells #[.int .i64 x0, .int .i64 x1, .int .i64 x2, .int .i64 x3] 48)) = w1 at *
  have HE1 := Lib.hid hE1
  have HT1 := Lib.hid hT1
  clear hE1 hT1
  go_loopw [8] (fun i wr => ∃ k : Nat, k ≤ j ∧ i = .int .i64 k ∧ Ext w1 wr) (fun i _ => n - (intOf i).toNat)
  case atStart => exact ⟨0, Nat.zero_le _, rfl, Ext.refl _⟩
  case round =>
    obtain ⟨k, hk, rfl, hx⟩ := hrel
    have HXW := Lib.hid hx
    have hT : Blk wr w.heap.size 48 #[.int .i64 x0, .int .i64 x1, .int .i64 x2, .int .i64 x3] := HT1.out.ext hx
    obtain ⟨b, off, rfl, hc⟩ := hA.at2 (HE1.out.trans hx) (k := k) (by omega)
    have t0 := fun q os => hT.grown q os 0 (v := .int .i64 x0) rfl
    have t1 := fun q os => hT.grown q os 1 (v := .int .i64 x1) rfl
    have t2 := fun q os => hT.grown q os 2 (v := .int .i64 x2) rfl
    have t3 := fun q os => hT.grown q os 3 (v := .int .i64 x3) rfl
    obtain ⟨⟨y0, y1, y2, y3⟩, hY⟩ : ∃ x, x = l.getD k T0 := ⟨_, rfl⟩
    have hk4 := hc k (by omega)
    rw [← hY] at hk4
    simp only [Cell4, forall_and] at hk4
    obtain ⟨d0, d1, d2, d3⟩ := hk4
    have heq : ∀ w, (binOp .eql 48 (.agg #[.int .i64 x0, .int .i64 x1, .int .i64 x2, .int .i64 x3]) (.agg #[.int .i64 y0, .int .i64 y1, .int .i64 y2, .int .i64 y3])).run Try.prog w = .ok (.bool (eqT (x0, x1, x2, x3) (y0, y1, y2, y3))) w := fun w => eql_tile (x0, x1, x2, x3) (y0, y1, y2, y3) w
    have hkn : (k : Int) < (n : Int) := by omega
    by_cases hkj : k = j
    · subst hkj
      have hz : eqT (x0, x1, x2, x3) (y0, y1, y2, y3) = true := (eqT_iff _ _).2 (by rw [hY, HX.out])
      rw [hz] at heq
      clear hz hY hT hx hA hc
      go_wp2_with fail
      refine wp_region_quiet_grown mixed (by kernel_rfl) ?_
      repeat (go_big_quiet_step ((fail)))
      refine wpQuiet_nil ?_
      intro _ hw'
      obtain ⟨⟨nq, osq⟩, hw''⟩ := hw'
      subst hw''
      clear d0 d1 d2 d3 t0 t1 t2 t3
      go_wp2_with fail
      go_ret
      exact ⟨rfl, HE1.out.trans (HXW.out.trans ⟨nq, osq, rfl⟩)⟩
    · have hz : eqT (x0, x1, x2, x3) (y0, y1, y2, y3) = false := by
        cases h : eqT (x0, x1, x2, x3) (y0, y1, y2, y3) with
        | false => rfl
        | true => exact absurd ((eqT_iff _ _).1 h) (by rw [hY]; exact fun e => HLT.out k (by omega) e.symm)
      rw [hz] at heq
      clear hz hY hT hx hA hc
      go_wp2_with fail
      refine wp_region_quiet_grown mixed (by kernel_rfl) ?_
      repeat (go_big_quiet_step ((fail)))
      refine wpQuiet_nil ?_
      intro _ hw'
      obtain ⟨⟨nq, osq⟩, hw''⟩ := hw'
      subst hw''
      clear d0 d1 d2 d3 t0 t1 t2 t3
      have HX3 := Lib.hid (HXW.out.trans ⟨nq, osq, rfl⟩)
      go_wp2_with fail
      go_roundw
      case rel => exact ⟨k + 1, by omega, by go_num, HX3.out⟩
      case measure => simp [intOf]; omega
end

section
set_option linter.unusedVariables false
set_option linter.unusedSimpArgs false
open Go.RowKit Go.Sort

theorem isSet_mkS {c : Int} {ts : List Tl} (hc : 1 ≤ c ∧ c ≤ 6) (hl : ts.length ≤ 16) (hok : ∀ t ∈ ts, tileOk c t = true) (ha : Asc ts) : isSet c ts = true := by
  refine isSet_all hc hl fun j hj => ?_
  have hm : ts.getD j T0 ∈ ts := by simp [List.getD, hj]
  unfold good
  rw [hok _ hm, Bool.true_and, Bool.or_eq_true]
  rcases Nat.eq_zero_or_pos j with rfl | h0
  · exact .inl (by simp)
  · refine .inr ?_
    have := List.pairwise_iff_getElem.1 ha (j - 1) j (by omega) hj (by omega)
    simpa [List.getD, hj, show j - 1 < ts.length by omega] using this
theorem isSet_stkS {c d : Int} {ts us : List Tl} (h0 : isSet c ts = true) (h1 : isSet d us = true) (h6 : stkC c d ts us ≤ 6) (h16 : (stkT ts us).length ≤ 16) : isSet (stkC c d ts us) (stkT ts us) = true := by
  have hc := isSet_col h0
  have hd := isSet_col h1
  have e1 : c ≤ stkC c d ts us := by unfold stkC; omega
  have e2 : d ≤ stkC c d ts us := by unfold stkC; omega
  have e3 : ((prs ts us).length : Int) ≤ stkC c d ts us := by unfold stkC; omega
  refine isSet_mkS ⟨by omega, h6⟩ h16 (fun t ht => ?_) (sortT_asc _)
  obtain ⟨p, hp, rfl⟩ := List.mem_map.1 (sortT_mem.1 ht)
  have hm := stk_mem hp
  have a1 := ok_of_isSet h0 _ hm.1
  have a2 := ok_of_isSet h1 _ hm.2.1
  have r1 := rk_lt (show cw p ∈ prs ts us from sortI_mem.2 (cw_mem hp))
  have r2 := rk_lt (show ce p ∈ prs ts us from sortI_mem.2 (ce_mem hp))
  simp only [tileOk, decide_eq_true_eq] at a1 a2 ⊢
  simp only [stT]
  omega
/-- The number of the first stacked pair that makes the tile with a number. -/
def fk (ts us : List Tl) (i : Int) : Nat := firstK ts us (prs ts us) ((stkT ts us).getD i.toNat T0)
def upL (ts us : List Tl) (xs : List Int) : List Int := xs.map fun i => ((fk ts us i / us.length : Nat) : Int)
def loL (ts us : List Tl) (xs : List Int) : List Int := xs.map fun i => ((fk ts us i % us.length : Nat) : Int)
theorem lmap_succ (f : Int → Int) (l : List Int) {k : Nat} (hk : k < l.length) : (l.take (k + 1)).map f = (l.take k).map f ++ [f (l.getD k 0)] := by
  rw [List.take_succ_eq_append_getElem hk, List.map_append]
  simp only [List.map_cons, List.map_nil, List.getD, List.getElem?_eq_getElem hk, Option.getD_some]
theorem isRow_facts {ts : List Tl} {xs : List Int} (h : isRow ts xs = true) : (1 ≤ xs.length ∧ xs.length ≤ 20) ∧ ∀ k, k < xs.length → 0 ≤ xs.getD k 0 ∧ xs.getD k 0 < ts.length := by
  unfold isRow at h
  simp only [Bool.and_eq_true, decide_eq_true_eq, List.all_eq_true, List.mem_range] at h
  exact ⟨h.1, fun k hk => rowGood_in (h.2 k hk)⟩
theorem stk_small {c0 c1 : Int} {ts us : List Tl} (hs0 : isSet c0 ts = true) (hs1 : isSet c1 us = true) : ∀ p ∈ stk ts us, (0 ≤ p.2.1 ∧ p.2.1 < 16) ∧ 0 ≤ p.2.2.2.1 ∧ p.2.2.2.1 < 16 := fun p hp => by
  have h1 := (ok_of_isSet hs1 p.2 (stk_mem hp).2.1)
  have h2 := (isSet_col hs1).2
  simp only [tileOk, decide_eq_true_eq] at h1
  omega
/-- A row of numbers that the call owns lies in its own block alone. -/
theorem own_one {w : World} {base g n cap : Nat} {xs : List Int} (h : w.ownsRow base 2 1 (.slice (some ⟨g, 0, none⟩) n cap) n (vis xs)) (hl : xs.length = n) : IWr w g (g + 1) (some ⟨g, 0, none⟩) xs := fun h0 => by
  obtain ⟨A, c, e, hc, hw⟩ := own_iwr h hl
  cases e
  obtain ⟨b, off, t, cs, e, h1, h2, h3, h4⟩ := hw h0
  cases e
  exact ⟨_, _, t, cs, rfl, Nat.le_refl _, Nat.lt_succ_self _, h3, h4⟩
/-- What the search for a tile of a stack finds. -/
theorem fk_facts {ts us : List Tl} {i : Int} (hi : 0 ≤ i ∧ i < (stkT ts us).length) : ∃ j, j < (stk ts us).length ∧ ((stk ts us).map (stT (prs ts us))).getD j T0 = (stkT ts us).getD i.toNat T0 ∧ (∀ k, k < j → ((stk ts us).map (stT (prs ts us))).getD k T0 ≠ (stkT ts us).getD i.toNat T0) ∧
    fk ts us i < ts.length * us.length ∧ (stk ts us).getD j P0 = pairK ts us (fk ts us i) := by
  have hm : (stkT ts us).getD i.toNat T0 ∈ (stk ts us).map (stT (prs ts us)) := by
    have h1 : (stkT ts us).getD i.toNat T0 ∈ stkT ts us := by
      have : i.toNat < (stkT ts us).length := by omega
      simp [List.getD, this]
    exact sortT_mem.1 h1
  obtain ⟨j, h1, h2, h3⟩ := first_at hm
  have hjl : j < (stk ts us).length := by simpa using h1
  have e1 : ∀ k, k < (stk ts us).length → ((stk ts us).map (stT (prs ts us))).getD k T0 = stT (prs ts us) ((stk ts us).getD k P0) := fun k hk => by simp [List.getD, hk]
  have h4 := stk_first (ps := prs ts us) (x := (stkT ts us).getD i.toNat T0) hjl ((e1 j hjl).symm.trans h2) (fun k hk e => h3 k hk ((e1 k (by omega)).trans e))
  exact ⟨j, hjl, h2, h3, h4.1, h4.2⟩
theorem natOf' {v : Int} {n : Nat} (h : 0 ≤ v ∧ v < n) : ∃ i : Nat, v = (i : Int) ∧ i < n := ⟨v.toNat, by omega, by omega⟩
def P8 (p : Tl × Tl) : Array Value := encA8 p
theorem iown_blk {w w1 : World} {base n : Nat} {v : Value} {xs : List Value} (h : w.ownsRow base 2 1 v n xs) {row : Option Nat} (hg : w.grownBy w1 row) (hne : ∀ k, v.ownBlock = some k → row ≠ some k) : w1.ownsRow base 2 1 v n xs := by
  refine h.kept hg ?_
  cases hv : v.ownBlock with
  | none => exact .inl rfl
  | some k => exact .inr fun e => hne k hv e.symm
def Away (v u : Value) : Prop := ∀ k, v.ownBlock = some k → u.ownBlock ≠ some k
theorem Away.nil {u : Value} : Away (.slice none 0 0) u := fun k hk => by simp [Value.ownBlock] at hk
theorem Away.symm {v u : Value} (h : Away v u) : Away u v := fun k h1 h2 => h k h2 h1
theorem Away.grown {w : World} {v v' u : Value} {base n : Nat} {xs : List Value} (h : Away v u) (hu : w.ownsRow base 2 1 u n xs) (hat : v'.ownBlock = v.ownBlock ∨ v'.ownBlock = some w.heap.size) : Away v' u := fun k h1 h2 => by
  rcases hat with e | e
  · exact h k (e ▸ h1) h2
  · rw [e] at h1
    cases h1
    have := (hu.lt _ h2).2
    omega

set_option maxRecDepth 100000 in
set_option maxHeartbeats 8000000 in
theorem implSplit_0 (c0 : Int) (A0 : Option Addr) (n0 q0 : Nat) (ts : List Tl) (c1 : Int) (A1 : Option Addr) (n1 q1 : Nat) (us : List Tl) (B : Option Addr) (m d : Nat) (xs : List Int) (w : World) (hn0 : n0 ≤ 1048576) (hl0 : ts.length = n0) (hA0 : TR w w.heap.size A0 ts) (hn1 : n1 ≤ 1048576) (hl1 : us.length = n1) (hA1 : TR w w.heap.size A1 us) (hm : m ≤ 1048576) (hmd : m ≤ d) (hlx : xs.length = m) (hB : IR w w.heap.size B xs) (hs0 : isSet c0 ts = true) (hs1 : isSet c1 us = true) (h6 : stkC c0 c1 ts us ≤ 6) (h16 : (stkT ts us).length ≤ 16) (hrow : isRow (stkT ts us) xs = true) :
    Calls Try.prog 42 #[.agg #[.int .i64 c0, .slice A0 n0 q0], .agg #[.int .i64 c1, .slice A1 n1 q1], .slice B m d] w fun e w' => ∃ R0 p0 R1 p1 ja jb jc jd, w.heap.size ≤ ja ∧ jb ≤ w'.heap.size ∧ w.heap.size ≤ jc ∧ jd ≤ w'.heap.size ∧ (jb ≤ jc ∨ jd ≤ ja) ∧ e = .returned (.tuple #[.slice R0 (upL ts us xs).length p0, .slice R1 (loL ts us xs).length p1, .int .i64 0]) ∧ Below w.heap.size w w' ∧ IWr w' ja jb R0 (upL ts us xs) ∧ IWr w' jc jd R1 (loL ts us xs) := by
  have hset := isSet_stkS hs0 hs1 h6 h16
  have hle0 := isSet_len hs0
  have hle1 := isSet_len hs1
  rw [hl0] at hle0
  rw [hl1] at hle1
  have HTA0 := Lib.hid hA0
  have HTA1 := Lib.hid hA1
  have hst : ∀ W, Below w.heap.size w W → Calls Try.prog 90 #[.agg #[.int .i64 c0, .slice A0 n0 q0], .agg #[.int .i64 c1, .slice A1 n1 q1]] W _ := fun W hW => implStackSets_0 c0 A0 n0 q0 ts c1 A1 n1 q1 us W hn0 hl0 ((hA0.below hW (Nat.le_refl _)).more hW.size) hn1 hl1 ((hA1.below hW (Nat.le_refl _)).more hW.size) hs0 hs1 h6 h16
  unfold SetRes at hst
  have hsp : ∀ W, Below w.heap.size w W → Calls Try.prog 92 #[.agg #[.int .i64 c0, .slice A0 n0 q0], .agg #[.int .i64 c1, .slice A1 n1 q1]] W _ := fun W hW => stackedPairs_any c0 A0 n0 q0 ts c1 A1 n1 q1 us W (by omega) hl0 ((hA0.below hW (Nat.le_refl _)).more hW.size) hle1 hl1 ((hA1.below hW (Nat.le_refl _)).more hW.size)
  have hir : ∀ W A cap, Below w.heap.size w W → TR W W.heap.size A (stkT ts us) → Calls Try.prog 91 #[.agg #[.int .i64 (stkC c0 c1 ts us), .slice A (stkT ts us).length cap], .slice B m d] W _ := fun W A cap hW hA => implIsRow_any (stkC c0 c1 ts us) A (stkT ts us).length cap (stkT ts us) B m d xs W (by omega) rfl hA hm hmd hlx ((hB.below hW (Nat.le_refl _)).more hW.size)
  unfold BoolRes at hir
  rw [hset, hrow] at hir
  have hfk := fun i => fk_facts (ts := ts) (us := us) (i := i)
  obtain ⟨⟨hr1, hr2⟩, hrg⟩ := isRow_facts hrow
  rw [hlx] at hr1 hr2 hrg
  have hnd0 := fun a (ha : a < ts.length) => nodup_first (nodup_of_asc (asc_of_isSet hs0)) ha
  have hnd1 := fun a (ha : a < us.length) => nodup_first (nodup_of_asc (asc_of_isSet hs1)) ha
  have hok := stk_small hs0 hs1
  have hkl := stk_len ts us
  rw [hl0, hl1] at hkl
  have hkl2 : (stk ts us).length ≤ 16 * 16 := Nat.le_trans hkl (Nat.mul_le_mul hle0 hle1)
  have HST := Lib.hid hst
  have HSP := Lib.hid hsp
  have HIR := Lib.hid hir
  have HFK := Lib.hid hfk
  have HRG := Lib.hid hrg
  have HND := Lib.hid (And.intro hnd0 hnd1)
  have HOK := Lib.hid hok
  have HBX := Lib.hid hB
  clear hst hsp hir hfk hrg hnd0 hnd1 hok hset hrow hA0 hA1 hs0 hs1 hB hkl
  go_enter Try.func42, Try.ntmps42
  have hx0 : Ext w ((w.alloc (Obj.cells #[.int .i64 c0, .slice A0 n0 q0] 32)).alloc (Obj.cells #[.int .i64 c1, .slice A1 n1 q1] 32)) := ((Ext.refl w).alloc _).alloc _
  have hb0 := (Blk.new w 32 #[.int .i64 c0, .slice A0 n0 q0]).ext ((Ext.refl _).alloc (Obj.cells #[.int .i64 c1, .slice A1 n1 q1] 32))
  have hb1 := blk_at_one w (Obj.cells #[.int .i64 c0, .slice A0 n0 q0] 32) 32 #[.int .i64 c1, .slice A1 n1 q1]
  have r0 := hb0.rd 0 rfl
  have r1 := hb0.rd 1 rfl
  have r2 := hb1.rd 0 rfl
  have r3 := hb1.rd 1 rfl
  have HX0 := Lib.hid hx0
  have HB0 := Lib.hid hb0
  have HB1 := Lib.hid hb1
  clear hx0 hb0 hb1
  go_wp2_with fail
  generalize ((w.alloc (Obj.cells #[.int .i64 c0, .slice A0 n0 q0] 32)).alloc (Obj.cells #[.int .i64 c1, .slice A1 n1 q1] 32)) = w0 at *
  have hw0 := HX0.out.below (Nat.le_refl w.heap.size)
  have HW0 := Lib.hid hw0
  clear r0 r1 r2 r3 hw0
  refine (HST.out w0 HW0.out).mono ?_
  rintro e w1 ⟨A2, cap2, rfl, hb, htw⟩
  have HT2 := Lib.hid htw
  have HW1 := Lib.hid (HW0.out.trans (hb.mono HW0.out.size))
  have hbs := hb.size
  have HB01 := Lib.hid (And.intro (HB0.out.below hb HB0.out.lt) (HB1.out.below hb HB1.out.lt))
  clear hb htw HB0 HB1
  go_wp2_with fail
  have hx2 := (Ext.refl w1).alloc (Obj.cells #[.int .i64 (stkC c0 c1 ts us), .slice A2 (stkT ts us).length cap2] 32)
  have hs2 := Blk.new w1 32 #[.int .i64 (stkC c0 c1 ts us), .slice A2 (stkT ts us).length cap2]
  generalize w1.alloc (Obj.cells #[.int .i64 (stkC c0 c1 ts us), .slice A2 (stkT ts us).length cap2] 32) = w2 at *
  have HW2 := Lib.hid (HW1.out.trans (hx2.below HW1.out.size))
  have HB2 := Lib.hid (And.intro (HB01.out.1.ext hx2) (And.intro (HB01.out.2.ext hx2) hs2))
  have HTS2 := Lib.hid ((HT2.out.tr.ext hx2 (Nat.le_refl _)).more (hx2.below (Nat.le_refl _)).size)
  clear hx2 hs2 HB01 HT2
  refine (HIR.out w2 A2 cap2 HW2.out HTS2.out).mono ?_
  rintro e w3 ⟨rfl, hb3⟩
  have HW3 := Lib.hid (HW2.out.trans (hb3.mono HW2.out.size))
  have HB3 := Lib.hid (And.intro (HB2.out.1.below hb3 HB2.out.1.lt) (And.intro (HB2.out.2.1.below hb3 HB2.out.2.1.lt) (HB2.out.2.2.below hb3 HB2.out.2.2.lt)))
  have HTS3 := Lib.hid ((HTS2.out.below hb3 (Nat.le_refl _)).more hb3.size)
  clear hb3 HB2 HTS2 HIR
  have r0 := HB3.out.1.rd 0 rfl
  have r1 := HB3.out.1.rd 1 rfl
  have r2 := HB3.out.2.1.rd 0 rfl
  have r3 := HB3.out.2.1.rd 1 rfl
  go_wp2_with fail
  clear r0 r1 r2 r3
  refine (HSP.out w3 HW3.out).mono ?_
  rintro e w4 ⟨v4, rfl, ho4, hb4⟩
  obtain ⟨A4, cap4, rfl, hsr4⟩ := SR.of_own ho4 rfl
  have HW4 := Lib.hid (HW3.out.trans (hb4.mono HW3.out.size))
  have HB4 := Lib.hid (And.intro (HB3.out.1.below hb4 HB3.out.1.lt) (And.intro (HB3.out.2.1.below hb4 HB3.out.2.1.lt) (HB3.out.2.2.below hb4 HB3.out.2.2.lt)))
  have HTS4 := Lib.hid ((HTS3.out.below hb4 (Nat.le_refl _)).more hb4.size)
  have HSR4 := Lib.hid hsr4
  clear hb4 HB3 HTS3 HSP ho4 hsr4
  go_wp2_with fail
  refine (tilesOfStack_any A4 (stk ts us).length cap4 (stk ts us) w4 (by omega) rfl HSR4.out HOK.out).mono ?_
  rintro e w5 ⟨v5, rfl, ho5, hb5⟩
  obtain ⟨A5, cap5, rfl, htw5⟩ := own_tw ho5 (by simp)
  have HW5 := Lib.hid (HW4.out.trans (hb5.mono HW4.out.size))
  have HB5 := Lib.hid (And.intro (HB4.out.1.below hb5 HB4.out.1.lt) (And.intro (HB4.out.2.1.below hb5 HB4.out.2.1.lt) (HB4.out.2.2.below hb5 HB4.out.2.2.lt)))
  have HTS5 := Lib.hid ((HTS4.out.below hb5 (Nat.le_refl _)).more hb5.size)
  have HSR5 := Lib.hid ((HSR4.out.below hb5 (Nat.le_refl _)).more9 hb5.size)
  have htt : TR w5 w5.heap.size A5 ((stk ts us).map (stT (prs ts us))) := htw5.tr
  have HTT5 := Lib.hid htt
  clear hb5 HB4 HTS4 HSR4 ho5 htw5 htt HOK
  obtain ⟨bB, oB, rfl, hbB, hcB⟩ := HBX.out (by omega)
  have HCB := Lib.hid hcB
  have hul : (upL ts us xs).length = m := by unfold upL; rw [List.length_map, hlx]
  have hll : (loL ts us xs).length = m := by unfold loL; rw [List.length_map, hlx]
  have hsz5 := HW5.out.size
  clear hcB HBX
  go_wp2_with fail
  go_loopw [15, 16, 44] (fun v u i wr => ∃ y : Nat, y ≤ m ∧ i = .int .i64 y ∧ wr.ownsRow w5.heap.size 2 1 v y (vis ((upL ts us xs).take y)) ∧ wr.ownsRow w5.heap.size 2 1 u y (vis ((loL ts us xs).take y)) ∧ Away v u ∧ Below w5.heap.size w5 wr) (fun _ _ i _ => m - (intOf i).toNat)
  case atStart => exact ⟨0, Nat.zero_le _, rfl, World.ownsRow_nil _ _ _ _, World.ownsRow_nil _ _ _ _, Away.nil, Below.refl _ _⟩
  case round =>
    obtain ⟨y, hy, rfl, hov, hou, haw, hbr⟩ := hrel
    have HOV := Lib.hid hov
    have HOU := Lib.hid hou
    have HAW := Lib.hid haw
    have HBR := Lib.hid hbr
    have hszr := hbr.size
    clear hov hou haw
    by_cases hlt : y < m
    · have hwr := HW5.out.trans (hbr.mono hsz5)
      have cx := (hwr.cell (p := ⟨bB, oB + y, none⟩) hbB).trans (HCB.out y (by omega))
      have hup := lmap_succ (fun i => ((fk ts us i / us.length : Nat) : Int)) xs (k := y) (by omega)
      have hlo := lmap_succ (fun i => ((fk ts us i % us.length : Nat) : Int)) xs (k := y) (by omega)
      rw [List.map_take, List.map_take] at hup hlo
      change (upL ts us xs).take (y + 1) = (upL ts us xs).take y ++ _ at hup
      change (loL ts us xs).take (y + 1) = (loL ts us xs).take y ++ _ at hlo
      obtain ⟨i, hi, hi2⟩ := natOf' (HRG.out y (by omega))
      rw [hi] at cx hup hlo
      obtain ⟨j, hj, hje, hjn, hfl, hpk⟩ := HFK.out (i : Int) (by omega)
      rw [Int.toNat_natCast] at hje hjn
      generalize fk ts us (i : Int) = f at hup hlo hfl hpk
      have hmul : f / n1 < n0 ∧ f % n1 < n1 := by
        rw [hl0, hl1] at hfl
        have h9 : 0 < n1 := by
          rcases Nat.eq_zero_or_pos n1 with h | h
          · rw [h, Nat.mul_zero] at hfl; omega
          · exact h
        exact ⟨Nat.div_lt_of_lt_mul (by rw [Nat.mul_comm]; exact hfl), Nat.mod_lt _ h9⟩
      rw [hl1] at hup hlo
      unfold pairK at hpk
      rw [hl1] at hpk
      have hpu : ts.getD (f / n1) T0 = ((stk ts us).getD j P0).1 := by rw [hpk]
      have hpl : us.getD (f % n1) T0 = ((stk ts us).getD j P0).2 := by rw [hpk]
      clear hpk hfl
      generalize f / n1 = fa at hup hpu hmul
      generalize f % n1 = fb at hlo hpl hmul
      obtain ⟨bs, os, rfl, hbs, hcs⟩ := (HTS5.out.below hbr (Nat.le_refl _)) (by omega)
      obtain ⟨z0, z1, z2, z3⟩ := hcs i (by omega)
      obtain ⟨b4, o4, rfl, hb4, hc4⟩ := HSR5.out (by omega)
      have hc8 := hc4 j hj
      obtain ⟨τ, hT⟩ : ∃ τ, τ = (stkT ts us).getD i T0 := ⟨_, rfl⟩
      rw [← hT] at z0 z1 z2 z3 hje hjn
      obtain ⟨⟨⟨u0, u1, u2, u3⟩, ⟨l0, l1, l2, l3⟩⟩, hP⟩ : ∃ p, p = (stk ts us).getD j P0 := ⟨_, rfl⟩
      rw [← hP] at hpu hpl hc8
      have d0 : w5.cell? ⟨b4, o4 + j * 8, none⟩ = some (.int .i64 u0) := (hc8 0 (by omega)).trans rfl
      have d1 : w5.cell? ⟨b4, o4 + j * 8 + 1, none⟩ = some (.int .i64 u1) := (hc8 1 (by omega)).trans rfl
      have d2 : w5.cell? ⟨b4, o4 + j * 8 + 2, none⟩ = some (.int .i64 u2) := (hc8 2 (by omega)).trans rfl
      have d3 : w5.cell? ⟨b4, o4 + j * 8 + 3, none⟩ = some (.int .i64 u3) := (hc8 3 (by omega)).trans rfl
      have d4 : w5.cell? ⟨b4, o4 + j * 8 + 4, none⟩ = some (.int .i64 l0) := (hc8 4 (by omega)).trans rfl
      have d5 : w5.cell? ⟨b4, o4 + j * 8 + 5, none⟩ = some (.int .i64 l1) := (hc8 5 (by omega)).trans rfl
      have d6 : w5.cell? ⟨b4, o4 + j * 8 + 6, none⟩ = some (.int .i64 l2) := (hc8 6 (by omega)).trans rfl
      have d7 : w5.cell? ⟨b4, o4 + j * 8 + 7, none⟩ = some (.int .i64 l3) := (hc8 7 (by omega)).trans rfl
      have HD := Lib.hid (And.intro d0 (And.intro d1 (And.intro d2 (And.intro d3 (And.intro d4 (And.intro d5 (And.intro d6 d7)))))))
      clear d0 d1 d2 d3 d4 d5 d6 d7 hc8 hc4 hcs hP
      have HJ := Lib.hid (And.intro hje hjn)
      have HPU := Lib.hid (And.intro hpu hpl)
      have HUL := Lib.hid (And.intro hup hlo)
      clear hje hjn hpu hpl hup hlo
      have q0 := (HB5.out.2.2.below hbr HB5.out.2.2.lt).rd 0 rfl
      have q1 := (HB5.out.2.2.below hbr HB5.out.2.2.lt).rd 1 rfl
      have HTAU := Lib.hid hT
      clear hT
      have hi3 : (i : Int) < ((stkT ts us).length : Int) := by omega
      have hj3 : (j : Int) < ((stk ts us).length : Int) := by omega
      have hix : ∀ W, Ext wr W → Calls Try.prog 94 #[.slice A5 ((stk ts us).length) cap5, .agg #[.int .i64 τ.1, .int .i64 τ.2.1, .int .i64 τ.2.2.1, .int .i64 τ.2.2.2]] W _ := fun W hW => indexT_any A5 (stk ts us).length cap5 ((stk ts us).map (stT (prs ts us))) τ j W (by omega) (by simp) (((HTT5.out.below hbr (Nat.le_refl _)).ext hW (by omega)).more (by have := (hW.below (Nat.le_refl _)).size; omega)) hj HJ.out.1 HJ.out.2
      have HIX := Lib.hid hix
      clear hix hwr
      go_wp2_with fail
      refine (HIX.out _ (Ext.refl _)).mono ?_
      rintro e wa ⟨rfl, hxa⟩
      have hba := hbr.trans (hxa.below hszr)
      have hsa := hba.size
      have hsra := (hxa.below (Nat.le_refl wr.heap.size)).size
      have d0 := (hba.cell (p := ⟨b4, o4 + j * 8, none⟩) hb4).trans HD.out.1
      have d1 := (hba.cell (p := ⟨b4, o4 + j * 8 + 1, none⟩) hb4).trans HD.out.2.1
      have d2 := (hba.cell (p := ⟨b4, o4 + j * 8 + 2, none⟩) hb4).trans HD.out.2.2.1
      have d3 := (hba.cell (p := ⟨b4, o4 + j * 8 + 3, none⟩) hb4).trans HD.out.2.2.2.1
      have d4 := (hba.cell (p := ⟨b4, o4 + j * 8 + 4, none⟩) hb4).trans HD.out.2.2.2.2.1
      have d5 := (hba.cell (p := ⟨b4, o4 + j * 8 + 5, none⟩) hb4).trans HD.out.2.2.2.2.2.1
      have d6 := (hba.cell (p := ⟨b4, o4 + j * 8 + 6, none⟩) hb4).trans HD.out.2.2.2.2.2.2.1
      have d7 := (hba.cell (p := ⟨b4, o4 + j * 8 + 7, none⟩) hb4).trans HD.out.2.2.2.2.2.2.2
      have HBA := Lib.hid hba
      have HXA := Lib.hid hxa
      have hxb := (Ext.refl wa).alloc (Obj.cells #[.int .i64 u0, .int .i64 u1, .int .i64 u2, .int .i64 u3, .int .i64 l0, .int .i64 l1, .int .i64 l2, .int .i64 l3] 90)
      have hgb := Blk.new wa 90 #[.int .i64 u0, .int .i64 u1, .int .i64 u2, .int .i64 u3, .int .i64 l0, .int .i64 l1, .int .i64 l2, .int .i64 l3]
      have hpb := (HB5.out.1.below hba HB5.out.1.lt).ext hxb
      have g0 := hgb.rd 0 rfl
      have g1 := hgb.rd 1 rfl
      have g2 := hgb.rd 2 rfl
      have g3 := hgb.rd 3 rfl
      have p0 := hpb.rd 0 rfl
      have p1 := hpb.rd 1 rfl
      have HGB := Lib.hid hgb
      have HXB := Lib.hid hxb
      clear hba hxa hxb hgb hpb z0 z1 z2 z3 q0 q1 cx HIX
      go_wp2_with fail
      generalize wa.alloc (Obj.cells #[.int .i64 u0, .int .i64 u1, .int .i64 u2, .int .i64 u3, .int .i64 l0, .int .i64 l1, .int .i64 l2, .int .i64 l3] 90) = wb at *
      have hbb := HBA.out.trans (HXB.out.below hsa)
      have hsb := hbb.size
      have HXRB := Lib.hid (HXA.out.trans HXB.out)
      have HBB := Lib.hid hbb
      clear hbb g0 g1 g2 g3 p0 p1 d0 d1 d2 d3 d4 d5 d6 d7 HXB HXA HBA
      refine (indexT_any A0 n0 q0 ts (u0, u1, u2, u3) fa wb hn0 hl0 ((HTA0.out.below (HW5.out.trans (HBB.out.mono hsz5)) (Nat.le_refl _)).more (Nat.le_trans hsz5 hsb)) hmul.1 HPU.out.1 (fun k hk => by rw [← HPU.out.1]; exact HND.out.1 _ (by rw [hl0]; exact hmul.1) k hk)).mono ?_
      rintro e wc ⟨rfl, hxc⟩
      have HXC := Lib.hid (HXRB.out.trans hxc)
      have HGC := Lib.hid (HGB.out.ext hxc)
      have hbc := HBB.out.trans (hxc.below hsb)
      have hsc := hbc.size
      have HBC := Lib.hid hbc
      clear hxc hbc HGB HBB HXRB
      go_wp2_with (at_builtin; refine wpList_push rfl _ _ rfl w5.heap.size _ y _ rfl (iown_ext HOV.out (HXC.out.alloc _)) wc.heap.size (fa : Int) rfl (heap_alloc_new wc _) ?c1 ?c2 ?c3 ?_)
      case c1 => unfold maxLen; omega
      case c2 => omega
      case c3 => simp; omega
      intro v' wd hownd hgrowd hatd
      have hvl : ∀ k, u15.ownBlock = some k → k < wr.heap.size := fun k hk => (HOV.out.lt k hk).2
      rw [show vis ((upL ts us xs).take y) ++ [vi (fa : Int)] = vis ((upL ts us xs).take (y + 1)) by rw [HUL.out.1]; simp [vis]] at hownd
      have hbd := (HBC.out.trans (((Ext.refl wc).alloc (Obj.cells #[.int .i64 (fa : Int)] 2)).below hsc)).grown hgrowd (by simp; omega) (fun k hk => (HOV.out.lt k hk).1)
      have hud := iown_blk (iown_ext HOU.out (HXC.out.alloc _)) hgrowd (fun k h1 h2 => HAW.out k h2 h1)
      have hawd := HAW.out.grown (iown_ext HOU.out (HXC.out.alloc (Obj.cells #[.int .i64 (fa : Int)] 2))) (by rw [World.size_alloc]; exact hatd)
      have hgd : Blk wd wa.heap.size 90 _ := (hgrowd.block wa.heap.size (by have := HGC.out.lt; simp; omega) (fun e => by have := hvl _ e.symm; omega)).trans (HGC.out.ext ((Ext.refl wc).alloc _))
      have hsd := hbd.size
      have hsd2 := hgrowd.size
      simp only [World.size_alloc] at hsd2
      have HVD := Lib.hid hownd
      have HUD := Lib.hid hud
      have HAD := Lib.hid hawd
      have HGD := Lib.hid hgd
      have HBD := Lib.hid hbd
      have g4 := hgd.rd 4 rfl
      have g5 := hgd.rd 5 rfl
      have g6 := hgd.rd 6 rfl
      have g7 := hgd.rd 7 rfl
      have p2 := (HB5.out.2.1.below hbd HB5.out.2.1.lt).rd 0 rfl
      have p3 := (HB5.out.2.1.below hbd HB5.out.2.1.lt).rd 1 rfl
      clear hownd hgrowd hatd hbd hud hawd hgd HOV HOU HAW HGC HBC HXC
      go_wp2_with fail
      clear g4 g5 g6 g7 p2 p3
      refine (indexT_any A1 n1 q1 us (l0, l1, l2, l3) fb wd hn1 hl1 ((HTA1.out.below (HW5.out.trans (HBD.out.mono hsz5)) (Nat.le_refl _)).more (Nat.le_trans hsz5 hsd)) hmul.2 HPU.out.2 (fun k hk => by rw [← HPU.out.2]; exact HND.out.2 _ (by rw [hl1]; exact hmul.2) k hk)).mono ?_
      rintro e we ⟨rfl, hxe⟩
      have HXE := Lib.hid hxe
      have hbe := HBD.out.trans (hxe.below hsd)
      have hse := hbe.size
      have HBE := Lib.hid hbe
      clear hxe hbe
      go_wp2_with (at_builtin; refine wpList_push rfl _ _ rfl w5.heap.size _ y _ rfl (iown_ext HUD.out (HXE.out.alloc _)) we.heap.size (fb : Int) rfl (heap_alloc_new we _) ?c1 ?c2 ?c3 ?_)
      case c1 => unfold maxLen; omega
      case c2 => omega
      case c3 => simp; omega
      intro u' wf hownf hgrowf hatf
      rw [show vis ((loL ts us xs).take y) ++ [vi (fb : Int)] = vis ((loL ts us xs).take (y + 1)) by rw [HUL.out.2]; simp [vis]] at hownf
      have hbf := (HBE.out.trans (((Ext.refl we).alloc (Obj.cells #[.int .i64 (fb : Int)] 2)).below hse)).grown hgrowf (by simp; omega) (fun k hk => (HUD.out.lt k hk).1)
      have hvf := iown_blk (iown_ext HVD.out (HXE.out.alloc _)) hgrowf (fun k h1 h2 => HAD.out k h1 h2)
      have hawf := (HAD.out.symm.grown (iown_ext HVD.out (HXE.out.alloc (Obj.cells #[.int .i64 (fb : Int)] 2))) (by rw [World.size_alloc]; exact hatf)).symm
      have HVF := Lib.hid hvf
      have HUF := Lib.hid hownf
      have HAF := Lib.hid hawf
      have HBF := Lib.hid hbf
      clear hownf hgrowf hatf hbf hvf hawf HVD HUD HAD HBD HGD
      go_wp2_with fail
      go_roundw
      case rel => first | exact ⟨y + 1, by omega, by go_num, HVF.out, HUF.out, HAF.out, HBF.out⟩ | ((repeat apply Exists.intro); exact ⟨⟨y + 1, by omega, by go_num, HVF.out, HUF.out, HAF.out, HBF.out⟩, rfl⟩)
      case measure => simp [intOf]; omega
    · obtain rfl : y = m := by omega
      have hov := HOV.out
      have hou := HOU.out
      rw [List.take_of_length_le (by omega)] at hov hou
      have hpos : 0 < y := by omega
      obtain ⟨gv, capv, rfl, hbv, hlv⟩ := hov.form hpos
      obtain ⟨gu, capu, rfl, hbu, hlu⟩ := hou.form hpos
      have hne : gv ≠ gu := fun e => HAW.out gv rfl (by rw [e]; rfl)
      have hiv := own_one hov hul
      have hiu := own_one hou hll
      have HIV := Lib.hid hiv
      have HIU := Lib.hid hiu
      have HBW := Lib.hid (HW5.out.trans (HBR.out.mono hsz5))
      clear hov hou hiv hiu HOV HOU HAW
      go_wp2_with fail
      refine bodyPost_ret (v := .tuple #[.slice (some ⟨gv, 0, none⟩) y capv, .slice (some ⟨gu, 0, none⟩) y capu, .int .i64 0]) (by simp [results, Try.results42, go_sem]) rfl ?_
      refine ⟨_, capv, _, capu, gv, gv + 1, gu, gu + 1, by omega, by omega, by omega, by omega, by omega, by rw [hul, hll], HBW.out, HIV.out, HIU.out⟩
end

section
set_option linter.unusedVariables false
set_option linter.unusedSimpArgs false
open Go.RowKit Go.Sort

set_option maxRecDepth 100000 in
set_option maxHeartbeats 2000000 in
theorem implSplit_st (c0 : Int) (A0 : Option Addr) (n0 q0 : Nat) (ts : List Tl) (c1 : Int) (A1 : Option Addr) (n1 q1 : Nat) (us : List Tl) (B : Option Addr) (m d : Nat) (xs : List Int) (w : World) (z : Int) (hz : z ≠ 0) (hst : ∀ W, Below w.heap.size w W → Calls Try.prog 90 #[.agg #[.int .i64 c0, .slice A0 n0 q0], .agg #[.int .i64 c1, .slice A1 n1 q1]] W (SetRes W 0 [] z)) :
    Calls Try.prog 42 #[.agg #[.int .i64 c0, .slice A0 n0 q0], .agg #[.int .i64 c1, .slice A1 n1 q1], .slice B m d] w fun e w' => e = .returned (.tuple #[.slice none 0 0, .slice none 0 0, .int .i64 z]) ∧ Below w.heap.size w w' := by
  have HST := Lib.hid hst
  have hne : (z != 0) = true := by simp [hz]
  have hne2 : (z == 0) = false := by simp [hz]
  have hne3 : decide (z = 0) = false := by simp [hz]
  clear hst
  go_enter Try.func42, Try.ntmps42
  have hb0 := (Blk.new w 32 #[.int .i64 c0, .slice A0 n0 q0]).ext ((Ext.refl _).alloc (Obj.cells #[.int .i64 c1, .slice A1 n1 q1] 32))
  have hb1 := blk_at_one w (Obj.cells #[.int .i64 c0, .slice A0 n0 q0] 32) 32 #[.int .i64 c1, .slice A1 n1 q1]
  have r0 := hb0.rd 0 rfl
  have r1 := hb0.rd 1 rfl
  have r2 := hb1.rd 0 rfl
  have r3 := hb1.rd 1 rfl
  have HX0 := Lib.hid (((Ext.refl w).alloc (Obj.cells #[.int .i64 c0, .slice A0 n0 q0] 32)).alloc (Obj.cells #[.int .i64 c1, .slice A1 n1 q1] 32))
  clear hb0 hb1
  go_wp2_with fail
  generalize ((w.alloc (Obj.cells #[.int .i64 c0, .slice A0 n0 q0] 32)).alloc (Obj.cells #[.int .i64 c1, .slice A1 n1 q1] 32)) = w0 at *
  have HW0 := Lib.hid (HX0.out.below (Nat.le_refl w.heap.size))
  clear r0 r1 r2 r3
  refine (HST.out w0 HW0.out).mono ?_
  rintro e w1 ⟨A2, cap2, rfl, hb, htw⟩
  have HW1 := Lib.hid ((HW0.out.trans (hb.mono HW0.out.size)).trans (((Ext.refl w1).alloc (Obj.cells #[.int .i64 0, .slice A2 ([] : List Tl).length cap2] 32)).below (Nat.le_trans HW0.out.size hb.size)))
  clear hb htw
  go_wp2_with fail
  refine bodyPost_ret (v := .tuple #[.slice none 0 0, .slice none 0 0, .int .i64 z]) (by simp [results, Try.results42, go_sem]) rfl ⟨rfl, HW1.out⟩

set_option maxRecDepth 100000 in
set_option maxHeartbeats 2000000 in
theorem specSplit_st (c0 : Int) (A0 : Option Addr) (n0 q0 : Nat) (ts : List Tl) (c1 : Int) (A1 : Option Addr) (n1 q1 : Nat) (us : List Tl) (B : Option Addr) (m d : Nat) (xs : List Int) (w : World) (z : Int) (hz : z ≠ 0) (hst : ∀ W, Below w.heap.size w W → Calls Try.prog 86 #[.agg #[.int .i64 c0, .slice A0 n0 q0], .agg #[.int .i64 c1, .slice A1 n1 q1]] W (SetRes W 0 [] z)) :
    Calls Try.prog 40 #[.agg #[.int .i64 c0, .slice A0 n0 q0], .agg #[.int .i64 c1, .slice A1 n1 q1], .slice B m d] w fun e w' => e = .returned (.tuple #[.slice none 0 0, .slice none 0 0, .int .i64 z]) ∧ Below w.heap.size w w' := by
  have HST := Lib.hid hst
  have hne : (z != 0) = true := by simp [hz]
  have hne2 : (z == 0) = false := by simp [hz]
  have hne3 : decide (z = 0) = false := by simp [hz]
  clear hst
  go_enter Try.func40, Try.ntmps40
  have hb0 := (Blk.new w 32 #[.int .i64 c0, .slice A0 n0 q0]).ext ((Ext.refl _).alloc (Obj.cells #[.int .i64 c1, .slice A1 n1 q1] 32))
  have hb1 := blk_at_one w (Obj.cells #[.int .i64 c0, .slice A0 n0 q0] 32) 32 #[.int .i64 c1, .slice A1 n1 q1]
  have r0 := hb0.rd 0 rfl
  have r1 := hb0.rd 1 rfl
  have r2 := hb1.rd 0 rfl
  have r3 := hb1.rd 1 rfl
  have HX0 := Lib.hid (((Ext.refl w).alloc (Obj.cells #[.int .i64 c0, .slice A0 n0 q0] 32)).alloc (Obj.cells #[.int .i64 c1, .slice A1 n1 q1] 32))
  clear hb0 hb1
  go_wp2_with fail
  generalize ((w.alloc (Obj.cells #[.int .i64 c0, .slice A0 n0 q0] 32)).alloc (Obj.cells #[.int .i64 c1, .slice A1 n1 q1] 32)) = w0 at *
  have HW0 := Lib.hid (HX0.out.below (Nat.le_refl w.heap.size))
  clear r0 r1 r2 r3
  refine (HST.out w0 HW0.out).mono ?_
  rintro e w1 ⟨A2, cap2, rfl, hb, htw⟩
  have HW1 := Lib.hid ((HW0.out.trans (hb.mono HW0.out.size)).trans (((Ext.refl w1).alloc (Obj.cells #[.int .i64 0, .slice A2 ([] : List Tl).length cap2] 32)).below (Nat.le_trans HW0.out.size hb.size)))
  clear hb htw
  go_wp2_with fail
  refine bodyPost_ret (v := .tuple #[.slice none 0 0, .slice none 0 0, .int .i64 z]) (by simp [results, Try.results40, go_sem]) rfl ⟨rfl, HW1.out⟩

set_option maxRecDepth 100000 in
set_option maxHeartbeats 2000000 in
theorem implSplit_row (c0 : Int) (A0 : Option Addr) (n0 q0 : Nat) (ts : List Tl) (c1 : Int) (A1 : Option Addr) (n1 q1 : Nat) (us : List Tl) (B : Option Addr) (m d : Nat) (xs : List Int) (w : World) (C : Int) (vs : List Tl) (hst : ∀ W, Below w.heap.size w W → Calls Try.prog 90 #[.agg #[.int .i64 c0, .slice A0 n0 q0], .agg #[.int .i64 c1, .slice A1 n1 q1]] W (SetRes W C vs 0)) (hir : ∀ W A cap, Below w.heap.size w W → TR W W.heap.size A vs → Calls Try.prog 91 #[.agg #[.int .i64 C, .slice A vs.length cap], .slice B m d] W (fun e w' => e = .returned (.tuple #[.bool false, .int .i64 0]) ∧ Below W.heap.size W w')) :
    Calls Try.prog 42 #[.agg #[.int .i64 c0, .slice A0 n0 q0], .agg #[.int .i64 c1, .slice A1 n1 q1], .slice B m d] w fun e w' => e = .returned (.tuple #[.slice none 0 0, .slice none 0 0, .int .i64 2]) ∧ Below w.heap.size w w' := by
  have HST := Lib.hid hst
  have HIR := Lib.hid hir
  clear hst hir
  go_enter Try.func42, Try.ntmps42
  have hb0 := (Blk.new w 32 #[.int .i64 c0, .slice A0 n0 q0]).ext ((Ext.refl _).alloc (Obj.cells #[.int .i64 c1, .slice A1 n1 q1] 32))
  have hb1 := blk_at_one w (Obj.cells #[.int .i64 c0, .slice A0 n0 q0] 32) 32 #[.int .i64 c1, .slice A1 n1 q1]
  have r0 := hb0.rd 0 rfl
  have r1 := hb0.rd 1 rfl
  have r2 := hb1.rd 0 rfl
  have r3 := hb1.rd 1 rfl
  have HX0 := Lib.hid (((Ext.refl w).alloc (Obj.cells #[.int .i64 c0, .slice A0 n0 q0] 32)).alloc (Obj.cells #[.int .i64 c1, .slice A1 n1 q1] 32))
  clear hb0 hb1
  go_wp2_with fail
  generalize ((w.alloc (Obj.cells #[.int .i64 c0, .slice A0 n0 q0] 32)).alloc (Obj.cells #[.int .i64 c1, .slice A1 n1 q1] 32)) = w0 at *
  have HW0 := Lib.hid (HX0.out.below (Nat.le_refl w.heap.size))
  clear r0 r1 r2 r3
  refine (HST.out w0 HW0.out).mono ?_
  rintro e w1 ⟨A2, cap2, rfl, hb, htw⟩
  have hx2 := (Ext.refl w1).alloc (Obj.cells #[.int .i64 C, .slice A2 vs.length cap2] 32)
  have hk2 := Blk.new w1 32 #[.int .i64 C, .slice A2 vs.length cap2]
  have q0 := hk2.rd 0 rfl
  have q1 := hk2.rd 1 rfl
  have HT2 := Lib.hid ((htw.tr.ext hx2 (Nat.le_refl _)).more (hx2.below (Nat.le_refl _)).size)
  have HW2 := Lib.hid ((HW0.out.trans (hb.mono HW0.out.size)).trans (hx2.below (Nat.le_trans HW0.out.size hb.size)))
  clear hb htw hx2 hk2
  go_wp2_with fail
  refine (HIR.out _ A2 cap2 HW2.out HT2.out).mono ?_
  rintro e w3 ⟨rfl, hb3⟩
  have HW3 := Lib.hid (HW2.out.trans (hb3.mono HW2.out.size))
  clear hb3 q0 q1
  go_wp2_with fail
  refine bodyPost_ret (v := .tuple #[.slice none 0 0, .slice none 0 0, .int .i64 2]) (by simp [results, Try.results42, go_sem]) rfl ⟨rfl, HW3.out⟩

set_option maxRecDepth 100000 in
set_option maxHeartbeats 2000000 in
theorem specSplit_row (c0 : Int) (A0 : Option Addr) (n0 q0 : Nat) (ts : List Tl) (c1 : Int) (A1 : Option Addr) (n1 q1 : Nat) (us : List Tl) (B : Option Addr) (m d : Nat) (xs : List Int) (w : World) (C : Int) (vs : List Tl) (hst : ∀ W, Below w.heap.size w W → Calls Try.prog 86 #[.agg #[.int .i64 c0, .slice A0 n0 q0], .agg #[.int .i64 c1, .slice A1 n1 q1]] W (SetRes W C vs 0)) (hir : ∀ W A cap, Below w.heap.size w W → TR W W.heap.size A vs → Calls Try.prog 87 #[.agg #[.int .i64 C, .slice A vs.length cap], .slice B m d] W (fun e w' => e = .returned (.bool false) ∧ Ext W w')) :
    Calls Try.prog 40 #[.agg #[.int .i64 c0, .slice A0 n0 q0], .agg #[.int .i64 c1, .slice A1 n1 q1], .slice B m d] w fun e w' => e = .returned (.tuple #[.slice none 0 0, .slice none 0 0, .int .i64 2]) ∧ Below w.heap.size w w' := by
  have HST := Lib.hid hst
  have HIR := Lib.hid hir
  clear hst hir
  go_enter Try.func40, Try.ntmps40
  have hb0 := (Blk.new w 32 #[.int .i64 c0, .slice A0 n0 q0]).ext ((Ext.refl _).alloc (Obj.cells #[.int .i64 c1, .slice A1 n1 q1] 32))
  have hb1 := blk_at_one w (Obj.cells #[.int .i64 c0, .slice A0 n0 q0] 32) 32 #[.int .i64 c1, .slice A1 n1 q1]
  have r0 := hb0.rd 0 rfl
  have r1 := hb0.rd 1 rfl
  have r2 := hb1.rd 0 rfl
  have r3 := hb1.rd 1 rfl
  have HX0 := Lib.hid (((Ext.refl w).alloc (Obj.cells #[.int .i64 c0, .slice A0 n0 q0] 32)).alloc (Obj.cells #[.int .i64 c1, .slice A1 n1 q1] 32))
  clear hb0 hb1
  go_wp2_with fail
  generalize ((w.alloc (Obj.cells #[.int .i64 c0, .slice A0 n0 q0] 32)).alloc (Obj.cells #[.int .i64 c1, .slice A1 n1 q1] 32)) = w0 at *
  have HW0 := Lib.hid (HX0.out.below (Nat.le_refl w.heap.size))
  clear r0 r1 r2 r3
  refine (HST.out w0 HW0.out).mono ?_
  rintro e w1 ⟨A2, cap2, rfl, hb, htw⟩
  have hx2 := (Ext.refl w1).alloc (Obj.cells #[.int .i64 C, .slice A2 vs.length cap2] 32)
  have hk2 := Blk.new w1 32 #[.int .i64 C, .slice A2 vs.length cap2]
  have q0 := hk2.rd 0 rfl
  have q1 := hk2.rd 1 rfl
  have HT2 := Lib.hid ((htw.tr.ext hx2 (Nat.le_refl _)).more (hx2.below (Nat.le_refl _)).size)
  have HW2 := Lib.hid ((HW0.out.trans (hb.mono HW0.out.size)).trans (hx2.below (Nat.le_trans HW0.out.size hb.size)))
  clear hb htw hx2 hk2
  go_wp2_with fail
  refine (HIR.out _ A2 cap2 HW2.out HT2.out).mono ?_
  rintro e w3 ⟨rfl, hb3⟩
  have HW3 := Lib.hid (HW2.out.trans (hb3.below HW2.out.size))
  clear hb3 q0 q1
  go_wp2_with fail
  refine bodyPost_ret (v := .tuple #[.slice none 0 0, .slice none 0 0, .int .i64 2]) (by simp [results, Try.results40, go_sem]) rfl ⟨rfl, HW3.out⟩
end
end Go.Proofs.Ytjoaoimebdkpaaa
