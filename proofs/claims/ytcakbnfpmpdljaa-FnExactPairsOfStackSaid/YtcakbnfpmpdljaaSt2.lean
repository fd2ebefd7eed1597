/- The program's stacked pairs of two sets. -/
import Derived.Test.YtcakbnfpmpdljaaSt0
import Derived.Test.YtcakbnfpmpdljaaAppT
import Derived.Test.YtcakbnfpmpdljaaAppR
import Derived.Test.YtcakbnfpmpdljaaCut2
import Derived.Lib.Hide
namespace Go.Proofs.Ytcakbnfpmpdljaa
set_option linter.unusedVariables false
set_option linter.unusedSimpArgs false
open Go.RowKit Go.Sort

theorem info_sp : (Try.prog.info? 85).map (fun i => (i.zero, i.size, i.bytes)) = some (some (.agg #[.int .i64 0, .int .i64 0, .int .i64 0, .int .i64 0, .int .i64 0, .int .i64 0, .int .i64 0, .int .i64 0]), 8, 64) := by kernel_rfl
def enc8 (p : Tl × Tl) : List Value := enc p.1 ++ enc p.2
def encA8 (p : Tl × Tl) : Array Value := #[.int .i64 p.1.1, .int .i64 p.1.2.1, .int .i64 p.1.2.2.1, .int .i64 p.1.2.2.2, .int .i64 p.2.1, .int .i64 p.2.2.1, .int .i64 p.2.2.2.1, .int .i64 p.2.2.2.2]
def flat8 (l : List (Tl × Tl)) : List Value := l.flatMap enc8
theorem flat8_snoc (l : List (Tl × Tl)) (p : Tl × Tl) : flat8 (l ++ [p]) = flat8 l ++ enc8 p := by simp [flat8]
theorem flat8_len (l : List (Tl × Tl)) : (flat8 l).length = l.length * 8 := by
  induction l with
  | nil => rfl
  | cons x r ih => simp only [flat8, List.flatMap_cons, List.length_append] at *; rw [ih]; simp [enc8, enc]; omega
theorem enc8_one (p : Tl × Tl) : ∀ u ∈ enc8 p, u.oneCell' = true := by
  intro u hu
  rcases List.mem_append.1 hu with h | h
  · exact enc_one _ u h
  · exact enc_one _ u h
theorem own_low {W : World} {base base' : Nat} {e : TypeId} {size : Nat} {v : Value} {k : Nat} {xs : List Value} (h : W.ownsRow base e size v k xs) (hb : base' ≤ base) : W.ownsRow base' e size v k xs := by
  refine ⟨h.1, ?_⟩
  rcases h.2 with hn | ⟨g, cap, cur, hv, hbg, rest⟩
  · exact .inl hn
  · exact .inr ⟨g, cap, cur, hv, Nat.le_trans hb hbg, rest⟩
def P0 : Tl × Tl := (T0, T0)
theorem flat8_get (l : List (Tl × Tl)) {k j : Nat} (hk : k < l.length) (hj : j < 8) : (flat8 l)[k * 8 + j]? = (enc8 (l.getD k P0))[j]? := by
  induction l generalizing k with
  | nil => simp at hk
  | cons x r ih =>
    have he : (enc8 x).length = 8 := rfl
    cases k with
    | zero => simp only [flat8, List.flatMap_cons, Nat.zero_mul, Nat.zero_add]; rw [List.getElem?_append_left (by omega)]; rfl
    | succ k =>
      have h := ih (k := k) (by simpa using hk)
      have e1 : (k + 1) * 8 + j - (enc8 x).length = k * 8 + j := by rw [he]; omega
      simp only [flat8, List.flatMap_cons]
      rw [List.getElem?_append_right (by rw [he]; omega), e1]
      simpa [flat8, List.getD] using h
theorem reads_new8 {w : World} {g : Nat} {p : Tl × Tl} (hb : w.heap[g]? = some (.cells (encA8 p) 85 (0, 0))) : Reads w w.heap.size 8 (some ⟨g, 0, none⟩) 1 (enc8 p) := by
  have hlt : g < w.heap.size := by
    rcases Nat.lt_or_ge g w.heap.size with hlt | hge
    · exact hlt
    · rw [Array.getElem?_eq_none hge] at hb; cases hb
  refine ⟨rfl, fun _ => ⟨_, rfl, hlt, fun j u hu => ?_⟩⟩
  have := cell_of_row w g j (encA8 p) 85 (0, 0) hb
  rw [Go.WideShapes.add_plain]
  simp only [Nat.zero_add]
  rw [this]
  rw [← hu]
  simp [encA8, enc8, enc]
/-- 'append(s, p)' onto a row of stacked pairs that the call owns: p lies in a new block of its own. -/
theorem wpList_push8 {w : World} {ops : Array Oper} {rest : List Oper} {o : Oper} {a : Act} {Q : Exit → Act → World → Prop} (hgd : o.guard = none) (s x : Operand)
    (ho : o.op = .call { callee := .builtin .append, args := #[s, x], argTypes := #[73, 73] })
    (base : Nat) (v : Value) (n : Nat) (xs : List Value) (hs : a.eval s = v) (hown : w.ownsRow base 85 8 v n xs)
    (g : Nat) (p : Tl × Tl) (hx : a.eval x = .slice (some ⟨g, 0, none⟩) 1 1) (hb : w.heap[g]? = some (.cells (encA8 p) 85 (0, 0)))
    (h63 : n + 1 ≤ maxLen) (hbytes : (n + 1) * 64 ≤ 140737488355328) (hbase : base ≤ w.heap.size)
    (h : ∀ v' w', w'.ownsRow base 85 8 v' (n + 1) (xs ++ enc8 p) → w.grownBy w' v.ownBlock → (v'.ownBlock = v.ownBlock ∨ v'.ownBlock = some w.heap.size) → wpList Try.prog ops Q rest (a.put o.dst v') w') :
    wpList Try.prog ops Q (o :: rest) a w := by
  obtain ⟨i0, hi, hz0, hz1, hz2⟩ := info_parts info_sp
  exact wpList_append_any w hgd s x _ ho base 85 i0 _ 8 64 Try.underlying73 hi hz0 hz1 hz2 rfl (by decide) v n xs hs hown w.heap.size _ 1 _ (enc8 p) hx (reads_new8 hb) (enc8_one p) h63 hbytes hbase h

/-- The pairs of one tile with the first k others. -/
def stkI (ts : List Tl) (a : Tl) (k : Nat) : List (Tl × Tl) := ((ts.take k).filter fun b => decide (a.2.2.2 = b.2.1)).map fun b => (a, b)
theorem stkO_succ {ss ts : List Tl} {i : Nat} (hi : i < ss.length) : stk (ss.take (i + 1)) ts = stk (ss.take i) ts ++ stkI ts (ss.getD i T0) ts.length := by
  unfold stk stkI
  rw [take_snoc ss hi, List.flatMap_append, List.take_length, List.flatMap_cons, List.flatMap_nil, List.append_nil]
theorem stkI_yes {ts : List Tl} {a : Tl} {k : Nat} (hk : k < ts.length) (h : a.2.2.2 = (ts.getD k T0).2.1) : stkI ts a (k + 1) = stkI ts a k ++ [(a, ts.getD k T0)] := by
  unfold stkI
  rw [take_snoc ts hk, List.filter_append, List.map_append]
  simp [h]
theorem stkI_no {ts : List Tl} {a : Tl} {k : Nat} (hk : k < ts.length) (h : ¬ a.2.2.2 = (ts.getD k T0).2.1) : stkI ts a (k + 1) = stkI ts a k := by
  unfold stkI
  rw [take_snoc ts hk, List.filter_append, List.map_append, List.filter_cons_of_neg (by rw [decide_eq_true_eq]; exact h)]
  simp
theorem stkI_len (ts : List Tl) (a : Tl) (k : Nat) : (stkI ts a k).length ≤ k := by
  unfold stkI
  rw [List.length_map]
  exact Nat.le_trans (List.length_filter_le _ _) (by rw [List.length_take]; omega)

set_option maxRecDepth 100000 in
set_option maxHeartbeats 4000000 in
theorem stackedPairs_any (c0 : Int) (A0 : Option Addr) (n0 q0 : Nat) (ts : List Tl) (c1 : Int) (A1 : Option Addr) (n1 q1 : Nat) (us : List Tl) (w : World) (hn0 : n0 ≤ 4096) (hl0 : ts.length = n0) (hA0 : TR w w.heap.size A0 ts) (hn1 : n1 ≤ 16) (hl1 : us.length = n1) (hA1 : TR w w.heap.size A1 us) :
    Calls Try.prog 63 #[.agg #[.int .i64 c0, .slice A0 n0 q0], .agg #[.int .i64 c1, .slice A1 n1 q1]] w fun e w' => ∃ v, e = .returned v ∧ w'.ownsRow w.heap.size 85 8 v (stk ts us).length (flat8 (stk ts us)) ∧ Below w.heap.size w w' := by
  have HA0 := Lib.hid hA0
  have HA1 := Lib.hid hA1
  clear hA0 hA1
  have hmul : n0 * n1 ≤ 4096 * 16 := Nat.mul_le_mul hn0 hn1
  go_enter Try.func63, Try.ntmps63
  go_wp2_with fail
  have hx0 : Ext w ((w.alloc (Obj.cells #[.int .i64 c0, .slice A0 n0 q0] 29)).alloc (Obj.cells #[.int .i64 c1, .slice A1 n1 q1] 29)) := ((Ext.refl w).alloc _).alloc _
  have hb1 : Blk ((w.alloc (Obj.cells #[.int .i64 c0, .slice A0 n0 q0] 29)).alloc (Obj.cells #[.int .i64 c1, .slice A1 n1 q1] 29)) (w.heap.size + 1) 29 #[.int .i64 c1, .slice A1 n1 q1] := by have := (Blk.new (w.alloc (Obj.cells #[.int .i64 c0, .slice A0 n0 q0] 29)) 29 #[.int .i64 c1, .slice A1 n1 q1]); simpa using this
  have HK := Lib.hid (hx0.below (Nat.le_refl _))
  have hL2 : w.heap.size + 2 ≤ ((w.alloc (Obj.cells #[.int .i64 c0, .slice A0 n0 q0] 29)).alloc (Obj.cells #[.int .i64 c1, .slice A1 n1 q1] 29)).heap.size := by simp
  have HB1 := Lib.hid hb1
  clear hx0 hb1
  generalize ((w.alloc (Obj.cells #[.int .i64 c0, .slice A0 n0 q0] 29)).alloc (Obj.cells #[.int .i64 c1, .slice A1 n1 q1] 29)) = w2 at *
  go_loopw [5, 13] (fun v ii wr => ∃ i : Nat, i ≤ n0 ∧ ii = .int .i64 i ∧ wr.ownsRow w2.heap.size 85 8 v (stk (ts.take i) us).length (flat8 (stk (ts.take i) us)) ∧ Below w2.heap.size w2 wr) (fun _ ii _ => n0 - (intOf ii).toNat)
  case atStart => exact ⟨0, Nat.zero_le _, rfl, by simpa [stk, flat8] using World.ownsRow_nil _ _ _ _, Below.refl _ _⟩
  case round =>
    obtain ⟨i, hi, rfl, hown, hb⟩ := hrel
    have HO := Lib.hid hown
    have HBW := Lib.hid hb
    have hszw := hb.size
    clear hown hb
    have hbw := HK.out.trans (HBW.out.mono HK.out.size)
    have r1 := (HB1.out.below HBW.out (by omega)).rd 1 rfl
    by_cases hlt : i < n0
    · obtain ⟨b0, o, rfl, hbb, ht⟩ := (HA0.out.below hbw (Nat.le_refl _)) (by omega)
      replace ht := ht i (by omega)
      have hsu := stkO_succ (ss := ts) (ts := us) (i := i) (by omega)
      have hpl := stk_len (ts.take i) us
      rw [List.length_take, hl1, Nat.min_eq_left (by omega)] at hpl
      have hpb : i * n1 ≤ 4096 * 16 := Nat.mul_le_mul (by omega) (by omega)
      generalize ts.getD i T0 = a at *
      have HSU := Lib.hid hsu
      obtain ⟨a0, a1, a2, a3⟩ := a
      obtain ⟨c0', c1', c2, c3⟩ := ht
      simp only at c0' c1' c2 c3
      have b3 : (i : Int) < (n0 : Int) := by omega
      clear hsu
      generalize hP : stk (ts.take i) us = ps at *
      have HP := Lib.hid hP
      have hpl2 : ps.length ≤ 65536 := by omega
      clear hP hpl
      have q1 := fun ob => ((HB1.out.below HBW.out (by omega)).ext ((Ext.refl wr).alloc ob)).rd 1 rfl
      go_wp2_with fail
      obtain ⟨W4, hW4⟩ : ∃ W4, wr.alloc (Obj.cells #[.int .i64 a0, .int .i64 a1, .int .i64 a2, .int .i64 a3] 33) = W4 := ⟨_, rfl⟩
      have hb4 : Blk W4 wr.heap.size 33 (encA (a0, a1, a2, a3)) := by rw [← hW4]; exact Blk.new wr _ _
      have hx4 : Ext wr W4 := by rw [← hW4]; exact (Ext.refl wr).alloc _
      have hsz4 : wr.heap.size + 1 ≤ W4.heap.size := by rw [← hW4]; simp
      rw [hW4]
      have HB4 := Lib.hid hb4
      have HX4 := Lib.hid hx4
      clear hb4 hx4 hW4 c0' c1' c2 c3 q1 r1
      obtain ⟨WR, hWR⟩ : ∃ WR, WR = wr := ⟨_, rfl⟩
      subst hWR
      go_loopw [5, 20] (fun v kk wr => ∃ k : Nat, k ≤ n1 ∧ kk = .int .i64 k ∧ wr.ownsRow w2.heap.size 85 8 v (ps ++ stkI us (a0, a1, a2, a3) k).length (flat8 (ps ++ stkI us (a0, a1, a2, a3) k)) ∧ Blk wr WR.heap.size 33 (encA (a0, a1, a2, a3)) ∧ v.ownBlock ≠ some WR.heap.size ∧ Below w2.heap.size W4 wr) (fun _ kk _ => n1 - (intOf kk).toNat)
      case atStart => exact ⟨0, Nat.zero_le _, rfl, by simpa [stkI] using own_belowA HO.out (HX4.out.below (Nat.le_refl _)), HB4.out, fun e9 => Nat.lt_irrefl _ (HO.out.lt _ e9).2, Below.refl _ _⟩
      case round =>
        obtain ⟨k, hk, rfl, hown, hbk, hne, hb⟩ := hrel
        have HO2 := Lib.hid hown
        have HBK := Lib.hid hbk
        have HNE := Lib.hid hne
        have HB5 := Lib.hid hb
        have hglt := hbk.lt
        have hb6 := HBW.out.trans ((HX4.out.below (B := w2.heap.size) (by omega)).trans hb)
        have HB6 := Lib.hid hb6
        have hsz6 := hb6.size
        have hszb := hb.size
        have hbw6 := HK.out.trans (hb6.mono HK.out.size)
        by_cases hltk : k < n1
        · obtain ⟨b0', o', rfl, hbb', ht⟩ := (HA1.out.below hbw6 (Nat.le_refl _)) (by omega)
          replace ht := ht k (by omega)
          have hyes := fun h => stkI_yes (ts := us) (a := (a0, a1, a2, a3)) (k := k) (by omega) h
          have hno := fun h => stkI_no (ts := us) (a := (a0, a1, a2, a3)) (k := k) (by omega) h
          have hil := stkI_len us (a0, a1, a2, a3) k
          generalize us.getD k T0 = b at *
          obtain ⟨x0, x1, x2, x3⟩ := b
          obtain ⟨c0', c1', c2, c3⟩ := ht
          simp only at c0' c1' c2 c3 hyes hno
          have b4 : (k : Int) < (n1 : Int) := by omega
          have HY := Lib.hid hyes
          have HN := Lib.hid hno
          have y0 := (hbk.ext ((Ext.refl wr).alloc (Obj.cells #[.int .i64 x0, .int .i64 x1, .int .i64 x2, .int .i64 x3] 33))).rd 0 (v := .int .i64 a0) rfl
          have y1 := (hbk.ext ((Ext.refl wr).alloc (Obj.cells #[.int .i64 x0, .int .i64 x1, .int .i64 x2, .int .i64 x3] 33))).rd 1 (v := .int .i64 a1) rfl
          have y2 := (hbk.ext ((Ext.refl wr).alloc (Obj.cells #[.int .i64 x0, .int .i64 x1, .int .i64 x2, .int .i64 x3] 33))).rd 2 (v := .int .i64 a2) rfl
          have y3 := (hbk.ext ((Ext.refl wr).alloc (Obj.cells #[.int .i64 x0, .int .i64 x1, .int .i64 x2, .int .i64 x3] 33))).rd 3 (v := .int .i64 a3) rfl
          have hx7 := (Ext.refl wr).alloc (Obj.cells #[.int .i64 x0, .int .i64 x1, .int .i64 x2, .int .i64 x3] 33)
          have hall := hx7.below (B := wr.heap.size) (Nat.le_refl _)
          have HO3 := Lib.hid (own_belowA hown hall)
          have HBK3 := Lib.hid (hbk.ext hx7)
          have HB8 := Lib.hid (hb.trans (hall.mono (by omega)))
          generalize hL : ps ++ stkI us (a0, a1, a2, a3) k = l at *
          have HLEN := Lib.hid (show l.length ≤ 65536 + 16 by rw [← hL, List.length_append]; omega)
          have HL := Lib.hid hL
          clear hown hbk hne hb hb6 hbw6 hyes hno hx7 hall hL hil
          by_cases heq : a3 = x1
          · subst heq
            have HAPP := Lib.hid (show ps ++ stkI us (a0, a1, a2, a3) (k + 1) = l ++ [((a0, a1, a2, a3), (x0, a3, x2, x3))] by rw [HY.out rfl, ← List.append_assoc, HL.out])
            have hlen := HLEN.out
            clear HY HN
            go_wp2_with (at_builtin; refine wpList_push8 rfl _ _ rfl w2.heap.size _ l.length _ rfl (HO3.out.alloc _) (wr.heap.size + 1) ((a0, a1, a2, a3), (x0, a3, x2, x3)) (by go_simp) (by have := heap_alloc_new (wr.alloc (Obj.cells #[.int .i64 x0, .int .i64 a3, .int .i64 x2, .int .i64 x3] 33)) (.cells (encA8 ((a0, a1, a2, a3), (x0, a3, x2, x3))) 85); simpa [encA8] using this) ?c1 ?c2 ?c3 ?_)
            case c1 => unfold maxLen; omega
            case c2 => omega
            case c3 => simp; omega
            intro v' w6 hown' hgrow hat
            rw [← flat8_snoc, ← HAPP.out] at hown'
            have HBG := Lib.hid (show Blk w6 WR.heap.size 33 (encA (a0, a1, a2, a3)) from (hgrow.block WR.heap.size (by simp; omega) (fun e => HNE.out e.symm)).trans (HBK3.out.ext ((Ext.refl _).alloc _)))
            have hne' : v'.ownBlock ≠ some WR.heap.size := by
              rcases hat with h | h
              · rw [h]; exact HNE.out
              · rw [h]; intro e9; simp at e9; omega
            have hlen2 : l.length + 1 = (ps ++ stkI us (a0, a1, a2, a3) (k + 1)).length := by rw [HAPP.out]; simp
            rw [hlen2] at hown'
            have O4 := Lib.hid (And.intro hown' hne')
            have B9 := Lib.hid ((HB8.out.alloc (by simp; omega) (Obj.cells (encA8 ((a0, a1, a2, a3), (x0, a3, x2, x3))) 85)).grown hgrow (by simp; omega) (fun j hj => (HO3.out.lt j hj).1))
            clear hown' hgrow hat hne' hlen2 y0 y1 y2 y3 c0' c1' c2 c3
            go_wp2_with fail
            go_roundw
            case rel => first | exact ⟨k + 1, by omega, by go_num, O4.out.1, HBG.out, O4.out.2, B9.out⟩ | ((repeat apply Exists.intro); exact ⟨⟨k + 1, by omega, by go_num, O4.out.1, HBG.out, O4.out.2, B9.out⟩, rfl⟩)
            case measure => simp [intOf]; omega
          · have HAPP := Lib.hid (show l = ps ++ stkI us (a0, a1, a2, a3) (k + 1) by rw [HN.out heq, HL.out])
            have hq : (a3 == x1) = false := by simpa using heq
            clear HY HN
            go_wp2_with fail
            go_roundw
            case rel => first | exact ⟨k + 1, by omega, by go_num, by rw [← HAPP.out]; exact HO3.out, HBK3.out, HNE.out, HB8.out⟩ | ((repeat apply Exists.intro); exact ⟨⟨k + 1, by omega, by go_num, by rw [← HAPP.out]; exact HO3.out, HBK3.out, HNE.out, HB8.out⟩, rfl⟩)
            case measure => simp [intOf]; omega
        · obtain rfl : k = n1 := by omega
          have HUS := Lib.hid (show stk (ts.take (i + 1)) us = ps ++ stkI us (a0, a1, a2, a3) k by rw [HSU.out, ← hl1])
          rw [← HUS.out] at hown
          have HO5 := Lib.hid hown
          clear hown hbk hne hb hb6 hbw6 HO2
          go_wp2_with fail
          go_roundw
          case rel => first | exact ⟨i + 1, by omega, by go_num, HO5.out, HB6.out⟩ | ((repeat apply Exists.intro); exact ⟨⟨i + 1, by omega, by go_num, HO5.out, HB6.out⟩, rfl⟩)
          case measure => simp [intOf]; omega
    · obtain rfl : i = n0 := by omega
      have hown := HO.out
      rw [← hl0, List.take_length] at hown
      have HO9 := Lib.hid hown
      have HR := Lib.hid hbw
      have hs2 := HK.out.size
      clear hown hbw r1
      go_wp2_with fail
      go_ret
      exact ⟨_, rfl, own_low HO9.out hs2, HR.out⟩
end Go.Proofs.Ytcakbnfpmpdljaa
