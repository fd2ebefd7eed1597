/- A queue: a slice that is cut at its front and grown at its end. -/
import Derived.Test.YtleabblnikbmpaaGpA
import Derived.ArgAppend
import Derived.Lib.Hide
import Derived.Test.YtleabblnikbmpaaGs5
import Derived.Deep.LoopGhost
import Derived.RangeFuncBox
namespace Go.Proofs.Ytleabblnikbmpaa
section
set_option linter.unusedVariables false
set_option linter.unusedSimpArgs false
open Go.RowKit Go.Sort

def QB (w : World) (base : Nat) (v : Value) (xs : List Nat) : Prop := ∃ g off cap cs, v = .slice (some ⟨g, off, none⟩) xs.length cap ∧ base ≤ g ∧ Blk w g 3 cs ∧ off + cap ≤ cs.size ∧ xs.length ≤ cap ∧ ∀ j, j < xs.length → cs[off + j]? = some (.int .i64 (xs.getD j 0 : Nat))
theorem QB.below {w w' : World} {base : Nat} {v : Value} {xs : List Nat} (h : QB w base v xs) {B : Nat} (hx : Below B w w') (hB : w.heap.size ≤ B) : QB w' base v xs := by
  obtain ⟨g, off, cap, cs, hv, hb, hk, r⟩ := h
  exact ⟨g, off, cap, cs, hv, hb, hk.below hx (by have := hk.lt; omega), r⟩
theorem QB.far {w : World} {base : Nat} {v : Value} {xs : List Nat} (h : QB w base v xs) {p : Addr} (hp : p.block < base) (u : Value) : QB (w.setCell p u) base v xs := by
  obtain ⟨g, off, cap, cs, hv, hb, hk, r⟩ := h
  exact ⟨g, off, cap, cs, hv, hb, hk.far (by omega) u, r⟩
theorem QB.front {w : World} {base : Nat} {v : Value} {x : Nat} {xs : List Nat} (h : QB w base v (x :: xs)) : ∃ g off cap, v = .slice (some ⟨g, off, none⟩) (xs.length + 1) cap ∧ xs.length + 1 ≤ cap ∧ g < w.heap.size ∧ w.cell? ⟨g, off, none⟩ = some (.int .i64 (x : Int)) ∧ (cap = 1 → QB w base (.slice (some ⟨g, off, none⟩) xs.length 0) xs) ∧ (¬ cap = 1 → QB w base (.slice (some ⟨g, off + 1, none⟩) xs.length (cap - 1)) xs) := by
  obtain ⟨g, off, cap, cs, hv, hb, hk, h1, h2, h3⟩ := h
  rw [List.length_cons] at hv h2 h3
  refine ⟨g, off, cap, hv, h2, hk.lt, ?_, ?_, ?_⟩
  · rw [hk.cell]
    have := h3 0 (by omega)
    simpa using this
  · intro hc
    have hx : xs = [] := List.eq_nil_of_length_eq_zero (by omega)
    subst hx
    exact ⟨g, off, 0, cs, rfl, hb, hk, by omega, by simp, fun j hj => by simp at hj⟩
  · intro hc
    refine ⟨g, off + 1, cap - 1, cs, rfl, hb, hk, by omega, by omega, fun j hj => ?_⟩
    have := h3 (j + 1) (by omega)
    rw [show off + 1 + j = off + (j + 1) by omega, this]
    simp [List.getD]
theorem QB.of_own {w : World} {base b2 : Nat} {v : Value} {xs : List Nat} (h : w.ownsRow b2 3 1 v xs.length (vis (qI xs))) (h0 : 0 < xs.length) (hb : base ≤ b2) : QB w base v xs := by
  obtain ⟨-, ⟨-, h1⟩ | ⟨g, cap, cs, hv, hg, hk, h1, -, h2, h3⟩⟩ := h
  · omega
  · refine ⟨g, 0, cap, cs, hv, by omega, hk, by omega, h1, fun j hj => ?_⟩
    rw [Nat.mul_one] at h2 h3
    have e : (cs.toList.take xs.length)[j]? = some (.int .i64 (xs.getD j 0 : Nat)) := by
      rw [h3]
      simp [vis, vi, qI, List.getD, hj]
    rw [List.getElem?_take_of_lt hj] at e
    rw [Nat.zero_add]
    simpa using e
theorem qI_vis_snoc (xs : List Nat) (y : Nat) : vis (qI xs) ++ [.int .i64 (y : Int)] = vis (qI (xs ++ [y])) := by simp [vis, vi, qI]
/-- 'append(queue, y)'. -/
theorem wpList_pushQ {w : World} {ops : Array Oper} {rest : List Oper} {o : Oper} {a : Act} {K : Exit → Act → World → Prop} (hgd : o.guard = none) (s x : Operand)
    (ho : o.op = .call { callee := .builtin .append, args := #[s, x], argTypes := #[122, 122] })
    (base : Nat) (v : Value) (xs : List Nat) (hs : a.eval s = v) (hq : QB w base v xs)
    (g : Nat) (y : Nat) (hx : a.eval x = .slice (some ⟨g, 0, none⟩) 1 1) (hb : Blk w g 3 #[.int .i64 (y : Int)]) (h63 : xs.length + 1 ≤ 1048577) (hbase : base ≤ w.heap.size)
    (hK : ∀ v' w', QB w' base v' (xs ++ [y]) → Below base w w' → wpList Try.prog ops K rest (a.put o.dst v') w') :
    wpList Try.prog ops K (o :: rest) a w := by
  obtain ⟨i0, hi, hz0, hz1, hz2⟩ := info_parts info_intN
  obtain ⟨gq, off, cap, cs, hv, hbg, hk, hc1, hc2, hc3⟩ := hq
  refine wpList_append_arg w hgd s x _ ho 3 i0 _ 1 8 Try.underlying122 hi hz0 hz1 hz2 rfl (by decide) gq off xs.length cap (vis (qI xs)) (hs.trans hv) (by simp [vis, qI]) (fun j u hu => ?_) ⟨g, 0, none⟩ 1 1 [.int .i64 (y : Int)] hx rfl (fun j u hu => ?_) (by simp [Value.oneCell']) ?_ (by unfold maxLen; omega) (by omega) ?_ ?_
  · have hj : j < xs.length := by
      rcases Nat.lt_or_ge j xs.length with h | h
      · exact h
      · rw [List.getElem?_eq_none (by simpa [vis, qI] using h)] at hu; exact absurd hu (by simp)
    rw [hk.cell, hc3 j hj, ← hu]
    simp [vis, vi, qI, List.getD, hj]
  · rcases j with _ | j
    · simp at hu
      subst hu
      rw [Go.WideShapes.add_plain]
      exact hb.cell 0
    · simp at hu
  · intro hr j hj
    simp at hj
    subst hj
    rw [Nat.mul_one, Nat.add_zero]
    refine ⟨?_, hk.frozen _⟩
    rw [hk.cell, Array.getElem?_eq_getElem (by omega)]; rfl
  · intro hr
    refine hK _ _ ?_ ?_
    · refine ⟨gq, off, cap, _, by rw [List.length_append]; rfl, hbg, hk.set_ (off + xs.length * 1) _, by simpa using hc1, by rw [List.length_append]; exact hr, fun j hj => ?_⟩
      rw [List.length_append, List.length_singleton] at hj
      rw [Nat.mul_one]
      by_cases e : j = xs.length
      · subst e
        rw [Array.getElem?_setIfInBounds_self_of_lt (by omega)]
        simp [List.getD]
      · rw [Array.getElem?_setIfInBounds_ne (by omega), hc3 j (by omega)]
        simp [List.getD, List.getElem?_append_left (show j < xs.length by omega)]
    · exact (Below.refl base w).setCell (p := ⟨gq, off + xs.length * 1, none⟩) hbg _
  · intro hr v' w' hown hgr
    refine hK _ _ ?_ ?_
    · refine QB.of_own (b2 := w.heap.size) ?_ (by simp) hbase
      rw [qI_vis_snoc] at hown
      rw [List.length_append]
      exact hown
    · exact (Below.refl base w).grown hgr hbase (fun l hl => by cases hl)
end

section
set_option linter.unusedVariables false
set_option linter.unusedSimpArgs false
open Go.RowKit Go.Sort

/-- The model's distances: -1 for what is not reached. -/
def fm (s : BSt) (x : Nat) : Int := if x ∈ s.q then (s.d x : Int) else -1
def fm0 (i x : Nat) : Int := if 0 < x ∧ x < i then -1 else 0
theorem fm_zero {E : Rel} {n x : Nat} (hx : x < n) : fm0 n x = fm (bAll E n 0) x := by
  unfold fm fm0 bAll
  rcases Nat.eq_zero_or_pos x with h | h
  · subst h; simp
  · rw [if_pos ⟨h, hx⟩, if_neg (by simp; omega)]
theorem fm_put {s : BSt} {a j : Nat} (ha : a ∈ s.q) (hj : j ∉ s.q) (x : Nat) : (if x = j then fm s a + 1 else fm s x) = fm ⟨s.q ++ [j], fun x => if x = j then s.d a + 1 else s.d x⟩ x := by
  unfold fm
  rw [if_pos ha]
  by_cases e : x = j
  · subst e; simp
  · simp [e]

set_option maxRecDepth 100000 in
set_option maxHeartbeats 2000000 in
theorem l06Period_any (A : Option Addr) (n c : Nat) (f : Nat → Nat → Int) (w : World) (hn : n ≤ 40) (hA : IRR w w.heap.size A (matL n f)) (pv : Int)
    (hv1 : oneAll (fwR (relF f) n) n = true → pv = ((perT f n : Nat) : Int)) (hv0 : oneAll (fwR (relF f) n) n = false → pv = 0) :
    Calls Try.prog 67 #[.slice A n c] w fun e w' => e = .returned (.tuple #[.int .i64 pv, .bool (oneAll (fwR (relF f) n) n)]) ∧ Below w.heap.size w w' := by
  obtain ⟨i1, hi1, hy0, hy1, hy2⟩ := info_parts info_int
  have hmk1 := fun W => run_make_rowN (P := Try.prog) 42 2 i1 _ (by kernel_rfl) hi1 hy0 .i64 .i64 n n (Nat.le_refl _) (by rw [hy2]; omega) (by omega) W
  rw [hy1] at hmk1
  have hat := made_ints n
  have hsz := show (madeCells (Value.cells (.int .i64 0)) (n * 1)).size = n by rw [size_madeCells, Nat.mul_one]
  generalize madeCells (Value.cells (.int .i64 0)) (n * 1) = cs1 at hmk1 hat hsz
  have hsp := l06Parts_any A n c f w hn hA
  have HON := Lib.hid (show oneAll (fwR (relF f) n) n = decide ((partsL (fwR (relF f) n) n n).length = 1 ∧ ((partsL (fwR (relF f) n) n n).getD 0 []).length = n) from rfl)
  have HFA := Lib.hid (fun h => period_facts (R := relF f) (n := n) h)
  have hpl := partsL_len (fwR (relF f) n) n n
  generalize oneAll (fwR (relF f) n) n = o at *
  generalize partsL (fwR (relF f) n) n n = ps at *
  have HV1 := Lib.hid hv1
  have HV0 := Lib.hid hv0
  have HSP := Lib.hid hsp
  have HA := Lib.hid hA
  have HAT := Lib.hid hat
  have HSZ := Lib.hid hsz
  clear hi1 hy0 hy1 hy2 hsp hA hv1 hv0 hat hsz
  go_enter Try.func67, Try.ntmps67
  go_wp2_with fail
  refine HSP.out.mono ?_
  rintro e w2 ⟨T2, p2, rfl, hb2, hm2⟩
  have HB2 := Lib.hid hb2
  have HM := Lib.hid hm2.irr
  have hszb2 := HB2.out.size
  clear hb2 hm2
  by_cases hp1 : ps.length = 1
  · obtain ⟨b, off, rfl, hbb, hcc⟩ := HM.out (by omega)
    obtain ⟨Q, q, r1, r2, -⟩ := hcc 0 (by omega)
    rw [Nat.add_zero] at r1
    generalize (ps.getD 0 []).length = k at *
    rw [hp1]
    rw [hp1] at HON
    clear hcc
    by_cases hkm : k = n
    · have hO : o = true := by rw [HON.out]; exact decide_eq_true ⟨rfl, hkm⟩
      have hkm2 : ((k : Int) != (n : Int)) = false := by simp [hkm]
      obtain ⟨hn0, hreach, hedge⟩ := HFA.out hO
      have HE := Lib.hid hedge
      have HRE := Lib.hid hreach
      have HPV := Lib.hid (HV1.out hO)
      have HO := Lib.hid hO
      clear hedge hreach hO
      have HD0 := Lib.hid (show DI ((w2.alloc (Obj.cells cs1 2)).alloc (Obj.cells #[.int .i64 0] 3)) w2.heap.size n (fm0 1) from DI.congr (d := fun _ => 0) ⟨cs1, (Blk.new w2 _ _).ext ((Ext.refl _).alloc _), HSZ.out, fun j hj => HAT.out j hj⟩ fun j hj => by unfold fm0; rw [if_neg (by omega)])
      have HQ0 := Lib.hid (show QB ((w2.alloc (Obj.cells cs1 2)).alloc (Obj.cells #[.int .i64 0] 3)) (w2.heap.size + 1) (.slice (some ⟨w2.heap.size + 1, 0, none⟩) 1 1) [0] from
        ⟨w2.heap.size + 1, 0, 1, #[.int .i64 0], rfl, Nat.le_refl _, by have := Blk.new (w2.alloc (Obj.cells cs1 2)) 3 #[.int .i64 0]; simpa [Blk] using this, by simp, by simp, fun j hj => by simp at hj; subst hj; rfl⟩)
      have HB0 := Lib.hid (HB2.out.trans ((((Ext.refl w2).alloc (Obj.cells cs1 2)).alloc (Obj.cells #[.int .i64 0] 3)).below (B := w.heap.size) hszb2))
      have hs0 : w2.heap.size + 2 ≤ ((w2.alloc (Obj.cells cs1 2)).alloc (Obj.cells #[.int .i64 0] 3)).heap.size := by simp
      go_wp2_with fail
      generalize ((w2.alloc (Obj.cells cs1 2)).alloc (Obj.cells #[.int .i64 0] 3)) = W1 at *
      clear hmk1
      generalize w2.heap.size = g0 at *
      go_loopw [7] (fun ii wr => ∃ i : Nat, 1 ≤ i ∧ i ≤ n ∧ ii = .int .i64 i ∧ DI wr g0 n (fm0 i) ∧ QB wr (g0 + 1) (.slice (some ⟨g0 + 1, 0, none⟩) 1 1) [0] ∧ Below w.heap.size w wr ∧ g0 + 2 ≤ wr.heap.size) (fun ii _ => n - (intOf ii).toNat)
      case atStart => exact ⟨1, Nat.le_refl _, hn0, rfl, HD0.out, HQ0.out, HB0.out, hs0⟩
      case round =>
        obtain ⟨i, hi1, hi, rfl, hdi, hqb, hb, hsw⟩ := hrel
        by_cases hlt : i < n
        · have hlt3 : (i : Int) < (n : Int) := by omega
          obtain ⟨d2, z2⟩ := hdi.at_ hlt
          have HD2 := Lib.hid ((hdi.set_ hlt (-1)).congr (d' := fm0 (i + 1)) fun x hx => by
            unfold fm0
            by_cases e : x = i
            · rw [if_pos e, if_pos (by omega)]
            · rw [if_neg e]
              by_cases e2 : 0 < x ∧ x < i
              · rw [if_pos e2, if_pos (by omega)]
              · rw [if_neg e2, if_neg (by omega)])
          have HQ2 := Lib.hid (hqb.far (p := ⟨g0, i, none⟩) (Nat.lt_succ_self _) (.int .i64 (-1)))
          have HB3 := Lib.hid (hb.setCell (p := ⟨g0, i, none⟩) (show w.heap.size ≤ g0 by omega) (.int .i64 (-1)))
          have HS2 := Lib.hid (show g0 + 2 ≤ (wr.setCell ⟨g0, i, none⟩ (.int .i64 (-1))).heap.size by simpa using hsw)
          clear hdi hqb hb
          go_wp2_with fail
          go_roundw
          case rel => exact ⟨i + 1, by omega, by omega, by go_num, HD2.out, HQ2.out, HB3.out, HS2.out⟩
          case measure => simp [intOf]; omega
        · obtain rfl : i = n := by omega
          have HD2 := Lib.hid (hdi.congr (d' := fm (bAll (relF f) i 0)) fun x hx => fm_zero hx)
          have HQ2 := Lib.hid hqb
          have HB3 := Lib.hid hb
          clear hdi hqb hb
          go_wp2_with fail
          go_loopg [6] i (fun gk v wr => ∃ k : Nat, gk + k = i ∧ k ≤ (bAll (relF f) i k).q.length ∧ QB wr (g0 + 1) v ((bAll (relF f) i k).q.drop k) ∧ DI wr g0 i (fm (bAll (relF f) i k)) ∧ Below w.heap.size w wr ∧ g0 + 2 ≤ wr.heap.size)
          case atStart => exact ⟨0, by omega, Nat.zero_le _, HQ2.out, HD2.out, HB3.out, hsw⟩
          case round =>
            obtain ⟨k, hgk, hk, hqb, hdi, hb, hsw3⟩ := hrel
            have hbok := bok_all (E := relF f) hn0 k hk
            have hlen := hbok.len
            have HBO := Lib.hid hbok
            have HDL := Lib.hid (bAll_le (E := relF f) (n := i) k)
            have HNX := Lib.hid (show ∀ h : k < (bAll (relF f) i k).q.length, bAll (relF f) i (k + 1) = bRow (relF f) ((bAll (relF f) i k).q.getD k 0) i (bAll (relF f) i k) from fun h => by simp only [bAll, if_pos h])
            have HEN := Lib.hid (fun (h : k = (bAll (relF f) i k).q.length) => (bAll_end hn0 h).1)
            clear hbok
            generalize hs : bAll (relF f) i k = s at *
            clear hs
            by_cases hltk : k < s.q.length
            · have hdrop : s.q.drop k = s.q.getD k 0 :: s.q.drop (k + 1) := by rw [List.drop_eq_getElem_cons hltk, show s.q.getD k 0 = s.q[k] by simp [List.getD, hltk]]
              have ha := HBO.out.lt (s.q.getD k 0) (getD_in hltk)
              have HROW := Lib.hid (fun j (hj : j ≤ i) => bok_row HBO.out hltk rfl j hj)
              have HRL := Lib.hid (fun j => bRow_le (E := relF f) (a := s.q.getD k 0) HDL.out j)
              have HNX2 := Lib.hid (HNX.out hltk)
              rw [hdrop] at hqb
              obtain ⟨a, haa⟩ : ∃ a, a = s.q.getD k 0 := ⟨_, rfl⟩
              rw [← haa] at hqb ha HROW HRL HNX2
              have HAA := Lib.hid haa
              obtain ⟨g, off2, cap, rfl, hcap, hgl, q1, hq1, hq2⟩ := hqb.front
              obtain ⟨L, hL⟩ : ∃ L, L = s.q.drop (k + 1) := ⟨_, rfl⟩
              rw [← hL] at hqb hcap hq1 hq2 ⊢
              have HL := Lib.hid hL
              have hm1 : L.length + 1 - 1 = L.length := by omega
              obtain ⟨m, hm⟩ : ∃ m, m = L.length + 1 := ⟨_, rfl⟩
              rw [← hm] at hcap hm1 ⊢
              rw [← hm1] at hq1 hq2
              have hm0 : 0 < m := by omega
              have hm03 : (0 : Int) < (m : Int) := by omega
              have hm2 : m ≤ 40 := by rw [hm, hL, List.length_drop]; omega
              clear haa hdrop hqb hm hL hm1
              obtain ⟨bA, oA, Q, x, qc, rfl, hbA, hQ, hnq, e1, hrow⟩ := irr_mat HA.out ha
              have HRW := Lib.hid hrow
              have HE1 := Lib.hid e1
              clear e1
              have HB4 := Lib.hid hb
              have HD4 := Lib.hid hdi
              have ha3 : (a : Int) < (i : Int) := by omega
              clear hrow hb hdi
              have HF1 := Lib.hid hq1
              have HF2 := Lib.hid hq2
              clear hq1 hq2
              go_upto_region 11 with (fail)
              go_cut [6] from 41 to 48 (fun v6 wx => QB wx (g0 + 1) v6 L ∧ wx = wr)
              case first =>
                go_wp2_with fail
                all_goals go_meet
                all_goals first | exact ⟨HF2.out (by assumption), rfl⟩ | exact ⟨HF1.out (by assumption), rfl⟩
              case rest =>
                obtain ⟨hqb, rfl⟩ := hcut
                have HQ4 := Lib.hid hqb
                clear hqb
                have HLL := Lib.hid HL.out
                go_wp2_with fail
                go_loopw [6, 9] (fun v jj wr => ∃ j : Nat, j ≤ i ∧ jj = .int .i64 j ∧ QB wr (g0 + 1) v ((bRow (relF f) a j s).q.drop (k + 1)) ∧ DI wr g0 i (fm (bRow (relF f) a j s)) ∧ Below w.heap.size w wr ∧ g0 + 2 ≤ wr.heap.size) (fun _ jj _ => i - (intOf jj).toNat)
                case atStart => exact ⟨0, Nat.zero_le _, rfl, by rw [HLL.out] at HQ4; exact HQ4.out, HD4.out, HB4.out, hsw3⟩
                case round =>
                  obtain ⟨j, hj, rfl, hqb, hdi, hb, hsw4⟩ := hrel
                  obtain ⟨hb2, -, hl2, -⟩ := HROW.out j hj
                  have hl3 := hb2.len
                  have HZ := Lib.hid hb2
                  have hdl := HRL.out j a
                  have HST := Lib.hid (show bRow (relF f) a (j + 1) s = bPut (relF f) a j (bRow (relF f) a j s) from rfl)
                  have HMA := Lib.hid (show a ∈ (bRow (relF f) a j s).q by
                    have h1 := (HROW.out j hj).2.1 k hltk
                    have h2 := getD_in (l := (bRow (relF f) a j s).q) (k := k) (by omega)
                    rw [h1, ← HAA.out] at h2
                    exact h2)
                  generalize hs2 : bRow (relF f) a j s = s2 at *
                  have HS2 := Lib.hid hs2
                  clear hs2 hb2
                  by_cases hltj : j < i
                  · have hltj3 : (j : Int) < (i : Int) := by omega
                    have q2 := (hb.cell (p := ⟨Q, x + j, none⟩) hQ).trans (HRW.out j hltj)
                    have HRF := Lib.hid (show relF f a j = decide (0 < f a j) from rfl)
                    generalize f a j = y at q2 HRF
                    have d1 := (hdi.at_ ha).1
                    obtain ⟨d2, z2⟩ := hdi.at_ hltj
                    have e1 := (hb.cell (p := ⟨bA, oA + a, none⟩) hbA).trans HE1.out
                    have HQ5 := Lib.hid hqb
                    have HD5 := Lib.hid hdi
                    have HB5 := Lib.hid hb
                    clear hqb hdi hb
                    by_cases hy : 0 < y
                    · by_cases hm : j ∈ s2.q
                      · have HSS := Lib.hid (show bRow (relF f) a (j + 1) s = s2 by rw [HST.out]; unfold bPut; rw [if_neg (by simp [hm])])
                        have hfj : fm s2 j = (s2.d j : Int) := by unfold fm; rw [if_pos hm]
                        rw [hfj] at d2
                        have hnn : ¬ ((s2.d j : Nat) : Int) < 0 := by omega
                        clear hm hfj
                        go_wp2_with fail
                        go_roundw
                        case rel => exact ⟨j + 1, by omega, by go_num, by rw [HSS.out]; exact HQ5.out, by rw [HSS.out]; exact HD5.out, HB5.out, hsw4⟩
                        case measure => simp [intOf]; omega
                      · have HSS := Lib.hid (show bRow (relF f) a (j + 1) s = ⟨s2.q ++ [j], fun x => if x = j then s2.d a + 1 else s2.d x⟩ by rw [HST.out]; unfold bPut; rw [if_pos (by rw [HRF.out]; simp [hm, hy])])
                        have hfj : fm s2 j = -1 := by unfold fm; rw [if_neg hm]
                        have hfa : fm s2 a = (s2.d a : Int) := by unfold fm; rw [if_pos HMA.out]
                        rw [hfj] at d2
                        rw [hfa] at d1
                        have hd4 := (HD5.out.set_ hltj ((s2.d a : Int) + 1)).congr (d' := fm ⟨s2.q ++ [j], fun x => if x = j then s2.d a + 1 else s2.d x⟩) fun x _ => by rw [← fm_put HMA.out hm, hfa]
                        have hq4 := HQ5.out.far (p := ⟨g0, j, none⟩) (Nat.lt_succ_self _) (.int .i64 ((s2.d a : Int) + 1))
                        have hb4 := HB5.out.setCell (p := ⟨g0, j, none⟩) (show w.heap.size ≤ g0 by omega) (.int .i64 ((s2.d a : Int) + 1))
                        have hsz4 : (wr.setCell ⟨g0, j, none⟩ (.int .i64 ((s2.d a : Int) + 1))).heap.size = wr.heap.size := by simp
                        have HBK := Lib.hid (show Blk ((wr.setCell ⟨g0, j, none⟩ (.int .i64 ((s2.d a : Int) + 1))).alloc (Obj.cells #[.int .i64 (j : Int)] 3)) wr.heap.size 3 #[.int .i64 (j : Int)] by have := Blk.new (wr.setCell ⟨g0, j, none⟩ (.int .i64 ((s2.d a : Int) + 1))) 3 #[.int .i64 (j : Int)]; simpa using this)
                        have HDR := Lib.hid (show (s2.q ++ [j]).drop (k + 1) = s2.q.drop (k + 1) ++ [j] from List.drop_append_of_le_length (by omega))
                        have hlq : (s2.q.drop (k + 1)).length + 1 ≤ 1048577 := by rw [List.length_drop]; omega
                        have HQ6 := Lib.hid (hq4.below (((Ext.refl (wr.setCell ⟨g0, j, none⟩ (.int .i64 ((s2.d a : Int) + 1)))).alloc (Obj.cells #[.int .i64 (j : Int)] 3)).below (Nat.le_refl _)) (Nat.le_refl _))
                        have HB6 := Lib.hid (hb4.trans (((Ext.refl (wr.setCell ⟨g0, j, none⟩ (.int .i64 ((s2.d a : Int) + 1)))).alloc (Obj.cells #[.int .i64 (j : Int)] 3)).below (B := w.heap.size) (by rw [hsz4]; omega)))
                        have HD6 := Lib.hid (hd4.below (((Ext.refl (wr.setCell ⟨g0, j, none⟩ (.int .i64 ((s2.d a : Int) + 1)))).alloc (Obj.cells #[.int .i64 (j : Int)] 3)).below (Nat.le_refl _)) (by rw [hsz4]; omega))
                        generalize s2.d a = da at *
                        have hwd : IntKind.i64.wrap ((da : Int) + 1) = (da : Int) + 1 := IntWalk.i64_in _ (by omega)
                        generalize s2.q.drop (k + 1) = L2 at *
                        have HLQ := Lib.hid hlq
                        clear hd4 hq4 hb4 hfj hfa hlq hm
                        go_wp2_with (at_builtin; go_loud (refine wpList_pushQ rfl _ _ rfl (g0 + 1) _ L2 rfl HQ6.out wr.heap.size j rfl HBK.out HLQ.out ?c2 ?_))
                        case c2 => simp; omega
                        intro v' w5 hqb5 hbl5
                        have Q5 := Lib.hid (show QB w5 (g0 + 1) v' ((bRow (relF f) a (j + 1) s).q.drop (k + 1)) by rw [HSS.out]; show QB w5 (g0 + 1) v' ((s2.q ++ [j]).drop (k + 1)); rw [HDR.out]; exact hqb5)
                        have D5 := Lib.hid (show DI w5 g0 i (fm (bRow (relF f) a (j + 1) s)) by rw [HSS.out]; exact HD6.out.below hbl5 (Nat.lt_succ_self _))
                        have B5 := Lib.hid (HB6.out.trans (hbl5.mono (by omega)))
                        have S5 := Lib.hid (show g0 + 2 ≤ w5.heap.size by have := hbl5.size; simp at this; omega)
                        clear hqb5 hbl5
                        go_wp2_with fail
                        go_roundw
                        case rel => exact ⟨j + 1, by omega, by go_num, Q5.out, D5.out, B5.out, S5.out⟩
                        case measure => simp [intOf]; omega
                    · have HSS := Lib.hid (show bRow (relF f) a (j + 1) s = s2 by rw [HST.out]; unfold bPut; rw [if_neg (by rw [HRF.out]; simp [hy])])
                      clear d1 d2 z2
                      go_wp2_with fail
                      go_roundw
                      case rel => exact ⟨j + 1, by omega, by go_num, by rw [HSS.out]; exact HQ5.out, by rw [HSS.out]; exact HD5.out, HB5.out, hsw4⟩
                      case measure => simp [intOf]; omega
                  · obtain rfl : j = i := by omega
                    have HE2 := Lib.hid (HNX2.out.trans HS2.out)
                    have HSK := Lib.hid (show k + 1 ≤ (bAll (relF f) j (k + 1)).q.length by rw [HE2.out]; exact Nat.le_trans hltk hl2)
                    have HQ7 := Lib.hid (show QB wr (g0 + 1) _ ((bAll (relF f) j (k + 1)).q.drop (k + 1)) by rw [HE2.out]; exact hqb)
                    have HD7 := Lib.hid (show DI wr g0 j (fm (bAll (relF f) j (k + 1))) by rw [HE2.out]; exact hdi)
                    have HB7 := Lib.hid hb
                    clear hqb hdi hb
                    go_wp2_with fail
                    go_roundg (gk - 1)
                    case rel => exact ⟨k + 1, by omega, HSK.out, HQ7.out, HD7.out, HB7.out, hsw4⟩
                    case measure => omega
            · have hke : k = s.q.length := by omega
              have hdn : s.q.drop k = [] := List.drop_of_length_le (by omega)
              rw [hdn] at hqb
              obtain ⟨g, off2, cap, cs, hv6, -⟩ := hqb
              rw [List.length_nil] at hv6
              subst hv6
              have HDE := Lib.hid (show DI wr g0 i (fun x => ((bAll (relF f) i i).d x : Int)) from hdi.congr fun x hx => by
                have h1 := HRE.out x hx
                rw [HEN.out hke] at h1 ⊢
                unfold fm
                rw [if_pos h1])
              have HBE := Lib.hid hb
              clear hdi hb hdn
              have hdn : ∀ x, (bAll (relF f) i i).d x ≤ 40 := fun x => by
                have h1 := bAll_le (E := relF f) (n := i) i x
                have h2 := bAll_len (R := relF f) hn0 i
                omega
              unfold perT at HPV
              generalize (bAll (relF f) i i).d = d at *
              have hpi : ∀ x, perI (relF f) d i x ≤ 41 := perI_le (M := 41) fun x => by have := hdn x; omega
              have hpj : ∀ x j, perJ (relF f) d x (perI (relF f) d i x) j ≤ 41 := fun x j => perJ_le (hpi x) (by have := hdn x; omega) j
              have HDN := Lib.hid hdn
              have HPJ := Lib.hid hpj
              have hszw : w.heap.size ≤ wr.heap.size := by omega
              clear hdn hpi hpj
              go_wp2_with fail
              generalize wr = w4 at *
              go_loopw [10, 11] (fun pp ii wr => ∃ x : Nat, x ≤ i ∧ ii = .int .i64 x ∧ pp = .int .i64 ((perI (relF f) d i x : Nat) : Int) ∧ Ext w4 wr) (fun _ ii _ => i - (intOf ii).toNat)
              case atStart => exact ⟨0, Nat.zero_le _, rfl, rfl, Ext.refl _⟩
              case round =>
                obtain ⟨x, hx, rfl, rfl, hxx⟩ := hrel
                have HX := Lib.hid hxx
                clear hxx
                by_cases hltx : x < i
                · have hltx3 : (x : Int) < (i : Int) := by omega
                  have HPI := Lib.hid (show perI (relF f) d i (x + 1) = perJ (relF f) d x (perI (relF f) d i x) i from rfl)
                  have HPS := Lib.hid (fun j => perJ_step (relF f) d x (perI (relF f) d i x) j)
                  have HPJ2 := Lib.hid (HPJ.out x)
                  generalize hpp : perI (relF f) d i x = p0 at *
                  clear hpp
                  go_wp2_with fail
                  go_loopw [10, 12] (fun pp jj wr => ∃ j : Nat, j ≤ i ∧ jj = .int .i64 j ∧ pp = .int .i64 ((perJ (relF f) d x p0 j : Nat) : Int) ∧ Ext w4 wr) (fun _ jj _ => i - (intOf jj).toNat)
                  case atStart => exact ⟨0, Nat.zero_le _, rfl, rfl, HX.out⟩
                  case round =>
                    obtain ⟨j, hj, rfl, rfl, hxx⟩ := hrel
                    have HX := Lib.hid hxx
                    have HST := Lib.hid (HPS.out j)
                    have hpl := HPJ2.out j
                    clear hxx
                    generalize hpq : perJ (relF f) d x p0 j = p at *
                    have HPQ := Lib.hid hpq
                    clear hpq
                    by_cases hltj : j < i
                    · have hltj3 : (j : Int) < (i : Int) := by omega
                      obtain ⟨bA, oA, Q, y0, qc, rfl, hbA, hQ, hnq, e1, hrow⟩ := irr_mat HA.out hltx
                      have HB3 := Lib.hid (HBE.out.trans (HX.out.below (B := w.heap.size) hszw))
                      replace e1 := (HB3.out.cell (p := ⟨bA, oA + x, none⟩) hbA).trans e1
                      have q2 := (HB3.out.cell (p := ⟨Q, y0 + j, none⟩) hQ).trans (hrow j hltj)
                      have HRF := Lib.hid (show relF f x j = decide (0 < f x j) from rfl)
                      have hed := HE.out x j hltx hltj
                      generalize f x j = y at q2 HRF
                      clear hrow
                      by_cases hy : 0 < y
                      · have hr1 : relF f x j = true := by rw [HRF.out]; exact decide_eq_true hy
                        have hle := hed hr1
                        have HS2 := Lib.hid (show perJ (relF f) d x p0 (j + 1) = Nat.gcd p (d x + 1 - d j) by rw [HST.out, if_pos hr1])
                        have hdi3 := HDE.out.below (HX.out.below (Nat.le_refl _)) HDE.out.lt
                        have c1 := (hdi3.at_ hltx).1
                        have c2 := (hdi3.at_ hltj).1
                        have hgl := hdi3.lt
                        have hd1 := HDN.out x
                        have hd2 := HDN.out j
                        have hcd : ∀ W, Calls Try.prog 111 #[.int .i64 (p : Int), .int .i64 ((d x + 1 - d j : Nat) : Int)] W _ := fun W => l06Gcd_any p (d x + 1 - d j) W (by omega) (by omega)
                        rw [← HS2.out] at hcd
                        generalize hp2 : perJ (relF f) d x p0 (j + 1) = p2 at *
                        have HP2 := Lib.hid hp2
                        clear hp2
                        generalize d x = di at *
                        generalize d j = dj at *
                        have hg2 : (((di : Int) + 1) - (dj : Int)) = ((di + 1 - dj : Nat) : Int) := by omega
                        have hgl2 : di + 1 - dj ≤ 41 := by omega
                        generalize di + 1 - dj = gap at *
                        have HF := Lib.hid hcd
                        have g1 := fun dn os => (cell?_grow (wr.drewN dn) os ⟨g0, x, none⟩ (by have := World.block_lt_of_cell? wr _ c1; exact this)).trans c1
                        have g2 := fun dn os => (cell?_grow (wr.drewN dn) os ⟨g0, j, none⟩ (by have := World.block_lt_of_cell? wr _ c2; exact this)).trans c2
                        have hw1 : IntKind.i64.wrap ((di : Int) + 1) = (di : Int) + 1 := IntWalk.i64_in _ (by omega)
                        have hw2 : IntKind.i64.wrap ((di : Int) + 1 - (dj : Int)) = (gap : Int) := by rw [hg2]; exact IntWalk.i64_in _ (by omega)
                        have hw3 : IntKind.i64.wrap (-(gap : Int)) = -(gap : Int) := IntWalk.i64_in _ (by omega)
                        clear hcd hed hr1 hle hg2 hdi3
                        go_wp2_with fail
                        refine wp_region_quiet_grown mixed (by kernel_rfl) ?_
                        repeat (go_big_quiet_step ((fail)))
                        refine wpQuiet_nil ?_
                        intro _ hw'
                        obtain ⟨⟨nq, osq⟩, hw''⟩ := hw'
                        subst hw''
                        have HX4 := Lib.hid (HX.out.trans ⟨nq, osq, rfl⟩)
                        clear g1 g2 hw1 hw2
                        go_wp2_with fail
                        rw [show max (gap : Int) (-(gap : Int)) = (gap : Int) by omega]
                        refine (HF.out _).mono ?_
                        rintro e w5 ⟨rfl, hx5⟩
                        have HX5 := Lib.hid (HX4.out.trans hx5)
                        clear hx5
                        go_wp2_with fail
                        go_roundw
                        case rel => exact ⟨j + 1, by omega, by go_num, by rw [HP2.out], HX5.out⟩
                        case measure => simp [intOf]; omega
                      · have HS2 := Lib.hid (show perJ (relF f) d x p0 (j + 1) = p by rw [HST.out, if_neg (by rw [HRF.out]; simp [hy])])
                        clear hed
                        go_wp2_with fail
                        go_roundw
                        case rel => exact ⟨j + 1, by omega, by go_num, by rw [HS2.out], HX.out⟩
                        case measure => simp [intOf]; omega
                    · obtain rfl : j = i := by omega
                      have HS3 := Lib.hid (HPI.out.trans HPQ.out)
                      go_wp2_with fail
                      go_roundw
                      case rel => exact ⟨x + 1, by omega, by go_num, by rw [HS3.out], HX.out⟩
                      case measure => simp [intOf]; omega
                · obtain rfl : x = i := by omega
                  have HB5 := Lib.hid (HBE.out.trans (HX.out.below (B := w.heap.size) hszw))
                  go_wp2_with fail
                  go_ret2
                  refine ⟨?_, HB5.out⟩
                  rw [HPV.out, HO.out]; rfl
    · have hO : o = false := by rw [HON.out]; exact decide_eq_false fun hh => hkm hh.2
      have hkm2 : ((k : Int) != (n : Int)) = true := by simp; omega
      go_wp2_with fail
      go_ret2
      refine ⟨?_, HB2.out⟩
      rw [HV0.out hO, hO]; rfl
  · have hO : o = false := by rw [HON.out]; exact decide_eq_false fun hh => hp1 hh.1
    have hpne : ((ps.length : Int) != 1) = true := by simp; omega
    go_wp2_with fail
    go_ret2
    refine ⟨?_, HB2.out⟩
    rw [HV0.out hO, hO]; rfl
end
end Go.Proofs.Ytleabblnikbmpaa
