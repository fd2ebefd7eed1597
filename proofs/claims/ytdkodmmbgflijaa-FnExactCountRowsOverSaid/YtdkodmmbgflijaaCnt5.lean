/- The model's ways through a number of tiles. -/
import Derived.Test.YtdkodmmbgflijaaCnt4
import Derived.StillTailTactics
namespace Go.Proofs.Ytdkodmmbgflijaa
set_option linter.unusedVariables false
set_option linter.unusedSimpArgs false
open Go.RowKit Go.Sort

/-- A tile may stand at place i under a north word (the empty word: any). -/
def under (ns : List Int) (i : Nat) (t : Tl) : Bool := ns.isEmpty || decide (t.2.1 = ns.getD i 0)
def addP (p : Tl → Bool) (now nx : Nat → Int) (t : Tl) : Nat → Int := if p t = true then addT now nx t else nx
def pstep (p : Tl → Bool) (ts : List Tl) (now : Nat → Int) : Nat → Int := ts.foldl (addP p now) (fun _ => 0)
theorem pfold_eq (p : Tl → Bool) (now : Nat → Int) : ∀ (ts : List Tl) (nx : Nat → Int), ts.foldl (addP p now) nx = (ts.filter p).foldl (addT now) nx
  | [], _ => rfl
  | t :: r, nx => by
    by_cases h : p t = true
    · simp only [List.foldl_cons, List.filter_cons, h, if_true, addP]
      exact pfold_eq p now r _
    · simp only [List.foldl_cons, List.filter_cons, h, addP]
      exact pfold_eq p now r _
theorem pstep_eq (p : Tl → Bool) (ts : List Tl) (now : Nat → Int) : pstep p ts now = wstep (ts.filter p) now := pfold_eq p now ts _
theorem pstep_snoc (p : Tl → Bool) (ts : List Tl) (now : Nat → Int) {k : Nat} (hk : k < ts.length) : pstep p (ts.take (k + 1)) now = addP p now (pstep p (ts.take k) now) (ts.getD k T0) := by
  rw [take_snoc ts hk]
  simp [pstep, List.foldl_append]
theorem pstep_cap {p : Tl → Bool} {now : Nat → Int} (h : Cap now) (ts : List Tl) : Cap (pstep p ts now) := by
  rw [pstep_eq]
  exact wstep_cap h _
def npow (ts : List Tl) (ns : List Int) (f : Nat → Int) : Nat → (Nat → Int)
  | 0 => f
  | k + 1 => pstep (under ns k) ts (npow ts ns f k)
theorem npow_cap (ts : List Tl) (ns : List Int) {f : Nat → Int} (h : Cap f) : ∀ k, Cap (npow ts ns f k)
  | 0 => h
  | k + 1 => pstep_cap (npow_cap ts ns h k) ts
theorem npow_nil (ts : List Tl) (f : Nat → Int) : ∀ k, npow ts [] f k = wpow ts f k
  | 0 => rfl
  | k + 1 => by
    show pstep (under [] k) ts (npow ts [] f k) = wstep ts (wpow ts f k)
    rw [pstep_eq, npow_nil ts f k]
    congr 1
    exact List.filter_eq_self.2 fun t _ => rfl

theorem arr_made (C : Nat) : Arr (madeCells (Value.cells (.int .i64 0)) (C * 1)) C (fun _ => 0) := by
  refine ⟨by rw [size_madeCells, Nat.mul_one], fun e he => ?_⟩
  have h := toList_madeCells_one (.int .i64 0) (C * 1)
  have e1 : (Value.cells (.int .i64 0)) = #[.int .i64 0] := rfl
  rw [e1, ← Array.getElem?_toList, h]
  simp [he]

/-- Block g has C numbers. -/
def BArr (w : World) (g C : Nat) (f : Nat → Int) : Prop := ∃ t cs, Blk w g t cs ∧ Arr cs C f
theorem BArr.ext {w w' : World} {g C : Nat} {f : Nat → Int} (h : BArr w g C f) (hx : Ext w w') : BArr w' g C f := by
  obtain ⟨t, cs, hb, ha⟩ := h
  exact ⟨t, cs, hb.ext hx, ha⟩
theorem BArr.cell {w : World} {g C : Nat} {f : Nat → Int} (h : BArr w g C f) {e : Nat} (he : e < C) : w.cell? ⟨g, e, none⟩ = some (.int .i64 (f e)) := by
  obtain ⟨t, cs, hb, ha⟩ := h
  rw [hb.cell]
  exact ha.2 e he
theorem BArr.frozen {w : World} {g C : Nat} {f : Nat → Int} (h : BArr w g C f) (e : Nat) : w.frozen? ⟨g, e, none⟩ = false := by
  obtain ⟨t, cs, hb, ha⟩ := h
  exact hb.frozen e
theorem BArr.lt {w : World} {g C : Nat} {f : Nat → Int} (h : BArr w g C f) : g < w.heap.size := by
  obtain ⟨t, cs, hb, ha⟩ := h
  exact hb.lt
theorem BArr.set_ {w : World} {g C : Nat} {f : Nat → Int} (h : BArr w g C f) (e : Nat) (v : Int) : BArr (w.setCell ⟨g, e, none⟩ (.int .i64 v)) g C (fun i => if i = e then v else f i) := by
  obtain ⟨t, cs, hb, ha⟩ := h
  exact ⟨t, _, hb.set_ e _, ha.set v⟩
theorem BArr.iwr {w : World} {g C lo : Nat} {f : Nat → Int} (h : BArr w g C f) (hl : lo ≤ g) : IWr w lo w.heap.size (some ⟨g, 0, none⟩) (fl C f) := by
  obtain ⟨t, cs, hb, ha⟩ := h
  exact fun _ => ⟨g, 0, t, cs, rfl, hl, hb.lt, hb, fun k hk => by rw [fl_len] at hk; rw [Nat.zero_add, fl_at hk]; exact ha.2 k hk⟩
theorem IWr.hi {w : World} {lo hi hi' : Nat} {A : Option Addr} {xs : List Int} (h : IWr w lo hi A xs) (hh : hi ≤ hi') : IWr w lo hi' A xs := fun h0 => by
  obtain ⟨b, off, t, cs, e, hl', hb, hb2, hc⟩ := h h0
  exact ⟨b, off, t, cs, e, hl', by omega, hb2, hc⟩
theorem IWr.far {w : World} {lo hi : Nat} {A : Option Addr} {xs : List Int} (h : IWr w lo hi A xs) {p : Addr} (hp : hi ≤ p.block) (u : Value) : IWr (w.setCell p u) lo hi A xs := fun h0 => by
  obtain ⟨b, off, t, cs, e, hl', hh, hb, hc⟩ := h h0
  exact ⟨b, off, t, cs, e, hl', hh, hb.far (by omega) u, hc⟩

set_option maxRecDepth 100000 in
set_option maxHeartbeats 4000000 in
theorem l02Ways_any (C : Nat) (A : Option Addr) (n c : Nat) (ts : List Tl) (F : Option Addr) (cf : Nat) (f : Nat → Int) (m : Nat) (R : Option Addr) (nn cn : Nat) (ns : List Int) (w : World) (hC1 : 1 ≤ C) (hC : C ≤ 6) (hn : n ≤ 1048576) (hl : ts.length = n) (hA : TR w w.heap.size A ts)
    (hok : ∀ t ∈ ts, tileOk C t = true) (hf : Cap f) (hF : IR w w.heap.size F (fl C f)) (hm : m ≤ 1048576) (hnn : nn ≤ 1048576) (hln : ns.length = nn) (hR : IR w w.heap.size R ns) (hmn : ns = [] ∨ m ≤ nn) :
    Calls Try.prog 82 #[.agg #[.int .i64 (C : Int), .slice A n c], .slice F C cf, .int .i64 (m : Int), .slice R nn cn] w fun e w' => ∃ A' cap, e = .returned (.slice A' C cap) ∧ Below w.heap.size w w' ∧ IWr w' w.heap.size w'.heap.size A' (fl C (npow ts ns f m)) := by
  obtain ⟨i0, hi, hz0, hz1, hz2⟩ := info_parts info_int
  have hmk := fun W => run_make_rowN (P := Try.prog) 38 2 i0 _ (by kernel_rfl) hi hz0 .i64 .i64 C C (Nat.le_refl _) (by rw [hz2]; omega) (by omega) W
  rw [hz1] at hmk
  generalize hcs : madeCells (Value.cells (.int .i64 0)) (C * 1) = cs0 at hmk
  have hsz : Arr cs0 C (fun _ => 0) := by rw [← hcs]; exact arr_made C
  clear hcs hi hz0 hz1 hz2
  have HZ := Lib.hid hsz
  have HMK := Lib.hid hmk
  clear hsz hmk
  have hown : ∀ W, Ext w W → Calls Try.prog 106 #[.slice F C cf] W _ := fun W hW => l01Own_any F C cf (fl C f) W (by omega) (fl_len _ _) ((hF.ext hW (Nat.le_refl _)).more (hW.below (Nat.le_refl _)).size)
  have HOWN := Lib.hid hown
  clear hown hF
  go_enter Try.func82, Try.ntmps82
  go_wp2_with fail
  refine (HOWN.out _ ((Ext.refl w).alloc _)).mono ?_
  rintro e w1 ⟨A1, cap1, rfl, hb, hw⟩
  have K1 := Lib.hid ((((Ext.refl w).alloc (.cells #[.int .i64 (C : Int), .slice A n c] 29)).below (Nat.le_refl _)).trans (hb.mono (by simp)))
  have B1 := Lib.hid ((Blk.new w 29 #[.int .i64 (C : Int), .slice A n c]).below hb (by simp))
  have S1 : w.heap.size + 1 ≤ w1.heap.size := by have := hb.size; simpa using this
  have W1 := Lib.hid (show IWr w1 (w.heap.size + 1) w1.heap.size A1 (fl C f) by simpa using hw)
  clear hb hw HOWN
  go_wp2_with fail
  go_loopw [9, 10] (fun v i wr => ∃ k : Nat, k ≤ m ∧ i = .int .i64 k ∧ (∃ Q cap, v = .slice Q C cap ∧ IWr wr (w.heap.size + 1) wr.heap.size Q (fl C (npow ts ns f k))) ∧ Blk wr w.heap.size 29 #[.int .i64 (C : Int), .slice A n c] ∧ Below w.heap.size w wr ∧ w.heap.size + 1 ≤ wr.heap.size) (fun _ i _ => m - (intOf i).toNat)
  case atStart => exact ⟨0, Nat.zero_le _, rfl, ⟨A1, cap1, rfl, W1.out⟩, B1.out, K1.out, S1⟩
  case round =>
    obtain ⟨k, hk, rfl, ⟨Q, capQ, rfl, hQ⟩, hb, hbw, hsz⟩ := hrel
    have HQ := Lib.hid hQ
    have HB := Lib.hid hb
    have HW := Lib.hid hbw
    clear hQ hb hbw W1 B1 K1 S1
    by_cases hlt : k < m
    · have hst : npow ts ns f (k + 1) = pstep (under ns k) ts (npow ts ns f k) := rfl
      have hcap := npow_cap ts ns hf k
      generalize npow ts ns f k = now at HQ hst hcap
      have HST := Lib.hid hst
      have HCAP := Lib.hid hcap
      clear hst hcap
      have b0 := HB.out.rd 0 rfl
      have hmk := HMK.out
      obtain ⟨wo, rfl⟩ : ∃ wo : World, wo = wr := ⟨_, rfl⟩
      go_wp2_with fail
      clear hmk b0
      have hW2 : Ext wo (wo.alloc (Obj.cells cs0 2)) := (Ext.refl _).alloc _
      have G2 := Lib.hid (show BArr (wo.alloc (Obj.cells cs0 2)) wo.heap.size C (pstep (under ns k) (ts.take 0) now) from ⟨_, cs0, Blk.new _ _ _, HZ.out⟩)
      have Q2 := Lib.hid (HQ.out.ext hW2)
      have B2 := Lib.hid (HB.out.ext hW2)
      have K2 := Lib.hid (HW.out.trans (hW2.below HW.out.size))
      have S2 : wo.heap.size + 1 ≤ (wo.alloc (Obj.cells cs0 2)).heap.size := by simp
      clear hW2 HQ HB HW
      generalize wo.alloc (Obj.cells cs0 2) = w2 at *
      generalize wo.heap.size = g at *
      go_loopw [12] (fun i wr => ∃ q : Nat, q ≤ n ∧ i = .int .i64 q ∧ BArr wr g C (pstep (under ns k) (ts.take q) now) ∧ IWr wr (w.heap.size + 1) g Q (fl C now) ∧ Blk wr w.heap.size 29 #[.int .i64 (C : Int), .slice A n c] ∧ Below w.heap.size w wr ∧ g + 1 ≤ wr.heap.size) (fun i _ => n - (intOf i).toNat)
      case atStart => exact ⟨0, Nat.zero_le _, rfl, G2.out, Q2.out, B2.out, K2.out, S2⟩
      case round =>
        clear G2 Q2 B2 K2 S2
        obtain ⟨q, hq, rfl, hg, hQ, hb, hbw, hsz2⟩ := hrel
        have b1 := hb.rd 1 rfl
        by_cases hlq : q < n
        · obtain ⟨b, o, rfl, hbl, ht⟩ := (hA.below hbw (Nat.le_refl _)) (by omega)
          have hto := hok (ts.getD q T0) (by have : ts.getD q T0 = ts[q]'(by omega) := by simp [List.getD, hl, hlq]
                                             rw [this]; exact List.getElem_mem _)
          have hps := pstep_snoc (under ns k) ts now (k := q) (by omega)
          replace ht := ht q (by omega)
          have hncap := pstep_cap (p := under ns k) HCAP.out (ts.take q)
          generalize ts.getD q T0 = t at ht hto hps
          generalize hnx : pstep (under ns k) (ts.take q) now = nx at hg hps hncap
          obtain ⟨x0, x1, x2, x3⟩ := t
          simp only [tileOk, decide_eq_true_eq] at hto
          obtain ⟨a, rfl⟩ : ∃ a : Nat, x0 = (a : Int) := ⟨x0.toNat, by omega⟩
          obtain ⟨e, rfl⟩ : ∃ e : Nat, x2 = (e : Int) := ⟨x2.toNat, by omega⟩
          have ha : a < C := by omega
          have he : e < C := by omega
          have ha3 : (a : Int) < (C : Int) := by omega
          have he3 : (e : Int) < (C : Int) := by omega
          obtain ⟨c0, c1, c2, c3⟩ := ht
          simp only at c0 c1 c2 c3
          obtain ⟨bq, oq, rfl, hbq, hcq⟩ := hQ.ir (by rw [fl_len]; omega)
          have cq := hcq a (by rw [fl_len]; exact ha)
          rw [fl_at ha] at cq
          have hx : Ext wr (wr.alloc (.cells #[.int .i64 a, .int .i64 x1, .int .i64 e, .int .i64 x3] 60)) := (Ext.refl _).alloc _
          have dq : (wr.alloc (.cells #[.int .i64 a, .int .i64 x1, .int .i64 e, .int .i64 x3] 60)).cell? ⟨bq, oq + a, none⟩ = some (.int .i64 (now a)) := (World.cell?_alloc_lt wr _ _ hbq).trans cq
          have dg := (hg.ext hx).cell he
          have fg := (hg.ext hx).frozen e
          have hca := HCAP.out a
          have hce := hncap e
          have hs1 : 0 ≤ nx e + now a := by omega
          have hs2 : nx e + now a ≤ 2000000000000002 := by omega
          have HN := Lib.hid (And.intro (hg.ext hx) (And.intro (hQ.ext hx) (And.intro (hb.ext hx) (And.intro (hbw.trans (hx.below hbw.size)) (And.intro hps hnx)))))
          clear hcq cq hg hQ hb hbw hps hnx hncap hx hto
          have hgw : w.heap.size ≤ g := by omega
          by_cases hns : ns = []
          · have hd : decide (0 < nn) = false := by
              have : nn = 0 := by rw [← hln, hns]; rfl
              simp [this]
            have hun : under ns k ((a : Int), x1, (e : Int), x3) = true := by simp [under, hns]
            have HU := Lib.hid hun
            clear hun hA hok hR hmn hns
            go_wp2_with fail
            go_quiet (fail)
            go_wp2_with fail
            have hx3 : Ext (wr.alloc (.cells #[.int .i64 a, .int .i64 x1, .int .i64 e, .int .i64 x3] 60)) (World.drewN (wr.alloc (.cells #[.int .i64 a, .int .i64 x1, .int .i64 e, .int .i64 x3] 60)) nq) := (Ext.refl _).drewN _
            have e0 := ((Blk.new wr 60 #[.int .i64 a, .int .i64 x1, .int .i64 e, .int .i64 x3]).ext hx3).rd 0 rfl
            have e2 := ((Blk.new wr 60 #[.int .i64 a, .int .i64 x1, .int .i64 e, .int .i64 x3]).ext hx3).rd 2 rfl
            have dg3 := (HN.out.1.ext hx3).cell he
            have fg3 := (HN.out.1.ext hx3).frozen e
            have dq3 : (World.drewN (wr.alloc (.cells #[.int .i64 a, .int .i64 x1, .int .i64 e, .int .i64 x3] 60)) nq).cell? ⟨bq, oq + a, none⟩ = some (.int .i64 (now a)) := dq
            have H3 := Lib.hid (And.intro (HN.out.1.ext hx3) (And.intro (HN.out.2.1.ext hx3) (And.intro (HN.out.2.2.1.ext hx3) (And.intro (HN.out.2.2.2.1.trans (hx3.below HN.out.2.2.2.1.size)) (And.intro HN.out.2.2.2.2.1 HN.out.2.2.2.2.2)))))
            have S3 : g + 1 ≤ (World.drewN (wr.alloc (.cells #[.int .i64 a, .int .i64 x1, .int .i64 e, .int .i64 x3] 60)) nq).heap.size := by have := (hx3.below (Nat.le_refl _)).size; simp at this ⊢; omega
            generalize World.drewN (wr.alloc (.cells #[.int .i64 a, .int .i64 x1, .int .i64 e, .int .i64 x3] 60)) nq = w3 at *
            clear dq dg fg hx3 HN
            go_still_tail 16, (by kernel_rfl)
            change wpList _ _ _ _ _ (World.drew w3)
            go_wp2_with fail
            go_roundw
            case rel =>
              have hmin : (if (1000000000000001 : Int) < nx e + now a then 1000000000000001 else nx e + now a) = min (nx e + now a) 1000000000000001 := by
                rw [Int.min_def]
                split <;> split <;> omega
              rw [hmin]
              refine ⟨q + 1, by omega, by go_num, ?_, ?_, ?_, ?_, ?_⟩
              · have h5 := BArr.set_ (w := w3.drew) H3.out.1 e (min (nx e + now a) 1000000000000001)
                have hadd : (fun i => if i = e then min (nx e + now a) 1000000000000001 else nx i) = pstep (under ns k) (ts.take (q + 1)) now := by
                  rw [H3.out.2.2.2.2.1, addP, if_pos HU.out]
                  funext i
                  simp only [addT, Int.toNat_natCast]
                  by_cases hie : i = e
                  · subst hie; rfl
                  · rw [if_neg hie, if_neg hie]
                rw [← hadd]
                exact h5
              · exact IWr.far (w := w3.drew) H3.out.2.1 (Nat.le_refl _) _
              · exact Blk.far (w := w3.drew) H3.out.2.2.1 (by show w.heap.size ≠ g; omega) _
              · exact (H3.out.2.2.2.1.drew).setCell (by show w.heap.size ≤ g; omega) _
              · simp
                omega
            case measure => simp [intOf]; omega
          · obtain ⟨bR, oR, rfl, -, hcR⟩ := (hR.below HN.out.2.2.2.1 (Nat.le_refl _)) (by have : ns.length ≠ 0 := fun h => hns (List.eq_nil_of_length_eq_zero h); omega)
            have hmn' : m ≤ nn := hmn.resolve_left hns
            replace hcR := hcR k (by omega)
            have hd : decide (0 < nn) = true := decide_eq_true (by omega)
            have hk3 : (k : Int) < (nn : Int) := by omega
            have hun : under ns k ((a : Int), x1, (e : Int), x3) = decide (x1 = ns.getD k 0) := by
              unfold under
              have : ns.isEmpty = false := by cases ns with
                | nil => exact absurd rfl hns
                | cons _ _ => rfl
              rw [this]
              rfl
            generalize ns.getD k 0 = y at hcR hun
            have HU0 := Lib.hid hun
            clear hun hA hok hR hmn hns
            go_wp2_with fail
            go_quiet (fail)
            clear hcR
            go_wp2_with fail
            · have hne : ¬ x1 = y := by intro h; simp_all
              have hx3 : Ext (wr.alloc (.cells #[.int .i64 a, .int .i64 x1, .int .i64 e, .int .i64 x3] 60)) (World.drewN (wr.alloc (.cells #[.int .i64 a, .int .i64 x1, .int .i64 e, .int .i64 x3] 60)) nq) := (Ext.refl _).drewN _
              have hst : pstep (under ns k) (ts.take (q + 1)) now = nx := by
                rw [HN.out.2.2.2.2.1, addP, if_neg (by rw [HU0.out, decide_eq_false hne]; decide)]
              refine ⟨⟨q + 1, by omega, by go_num, ?_, HN.out.2.1.ext hx3, HN.out.2.2.1.ext hx3, HN.out.2.2.2.1.trans (hx3.below HN.out.2.2.2.1.size), by have := (hx3.below (Nat.le_refl _)).size; simp at this ⊢; omega⟩, by simp [intOf]; omega⟩
              rw [hst]
              exact HN.out.1.ext hx3
            · have heq : x1 = y := by simp_all
              have HU := Lib.hid (HU0.out.trans (decide_eq_true heq))
              clear heq
              have hx3 : Ext (wr.alloc (.cells #[.int .i64 a, .int .i64 x1, .int .i64 e, .int .i64 x3] 60)) (World.drewN (wr.alloc (.cells #[.int .i64 a, .int .i64 x1, .int .i64 e, .int .i64 x3] 60)) nq) := (Ext.refl _).drewN _
              have e0 := ((Blk.new wr 60 #[.int .i64 a, .int .i64 x1, .int .i64 e, .int .i64 x3]).ext hx3).rd 0 rfl
              have e2 := ((Blk.new wr 60 #[.int .i64 a, .int .i64 x1, .int .i64 e, .int .i64 x3]).ext hx3).rd 2 rfl
              have dg3 := (HN.out.1.ext hx3).cell he
              have fg3 := (HN.out.1.ext hx3).frozen e
              have dq3 : (World.drewN (wr.alloc (.cells #[.int .i64 a, .int .i64 x1, .int .i64 e, .int .i64 x3] 60)) nq).cell? ⟨bq, oq + a, none⟩ = some (.int .i64 (now a)) := dq
              have H3 := Lib.hid (And.intro (HN.out.1.ext hx3) (And.intro (HN.out.2.1.ext hx3) (And.intro (HN.out.2.2.1.ext hx3) (And.intro (HN.out.2.2.2.1.trans (hx3.below HN.out.2.2.2.1.size)) (And.intro HN.out.2.2.2.2.1 HN.out.2.2.2.2.2)))))
              have S3 : g + 1 ≤ (World.drewN (wr.alloc (.cells #[.int .i64 a, .int .i64 x1, .int .i64 e, .int .i64 x3] 60)) nq).heap.size := by have := (hx3.below (Nat.le_refl _)).size; simp at this ⊢; omega
              generalize World.drewN (wr.alloc (.cells #[.int .i64 a, .int .i64 x1, .int .i64 e, .int .i64 x3] 60)) nq = w3 at *
              clear dq dg fg hx3 HN
              go_still_tail 16, (by kernel_rfl)
              change wpList _ _ _ _ _ (World.drew w3)
              go_wp2_with fail
              go_roundw
              case rel =>
                have hmin : (if (1000000000000001 : Int) < nx e + now a then 1000000000000001 else nx e + now a) = min (nx e + now a) 1000000000000001 := by
                  rw [Int.min_def]
                  split <;> split <;> omega
                rw [hmin]
                refine ⟨q + 1, by omega, by go_num, ?_, ?_, ?_, ?_, ?_⟩
                · have h5 := BArr.set_ (w := w3.drew) H3.out.1 e (min (nx e + now a) 1000000000000001)
                  have hadd : (fun i => if i = e then min (nx e + now a) 1000000000000001 else nx i) = pstep (under ns k) (ts.take (q + 1)) now := by
                    rw [H3.out.2.2.2.2.1, addP, if_pos HU.out]
                    funext i
                    simp only [addT, Int.toNat_natCast]
                    by_cases hie : i = e
                    · subst hie; rfl
                    · rw [if_neg hie, if_neg hie]
                  rw [← hadd]
                  exact h5
                · exact IWr.far (w := w3.drew) H3.out.2.1 (Nat.le_refl _) _
                · exact Blk.far (w := w3.drew) H3.out.2.2.1 (by show w.heap.size ≠ g; omega) _
                · exact (H3.out.2.2.2.1.drew).setCell (by show w.heap.size ≤ g; omega) _
                · simp
                  omega
              case measure => simp [intOf]; omega
        · obtain rfl : q = n := by omega
          rw [List.take_of_length_le (by omega)] at hg
          have HG := Lib.hid hg
          have HB := Lib.hid hb
          have HW := Lib.hid hbw
          clear hA hok hR hmn hg hQ hb hbw
          go_wp2_with fail
          go_roundw
          case rel =>
            have e1 : npow ts ns f (k + 1) = pstep (under ns k) ts now := HST.out
            refine ⟨k + 1, by omega, by go_num, ⟨_, _, rfl, ?_⟩, HB.out, HW.out, by omega⟩
            rw [e1]
            exact HG.out.iwr (by omega)
          case measure => simp [intOf]; omega
    · obtain rfl : k = m := by omega
      clear hA hok hR hmn
      go_wp2_with fail
      go_ret
      exact ⟨Q, capQ, rfl, HW.out, HQ.out.low (by omega)⟩
end Go.Proofs.Ytdkodmmbgflijaa
