/- The shifts that keep: the program's side. -/
import Derived.Test.YtjoaoimebdkpaaaTo7
namespace Go.Proofs.Ytjoaoimebdkpaaa
set_option linter.unusedVariables false
set_option linter.unusedSimpArgs false
open Go.RowKit Go.Shelf

attribute [local go_sem] Oper.semAt_some

theorem wpListIn_append_any {F : Fence} {N : Nat} {P : Program} (w : World) {ops : Array Oper} {rest : List Oper} {o : Oper} {a : Act} {Q : Exit → Act → World → Prop} (hgd : o.guard = none) (s x : Operand) (t : TypeId)
    (ho : o.op = .call { callee := .builtin .append, args := #[s, x], argTypes := #[t, t] })
    (base : Nat) (e : TypeId) (i : TypeInfo) (z : Value) (size bytes : Nat) (ht : P.underlying t = some (.slice e)) (hi : P.info? e = some i) (hz : i.zero = some z)
    (hsize : i.size = size) (hby : i.bytes = bytes) (hzs : z.cells.size = size) (hsz : 0 < size)
    (v : Value) (n : Nat) (xs : List Value) (hs : a.eval s = v) (hown : w.ownsRow base e size v n xs)
    (B : Nat) (A : Option Addr) (m c : Nat) (news : List Value) (hx : a.eval x = .slice A m c) (hr : Reads w B size A m news) (h1 : ∀ u ∈ news, u.oneCell' = true)
    (h63 : n + m ≤ maxLen) (hbytes : (n + m) * bytes ≤ 140737488355328) (hbase : base ≤ w.heap.size)
    (h : ∀ v' w', w'.ownsRow base e size v' (n + m) (xs ++ news) → w.grownBy w' v.ownBlock → (v'.ownBlock = v.ownBlock ∨ v'.ownBlock = some w.heap.size) → wpListIn F N P ops Q rest (a.put o.dst v') w') : wpListIn F N P ops Q (o :: rest) a w := by
  refine wpListIn_plain hgd fun K hK => ?_
  obtain ⟨v', w', hrun, h2, h3, h4⟩ := run_append_any (P := P) w base t o.type e i z size bytes ht hi hz hsize hby hzs hsz v n xs hown B A m c news hr h1 h63 hbytes hbase
  unfold Oper.wpIn
  refine ⟨?_, ?_⟩
  · simp [Oper.about, ho, resolve, Target.leads, Sem.run_pure]
  · rw [Oper.semAt_plain F _ _ (by rw [ho]; intro c hc'; cases hc')]
    simp [execOp, ho, resolve, invoke, builtin, hs, hx, hrun, Result.andThen]
    exact hK _ _ (h v' w' h2 h3 h4)
theorem OwnRR.keepB {W W' : World} {base : Nat} {v : Value} {rs : List (List Int)} (h : OwnRR W base v rs) (hs : W.heap.size ≤ W'.heap.size) (hk : ∀ b t cs, base ≤ b → Blk W b t cs → Blk W' b t cs) : OwnRR W' base v rs := by
  obtain ⟨Q, q, ho, hr, ha⟩ := h
  refine ⟨Q, q, ⟨ho.1, ?_⟩, fun j hj => ?_, ha⟩
  · rcases ho.2 with h0 | ⟨g, cap, cur, hv, hb, hg, r⟩
    · exact .inl h0
    · exact .inr ⟨g, cap, cur, hv, hb, hk g _ _ hb hg, r⟩
  · obtain ⟨h1, h2, h3⟩ := hr j hj
    refine ⟨h1, fun h0 => ?_, h3⟩
    obtain ⟨b, off, t, cs, e, hl, hh, hb, hc⟩ := h2 h0
    exact ⟨b, off, t, cs, e, hl, by omega, hk b t cs hl hb, hc⟩
theorem OwnRR.succ {W : World} {base : Nat} {v : Value} {rs : List (List Int)} {xs : List Int} (h : OwnRR W base v (rs ++ [xs])) : ∃ g cap, v = .slice (some ⟨g, 0, none⟩) (rs.length + 1) cap ∧ base ≤ g := by
  obtain ⟨Q, q, ho, -, -⟩ := h
  rw [show (rs ++ [xs]).length = rs.length + 1 by simp] at ho
  obtain ⟨g, cap, rfl⟩ := ownsRow_succ ho
  exact ⟨g, cap, rfl, (ho.lt g rfl).1⟩
theorem blk_kept {W W' : World} {row : Option Nat} {b : Nat} {t : TypeId} {cs : Array Value} (h : Blk W b t cs) (hg : W.grownBy W' row) (hr : ∀ r, row = some r → ∃ o : Obj, W.heap[r]? = some o ∧ o.isCells = false) : Blk W' b t cs := by
  refine (hg.block b h.lt fun e2 => ?_).trans h
  obtain ⟨o, ho, hc⟩ := hr b e2.symm
  have h6 : W.heap[b]? = _ := h
  rw [h6] at ho
  cases ho
  cases hc
/-- 'append(rows, row)' onto a list of rows that the call owns, in a round. -/
theorem wpListIn_pushR {F : Fence} {N : Nat} {w : World} {ops : Array Oper} {rest : List Oper} {o : Oper} {a : Act} {K : Exit → Act → World → Prop} (hgd : o.guard = none) (s x : Operand)
    (ho : o.op = .call { callee := .builtin .append, args := #[s, x], argTypes := #[25, 25] })
    (base : Nat) (v : Value) (rs : List (List Int)) (hs : a.eval s = v) (w0 : World) (h : OwnRR w0 base v rs) (hb : Below w0.heap.size w0 w)
    (g : Nat) (A : Option Addr) (n cap : Nat) (xs : List Int) (hx : a.eval x = .slice (some ⟨g, 0, none⟩) 1 1) (hbk : Blk w g 51 #[.slice A n cap])
    (hrow : IWr w w0.heap.size w.heap.size A xs) (hn : xs.length = n) (hcap : n ≤ cap) (h63 : rs.length + 1 ≤ 65536) (hbase : base ≤ w0.heap.size)
    (hK : ∀ v' w', OwnRR w' base v' (rs ++ [xs]) → w.grownBy w' v.ownBlock → (∀ k, v.ownBlock = some k → base ≤ k ∧ k < w0.heap.size) → Below base w w' → wpListIn F N Try.prog ops K rest (a.put o.dst v') w') :
    wpListIn F N Try.prog ops K (o :: rest) a w := by
  obtain ⟨Q, q, hown, hr, ha⟩ := h
  obtain ⟨i0, hi, hz0, hz1, hz2⟩ := info_parts info_row
  refine wpListIn_append_any w hgd s x _ ho base 51 i0 _ 1 24 Try.underlying25 hi hz0 hz1 hz2 rfl (by decide) v rs.length (rvs Q q rs) hs (own_belowA hown hb) w.heap.size _ 1 _ [.slice A n cap] hx ⟨rfl, fun _ => ⟨_, rfl, hbk.lt, fun j u hu => ?_⟩⟩ (by simp [Value.oneCell']) (by unfold maxLen; omega) (by omega) (Nat.le_trans hbase hb.size) ?_
  · have := hbk.cell j
    rw [Go.WideShapes.add_plain, Nat.zero_add]
    rw [this]
    rw [← hu]
    simp
  · intro v' w' h1 h2 h3
    exact hK v' w' (OwnRR.pushed hr ha hown hb hrow hn hcap hbase h1 h2 h3) h2 (fun k hk => hown.lt k hk) ((Below.refl base w).grown h2 (Nat.le_trans hbase hb.size) (fun j hj => (hown.lt j hj).1))

theorem OwnRR.cells {W : World} {base k : Nat} {v : Value} {rs : List (List Int)} (h : OwnRR W base v rs) (hk : v.ownBlock = some k) : ∃ o : Obj, W.heap[k]? = some o ∧ o.isCells = true := by
  obtain ⟨Q, q, ho, -, -⟩ := h
  rcases ho.2 with ⟨rfl, _⟩ | ⟨g, cap, cur, rfl, hb, hg, r⟩
  · cases hk
  · simp [Value.ownBlock] at hk
    subst hk
    exact ⟨_, hg, rfl⟩
/-- What stands in the box of those found so far. -/
def KeptI (lo bx bt : Nat) (B : Option Addr) (m d : Nat) (rs : List (List Int)) (k : Nat) (W : World) : Prop :=
  (∃ v, Boxed W bx 25 v ∧ OwnRR W lo v (keptUp rs k)) ∧ Blk W bt 25 #[.slice B m d]
theorem keptI_own (L lo bx bt : Nat) (B : Option Addr) (m d : Nat) (rs : List (List Int)) : OwnFrom L (KeptI lo bx bt B m d rs) := fun k W W' row h hg hr => by
  have hr' := fun r e => (hr r e).2
  obtain ⟨⟨v, hb, ho⟩, ht⟩ := h
  exact ⟨⟨v, boxed_kept' hb hg hr', ho.keepB hg.size fun b t cs _ hbk => blk_kept hbk hg hr'⟩, blk_kept ht hg hr'⟩

set_option maxRecDepth 100000 in
set_option maxHeartbeats 4000000 in
theorem shiftsKept_in (mm : Nat) (h1 : 3 ≤ mm) (B : Option Addr) (m d wd : Nat) (rs : List (List Int)) (w : World) (hm : 1 ≤ m ∧ m ≤ 8) (hmd : m ≤ d) (hw : 1 ≤ wd ∧ wd ≤ 8) (hsh : Shape m wd rs) (hB : IRR w w.heap.size B rs) :
    CallsIn Fence.wide mm Try.prog 74 #[.slice B m d] w fun e w' => ∃ A cap, e = .returned (.slice A (keptUp rs (m * wd)).length cap) ∧ IWW w' w.heap.size w'.heap.size A (keptUp rs (m * wd)) ∧ Below w.heap.size w w' := by
  have h2 : 1 ≤ mm := by omega
  have h3 : 1 ≤ mm - 1 := by omega
  refine callsIn_of_wp_marks Try.func74 rfl trivial ?_ rfl
  simp only [Try.ntmps74, List.size_toArray, List.length_cons, List.length_nil, Nat.reduceAdd, Nat.reduceSub, Array.replicate_succ, Array.replicate_zero, List.push_toArray, List.append_toArray, List.nil_append, List.cons_append]
  have q0 := (Blk.new w 25 #[.slice B m d]).rd 0 rfl
  have q1 := ((Blk.new w 25 #[.slice B m d]).ext ((Ext.refl _).alloc (Obj.cells #[.slice none 0 0] 25))).rd 0 rfl
  gi_wp2
  refine ⟨trivial, (shiftsOf_in _ B m d _).mono ?_⟩
  rintro e w3 ⟨rfl, rfl⟩
  clear q0 q1
  gi_wp2
  obtain ⟨W3, hW3⟩ : ∃ W3, (((w.alloc (Obj.cells #[.slice B m d] 25)).alloc (Obj.cells #[.slice none 0 0] 25)).alloc (Obj.cells #[.slice B m d] 25)) = W3 := ⟨_, rfl⟩
  have hs3 : W3.heap.size = w.heap.size + 3 := by rw [← hW3]; simp
  have hbel : Below w.heap.size w W3 := by rw [← hW3]; exact (((((Ext.refl w).alloc _).alloc _)).alloc _).below (Nat.le_refl _)
  have bT : Blk W3 w.heap.size 25 #[.slice B m d] := by rw [← hW3]; exact (Blk.new w _ _).ext (((Ext.refl _).alloc _).alloc _)
  have bO : Boxed W3 (w.heap.size + 1) 25 (.slice none 0 0) := by
    rw [← hW3]
    have := (Boxed.new (w.alloc (Obj.cells #[.slice B m d] 25)) 25 (.slice none 0 0)).alloc (Obj.cells #[.slice B m d] 25)
    simpa using this
  have bS : Blk W3 (w.heap.size + 1 + 1) 25 #[.slice B m d] := by
    rw [← hW3]
    have := Blk.new ((w.alloc (Obj.cells #[.slice B m d] 25)).alloc (Obj.cells #[.slice none 0 0] 25)) 25 #[.slice B m d]
    simpa using this
  try rw [World.size_alloc]
  try rw [World.size_alloc]
  try rw [hW3]
  clear hW3
  refine rangeAll h2 (gf := 162) (lb := #[.pointer (some ⟨w.heap.size + 1 + 1, 0, none⟩)]) rfl (enters_of Try.func162 (by kernel_rfl) rfl)
    (shifts_in (mm - 1) w.heap.size (w.heap.size + 1 + 1) B m d wd rs W3 h3 hm hmd hw hsh.1 hsh.2 hbel.size bS (hB.below hbel (Nat.le_refl _)))
    (fun b hb => by rcases hb with h | h <;> omega) (fun _ => rfl)
    (fun k W => KeptI W3.heap.size (w.heap.size + 1) w.heap.size B m d rs k W ∧ Below w.heap.size W3 W) ((keptI_own _ _ _ _ _ _ _ _).and (ownFrom_below (by omega) (by omega)))
    (fun k x a' W => ∃ Bx, W3.heap.size ≤ Bx ∧ Blk W Bx 122 #[.int .i64 (x.a : Int), .int .i64 (x.b : Int)] ∧ a' = { tmps := #[.slice B m d, .pointer (some ⟨w.heap.size, 0, none⟩), .slice none 0 0, .pointer (some ⟨w.heap.size + 1, 0, none⟩), .pointer (some ⟨Bx, 0, none⟩), .slice x.A m x.cap, .slice B m d, .func (.func 162) #[] #[.pointer (some ⟨w.heap.size + 1 + 1, 0, none⟩)], .agg #[.int .i64 (x.a : Int), .int .i64 (x.b : Int)], .slice x.A m x.cap, undef, undef, undef, undef, undef, undef, undef, undef, undef, undef, undef, undef, undef], defers := [] } ∧ (KeptI W3.heap.size (w.heap.size + 1) w.heap.size B m d rs k W ∧ Below w.heap.size W3 W) ∧ ShIs W3.heap.size m wd rs k x W)
    (fun k x a' s W W' row h hg hr => by
      obtain ⟨Bx, hBx, hbk, ha, hk, hs⟩ := h
      exact ⟨Bx, hBx, blk_kept hbk hg (fun r e => (hr r e).2), ha, ((keptI_own _ _ _ _ _ _ _ _).and (ownFrom_below (by omega) (by omega))) k W W' row hk hg hr, shIs_own _ _ _ _ _ _ _ hs hg hr⟩)
    ⟨⟨⟨_, bO, OwnRR.nil _ _⟩, bT⟩, Below.refl _ _⟩ ?assign ?body ?done
  case assign =>
    intro l k x W K hk hi hx hK
    unfold Sh.enc
    gi_wp2
    have hg := World.grownBy_alloc W (Obj.cells #[.int .i64 (x.a : Int), .int .i64 (x.b : Int)] 122) none
    exact hK _ _ ⟨W.heap.size, hi.2.size, Blk.new W _ _, rfl, ((keptI_own W3.heap.size _ _ _ _ _ _ _).and (ownFrom_below (by omega) (by omega))) k W _ none hi hg (fun r e => by cases e), shIs_own 0 _ _ _ _ _ _ hx hg (fun r e => by cases e)⟩ ((KeepsOthers.alloc _ _).from _) (fun b hb => Below.heap_alloc W _ b (by have := hi.2.size; rcases hb with h | h <;> omega))
  case body =>
    rintro l k ⟨xa, xb, xA, xc⟩ a' W hk ⟨Bx, hBx, hbk, rfl, ⟨⟨⟨v, bx, ho⟩, bt⟩, hb⟩, hx1, hxa, hxb, hxw⟩
    simp only at hx1 hxa hxb hxw hbk
    have hshx := hsh.shR xb hxa
    obtain ⟨b4, o4, rfl⟩ := iww_some hxw (by rw [hshx.1]; omega)
    have hwd0 : (rs.getD 0 []).length = wd := hsh.2 0 (by omega)
    have hsz := hb.size
    have hc := bx.cell
    have hf := bx.frozen
    have t0 := bt.rd 0 rfl
    have y0 := hbk.rd 0 rfl
    have y1 := hbk.rd 1 rfl
    have hcmp := fun W' (hW : W' = W) => compareRows_any (some ⟨b4, o4, none⟩) B m xc d (shR xa xb rs) rs W' (by omega) hshx.1 hsh.1 (fun j hj => by rw [hshx.2 j hj]; omega) (fun j hj => by rw [hsh.2 j hj]; omega) (by rw [hW]; exact hxw.irr) (by rw [hW]; exact (hB.below (hbel.trans hb) (Nat.le_refl _)).more (Nat.le_trans hbel.size hsz))
    have hy := keptUp_yes (rs := rs) (a := xa) (b := xb) (by rw [hwd0]; exact hxb)
    have hn := keptUp_no (rs := rs) (a := xa) (b := xb) (by rw [hwd0]; exact hxb)
    rw [hwd0, hx1] at hy hn
    have hz0 := cmpLL_zero (r := shR xa xb rs) (s := rs)
    have hkl := keptUp_le rs k
    have hmw : m * wd ≤ 8 * 8 := Nat.mul_le_mul (by omega) (by omega)
    generalize cmpLL (shR xa xb rs) rs = z at hcmp hz0
    have HC := Lib.hid hcmp
    have HY := Lib.hid hy
    have HN := Lib.hid hn
    have HZ := Lib.hid hz0
    have HO := Lib.hid ho
    clear hcmp hy hn hxw hz0 ho
    by_cases hz : z = 0
    · have hzd : (z == 0) = true := by simp [hz]
      have hzd2 : decide (z = 0) = true := by simp [hz]
      have HE := Lib.hid (HY.out (HZ.out.1 hz))
      subst hz
      clear hzd hzd2
      gi_wp2
      refine ⟨trivial, fun _ => by omega, (CallsIn.inRound l (callsIn_wide.2 (HC.out _ rfl))).mono ?_⟩
      rintro e w' ⟨rfl, rfl⟩
      gi_wp2_with (gi_at_builtin; refine wpListIn_pushR rfl _ _ rfl W3.heap.size v (keptUp rs k) rfl w' HO.out (((Below.refl _ w').alloc (Nat.le_refl _) _).alloc (by simp) _) (w'.heap.size + 1) (some ⟨w'.heap.size, 0, none⟩) 2 2 [(xa : Int), (xb : Int)] rfl (by have := Blk.new (w'.alloc (Obj.cells #[.int .i64 (xa : Int), .int .i64 (xb : Int)] 2)) 51 #[.slice (some ⟨w'.heap.size, 0, none⟩) 2 2]; rw [World.size_alloc] at this; exact this) (((iwr_new (w := w') (Blk.new w' 2 #[.int .i64 (xa : Int), .int .i64 (xb : Int)]) (by simp)).ext ((Ext.refl _).alloc _) |>.up (by simp)).low (Nat.le_refl _)) rfl (Nat.le_refl _) (by omega) hsz ?_; intro v' w1 p1 p2 p3 p4; obtain ⟨g', cap', rfl, hgb⟩ := p1.succ; have bx1 := ((bx.alloc _).alloc _).kept p2 (fun e => by have := p3 _ e.symm; omega); have hc1 := bx1.cell; have hf1 := bx1.frozen)
      have hs1 := p2.size
      simp only [World.size_alloc] at hs1
      refine ⟨⟨by simp; omega, fun j o hj ho hcells => ?_⟩, fun b2 hb2 => ?_, ⟨⟨_, bx1.set _, ?_⟩, ?_⟩, ?_⟩
      · have hlt := (Array.getElem?_eq_some_iff.1 ho).1
        have hown : some j ≠ v.ownBlock := fun e => by
          obtain ⟨o2, h6, h7⟩ := HO.out.cells e.symm
          rw [ho] at h6
          cases h6
          rw [hcells] at h7
          cases h7
        exact (Below.heap_setCell w1 _ _ j (by show j ≠ w.heap.size + 1; omega)).trans ((p2.block j (by simp; omega) hown).trans (((Below.heap_alloc _ _ j (by simp; omega)).trans (Below.heap_alloc _ _ j hlt)).trans ho))
      · have hb3 : b2 < w'.heap.size ∧ b2 ≠ w.heap.size + 1 ∧ b2 < W3.heap.size := by rcases hb2 with h | h <;> omega
        exact (Below.heap_setCell w1 _ _ b2 (by show b2 ≠ w.heap.size + 1; omega)).trans ((p2.block b2 (by simp; omega) (fun e => by have := p3 _ e.symm; omega)).trans ((Below.heap_alloc _ _ b2 (by simp; omega)).trans (Below.heap_alloc _ _ b2 hb3.1)))
      · rw [HE.out]
        exact p1.keepB (by simp) fun b t cs hbb hbk2 => (Below.heap_setCell w1 _ _ b (by show b ≠ w.heap.size + 1; omega)).trans hbk2
      · exact (Below.heap_setCell w1 _ _ _ (by show w.heap.size ≠ w.heap.size + 1; omega)).trans ((p2.block _ (by simp; omega) (fun e => by have := p3 _ e.symm; omega)).trans (((Below.heap_alloc _ _ _ (by simp; omega)).trans (Below.heap_alloc _ _ _ (by omega))).trans bt))
      · exact (hb.trans ((((Below.refl w.heap.size w').alloc (by omega) _).alloc (by simp; omega) _).trans (p4.mono (by omega)))).setCell (p := ⟨w.heap.size + 1, 0, none⟩) (by show w.heap.size ≤ w.heap.size + 1; omega) _
    · have hzd : (z == 0) = false := by simp [hz]
      have hzd2 : decide (z = 0) = false := by simp [hz]
      have HE := Lib.hid (HN.out (fun e => hz (HZ.out.2 e)))
      gi_wp2
      refine ⟨trivial, fun _ => by omega, (CallsIn.inRound l (callsIn_wide.2 (HC.out _ rfl))).mono ?_⟩
      rintro e w' ⟨rfl, rfl⟩
      gi_wp2
      exact ⟨KeepsFrom.refl _ _, fun b2 hb2 => rfl, ⟨⟨_, bx, by rw [HE.out]; exact HO.out⟩, bt⟩, hb⟩
  case done =>
    rintro D W hD ⟨⟨⟨v, bx, ho⟩, bt⟩, hb⟩ hK
    obtain ⟨A9, c9, rfl, -, hiw⟩ := ho.done
    have hc := bx.cell
    gi_wp2
    refine ⟨by simp, .inl ⟨_, _, rfl, run_takeDeferred hK, ?_⟩⟩
    have hb4 := belowK_b (n₀ := w.heap.size) (w := W3) (by omega) W D _ (.deferred none) hD hK rfl rfl
    have hfin : Below w.heap.size w (W.putObj D (.deferred none)) := hbel.trans (hb.trans hb4)
    refine ⟨_, results_tmp rfl _ _ _, A9, c9, rfl, ?_, hfin⟩
    exact (iww_kept' hiw (grownBy_putObj' W D _) (fun r e => by cases e; exact ⟨_, hK, rfl⟩)).loose_ (by omega) (by simp)
end Go.Proofs.Ytjoaoimebdkpaaa
