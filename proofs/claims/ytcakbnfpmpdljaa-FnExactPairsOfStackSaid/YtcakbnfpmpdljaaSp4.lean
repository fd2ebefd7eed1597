/- The pairs of a stack: the model's side. -/
import Derived.Test.YtcakbnfpmpdljaaSp3
import Derived.Test.YtcakbnfpmpdljaaSt6
import Derived.Test.YtcakbnfpmpdljaaSp0
import Derived.Deep.RegionHeld3
import Derived.Lib.Hide
namespace Go.Proofs.Ytcakbnfpmpdljaa
set_option linter.unusedVariables false
set_option linter.unusedSimpArgs false
open Go.RowKit Go.Sort

/-- 'append(rows, row)' onto a list of rows that the call owns, inside a region that draws its order: the row lies in a block of its own. -/
theorem step_pushE1 {w : World} {ops : Array Oper} {o : Oper} {a : Act} {K : Act → World → Prop} {Q : Exit → Act → World → Prop} {E : Prop} (hgd : o.guard = none) (s x : Operand)
    (ho : o.op = .call { callee := .builtin .append, args := #[s, x], argTypes := #[38, 38] })
    (base : Nat) (v : Value) (es : List El) (hs : a.eval s = v) (w0 : World) (h : OwnE w0 base v es) (hb : Below w0.heap.size w0 w)
    (g : Nat) (A1 : Option Addr) (xs1 : List Int) (hx : a.eval x = .slice (some ⟨g, 0, none⟩) 1 1) (hbk : Blk w g 49 #[.slice A1 2 2])
    (hr1 : IWr w w0.heap.size w.heap.size A1 xs1) (hl1 : xs1.length = 2) (h63 : es.length + 1 ≤ 1048576) (hbase : base ≤ w0.heap.size)
    (hK : ∀ v' w', OwnE w' base v' (es ++ [⟨A1, 2, xs1⟩]) → Below base w w' → w.grownBy w' v.ownBlock → K (a.put o.dst v') w') :
    if Region.wanted o (yielded ops a.tmps) = true then Oper.wp Try.prog o a w K Q else E := by
  obtain ⟨i0, hi, hz0, hz1, hz2⟩ := info_parts info_row
  have hsz := hb.size
  refine step_append_any w hgd s x _ ho base 49 i0 _ 1 24 Try.underlying38 hi hz0 hz1 hz2 rfl (by decide) v es.length (es.map El.v) hs (own_belowA h.1 hb) w.heap.size _ 1 _ [.slice A1 2 2] hx ⟨rfl, fun _ => ⟨_, rfl, hbk.lt, fun j u hu => ?_⟩⟩ (by intro u hu; simp at hu; rcases hu with rfl; rfl) (by unfold maxLen; omega) (by omega) (by omega) fun v' w' h2 h3 h4 => ?_
  · have := hbk.cell j
    rw [Go.WideShapes.add_plain, Nat.zero_add]
    rw [this]
    rw [← hu]
    simp
  · have hv1 : Value.slice A1 2 2 = El.v ⟨A1, 2, xs1⟩ := by simp [El.v, hl1]
    refine hK v' w' (h.pushed hb (news := [⟨A1, 2, xs1⟩]) (fun e he => ?_) (by simp) hbase ?_ h3 h4) ((Below.refl base w).grown h3 (by omega) (fun j hj => (h.1.lt j hj).1)) h3
    · simp only [List.mem_cons, List.not_mem_nil, or_false] at he
      rcases he with rfl
      exact ⟨by simp [hl1], hr1⟩
    · simp only [List.map_cons, List.map_nil, List.length_cons, List.length_nil, Nat.zero_add, ← hv1]
      exact h2
theorem OwnE.made (w : World) (base : Nat) (hb : base ≤ w.heap.size) : OwnE (w.alloc (.cells #[] 49)) base (.slice (some ⟨w.heap.size, 0, none⟩) 0 0) [] :=
  ⟨World.ownsRow_made (base := base) (e := 49) (size := 1) w #[] 0 hb (by unfold maxLen; omega) rfl, fun e he => by simp at he, List.Pairwise.nil⟩
theorem prs_range {ts us : List Tl} {c d : Int} (hc : c ≤ 6) (hd : d ≤ 6) (h : ∀ t ∈ ts, tileOk c t = true) (h' : ∀ t ∈ us, tileOk d t = true) : ∀ x ∈ prs ts us, 0 ≤ x ∧ x < 96 := fun x hx => by
  have := sortI_mem.1 hx
  simp only [codes, List.mem_flatMap] at this
  obtain ⟨p, hp, hq⟩ := this
  have h1 := h p.1 (stk_mem hp).1
  have h2 := h' p.2 (stk_mem hp).2.1
  simp only [tileOk, decide_eq_true_eq] at h1 h2
  simp only [List.mem_cons, List.not_mem_nil, or_false] at hq
  rcases hq with rfl | rfl
  · unfold cw; omega
  · unfold ce; omega
theorem prs_len {ts us : List Tl} : (prs ts us).length ≤ 2 * (ts.length * us.length) := by
  have h1 := sortI_len (codes (stk ts us))
  have h2 := codes_len (stk ts us)
  have h3 := stk_len ts us
  unfold prs
  omega
theorem imap_succ (l : List Int) {k : Nat} (hk : k < l.length) : (l.take (k + 1)).map dec = (l.take k).map dec ++ [dec (l.getD k 0)] := by
  rw [itake_snoc l hk, List.map_append]
  rfl
theorem blk_at_one (W : World) (o : Obj) (t : TypeId) (cs : Array Value) : Blk ((W.alloc o).alloc (.cells cs t)) (W.heap.size + 1) t cs := by have := Blk.new (W.alloc o) t cs; simpa using this

theorem IWW.loose {w : World} {lo lo' hi hi' : Nat} {A : Option Addr} {rs : List (List Int)} (h : IWW w lo hi A rs) (hl : lo' ≤ lo) (hh : hi ≤ hi') : IWW w lo' hi' A rs := fun h0 => by
  obtain ⟨b, off, t, cs, Q, q, e, h1, h2, hb, hc, ha⟩ := h h0
  refine ⟨b, off, t, cs, Q, q, e, by omega, by omega, hb, fun k hk => ?_, ha⟩
  obtain ⟨c1, c2, c3, c4⟩ := hc k hk
  exact ⟨c1, c2, (c3.low hl).up hh, c4⟩
theorem iwr_at (W : World) {X : World} {o' : Obj} {x y : Int} (hx : Ext ((W.alloc (Obj.cells #[.int .i64 x, .int .i64 y] 2)).alloc o') X) : IWr X W.heap.size X.heap.size (some ⟨W.heap.size, 0, none⟩) [x, y] := by
  have h1 : Blk ((W.alloc (Obj.cells #[.int .i64 x, .int .i64 y] 2)).alloc o') W.heap.size 2 #[.int .i64 x, .int .i64 y] := (Blk.new W 2 #[.int .i64 x, .int .i64 y]).ext ((Ext.refl _).alloc _)
  have h2 := h1.ext hx
  exact iwr_new h2 h2.lt

set_option maxRecDepth 100000 in
set_option maxHeartbeats 2000000 in
theorem specPairsOfStack_0 (c0 : Int) (A0 : Option Addr) (n0 q0 : Nat) (ts : List Tl) (c1 : Int) (A1 : Option Addr) (n1 q1 : Nat) (us : List Tl) (w : World) (hn0 : n0 ≤ 1048576) (hl0 : ts.length = n0) (hA0 : TR w w.heap.size A0 ts) (hn1 : n1 ≤ 1048576) (hl1 : us.length = n1) (hA1 : TR w w.heap.size A1 us) (hs0 : isSet c0 ts = true) (hs1 : isSet c1 us = true) :
    Calls Try.prog 21 #[.agg #[.int .i64 c0, .slice A0 n0 q0], .agg #[.int .i64 c1, .slice A1 n1 q1]] w (fun e w' => ∃ R p, e = .returned (.tuple #[.slice R ((prs ts us).map dec).length p, .int .i64 0]) ∧ Below w.heap.size w w' ∧ IWW w' w.heap.size w'.heap.size R ((prs ts us).map dec)) := by
  have hle16 := isSet_len hs0
  have hle16' := isSet_len hs1
  have hpl := prs_len (ts := ts) (us := us)
  have hmm : ts.length * us.length ≤ 16 * 16 := Nat.mul_le_mul hle16 hle16'
  have HRG := Lib.hid (prs_range (isSet_col hs0).2 (isSet_col hs1).2 (ok_of_isSet hs0) (ok_of_isSet hs1))
  rw [hl0] at hle16
  rw [hl1] at hle16'
  have his0 : ∀ W, Below w.heap.size w W → Calls Try.prog 47 #[.agg #[.int .i64 c0, .slice A0 n0 q0]] W _ := fun W hW => l01Is_any c0 A0 n0 q0 ts W (by omega) hl0 ((hA0.below hW (Nat.le_refl _)).more hW.size)
  rw [hs0] at his0
  have HI0 := Lib.hid his0
  clear his0
  have his1 : ∀ W, Below w.heap.size w W → Calls Try.prog 47 #[.agg #[.int .i64 c1, .slice A1 n1 q1]] W _ := fun W hW => l01Is_any c1 A1 n1 q1 us W (by omega) hl1 ((hA1.below hW (Nat.le_refl _)).more hW.size)
  rw [hs1] at his1
  have HI1 := Lib.hid his1
  clear his1
  have hsp : ∀ W, Below w.heap.size w W → Calls Try.prog 61 #[.agg #[.int .i64 c0, .slice A0 n0 q0], .agg #[.int .i64 c1, .slice A1 n1 q1]] W _ := fun W hW => l04Pairs_any c0 A0 n0 q0 ts c1 A1 n1 q1 us W hl0 ((hA0.below hW (Nat.le_refl _)).more hW.size) hl1 ((hA1.below hW (Nat.le_refl _)).more hW.size) hs0 hs1
  have hpm : (prs ts us).length ≤ 512 := by omega
  generalize prs ts us = pp at *
  obtain ⟨m, hm⟩ : ∃ m, m = pp.length := ⟨_, rfl⟩
  rw [← hm] at hsp hpm
  have HM := Lib.hid hm
  have HSP := Lib.hid hsp
  clear hsp hm hA0 hA1 hs0 hs1 hpl hmm
  go_enter Try.func21, Try.ntmps21
  go_wp2_with fail
  have hx0 : Ext w ((w.alloc (Obj.cells #[.int .i64 c0, .slice A0 n0 q0] 29)).alloc (Obj.cells #[.int .i64 c1, .slice A1 n1 q1] 29)) := ((Ext.refl w).alloc _).alloc _
  have hb0 : Blk ((w.alloc (Obj.cells #[.int .i64 c0, .slice A0 n0 q0] 29)).alloc (Obj.cells #[.int .i64 c1, .slice A1 n1 q1] 29)) (w.heap.size) 29 #[.int .i64 c0, .slice A0 n0 q0] := by have := ((Blk.new w 29 #[.int .i64 c0, .slice A0 n0 q0]).ext (show Ext (w.alloc (Obj.cells #[.int .i64 c0, .slice A0 n0 q0] 29)) ((w.alloc (Obj.cells #[.int .i64 c0, .slice A0 n0 q0] 29)).alloc (Obj.cells #[.int .i64 c1, .slice A1 n1 q1] 29)) from (Ext.refl _).alloc _)); simpa using this
  have hb1 : Blk ((w.alloc (Obj.cells #[.int .i64 c0, .slice A0 n0 q0] 29)).alloc (Obj.cells #[.int .i64 c1, .slice A1 n1 q1] 29)) (w.heap.size + 1) 29 #[.int .i64 c1, .slice A1 n1 q1] := by have := (Blk.new (w.alloc (Obj.cells #[.int .i64 c0, .slice A0 n0 q0] 29)) 29 #[.int .i64 c1, .slice A1 n1 q1]); simpa using this
  have K0 := Lib.hid (hx0.below (Nat.le_refl _))
  have L0 := Lib.hid (show w.heap.size + 2 ≤ ((w.alloc (Obj.cells #[.int .i64 c0, .slice A0 n0 q0] 29)).alloc (Obj.cells #[.int .i64 c1, .slice A1 n1 q1] 29)).heap.size by simp)
  have B0_0 := Lib.hid hb0
  have B1_0 := Lib.hid hb1
  clear hx0 hb0 hb1
  generalize ((w.alloc (Obj.cells #[.int .i64 c0, .slice A0 n0 q0] 29)).alloc (Obj.cells #[.int .i64 c1, .slice A1 n1 q1] 29)) = w0 at *
  refine (HI0.out _ K0.out).mono ?_
  rintro e w1 ⟨rfl, hx⟩
  have K1 := Lib.hid (K0.out.trans ((hx.below (Nat.le_refl _)).mono K0.out.size))
  have L1 := Lib.hid (Nat.le_trans L0.out (hx.below (Nat.le_refl _)).size)
  have B0_1 := Lib.hid (B0_0.out.below (hx.below (Nat.le_refl _)) B0_0.out.lt)
  have B1_1 := Lib.hid (B1_0.out.below (hx.below (Nat.le_refl _)) B1_0.out.lt)
  clear K0 B0_0 B1_0 L0 hx
  have r0_0 := B0_1.out.rd 0 rfl
  have r0_1 := B0_1.out.rd 1 rfl
  have r1_0 := B1_1.out.rd 0 rfl
  have r1_1 := B1_1.out.rd 1 rfl
  go_wp2_with fail
  refine (HI1.out _ K1.out).mono ?_
  rintro e w2 ⟨rfl, hx⟩
  clear r0_0 r0_1 r1_0 r1_1
  have K2 := Lib.hid (K1.out.trans ((hx.below (Nat.le_refl _)).mono K1.out.size))
  have L2 := Lib.hid (Nat.le_trans L1.out (hx.below (Nat.le_refl _)).size)
  have B0_2 := Lib.hid (B0_1.out.below (hx.below (Nat.le_refl _)) B0_1.out.lt)
  have B1_2 := Lib.hid (B1_1.out.below (hx.below (Nat.le_refl _)) B1_1.out.lt)
  clear K1 B0_1 B1_1 L1 hx
  have r0_0 := B0_2.out.rd 0 rfl
  have r0_1 := B0_2.out.rd 1 rfl
  have r1_0 := B1_2.out.rd 0 rfl
  have r1_1 := B1_2.out.rd 1 rfl
  go_wp2_with fail
  refine (HSP.out _ K2.out).mono ?_
  rintro e w5 ⟨A5, cap5, rfl, hc5, hir5, hb5⟩
  have hk5 := K2.out.trans (hb5.mono K2.out.size)
  have K5 := Lib.hid hk5
  have HIR := Lib.hid hir5
  have hs5 := hk5.size
  have HO0 := Lib.hid (OwnE.made w5 w.heap.size hs5)
  have HB0 := Lib.hid (hk5.trans (((Ext.refl w5).alloc (Obj.cells #[] 49)).below hs5))
  have HIX := Lib.hid (hir5.ext ((Ext.refl w5).alloc (Obj.cells #[] 49)) (Nat.le_refl _))
  have HSF := Lib.hid (show Below w5.heap.size w5 (w5.alloc (Obj.cells #[] 49)) from ((Ext.refl w5).alloc _).below (Nat.le_refl _))
  clear hir5 hb5 hk5 r0_0 r0_1 r1_0 r1_1
  go_wp2_with fail
  go_loopw [7, 8] (fun v ii wr => ∃ (i : Nat) (es : List El), i ≤ m ∧ ii = .int .i64 i ∧ OwnE wr w5.heap.size v es ∧ es.map El.xs = (pp.take i).map dec ∧ Below w5.heap.size w5 wr) (fun _ ii _ => m - (intOf ii).toNat)
  case atStart => exact ⟨0, [], Nat.zero_le _, rfl, OwnE.made w5 w5.heap.size (Nat.le_refl _), rfl, HSF.out⟩
  case round =>
    clear HO0 HB0 HIX HSF
    obtain ⟨i, es, hi, rfl, hown, hes, hb⟩ := hrel
    have HO := Lib.hid hown
    have HES := Lib.hid hes
    have HBW := Lib.hid hb
    have hszw := hb.size
    have heslen : es.length ≤ 512 := by
      have := congrArg List.length hes
      rw [List.length_map, List.length_map, List.length_take] at this
      omega
    by_cases hlt : i < m
    · obtain ⟨b0, o, hA, hbb, ht⟩ := (HIR.out.below hb (Nat.le_refl _)) (by have := HM.out; omega)
      subst hA
      have ha := ht i (by have := HM.out; omega)
      have hrg := HRG.out (pp.getD i 0) (getD_mem (by have := HM.out; omega))
      have hsu := imap_succ pp (k := i) (by have := HM.out; omega)
      clear hown hes hb ht
      generalize pp.getD i 0 = x at *
      have HSU := Lib.hid hsu
      have b9 : (i : Int) < (m : Int) := by omega
      obtain ⟨hx0, hx1⟩ := hrg
      have hd1 : x.tdiv 16 = x / 16 := Int.tdiv_eq_ediv_of_nonneg hx0
      have hd2 : x.tmod 16 = x % 16 := Int.tmod_eq_emod_of_nonneg hx0
      have hw1 : IntKind.i64.wrap (x / 16) = x / 16 := IntWalk.i64_in _ (by omega)
      have hw2 : IntKind.i64.wrap (x % 16) = x % 16 := IntWalk.i64_in _ (by omega)
      have nea : some b0 ≠ u7.ownBlock := fun e9 => by have := (HO.out.1.lt _ e9.symm).1; omega
      clear hsu
      go_wp2_with fail
      go_region_held3 (fun w' => w'.cell? ⟨b0, o + i, none⟩ = some (.int .i64 x))
        (first | exact ha | exact hgrow9.cell (by go_simp) nea | go_keep)
        (first | (refine step_pushE1 rfl (.tmp 27) (.tmp 39) rfl w5.heap.size u7 es (by go_simp) wr HO.out (((Ext.refl wr).below (Nat.le_refl _)).trans (Ext.below (by with_reducible first | exact Ext.refl _ | exact (Ext.refl _).drew | exact (Ext.refl _).alloc _ | exact ((Ext.refl _).alloc _).drew | exact ((Ext.refl _).drew).alloc _ | exact (((Ext.refl _).drew).alloc _).drew | exact ((Ext.refl _).alloc _).alloc _ | exact (((Ext.refl _).alloc _).alloc _).drew | exact (((Ext.refl _).drew).alloc _).alloc _ | exact ((((Ext.refl _).drew).alloc _).alloc _).drew) (Nat.le_refl _))) (wr.heap.size + 1) (some ⟨wr.heap.size, 0, none⟩) [x / 16, x % 16] (by go_simp) ((blk_at_one wr _ 49 #[.slice (some ⟨wr.heap.size, 0, none⟩) 2 2]).ext (by with_reducible first | exact Ext.refl _ | exact (Ext.refl _).drew | exact (Ext.refl _).alloc _ | exact ((Ext.refl _).alloc _).drew | exact ((Ext.refl _).drew).alloc _ | exact (((Ext.refl _).drew).alloc _).drew | exact ((Ext.refl _).alloc _).alloc _ | exact (((Ext.refl _).alloc _).alloc _).drew | exact (((Ext.refl _).drew).alloc _).alloc _ | exact ((((Ext.refl _).drew).alloc _).alloc _).drew)) (iwr_at wr (by with_reducible first | exact Ext.refl _ | exact (Ext.refl _).drew | exact (Ext.refl _).alloc _ | exact ((Ext.refl _).alloc _).drew | exact ((Ext.refl _).drew).alloc _ | exact (((Ext.refl _).drew).alloc _).drew | exact ((Ext.refl _).alloc _).alloc _ | exact (((Ext.refl _).alloc _).alloc _).drew | exact (((Ext.refl _).drew).alloc _).alloc _ | exact ((((Ext.refl _).drew).alloc _).alloc _).drew)) rfl (by omega) hszw ?_; intro v9 w9 hown9 hbel9 hgrow9; have hB9 := (HBW.out.trans (Ext.below (a := wr) (by with_reducible first | exact Ext.refl _ | exact (Ext.refl _).drew | exact (Ext.refl _).alloc _ | exact ((Ext.refl _).alloc _).drew | exact ((Ext.refl _).drew).alloc _ | exact (((Ext.refl _).drew).alloc _).drew | exact ((Ext.refl _).alloc _).alloc _ | exact (((Ext.refl _).alloc _).alloc _).drew | exact (((Ext.refl _).drew).alloc _).alloc _ | exact ((((Ext.refl _).drew).alloc _).alloc _).drew) hszw)).trans hbel9))
      all_goals
        have N1 := Lib.hid hown9
        have N2 := Lib.hid hB9
        have N3 := Lib.hid (show (es ++ [El.mk (some ⟨wr.heap.size, 0, none⟩) 2 [x / 16, x % 16]]).map El.xs = (pp.take (i + 1)).map dec by rw [List.map_append, HES.out, HSU.out]; rfl)
        clear hown9 hB9 hbel9 hgrow9 hd1 hd2 hw1 hw2 ha
        go_wp2_with fail
        go_roundw
        case rel => first | exact ⟨i + 1, _, by omega, by go_num, N1.out, N3.out, N2.out⟩ | ((repeat apply Exists.intro); exact ⟨⟨i + 1, _, by omega, by go_num, N1.out, N3.out, N2.out⟩, rfl⟩)
        case measure => simp [intOf]; omega
    · obtain rfl : i = m := by omega
      have hlm := HM.out
      rw [hlm, List.take_length] at hes
      obtain ⟨A6, cap6, hv6, hiww⟩ := (hown.low hs5).done
      have hlen := congrArg List.length hes
      rw [List.length_map] at hlen
      rw [hes] at hiww
      have HW := Lib.hid (And.intro hv6 hiww)
      have HB6 := Lib.hid (K5.out.trans (hb.mono hs5))
      have HLEN := Lib.hid hlen
      clear hown hes hb hiww hlen hv6 hlm
      go_wp2_with fail
      go_ret2
      exact ⟨A6, cap6, by rw [← HLEN.out, ← HW.out.1]; rfl, HB6.out, HW.out.2⟩
end Go.Proofs.Ytcakbnfpmpdljaa
