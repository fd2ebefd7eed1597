/- The model's pairs of colours of a stack. -/
import Derived.Test.YtjoaoimebdkpaaaSpA
import Derived.Test.YtjoaoimebdkpaaaStA
import Derived.Test.YtjoaoimebdkpaaaSBridge
import Derived.Deep.RegionHeld3
import Derived.Test.YtjoaoimebdkpaaaStC
import Derived.Test.YtjoaoimebdkpaaaSp0
import Derived.Lib.Hide
namespace Go.Proofs.Ytjoaoimebdkpaaa
section
set_option linter.unusedVariables false
set_option linter.unusedSimpArgs false
open Go.RowKit Go.Sort

/-- 'append(s, y, z)' onto a row of numbers that the call owns, inside a region that draws its order. -/
theorem step_push2 {w : World} {ops : Array Oper} {o : Oper} {a : Act} {K : Act → World → Prop} {Q : Exit → Act → World → Prop} {E : Prop} (hgd : o.guard = none) (s x : Operand)
    (ho : o.op = .call { callee := .builtin .append, args := #[s, x], argTypes := #[51, 51] })
    (base : Nat) (v : Value) (n : Nat) (xs : List Int) (hs : a.eval s = v) (hown : w.ownsRow base 2 1 v n (vis xs))
    (g : Nat) (y z : Int) (hx : a.eval x = .slice (some ⟨g, 0, none⟩) 2 2) (hb : Blk w g 2 #[.int .i64 y, .int .i64 z])
    (h63 : n + 2 ≤ maxLen) (hbytes : (n + 2) * 8 ≤ 140737488355328) (hbase : base ≤ w.heap.size)
    (h : ∀ v' w', w'.ownsRow base 2 1 v' (n + 2) (vis (xs ++ [y, z])) → w.grownBy w' v.ownBlock → (v'.ownBlock = v.ownBlock ∨ v'.ownBlock = some w.heap.size) → K (a.put o.dst v') w') :
    if Region.wanted o (yielded ops a.tmps) = true then Oper.wp Try.prog o a w K Q else E := by
  obtain ⟨i0, hi, hz0, hz1, hz2⟩ := info_parts info_int
  refine step_append_any w hgd s x _ ho base 2 i0 _ 1 8 Try.underlying51 hi hz0 hz1 hz2 rfl (by decide) v n (vis xs) hs hown w.heap.size _ 2 _ [vi y, vi z] hx ⟨rfl, fun _ => ⟨_, rfl, hb.lt, fun j u hu => ?_⟩⟩ (by simp [vi, Value.oneCell']) h63 hbytes hbase fun v' w' h2 h3 h4 => h v' w' (by simpa [vis, vi] using h2) h3 h4
  have := hb.cell j
  rw [Go.WideShapes.add_plain, Nat.zero_add]
  rw [this, ← hu]
  simp [vi]
theorem codes_two (l : List (Tl × Tl)) (p : Tl × Tl) : codes (l ++ [p]) = codes l ++ [cw p, ce p] := codes_snoc l p

set_option maxRecDepth 100000 in
set_option maxHeartbeats 4000000 in
theorem l04Pairs_any (c0 : Int) (A0 : Option Addr) (n0 q0 : Nat) (ts : List Tl) (c1 : Int) (A1 : Option Addr) (n1 q1 : Nat) (us : List Tl) (w : World) (hl0 : ts.length = n0) (hA0 : TR w w.heap.size A0 ts) (hl1 : us.length = n1) (hA1 : TR w w.heap.size A1 us) (hs0 : isSet c0 ts = true) (hs1 : isSet c1 us = true) :
    Calls Try.prog 88 #[.agg #[.int .i64 c0, .slice A0 n0 q0], .agg #[.int .i64 c1, .slice A1 n1 q1]] w (fun e w' => ∃ A c, e = .returned (.slice A (prs ts us).length c) ∧ (prs ts us).length ≤ c ∧ IR w' w'.heap.size A (prs ts us) ∧ Below w.heap.size w w') := by
  have hn0 := isSet_len hs0
  have hn1 := isSet_len hs1
  rw [hl0] at hn0
  rw [hl1] at hn1
  have hcc0 := (isSet_col hs0).2
  have hcc1 := (isSet_col hs1).2
  have HOKA := Lib.hid (fun k (hk : k < n0) => ok_of_isSet hs0 (ts.getD k T0) (by simp [List.getD, show k < ts.length by omega]))
  have HOKB := Lib.hid (fun k (hk : k < n1) => ok_of_isSet hs1 (us.getD k T0) (by simp [List.getD, show k < us.length by omega]))
  have HA0 := Lib.hid hA0
  have HA1 := Lib.hid hA1
  clear hA0 hA1 hs0 hs1
  have hmul : n0 * n1 ≤ 16 * 16 := Nat.mul_le_mul hn0 hn1
  go_enter Try.func88, Try.ntmps88
  go_wp2_with fail
  have hx0 : Ext w ((w.alloc (Obj.cells #[.int .i64 c0, .slice A0 n0 q0] 32)).alloc (Obj.cells #[.int .i64 c1, .slice A1 n1 q1] 32)) := ((Ext.refl w).alloc _).alloc _
  have hb0 : Blk ((w.alloc (Obj.cells #[.int .i64 c0, .slice A0 n0 q0] 32)).alloc (Obj.cells #[.int .i64 c1, .slice A1 n1 q1] 32)) w.heap.size 32 #[.int .i64 c0, .slice A0 n0 q0] := (Blk.new w 32 #[.int .i64 c0, .slice A0 n0 q0]).ext ((Ext.refl _).alloc _)
  have hb1 : Blk ((w.alloc (Obj.cells #[.int .i64 c0, .slice A0 n0 q0] 32)).alloc (Obj.cells #[.int .i64 c1, .slice A1 n1 q1] 32)) (w.heap.size + 1) 32 #[.int .i64 c1, .slice A1 n1 q1] := by have := (Blk.new (w.alloc (Obj.cells #[.int .i64 c0, .slice A0 n0 q0] 32)) 32 #[.int .i64 c1, .slice A1 n1 q1]); simpa using this
  have hs2 : ((w.alloc (Obj.cells #[.int .i64 c0, .slice A0 n0 q0] 32)).alloc (Obj.cells #[.int .i64 c1, .slice A1 n1 q1] 32)).heap.size = w.heap.size + 2 := by simp
  have HS2 := Lib.hid hs2
  have HK := Lib.hid (hx0.below (Nat.le_refl _))
  have HB0 := Lib.hid hb0
  have HB1 := Lib.hid hb1
  clear hx0 hb0 hb1 hs2
  generalize ((w.alloc (Obj.cells #[.int .i64 c0, .slice A0 n0 q0] 32)).alloc (Obj.cells #[.int .i64 c1, .slice A1 n1 q1] 32)) = w2 at *
  have HO0 := Lib.hid (own_emptyI (X := w2.alloc (Obj.cells #[] 2)) (B := w2.heap.size) (g := w.heap.size + 1 + 1) (by have h9 := Blk.new w2 2 #[]; rw [HS2.out] at h9; exact h9) (by have := HS2.out; omega))
  have HX2 := Lib.hid (show Below w2.heap.size w2 (w2.alloc (Obj.cells #[] 2)) from ((Ext.refl w2).alloc _).below (Nat.le_refl _))
  have HS3 := Lib.hid (show w2.heap.size = w.heap.size + 2 from HS2.out)
  generalize hW3 : w2.alloc (Obj.cells #[] 2) = w3 at *
  clear hW3
  go_loopw [5, 6] (fun v ii wr => ∃ i : Nat, i ≤ n0 ∧ ii = .int .i64 i ∧ wr.ownsRow w2.heap.size 2 1 v (codes (stk (ts.take i) us)).length (vis (codes (stk (ts.take i) us))) ∧ Below w2.heap.size w2 wr) (fun _ ii _ => n0 - (intOf ii).toNat)
  case atStart => exact ⟨0, Nat.zero_le _, rfl, by simpa [stk, codes, vis] using HO0.out, HX2.out⟩
  case round =>
    clear HO0 HX2
    obtain ⟨i, hi, rfl, hown, hb⟩ := hrel
    have HO := Lib.hid hown
    have HBW := Lib.hid hb
    have hszw := hb.size
    have hs2 := HS2.out
    have hbw := HK.out.trans (hb.mono HK.out.size)
    have HBWW := Lib.hid hbw
    have ra := (HB0.out.below hb (by omega)).rd 1 rfl
    have rb := (HB1.out.below hb (by omega)).rd 1 rfl
    clear hown hb hbw
    by_cases hlt : i < n0
    · obtain ⟨b0, o, hA, hbb, ht⟩ := HA0.out (by omega)
      subst hA
      have hsu := stkO_succ (ss := ts) (ts := us) (i := i) (by omega)
      have hok := HOKA.out i hlt
      replace ht := ht i (by omega)
      have hpl := stk_len (ts.take i) us
      rw [List.length_take, hl1, Nat.min_eq_left (by omega)] at hpl
      have hpb : i * n1 ≤ 16 * 16 := Nat.mul_le_mul (by omega) (by omega)
      generalize ts.getD i T0 = a at *
      have HSU := Lib.hid hsu
      obtain ⟨x0, x1, x2, x3⟩ := a
      have HT := Lib.hid ht
      simp only [tileOk, decide_eq_true_eq] at hok
      have b3 : (i : Int) < (n0 : Int) := by omega
      generalize hP : stk (ts.take i) us = ps at *
      have hpl2 : ps.length ≤ 256 := by omega
      clear hP hpl hsu ht
      go_wp2_with fail
      clear ra rb
      obtain ⟨WR, hWR⟩ : ∃ WR, WR = wr := ⟨_, rfl⟩
      subst hWR
      go_loopw [5, 7] (fun v kk wr => ∃ k : Nat, k ≤ n1 ∧ kk = .int .i64 k ∧ wr.ownsRow w2.heap.size 2 1 v (codes (ps ++ stkI us (x0, x1, x2, x3) k)).length (vis (codes (ps ++ stkI us (x0, x1, x2, x3) k))) ∧ Below w2.heap.size w2 wr) (fun _ kk _ => n1 - (intOf kk).toNat)
      case atStart => exact ⟨0, Nat.zero_le _, rfl, by simpa [stkI] using HO.out, HBW.out⟩
      case round =>
        obtain ⟨k, hk, rfl, hown, hb⟩ := hrel
        have HO2 := Lib.hid hown
        have HB2 := Lib.hid hb
        have hszb := hb.size
        have hbw := HK.out.trans (hb.mono HK.out.size)
        have HBW2 := Lib.hid hbw
        have ra := (HB0.out.below hb (by omega)).rd 1 rfl
        have rb := (HB1.out.below hb (by omega)).rd 1 rfl
        have hob := hown.lt
        clear hown hb
        by_cases hltk : k < n1
        · obtain ⟨b1, o1, hA, hbb1, ht1⟩ := HA1.out (by omega)
          subst hA
          replace ht1 := ht1 k (by omega)
          have hyes := fun h => stkI_yes (ts := us) (a := (x0, x1, x2, x3)) (k := k) (by omega) h
          have hno := fun h => stkI_no (ts := us) (a := (x0, x1, x2, x3)) (k := k) (by omega) h
          have hil := stkI_len us (x0, x1, x2, x3) k
          have hok2 := HOKB.out k hltk
          generalize us.getD k T0 = b at *
          obtain ⟨y0, y1, y2, y3⟩ := b
          simp only [tileOk, decide_eq_true_eq] at hok2
          simp only at hyes hno
          obtain ⟨e0, e1, e2, e3⟩ := HT.out
          obtain ⟨f0, f1, f2, f3⟩ := ht1
          have a0 := (hbw.cell (p := ⟨b0, o + i * 4, none⟩) hbb).trans e0
          have a2 := (hbw.cell (p := ⟨b0, o + i * 4 + 2, none⟩) hbb).trans e2
          have a3 := (hbw.cell (p := ⟨b0, o + i * 4 + 3, none⟩) hbb).trans e3
          have c0 := (hbw.cell (p := ⟨b1, o1 + k * 4, none⟩) hbb1).trans f0
          have c1 := (hbw.cell (p := ⟨b1, o1 + k * 4 + 1, none⟩) hbb1).trans f1
          have c2 := (hbw.cell (p := ⟨b1, o1 + k * 4 + 2, none⟩) hbb1).trans f2
          simp only at a0 a2 a3 c0 c1 c2
          have HY := Lib.hid hyes
          have HN := Lib.hid hno
          have b4 : (k : Int) < (n1 : Int) := by omega
          have nebra : some w.heap.size ≠ u5.ownBlock := fun e9 => by have := hob _ e9.symm; omega
          have nebrb : some (w.heap.size + 1) ≠ u5.ownBlock := fun e9 => by have := hob _ e9.symm; omega
          have nea : some b0 ≠ u5.ownBlock := fun e9 => by have := hob _ e9.symm; omega
          have nec : some b1 ≠ u5.ownBlock := fun e9 => by have := hob _ e9.symm; omega
          generalize hL : ps ++ stkI us (x0, x1, x2, x3) k = l at *
          have hll : l.length ≤ 272 := by rw [← hL, List.length_append]; omega
          have hcl := codes_len l
          have hcl2 : (codes l).length ≤ 544 := by omega
          have HL := Lib.hid hL
          have HBB := Lib.hid (And.intro hbb hbb1)
          clear hyes hno hil hL hbw e0 e1 e2 e3 f0 f1 f2 f3 hcl hob hbb hbb1
          by_cases heq : x3 = y1
          · have HAPP := Lib.hid (show ps ++ stkI us (x0, x1, x2, x3) (k + 1) = l ++ [((x0, x1, x2, x3), (y0, y1, y2, y3))] by rw [HY.out heq, ← List.append_assoc, HL.out])
            have hqe : (x3 == y1) = true := by simpa using heq
            have HEQ := Lib.hid heq
            clear heq
            have gra := fun dn os => (cell?_grow (wr.drewN dn) os ⟨w.heap.size, 1, none⟩ (by have := World.block_lt_of_cell? wr _ ra; exact this)).trans ra
            have grb := fun dn os => (cell?_grow (wr.drewN dn) os ⟨w.heap.size + 1, 1, none⟩ (by have := World.block_lt_of_cell? wr _ rb; exact this)).trans rb
            have ga0 := fun dn os => (cell?_grow (wr.drewN dn) os ⟨b0, o + i * 4, none⟩ (by have := World.block_lt_of_cell? wr _ a0; exact this)).trans a0
            have ga2 := fun dn os => (cell?_grow (wr.drewN dn) os ⟨b0, o + i * 4 + 2, none⟩ (by have := World.block_lt_of_cell? wr _ a2; exact this)).trans a2
            have ga3 := fun dn os => (cell?_grow (wr.drewN dn) os ⟨b0, o + i * 4 + 3, none⟩ (by have := World.block_lt_of_cell? wr _ a3; exact this)).trans a3
            have gc0 := fun dn os => (cell?_grow (wr.drewN dn) os ⟨b1, o1 + k * 4, none⟩ (by have := World.block_lt_of_cell? wr _ c0; exact this)).trans c0
            have gc1 := fun dn os => (cell?_grow (wr.drewN dn) os ⟨b1, o1 + k * 4 + 1, none⟩ (by have := World.block_lt_of_cell? wr _ c1; exact this)).trans c1
            have gc2 := fun dn os => (cell?_grow (wr.drewN dn) os ⟨b1, o1 + k * 4 + 2, none⟩ (by have := World.block_lt_of_cell? wr _ c2; exact this)).trans c2
            go_wp2_with fail
            refine wp_region_quiet_grown mixed (by kernel_rfl) ?_
            repeat (go_big_quiet_step ((fail)))
            refine wpQuiet_nil ?_
            intro _ hw'
            obtain ⟨⟨nq, osq⟩, hw''⟩ := hw'
            subst hw''
            clear gra grb ga0 ga2 ga3 gc0 gc1 gc2
            have hx6 : Ext wr (grow (wr.drewN nq) osq) := ⟨nq, osq, rfl⟩
            replace ra := (hx6.below (Nat.le_refl _)).cell (p := ⟨w.heap.size, 1, none⟩) (by have := World.block_lt_of_cell? wr _ ra; exact this) |>.trans ra
            replace rb := (hx6.below (Nat.le_refl _)).cell (p := ⟨w.heap.size + 1, 1, none⟩) (by have := World.block_lt_of_cell? wr _ rb; exact this) |>.trans rb
            replace a0 := (hx6.below (Nat.le_refl _)).cell (p := ⟨b0, o + i * 4, none⟩) (by have := World.block_lt_of_cell? wr _ a0; exact this) |>.trans a0
            replace a2 := (hx6.below (Nat.le_refl _)).cell (p := ⟨b0, o + i * 4 + 2, none⟩) (by have := World.block_lt_of_cell? wr _ a2; exact this) |>.trans a2
            replace a3 := (hx6.below (Nat.le_refl _)).cell (p := ⟨b0, o + i * 4 + 3, none⟩) (by have := World.block_lt_of_cell? wr _ a3; exact this) |>.trans a3
            replace c0 := (hx6.below (Nat.le_refl _)).cell (p := ⟨b1, o1 + k * 4, none⟩) (by have := World.block_lt_of_cell? wr _ c0; exact this) |>.trans c0
            replace c1 := (hx6.below (Nat.le_refl _)).cell (p := ⟨b1, o1 + k * 4 + 1, none⟩) (by have := World.block_lt_of_cell? wr _ c1; exact this) |>.trans c1
            replace c2 := (hx6.below (Nat.le_refl _)).cell (p := ⟨b1, o1 + k * 4 + 2, none⟩) (by have := World.block_lt_of_cell? wr _ c2; exact this) |>.trans c2
            have HX6 := Lib.hid hx6
            clear hx6
            generalize grow (wr.drewN nq) osq = w6 at *
            have HOX := Lib.hid (iown_ext HO2.out HX6.out)
            have HBX := Lib.hid (HB2.out.trans (HX6.out.below hszb))
            have hs6 : w2.heap.size ≤ w6.heap.size := HBX.out.size
            clear a3 c1 hqe
            go_wp2_with fail
            have wr1 : IntKind.i64.wrap (16 * x0) = 16 * x0 := IntWalk.i64_in _ (by omega)
            have wr2 : IntKind.i64.wrap (16 * x0 + y0) = 16 * x0 + y0 := IntWalk.i64_in _ (by omega)
            have wr3 : IntKind.i64.wrap (16 * x2) = 16 * x2 := IntWalk.i64_in _ (by omega)
            have wr4 : IntKind.i64.wrap (16 * x2 + y2) = 16 * x2 + y2 := IntWalk.i64_in _ (by omega)
            go_region_held3 (fun w' => w'.cell? ⟨w.heap.size, 1, none⟩ = some (.slice (some ⟨b0, o, none⟩) n0 q0) ∧ w'.cell? ⟨w.heap.size + 1, 1, none⟩ = some (.slice (some ⟨b1, o1, none⟩) n1 q1) ∧ w'.cell? ⟨b0, o + i * 4, none⟩ = some (.int .i64 x0) ∧ w'.cell? ⟨b0, o + i * 4 + 2, none⟩ = some (.int .i64 x2) ∧ w'.cell? ⟨b1, o1 + k * 4, none⟩ = some (.int .i64 y0) ∧ w'.cell? ⟨b1, o1 + k * 4 + 2, none⟩ = some (.int .i64 y2))
              (first | exact ⟨ra, rb, a0, a2, c0, c2⟩ | exact ⟨hgrow9.cell (by go_simp) nebra, hgrow9.cell (by go_simp) nebrb, hgrow9.cell (by go_simp) nea, hgrow9.cell (by go_simp) nea, hgrow9.cell (by go_simp) nec, hgrow9.cell (by go_simp) nec⟩ | go_keep)
              (first | (refine step_push2 rfl (.tmp 36) (.tmp 65) rfl w2.heap.size u5 (codes l).length (codes l) (by go_simp) (iown_ext HOX.out (by with_reducible first | exact Ext.refl _ | exact (Ext.refl _).drew | exact (Ext.refl _).alloc _ | exact ((Ext.refl _).alloc _).drew | exact ((Ext.refl _).drew).alloc _ | exact (((Ext.refl _).drew).alloc _).drew)) w6.heap.size (16 * x0 + y0) (16 * x2 + y2) (by go_simp) ((Blk.new w6 2 #[.int .i64 (16 * x0 + y0), .int .i64 (16 * x2 + y2)]).ext (by with_reducible first | exact Ext.refl _ | exact (Ext.refl _).drew | exact (Ext.refl _).alloc _ | exact ((Ext.refl _).alloc _).drew | exact ((Ext.refl _).drew).alloc _ | exact (((Ext.refl _).drew).alloc _).drew)) (by unfold maxLen; omega) (by omega) (by simp; omega) ?_; intro v9 w9 hown9 hgrow9 hat9; have hB9 := (below_next0 HBX.out (by with_reducible first | exact Ext.refl _ | exact (Ext.refl _).drew | exact (Ext.refl _).alloc _ | exact ((Ext.refl _).alloc _).drew | exact ((Ext.refl _).drew).alloc _ | exact (((Ext.refl _).drew).alloc _).drew) (Nat.le_refl _)).grown hgrow9 (by simp; omega) (fun j hj => (HOX.out.lt j hj).1)))
            all_goals
              have hc9 : codes (ps ++ stkI us (x0, x1, x2, x3) (k + 1)) = codes l ++ [16 * x0 + y0, 16 * x2 + y2] := by rw [HAPP.out, codes_snoc]; rfl
              have hlen9 : (codes l).length + 2 = (codes (ps ++ stkI us (x0, x1, x2, x3) (k + 1))).length := by rw [hc9]; simp
              rw [← hc9, hlen9] at hown9
              have N1 := Lib.hid hown9
              have N2 := Lib.hid hB9
              clear hown9 hgrow9 hat9 hB9 hc9 hlen9 wr1 wr2 wr3 wr4 ra rb a0 a2 c0 c2
              go_wp2_with fail
              go_roundw
              case rel => first | exact ⟨k + 1, by omega, by go_num, N1.out, N2.out⟩ | ((repeat apply Exists.intro); exact ⟨⟨k + 1, by omega, by go_num, N1.out, N2.out⟩, rfl⟩)
              case measure => simp [intOf]; omega
          · have HAPP := Lib.hid (show l = ps ++ stkI us (x0, x1, x2, x3) (k + 1) by rw [HN.out heq, HL.out])
            have hqe : (x3 == y1) = false := by simpa using heq
            have gra := fun dn os => (cell?_grow (wr.drewN dn) os ⟨w.heap.size, 1, none⟩ (by have := World.block_lt_of_cell? wr _ ra; exact this)).trans ra
            have grb := fun dn os => (cell?_grow (wr.drewN dn) os ⟨w.heap.size + 1, 1, none⟩ (by have := World.block_lt_of_cell? wr _ rb; exact this)).trans rb
            have ga0 := fun dn os => (cell?_grow (wr.drewN dn) os ⟨b0, o + i * 4, none⟩ (by have := World.block_lt_of_cell? wr _ a0; exact this)).trans a0
            have ga2 := fun dn os => (cell?_grow (wr.drewN dn) os ⟨b0, o + i * 4 + 2, none⟩ (by have := World.block_lt_of_cell? wr _ a2; exact this)).trans a2
            have ga3 := fun dn os => (cell?_grow (wr.drewN dn) os ⟨b0, o + i * 4 + 3, none⟩ (by have := World.block_lt_of_cell? wr _ a3; exact this)).trans a3
            have gc0 := fun dn os => (cell?_grow (wr.drewN dn) os ⟨b1, o1 + k * 4, none⟩ (by have := World.block_lt_of_cell? wr _ c0; exact this)).trans c0
            have gc1 := fun dn os => (cell?_grow (wr.drewN dn) os ⟨b1, o1 + k * 4 + 1, none⟩ (by have := World.block_lt_of_cell? wr _ c1; exact this)).trans c1
            have gc2 := fun dn os => (cell?_grow (wr.drewN dn) os ⟨b1, o1 + k * 4 + 2, none⟩ (by have := World.block_lt_of_cell? wr _ c2; exact this)).trans c2
            go_wp2_with fail
            refine wp_region_quiet_grown mixed (by kernel_rfl) ?_
            repeat (go_big_quiet_step ((fail)))
            refine wpQuiet_nil ?_
            intro _ hw'
            obtain ⟨⟨nq, osq⟩, hw''⟩ := hw'
            subst hw''
            clear gra grb ga0 ga2 ga3 gc0 gc1 gc2
            have hx6 : Ext wr (grow (wr.drewN nq) osq) := ⟨nq, osq, rfl⟩
            replace ra := (hx6.below (Nat.le_refl _)).cell (p := ⟨w.heap.size, 1, none⟩) (by have := World.block_lt_of_cell? wr _ ra; exact this) |>.trans ra
            replace rb := (hx6.below (Nat.le_refl _)).cell (p := ⟨w.heap.size + 1, 1, none⟩) (by have := World.block_lt_of_cell? wr _ rb; exact this) |>.trans rb
            replace a0 := (hx6.below (Nat.le_refl _)).cell (p := ⟨b0, o + i * 4, none⟩) (by have := World.block_lt_of_cell? wr _ a0; exact this) |>.trans a0
            replace a2 := (hx6.below (Nat.le_refl _)).cell (p := ⟨b0, o + i * 4 + 2, none⟩) (by have := World.block_lt_of_cell? wr _ a2; exact this) |>.trans a2
            replace a3 := (hx6.below (Nat.le_refl _)).cell (p := ⟨b0, o + i * 4 + 3, none⟩) (by have := World.block_lt_of_cell? wr _ a3; exact this) |>.trans a3
            replace c0 := (hx6.below (Nat.le_refl _)).cell (p := ⟨b1, o1 + k * 4, none⟩) (by have := World.block_lt_of_cell? wr _ c0; exact this) |>.trans c0
            replace c1 := (hx6.below (Nat.le_refl _)).cell (p := ⟨b1, o1 + k * 4 + 1, none⟩) (by have := World.block_lt_of_cell? wr _ c1; exact this) |>.trans c1
            replace c2 := (hx6.below (Nat.le_refl _)).cell (p := ⟨b1, o1 + k * 4 + 2, none⟩) (by have := World.block_lt_of_cell? wr _ c2; exact this) |>.trans c2
            have HX6 := Lib.hid hx6
            clear hx6
            generalize grow (wr.drewN nq) osq = w6 at *
            have HOX := Lib.hid (iown_ext HO2.out HX6.out)
            have HBX := Lib.hid (HB2.out.trans (HX6.out.below hszb))
            clear a0 a2 a3 c0 c1 c2 hqe ra rb
            go_wp2_with fail
            go_roundw
            case rel => first | exact ⟨k + 1, by omega, by go_num, by rw [← HAPP.out]; exact HOX.out, HBX.out⟩ | ((repeat apply Exists.intro); exact ⟨⟨k + 1, by omega, by go_num, by rw [← HAPP.out]; exact HOX.out, HBX.out⟩, rfl⟩)
            case measure => simp [intOf]; omega
        · obtain rfl : k = n1 := by omega
          have HUS := Lib.hid (show stk (ts.take (i + 1)) us = ps ++ stkI us (x0, x1, x2, x3) k by rw [HSU.out, ← hl1])
          have N1 := Lib.hid (show wr.ownsRow w2.heap.size 2 1 u5 (codes (stk (ts.take (i + 1)) us)).length (vis (codes (stk (ts.take (i + 1)) us))) by rw [HUS.out]; exact HO2.out)
          clear hob hbw
          go_wp2_with fail
          go_roundw
          case rel => first | exact ⟨i + 1, by omega, by go_num, N1.out, HB2.out⟩ | ((repeat apply Exists.intro); exact ⟨⟨i + 1, by omega, by go_num, N1.out, HB2.out⟩, rfl⟩)
          case measure => simp [intOf]; omega
    · obtain rfl : i = n0 := by omega
      have hown := HO.out
      rw [← hl0, List.take_length] at hown
      obtain ⟨A9, c9, hv9, hc9, hw9⟩ := own_iwr hown rfl
      subst hv9
      have hlc : (codes (stk ts us)).length ≤ 1048576 := by
        have h1 := stk_len ts us
        have h2 := codes_len (stk ts us)
        rw [hl0, hl1] at h1
        omega
      have hso := l04Sorted_any _ hlc A9 c9 (codes (stk ts us)) wr rfl hc9 hw9.ir
      unfold SrtRes at hso
      have hpr : sortI (codes (stk ts us)) = prs ts us := rfl
      rw [hpr] at hso
      generalize (codes (stk ts us)).length = m at *
      have HSO := Lib.hid hso
      clear hown hw9 hlc hso hpr hc9 HO
      go_wp2_with fail
      refine HSO.out.mono ?_
      rintro e w9 ⟨A8, c8, rfl, hc8, hir8, hb8⟩
      have N1 := Lib.hid (And.intro hc8 hir8)
      have N2 := Lib.hid (HBWW.out.trans (hb8.mono HBWW.out.size))
      clear hc8 hir8 hb8
      go_wp2_with fail
      go_ret
      exact ⟨A8, c8, rfl, N1.out.1, N1.out.2, N2.out⟩
end

section
set_option linter.unusedVariables false
set_option linter.unusedSimpArgs false
open Go.RowKit Go.Sort

/-- 'append(rows, row)' onto a list of rows that the call owns, inside a region that draws its order: the row lies in a block of its own. -/
theorem step_pushE1 {w : World} {ops : Array Oper} {o : Oper} {a : Act} {K : Act → World → Prop} {Q : Exit → Act → World → Prop} {E : Prop} (hgd : o.guard = none) (s x : Operand)
    (ho : o.op = .call { callee := .builtin .append, args := #[s, x], argTypes := #[25, 25] })
    (base : Nat) (v : Value) (es : List El) (hs : a.eval s = v) (w0 : World) (h : OwnE w0 base v es) (hb : Below w0.heap.size w0 w)
    (g : Nat) (A1 : Option Addr) (xs1 : List Int) (hx : a.eval x = .slice (some ⟨g, 0, none⟩) 1 1) (hbk : Blk w g 51 #[.slice A1 2 2])
    (hr1 : IWr w w0.heap.size w.heap.size A1 xs1) (hl1 : xs1.length = 2) (h63 : es.length + 1 ≤ 1048576) (hbase : base ≤ w0.heap.size)
    (hK : ∀ v' w', OwnE w' base v' (es ++ [⟨A1, 2, xs1⟩]) → Below base w w' → w.grownBy w' v.ownBlock → K (a.put o.dst v') w') :
    if Region.wanted o (yielded ops a.tmps) = true then Oper.wp Try.prog o a w K Q else E := by
  obtain ⟨i0, hi, hz0, hz1, hz2⟩ := info_parts info_row
  have hsz := hb.size
  refine step_append_any w hgd s x _ ho base 51 i0 _ 1 24 Try.underlying25 hi hz0 hz1 hz2 rfl (by decide) v es.length (es.map El.v) hs (own_belowA h.1 hb) w.heap.size _ 1 _ [.slice A1 2 2] hx ⟨rfl, fun _ => ⟨_, rfl, hbk.lt, fun j u hu => ?_⟩⟩ (by intro u hu; simp at hu; rcases hu with rfl; rfl) (by unfold maxLen; omega) (by omega) (by omega) fun v' w' h2 h3 h4 => ?_
  · have := hbk.cell j
    rw [Go.WideShapes.add_plain, Nat.zero_add]
    rw [this]
    rw [← hu]
    simp
  · have hv1 : Value.slice A1 2 2 = El.v ⟨A1, 2, xs1⟩ := by simp [El.v, hl1]
    refine hK v' w' (h.pushed hb (news := [⟨A1, 2, xs1⟩]) (fun e he => ?_) (by simp) hbase ?_ h3 h4) ((Below.refl base w).grown h3 (by omega) (fun j hj => (h.1.lt j hj).1)) h3
    · simp only [List.mem_cons, List.not_mem_nil, or_false] at he
      rcases he with rfl
      exact ⟨by simp [hl1], hr1⟩
    · simp only [List.map_cons, List.map_nil, List.length_cons, List.length_nil, Nat.zero_add, ← hv1]
      exact h2
theorem OwnE.made (w : World) (base : Nat) (hb : base ≤ w.heap.size) : OwnE (w.alloc (.cells #[] 51)) base (.slice (some ⟨w.heap.size, 0, none⟩) 0 0) [] :=
  ⟨World.ownsRow_made (base := base) (e := 51) (size := 1) w #[] 0 hb (by unfold maxLen; omega) rfl, fun e he => by simp at he, List.Pairwise.nil⟩
theorem prs_range {ts us : List Tl} {c d : Int} (hc : c ≤ 6) (hd : d ≤ 6) (h : ∀ t ∈ ts, tileOk c t = true) (h' : ∀ t ∈ us, tileOk d t = true) : ∀ x ∈ prs ts us, 0 ≤ x ∧ x < 96 := fun x hx => by
  have := sortI_mem.1 hx
  simp only [codes, List.mem_flatMap] at this
  obtain ⟨p, hp, hq⟩ := this
  have h1 := h p.1 (stk_mem hp).1
  have h2 := h' p.2 (stk_mem hp).2.1
  simp only [tileOk, decide_eq_true_eq] at h1 h2
  simp only [List.mem_cons, List.not_mem_nil, or_false] at hq
  rcases hq with rfl | rfl
  · unfold cw; omega
  · unfold ce; omega
theorem prs_len {ts us : List Tl} : (prs ts us).length ≤ 2 * (ts.length * us.length) := by
  have h1 := sortI_len (codes (stk ts us))
  have h2 := codes_len (stk ts us)
  have h3 := stk_len ts us
  unfold prs
  omega
theorem imap_succ (l : List Int) {k : Nat} (hk : k < l.length) : (l.take (k + 1)).map dec = (l.take k).map dec ++ [dec (l.getD k 0)] := by
  rw [itake_snoc l hk, List.map_append]
  rfl
theorem blk_at_one (W : World) (o : Obj) (t : TypeId) (cs : Array Value) : Blk ((W.alloc o).alloc (.cells cs t)) (W.heap.size + 1) t cs := by have := Blk.new (W.alloc o) t cs; simpa using this

theorem IWW.loose {w : World} {lo lo' hi hi' : Nat} {A : Option Addr} {rs : List (List Int)} (h : IWW w lo hi A rs) (hl : lo' ≤ lo) (hh : hi ≤ hi') : IWW w lo' hi' A rs := fun h0 => by
  obtain ⟨b, off, t, cs, Q, q, e, h1, h2, hb, hc, ha⟩ := h h0
  refine ⟨b, off, t, cs, Q, q, e, by omega, by omega, hb, fun k hk => ?_, ha⟩
  obtain ⟨c1, c2, c3, c4⟩ := hc k hk
  exact ⟨c1, c2, (c3.low hl).up hh, c4⟩
theorem iwr_at (W : World) {X : World} {o' : Obj} {x y : Int} (hx : Ext ((W.alloc (Obj.cells #[.int .i64 x, .int .i64 y] 2)).alloc o') X) : IWr X W.heap.size X.heap.size (some ⟨W.heap.size, 0, none⟩) [x, y] := by
  have h1 : Blk ((W.alloc (Obj.cells #[.int .i64 x, .int .i64 y] 2)).alloc o') W.heap.size 2 #[.int .i64 x, .int .i64 y] := (Blk.new W 2 #[.int .i64 x, .int .i64 y]).ext ((Ext.refl _).alloc _)
  have h2 := h1.ext hx
  exact iwr_new h2 h2.lt

end
end Go.Proofs.Ytjoaoimebdkpaaa
