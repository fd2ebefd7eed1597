/- Rows grown: the model's side. -/
import Derived.Test.YtnmgkchkbchfaaaBk9
import Derived.Test.YtnmgkchkbchfaaaBk7
namespace Go.Proofs.Ytnmgkchkbchfaaa
set_option linter.unusedVariables false
set_option linter.unusedSimpArgs false
open Go.RowKit Go.Sort

theorem step_pushK2 {w : World} {ops : Array Oper} {o : Oper} {a : Act} {K : Act → World → Prop} {Q : Exit → Act → World → Prop} {E : Prop} (hgd : o.guard = none) (s x : Operand)
    (ho : o.op = .call { callee := .builtin .append, args := #[s, x], argTypes := #[44, 44] })
    (base : Nat) (v : Value) (n : Nat) (xs : List Int) (hs : a.eval s = v) (hown : w.ownsRow base 2 1 v n (vis xs))
    (g : Nat) (y z : Int) (hx : a.eval x = .slice (some ⟨g, 0, none⟩) 2 2) (hb : Blk w g 2 #[.int .i64 y, .int .i64 z])
    (h63 : n + 2 ≤ maxLen) (hbytes : (n + 2) * 8 ≤ 140737488355328) (hbase : base ≤ w.heap.size)
    (h : ∀ v' w', w'.ownsRow base 2 1 v' (n + 2) (vis (xs ++ [y, z])) → w.grownBy w' v.ownBlock → (v'.ownBlock = v.ownBlock ∨ v'.ownBlock = some w.heap.size) → K (a.put o.dst v') w') :
    if Region.wanted o (yielded ops a.tmps) = true then Oper.wp Try.prog o a w K Q else E := by
  obtain ⟨i0, hi, hz0, hz1, hz2⟩ := info_parts info_int
  have hy := hb.rd 0 (v := .int .i64 y) rfl
  have hz := hb.rd 1 (v := .int .i64 z) rfl
  refine step_append_any w hgd s x _ ho base 2 i0 _ 1 8 Try.underlying44 hi hz0 hz1 hz2 rfl (by decide) v n (vis xs) hs hown w.heap.size _ 2 _ [vi y, vi z] hx ⟨rfl, fun _ => ⟨_, rfl, hb.lt, fun j u hu => ?_⟩⟩ (by intro u hu; simp at hu; rcases hu with rfl | rfl <;> rfl) h63 hbytes hbase (fun v' w' h1 h2 h3 => h v' w' (by rw [vis_two]; exact h1) h2 h3)
  rw [Go.WideShapes.add_plain]
  rcases j with _ | _ | j
  · simp at hu; subst hu; exact hy
  · simp at hu; subst hu; exact hz
  · simp at hu
theorem OwnF.made (w : World) (base : Nat) (hb : base ≤ w.heap.size) : OwnF (w.alloc (.cells #[] 44)) base (.slice (some ⟨w.heap.size, 0, none⟩) 0 0) [] :=
  ⟨World.ownsRow_made (base := base) (e := 44) (size := 1) w #[] 0 hb (by unfold maxLen; omega) rfl, fun e he => by simp at he, List.Pairwise.nil⟩
/-- Two rows that the call owns lie apart. -/
def NoSame (u v : Value) : Prop := ∀ j, u.ownBlock = some j → v.ownBlock ≠ some j
theorem NoSame.grown {k : Nat} {u u' v : Value} (h : NoSame u v) (hv : ∀ j, v.ownBlock = some j → j < k) (hat : u'.ownBlock = u.ownBlock ∨ u'.ownBlock = some k) : NoSame u' v := fun j hj => by
  rcases hat with h1 | h1
  · exact h j (by rw [← h1]; exact hj)
  · rw [h1] at hj
    cases hj
    intro e
    exact Nat.lt_irrefl _ (hv _ e)
theorem NoSame.symm {u v : Value} (h : NoSame u v) : NoSame v u := fun j hj e => h j e hj
theorem NoSame.kept {w w' : World} {base n : Nat} {u v : Value} {xs : List Value} (h : NoSame u v) (hv : w.ownsRow base 2 1 v n xs) (hg : w.grownBy w' u.ownBlock) : w'.ownsRow base 2 1 v n xs := by
  refine hv.kept hg ?_
  cases hvb : v.ownBlock with
  | none => exact .inl rfl
  | some j => exact .inr fun e => h j e.symm hvb
/-- Rows of a call's own in two values that lie apart. -/
theorem NoSame.apart {n m : Nat} {A B : Option Addr} {p q : Nat} (h : NoSame (.slice A n p) (.slice B m q)) : Apart A n B m := fun b o c u e1 e2 _ _ => by
  subst e1 e2
  exact .inl fun e => h b rfl (by rw [e]; rfl)


set_option maxRecDepth 100000 in
set_option maxHeartbeats 8000000 in
theorem l09Grow_any (ts : List Tl) (B : Option Addr) (m d : Nat) (bs : List (List Int)) (E : Option Addr) (r rd : Nat) (rs : List (List Int)) (w : World) (hm : m ≤ 1048576) (hlr : bs.length = m) (hB : IRR w w.heap.size B bs) (hok : bOk ts bs = true)
    (hr : r ≤ 4096) (hlq : rs.length = r) (hE : IRR w w.heap.size E rs) (hrow : ∀ k, k < r → (rs.getD k []).length ≤ 4096 ∧ inN m (rs.getD k [])) :
    Calls Try.prog 60 #[.slice B m d, .slice E r rd] w fun e w' => ∃ R q, e = .returned (.slice R (growR bs rs).length q) ∧ (growR bs rs).length ≤ q ∧ Below w.heap.size w w' ∧ IWW w' w.heap.size w'.heap.size R (growR bs rs) := by
  have HOK := Lib.hid hok
  clear hok
  go_enter Try.func60, Try.ntmps60
  go_wp2_with fail
  have HO0 := Lib.hid (OwnF.made w w.heap.size (Nat.le_refl _))
  have HB0 := Lib.hid (((Ext.refl w).alloc (Obj.cells #[] 44)).below (Nat.le_refl w.heap.size))
  generalize w.alloc (Obj.cells #[] 44) = W0 at *
  go_loopw [6, 5] (fun iv v wr => ∃ (y : Nat) (es : List RowE), y ≤ r ∧ iv = .int .i64 y ∧ OwnF wr w.heap.size v es ∧ es.map RowE.xs = growR bs (rs.take y) ∧ Below w.heap.size w wr) (fun iv _ _ => r - (intOf iv).toNat)
  case atStart => exact ⟨0, [], Nat.zero_le _, rfl, HO0.out, rfl, HB0.out⟩
  case round =>
    obtain ⟨y, es, hy, rfl, hown, hes, hb⟩ := hrel
    have HOUT := Lib.hid hown
    have HES := Lib.hid hes
    have HYW := Lib.hid hb
    have HESL := Lib.hid (show es.length = 2 * y by
      have h := congrArg List.length hes
      rw [List.length_map, growR_len, List.length_take] at h
      omega)
    clear hown hes
    obtain ⟨Wy, rfl⟩ : ∃ W : World, W = wr := ⟨_, rfl⟩
    by_cases hyr : y < r
    · obtain ⟨bE, oE, rfl, hbE, hcE⟩ := hE (by omega)
      obtain ⟨Q, qc, e1, hq1, hQ⟩ := hcE y (by omega)
      obtain ⟨hrl, hrin⟩ := hrow y hyr
      have HG2 := Lib.hid (growR_succ bs rs (k := y) (by omega))
      generalize rs.getD y [] = row at *
      obtain ⟨rl, hrl2⟩ : ∃ rl, rl = row.length := ⟨_, rfl⟩
      rw [← hrl2] at e1 hq1 hrl
      have HRL := Lib.hid hrl2
      have E1 := Lib.hid e1
      clear hcE hrl2 e1
      have hyr3 : (y : Int) < (r : Int) := by omega
      go_wp2_with fail
      have hx2 := ((Ext.refl Wy).alloc (Obj.cells #[] 2)).alloc (Obj.cells #[] 2)
      have HO7 := Lib.hid (show ((Wy.alloc (Obj.cells #[] 2)).alloc (Obj.cells #[] 2)).ownsRow Wy.heap.size 2 1 (.slice (some ⟨Wy.heap.size, 0, none⟩) 0 0) 0 (vis []) from iown_ext (World.ownsRow_made (base := Wy.heap.size) (e := 2) (size := 1) Wy #[] 0 (Nat.le_refl _) (by unfold maxLen; omega) rfl) ((Ext.refl _).alloc _))
      have hO8 := World.ownsRow_made (base := Wy.heap.size) (e := 2) (size := 1) (Wy.alloc (Obj.cells #[] 2)) #[] 0 (by simp) (by unfold maxLen; omega) rfl
      rw [World.size_alloc] at hO8
      have HO8 := Lib.hid hO8
      have HXY := Lib.hid (hx2.below (Nat.le_refl Wy.heap.size))
      clear hx2 hO8
      generalize (Wy.alloc (Obj.cells #[] 2)).alloc (Obj.cells #[] 2) = W1 at *
      go_loopw [9, 7, 8] (fun iv u v wr => ∃ x : Nat, x ≤ rl ∧ iv = .int .i64 x ∧ wr.ownsRow Wy.heap.size 2 1 u (2 * x) (vis (halfR bs 0 (row.take x))) ∧ wr.ownsRow Wy.heap.size 2 1 v (2 * x) (vis (halfR bs 2 (row.take x))) ∧ NoSame u v ∧ Below Wy.heap.size Wy wr) (fun iv _ _ _ => rl - (intOf iv).toNat)
      case atStart => exact ⟨0, Nat.zero_le _, rfl, HO7.out, HO8.out, fun j hj e => by simp [Value.ownBlock] at hj e; omega, HXY.out⟩
      case round =>
        obtain ⟨x, hx, rfl, h7, h8, hne, hby⟩ := hrel
        have HO7 := Lib.hid h7
        have HO8 := Lib.hid h8
        have HNE := Lib.hid hne
        have HBY := Lib.hid hby
        have HBX := Lib.hid (show Below w.heap.size w wr from HYW.out.trans (hby.mono HYW.out.size))
        have e1 := (HBX.out.cell (p := ⟨bE, oE + y, none⟩) hbE).trans E1.out
        clear h7 h8 hne hby
        by_cases hxr : x < rl
        · obtain ⟨bQ, oQ, rfl, hbQ, hcQ⟩ := hQ (by have := HRL.out; omega)
          have e2 := (HBX.out.cell (p := ⟨bQ, oQ + x, none⟩) hbQ).trans (hcQ x (by have := HRL.out; omega))
          have hxi := hrin x (by have := HRL.out; omega)
          have HSU0 := Lib.hid (halfR_succ bs 0 row (k := x) (by have := HRL.out; omega))
          have HSU2 := Lib.hid (halfR_succ bs 2 row (k := x) (by have := HRL.out; omega))
          generalize row.getD x 0 = xv at *
          obtain ⟨xi, rfl⟩ : ∃ xi : Nat, xv = (xi : Int) := ⟨xv.toNat, by omega⟩
          rw [Int.toNat_natCast] at HSU0 HSU2
          have hxr3 : (x : Int) < (rl : Int) := by omega
          clear hcQ
          have cblk := irr_block hB HOK.out (k := xi) (by omega)
          obtain ⟨b, o, bx, ox, qb, rfl, hb9, hbx, e3, hqb, q0, q1, q2, q3⟩ := cblk
          replace e3 := (HBX.out.cell (p := ⟨b, o + xi, none⟩) hb9).trans e3
          replace q0 := (HBX.out.cell (p := ⟨bx, ox, none⟩) hbx).trans q0
          replace q1 := (HBX.out.cell (p := ⟨bx, ox + 1, none⟩) hbx).trans q1
          replace q2 := (HBX.out.cell (p := ⟨bx, ox + 2, none⟩) hbx).trans q2
          replace q3 := (HBX.out.cell (p := ⟨bx, ox + 3, none⟩) hbx).trans q3
          have HS0 := Lib.hid (show halfR bs 0 (row.take (x + 1)) = halfR bs 0 (row.take x) ++ [bAt bs xi 0, bAt bs xi 1] from HSU0.out)
          have HS2 := Lib.hid (show halfR bs 2 (row.take (x + 1)) = halfR bs 2 (row.take x) ++ [bAt bs xi 2, bAt bs xi 3] from HSU2.out)
          generalize bAt bs xi 0 = z0 at *
          generalize bAt bs xi 1 = z1 at *
          generalize bAt bs xi 2 = z2 at *
          generalize bAt bs xi 3 = z3 at *
          have hxm : (xi : Int) < (m : Int) := by omega
          have hbxy : bx < Wy.heap.size := by have := HYW.out.size; omega
          have m1 : 2 * x + 2 ≤ maxLen := by unfold maxLen; omega
          have m2 : (2 * x + 2) * 8 ≤ 140737488355328 := by omega
          have HM := Lib.hid (And.intro m1 m2)
          have HSZwr := Lib.hid HBY.out.size
          clear m1 m2 hqb
          go_wp2_with fail
          go_region_held3 (fun w' => w'.cell? ⟨bx, ox, none⟩ = some (.int .i64 z0) ∧ w'.cell? ⟨bx, ox + 1, none⟩ = some (.int .i64 z1))
            (first | exact ⟨q0, q1⟩ | exact ⟨p0, p1⟩ | go_keep)
            (first
            | (refine step_pushK2 rfl (.tmp 39) (.tmp 46) rfl Wy.heap.size u7 (2 * x) (halfR bs 0 (row.take x)) (by go_simp) (iown_ext HO7.out (by with_reducible first | exact Ext.refl _ | exact (Ext.refl _).drew | exact (Ext.refl _).alloc _ | exact ((Ext.refl _).alloc _).drew | exact ((Ext.refl _).drew).alloc _ | exact (((Ext.refl _).drew).alloc _).drew)) wr.heap.size z0 z1 (by go_simp) ((Blk.new wr 2 #[.int .i64 z0, .int .i64 z1]).ext (by with_reducible first | exact Ext.refl _ | exact (Ext.refl _).drew | exact (Ext.refl _).alloc _ | exact ((Ext.refl _).alloc _).drew | exact ((Ext.refl _).drew).alloc _ | exact (((Ext.refl _).drew).alloc _).drew)) HM.out.1 HM.out.2 (Nat.le_trans HSZwr.out (((by with_reducible first | exact Ext.refl _ | exact (Ext.refl _).drew | exact (Ext.refl _).alloc _ | exact ((Ext.refl _).alloc _).drew | exact ((Ext.refl _).drew).alloc _ | exact (((Ext.refl _).drew).alloc _).drew) : Ext wr _).below (Nat.le_refl _)).size) ?_; intro v9 w9 hown9 hgrow9 hat9; have Kw9 := Lib.hid ((below_next0 (Below.refl Wy.heap.size wr) (by with_reducible first | exact Ext.refl _ | exact (Ext.refl _).drew | exact (Ext.refl _).alloc _ | exact ((Ext.refl _).alloc _).drew | exact ((Ext.refl _).drew).alloc _ | exact (((Ext.refl _).drew).alloc _).drew) HSZwr.out).grown hgrow9 (Nat.le_trans HSZwr.out (((by with_reducible first | exact Ext.refl _ | exact (Ext.refl _).drew | exact (Ext.refl _).alloc _ | exact ((Ext.refl _).alloc _).drew | exact ((Ext.refl _).drew).alloc _ | exact (((Ext.refl _).drew).alloc _).drew) : Ext wr _).below (Nat.le_refl _)).size) (fun j hj => (HO7.out.lt j hj).1)); have Ow9 := Lib.hid hown9; have Tw9 := Lib.hid (HNE.out.kept (iown_ext HO8.out (by with_reducible first | exact Ext.refl _ | exact (Ext.refl _).drew | exact (Ext.refl _).alloc _ | exact ((Ext.refl _).alloc _).drew | exact ((Ext.refl _).drew).alloc _ | exact (((Ext.refl _).drew).alloc _).drew)) hgrow9); have Nw9 := Lib.hid (HNE.out.grown (fun j hj => Nat.lt_of_lt_of_le (HO8.out.lt j hj).2 (by first | exact Nat.le_refl _ | (simp; done) | (simp; omega))) hat9); have p0 := (Kw9.out.cell (p := ⟨bx, ox, none⟩) hbxy).trans q0; have p1 := (Kw9.out.cell (p := ⟨bx, ox + 1, none⟩) hbxy).trans q1; clear hown9 hgrow9 hat9))
          all_goals
            have HSZw9 := Lib.hid (Nat.le_trans HSZwr.out Kw9.out.size)
            have HN8 := Lib.hid Nw9.out.symm
            replace q2 := (Kw9.out.cell (p := ⟨bx, ox + 2, none⟩) hbxy).trans q2
            replace q3 := (Kw9.out.cell (p := ⟨bx, ox + 3, none⟩) hbxy).trans q3
            clear q0 q1 p0 p1 e1 e2 e3
            go_wp2_with fail
            go_region_held3 (fun w' => w'.cell? ⟨bx, ox + 2, none⟩ = some (.int .i64 z2) ∧ w'.cell? ⟨bx, ox + 3, none⟩ = some (.int .i64 z3))
              (first | exact ⟨q2, q3⟩ | exact ⟨p2, p3⟩ | go_keep)
              (first
              | (refine step_pushK2 rfl (.tmp 48) (.tmp 55) rfl Wy.heap.size u8 (2 * x) (halfR bs 2 (row.take x)) (by go_simp) (iown_ext Tw9.out (by with_reducible first | exact Ext.refl _ | exact (Ext.refl _).drew | exact (Ext.refl _).alloc _ | exact ((Ext.refl _).alloc _).drew | exact ((Ext.refl _).drew).alloc _ | exact (((Ext.refl _).drew).alloc _).drew)) w9.heap.size z2 z3 (by go_simp) ((Blk.new w9 2 #[.int .i64 z2, .int .i64 z3]).ext (by with_reducible first | exact Ext.refl _ | exact (Ext.refl _).drew | exact (Ext.refl _).alloc _ | exact ((Ext.refl _).alloc _).drew | exact ((Ext.refl _).drew).alloc _ | exact (((Ext.refl _).drew).alloc _).drew)) HM.out.1 HM.out.2 (Nat.le_trans HSZw9.out (((by with_reducible first | exact Ext.refl _ | exact (Ext.refl _).drew | exact (Ext.refl _).alloc _ | exact ((Ext.refl _).alloc _).drew | exact ((Ext.refl _).drew).alloc _ | exact (((Ext.refl _).drew).alloc _).drew) : Ext w9 _).below (Nat.le_refl _)).size) ?_; intro vA wA hown9 hgrow9 hat9; have KwA := Lib.hid ((below_next0 (Below.refl Wy.heap.size w9) (by with_reducible first | exact Ext.refl _ | exact (Ext.refl _).drew | exact (Ext.refl _).alloc _ | exact ((Ext.refl _).alloc _).drew | exact ((Ext.refl _).drew).alloc _ | exact (((Ext.refl _).drew).alloc _).drew) HSZw9.out).grown hgrow9 (Nat.le_trans HSZw9.out (((by with_reducible first | exact Ext.refl _ | exact (Ext.refl _).drew | exact (Ext.refl _).alloc _ | exact ((Ext.refl _).alloc _).drew | exact ((Ext.refl _).drew).alloc _ | exact (((Ext.refl _).drew).alloc _).drew) : Ext w9 _).below (Nat.le_refl _)).size) (fun j hj => (Tw9.out.lt j hj).1)); have OwA := Lib.hid hown9; have TwA := Lib.hid (HN8.out.kept (iown_ext Ow9.out (by with_reducible first | exact Ext.refl _ | exact (Ext.refl _).drew | exact (Ext.refl _).alloc _ | exact ((Ext.refl _).alloc _).drew | exact ((Ext.refl _).drew).alloc _ | exact (((Ext.refl _).drew).alloc _).drew)) hgrow9); have NwA := Lib.hid (HN8.out.grown (fun j hj => Nat.lt_of_lt_of_le (Ow9.out.lt j hj).2 (by first | exact Nat.le_refl _ | (simp; done) | (simp; omega))) hat9); have p2 := (KwA.out.cell (p := ⟨bx, ox + 2, none⟩) hbxy).trans q2; have p3 := (KwA.out.cell (p := ⟨bx, ox + 3, none⟩) hbxy).trans q3; clear hown9 hgrow9 hat9))
            all_goals
              have O8 := KwA
              have HF7 := Lib.hid (show wA.ownsRow Wy.heap.size 2 1 v9 (2 * (x + 1)) (vis (halfR bs 0 (row.take (x + 1)))) by rw [HS0.out, show 2 * (x + 1) = 2 * x + 2 by omega]; exact TwA.out)
              have HF8 := Lib.hid (show wA.ownsRow Wy.heap.size 2 1 vA (2 * (x + 1)) (vis (halfR bs 2 (row.take (x + 1)))) by rw [HS2.out, show 2 * (x + 1) = 2 * x + 2 by omega]; exact OwA.out)
              have HFN := Lib.hid NwA.out.symm
              have HFB := Lib.hid ((HBY.out.trans Kw9.out).trans KwA.out)
              clear q2 q3 p2 p3
              go_wp2_with fail
              go_roundw
              case rel => exact ⟨x + 1, by omega, by go_num, HF7.out, HF8.out, HFN.out, HFB.out⟩
              case measure => simp [intOf]; omega
        · obtain rfl : x = rl := by omega
          have hlt : ¬ (x : Int) < (x : Int) := by omega
          have h7 := HO7.out
          have h8 := HO8.out
          rw [List.take_of_length_le (by have := HRL.out; omega)] at h7 h8
          have hL0 : (halfR bs 0 row).length = 2 * x := by rw [halfR_len, HRL.out]
          have hL2 : (halfR bs 2 row).length = 2 * x := by rw [halfR_len, HRL.out]
          obtain ⟨R1, p1, hv7, hc1, hw7⟩ := own_iwr h7 hL0
          obtain ⟨R2, p2, hv8, hc2, hw8⟩ := own_iwr h8 hL2
          have hNE := HNE.out
          subst hv7 hv8
          have HAP := Lib.hid hNE.apart
          have HW7 := Lib.hid hw7
          have HW8 := Lib.hid hw8
          have HLL := Lib.hid (And.intro hL0 hL2)
          have HYY := Lib.hid (show OwnF Wy w.heap.size u5 es from HOUT.out)
          have HYS := Lib.hid (show w.heap.size ≤ Wy.heap.size from HYW.out.size)
          have HCC := Lib.hid (And.intro hc1 hc2)
          have hx9 := (Ext.refl wr).alloc (Obj.cells #[.slice R1 (2 * x) p1, .slice R2 (2 * x) p2] 44)
          have HX9 := Lib.hid hx9
          clear h7 h8 hw7 hw8 HO7 HO8 hNE hc1 hc2 hx9 hL0 hL2
          go_wp2_with (at_builtin; refine wpList_pushRows2 rfl _ _ rfl w.heap.size u5 es rfl Wy HYY.out (below_next0 HBY.out HX9.out (Nat.le_refl _)) wr.heap.size (2 * x) p1 (2 * x) p2 R1 R2 (halfR bs 0 row) (halfR bs 2 row) rfl (Blk.new wr _ _) ((HW7.out.ext HX9.out).up (HX9.out.below (Nat.le_refl _)).size) ((HW8.out.ext HX9.out).up (HX9.out.below (Nat.le_refl _)).size) HLL.out.1 HLL.out.2 HCC.out.1 HCC.out.2 HAP.out ?c1 HYS.out ?_)
          case c1 => have := HESL.out; omega
          intro v9 w9 hown9 hbel9 _
          have HO9 := Lib.hid hown9
          have HB9 := Lib.hid ((HBX.out.trans (HX9.out.below HBX.out.size)).trans hbel9)
          have HM9 := Lib.hid (show (es ++ [RowE.mk R1 p1 (halfR bs 0 row), RowE.mk R2 p2 (halfR bs 2 row)]).map RowE.xs = growR bs (rs.take (y + 1)) by rw [List.map_append, HES.out, HG2.out]; rfl)
          clear hown9 hbel9 e1
          go_wp2_with fail
          go_roundw
          case rel => exact ⟨y + 1, _, by omega, by go_num, HO9.out, HM9.out, HB9.out⟩
          case measure => simp [intOf]; omega
    · obtain rfl : y = r := by omega
      obtain ⟨A2, cap2, hv, hcap, hww⟩ := OwnF.done2 HOUT.out
      subst hv
      have hM : es.map RowE.xs = growR bs rs := by rw [HES.out, List.take_of_length_le (by omega)]
      rw [hM] at hww
      have HWW := Lib.hid hww
      have HML := Lib.hid (show es.length = (growR bs rs).length by rw [← hM, List.length_map])
      clear hww hM hb hE hB
      go_wp2_with fail
      go_ret
      rw [HML.out] at hcap
      first | exact ⟨A2, cap2, by rw [← HML.out]; rfl, hcap, HYW.out, HWW.out⟩ | exact ⟨A2, ⟨cap2, by rw [← HML.out]; rfl, hcap⟩, HYW.out, HWW.out⟩
end Go.Proofs.Ytnmgkchkbchfaaa
