/- The place of a number in an ascending list, as the model finds it; two numbers appended. -/
import Derived.Test.YtleabblnikbmpaaStA
import Derived.Test.YtleabblnikbmpaaSpA
import Derived.Lib.Hide
import Derived.Test.YtleabblnikbmpaaGmA
import Derived.Test.YtleabblnikbmpaaGtA
import Derived.BigRegion
import Derived.Deep.DeepCutAuto
import Derived.Deep.RegionHeld3
namespace Go.Proofs.Ytleabblnikbmpaa
section
set_option linter.unusedVariables false
set_option linter.unusedSimpArgs false
open Go.RowKit Go.Sort

theorem asc_leF {xs : List Int} (h : AscI xs) {i j : Nat} (hij : i ≤ j) (hj : j < xs.length) : xs.getD i 0 ≤ xs.getD j 0 := by
  rcases Nat.eq_or_lt_of_le hij with rfl | hlt
  · exact Int.le_refl _
  · exact Int.le_of_lt (asc_lt h hlt hj)
theorem find_endF {xs : List Int} (h : AscI xs) {y : Int} (hy : y ∈ xs) {p : Nat} (hp : p ≤ xs.length) (hlo : ∀ j, j < p → xs.getD j 0 < y) (hhi : ∀ j, p ≤ j → j < xs.length → y ≤ xs.getD j 0) : p < xs.length ∧ xs.getD p 0 = y ∧ rk xs y = p := by
  obtain ⟨i, hi, e⟩ := mem_getD hy
  have h1 : p ≤ i := by
    rcases Nat.lt_or_ge i p with hlt | hge
    · have := hlo i hlt; omega
    · exact hge
  have h2 := asc_leF h h1 hi
  have h3 := hhi p (Nat.le_refl _) (by omega)
  exact ⟨by omega, by omega, rk_at hp hlo hhi⟩
set_option maxHeartbeats 1000000 in
theorem l04FindF_any (A : Option Addr) (n c : Nat) (xs : List Int) (y : Int) (w : World) (hn : n ≤ 1048576) (hl : xs.length = n) (hA : IR w w.heap.size A xs) (ha : AscI xs) (hy : y ∈ xs) :
    Calls Try.prog 103 #[.slice A n c, .int .i64 y] w fun e w' => e = .returned (.int .i64 (rk xs y : Nat)) ∧ w' = w := by
  have hpos : 0 < xs.length := List.length_pos_of_mem hy
  obtain ⟨b, o, rfl, -, hc⟩ := hA hpos
  have HC := Lib.hid hc
  have HASC := Lib.hid ha
  have HY := Lib.hid hy
  have HLN := Lib.hid hl
  obtain ⟨r, hr⟩ : ∃ r, r = rk xs y := ⟨_, rfl⟩
  rw [← hr]
  have HR := Lib.hid hr
  clear hc ha hy hl hr hA
  go_enter Try.func103, Try.ntmps103
  go_wp2_with fail
  go_loop [5, 6] (fun s t => ∃ lo hi : Nat, lo ≤ hi ∧ hi ≤ n ∧ s = .int .i64 lo ∧ t = .int .i64 hi ∧ (∀ j, j < lo → xs.getD j 0 < y) ∧ (∀ j, hi ≤ j → j < xs.length → y ≤ xs.getD j 0)) (fun s t => (intOf t).toNat - (intOf s).toNat)
  case atStart => exact ⟨0, n, Nat.zero_le _, Nat.le_refl _, rfl, rfl, fun j hj => absurd hj (Nat.not_lt_zero _), fun j h1 h2 => absurd h2 (by have := HLN.out; omega)⟩
  case round =>
    obtain ⟨lo, hi, hlh, hin, rfl, rfl, hlo, hhi⟩ := hrel
    have HLO := Lib.hid hlo
    have HHI := Lib.hid hhi
    clear hlo hhi
    by_cases hlt : lo < hi
    · have hmid : (lo : Int) + (hi : Int) = ((lo + hi : Nat) : Int) := by omega
      have hq : ((lo : Int) + (hi : Int)) / 2 = (((lo + hi) / 2 : Nat) : Int) := by omega
      have hcell := HC.out ((lo + hi) / 2) (by have := HLN.out; omega)
      have hm1 : lo ≤ (lo + hi) / 2 := by omega
      have hm2 : (lo + hi) / 2 < hi := by omega
      obtain ⟨md, hmd⟩ : ∃ md, md = (lo + hi) / 2 := ⟨_, rfl⟩
      rw [← hmd] at hq hcell hm1 hm2
      clear hmd hmid
      have hmn : (md : Int) < (n : Int) := by omega
      obtain ⟨x, hX⟩ : ∃ x, x = xs.getD md 0 := ⟨_, rfl⟩
      rw [← hX] at hcell
      have EX := Lib.hid hX
      clear hX
      by_cases hxy : x < y
      · have HN := Lib.hid (show ∀ j, j < md + 1 → xs.getD j 0 < y from fun j hj => by have h1 := asc_leF HASC.out (show j ≤ md by omega) (by have := HLN.out; omega); rw [← EX.out] at h1; omega)
        go_wp2_with fail
        go_round
        case rel => exact ⟨md + 1, hi, by omega, by omega, by go_num, rfl, HN.out, HHI.out⟩
        case measure => simp [intOf]; omega
      · have HN := Lib.hid (show ∀ j, md ≤ j → j < xs.length → y ≤ xs.getD j 0 from fun j h1 h2 => by have h3 := asc_leF HASC.out h1 h2; rw [← EX.out] at h3; omega)
        go_wp2_with fail
        go_round
        case rel => exact ⟨lo, md, by omega, by omega, rfl, congrArg (Value.int .i64) hq, HLO.out, HN.out⟩
        case measure => simp [intOf]; omega
    · obtain rfl : hi = lo := by omega
      obtain ⟨h1, h2, h3⟩ := find_endF HASC.out HY.out (p := hi) (by have := HLN.out; omega) HLO.out HHI.out
      have hcell := HC.out hi h1
      rw [h2] at hcell
      have h1' : (hi : Int) < (n : Int) := by have := HLN.out; omega
      have h1n : hi < n := by omega
      have hyy : (y == y) = true := by simp
      have H3 := Lib.hid (show hi = r by rw [HR.out, h3])
      clear h2 h3 h1
      go_wp2_with fail
      go_ret
      exact ⟨ret_i (by rw [H3.out]), rfl⟩
theorem step_push2F {w : World} {ops : Array Oper} {o : Oper} {a : Act} {K : Act → World → Prop} {Q : Exit → Act → World → Prop} {E : Prop} (hgd : o.guard = none) (s x : Operand)
    (ho : o.op = .call { callee := .builtin .append, args := #[s, x], argTypes := #[42, 42] })
    (base : Nat) (v : Value) (n : Nat) (xs : List Int) (hs : a.eval s = v) (hown : w.ownsRow base 2 1 v n (vis xs))
    (g : Nat) (y z : Int) (hx : a.eval x = .slice (some ⟨g, 0, none⟩) 2 2) (hb : Blk w g 2 #[.int .i64 y, .int .i64 z])
    (h63 : n + 2 ≤ maxLen) (hbytes : (n + 2) * 8 ≤ 140737488355328) (hbase : base ≤ w.heap.size)
    (h : ∀ v' w', w'.ownsRow base 2 1 v' (n + 2) (vis (xs ++ [y, z])) → w.grownBy w' v.ownBlock → (v'.ownBlock = v.ownBlock ∨ v'.ownBlock = some w.heap.size) → K (a.put o.dst v') w') :
    if Region.wanted o (yielded ops a.tmps) = true then Oper.wp Try.prog o a w K Q else E := by
  obtain ⟨i0, hi, hz0, hz1, hz2⟩ := info_parts info_int
  refine step_append_any w hgd s x _ ho base 2 i0 _ 1 8 Try.underlying42 hi hz0 hz1 hz2 rfl (by decide) v n (vis xs) hs hown w.heap.size _ 2 _ [vi y, vi z] hx ⟨rfl, fun _ => ⟨_, rfl, hb.lt, fun j u hu => ?_⟩⟩ (by simp [vi, Value.oneCell']) h63 hbytes hbase fun v' w' h2 h3 h4 => h v' w' (by simpa [vis, vi] using h2) h3 h4
  have := hb.cell j
  rw [Go.WideShapes.add_plain, Nat.zero_add]
  rw [this, ← hu]
  simp [vi]
end

section
set_option linter.unusedVariables false
set_option linter.unusedSimpArgs false
open Go.RowKit Go.Sort

/-- The rows with these numbers. -/
def pickR (rs : List (List Int)) (xs : List Int) : List (List Int) := xs.map fun v => rs.getD v.toNat []
theorem pickR_len (rs : List (List Int)) (xs : List Int) : (pickR rs xs).length = xs.length := by simp [pickR]
theorem pickR_at (rs : List (List Int)) {xs : List Int} {k : Nat} (hk : k < xs.length) : (pickR rs xs).getD k [] = rs.getD (xs.getD k 0).toNat [] := by simp [pickR, List.getD, hk]
theorem pickR_snoc (rs : List (List Int)) (xs : List Int) (x : Int) : pickR rs (xs ++ [x]) = pickR rs xs ++ [rs.getD x.toNat []] := by simp [pickR]
/-- Rows of three numbers whose first two are the words of edges. -/
def RowsOf (E : List Tl) (rs : List (List Int)) : Prop := rs.length = E.length ∧ ∀ k, k < E.length → ∃ s, rs.getD k [] = [(E.getD k T0).1, (E.getD k T0).2.2.1, s]
theorem rows3_of (C : Int) (ts : List Tl) (h : Nat) : RowsOf (edgesL C ts h) (rows3 C ts (colsL ts h)) := by
  refine ⟨by rw [rows3_len, edgesL_len], fun k hk => ?_⟩
  rw [edgesL_len] at hk
  rw [rows3_at C ts _ hk, edgesL_at C ts h hk]
  exact ⟨_, rfl⟩
theorem nums_eq {n : Nat} {p q : Nat → Bool} (h : ∀ x, x < n → p x = q x) : numsOf n p = numsOf n q := by
  unfold numsOf
  rw [List.filter_congr (p := p) (q := q) fun x hx => h x (List.mem_range.1 hx)]
/-- Two rows of bits and an empty list, made in whatever order. -/
def Made3 (W wx : World) (S : Nat) (g1 g2 g3 : Nat) : Prop := g1 ≠ g2 ∧ g1 ≠ g3 ∧ g2 ≠ g3 ∧ W.heap.size ≤ g1 ∧ W.heap.size ≤ g2 ∧ W.heap.size ≤ g3 ∧ SeenB wx g1 4 S [] ∧ SeenB wx g2 4 S [] ∧ Blk wx g3 42 #[] ∧ Below W.heap.size W wx
theorem seen_new {W : World} {cs0 : Array Value} {S : Nat} (hF : cs0.size = S ∧ ∀ x : Nat, x < cs0.size → cs0[x]? = some (.bool false)) : SeenB (W.alloc (.cells cs0 4)) W.heap.size 4 S [] := by
  have := SeenB.start (Blk.new W 4 cs0) hF.2
  rw [hF.1] at this
  exact this
theorem SeenB.grown_ {w w' : World} {g sz : Nat} {t : TypeId} {p : List Int} {row : Option Nat} (h : SeenB w g t sz p) (hg : w.grownBy w' row) (hne : some g ≠ row) : SeenB w' g t sz p := by
  obtain ⟨cs, hb, r⟩ := h
  exact ⟨cs, (hg.block g hb.lt hne).trans hb, r⟩
theorem row_of {E : List Tl} {rs : List (List Int)} {xs : List Int} {N k : Nat} (h : RowsOf E rs) (hl : E.length = N) (hk : k < xs.length) (hx : 0 ≤ xs.getD k 0 ∧ xs.getD k 0 < N) : ∃ s, (pickR rs xs).getD k [] = [wcol E xs k, ecol E xs k, s] := by
  rw [pickR_at rs hk]
  exact h.2 (xs.getD k 0).toNat (by omega)
/-- 'append(rows, row)', and where the rows lie then. -/
theorem wpList_pushS2 {w : World} {ops : Array Oper} {rest : List Oper} {o : Oper} {a : Act} {K : Exit → Act → World → Prop} (hgd : o.guard = none) (s x : Operand)
    (ho : o.op = .call { callee := .builtin .append, args := #[s, x], argTypes := #[34, 34] })
    (base lo : Nat) (v : Value) (rs : List (List Int)) (hs : a.eval s = v) (w0 : World) (h : OwnS w0 base lo v rs) (hb : Below w0.heap.size w0 w)
    (g : Nat) (A : Option Addr) (n cap : Nat) (xs : List Int) (hx : a.eval x = .slice (some ⟨g, 0, none⟩) 1 1) (hbk : Blk w g 42 #[.slice A n cap])
    (hrow : RdI w v A xs) (hlo : ∀ c u, A = some ⟨c, u, none⟩ → 0 < xs.length → lo ≤ c) (hn : xs.length = n) (hcap : n ≤ cap) (h63 : rs.length + 1 ≤ 1048576) (hbase : base ≤ w0.heap.size)
    (hK : ∀ v' w', OwnS w' base lo v' (rs ++ [xs]) → w.grownBy w' v.ownBlock → (v'.ownBlock = v.ownBlock ∨ v'.ownBlock = some w.heap.size) → Below base w w' → wpList Try.prog ops K rest (a.put o.dst v') w') :
    wpList Try.prog ops K (o :: rest) a w := by
  obtain ⟨Q, q, hown, hr⟩ := h
  obtain ⟨i0, hi, hz0, hz1, hz2⟩ := info_parts info_row
  refine wpList_append_any w hgd s x _ ho base 42 i0 _ 1 24 Try.underlying34 hi hz0 hz1 hz2 rfl (by decide) v rs.length (rvs Q q rs) hs (own_belowA hown hb) w.heap.size _ 1 _ [.slice A n cap] hx (reads_box hbk) (by simp [Value.oneCell']) (by unfold maxLen; omega) (by omega) (Nat.le_trans hbase hb.size) ?_
  intro v' w' h1 h2 h3
  exact hK v' w' (OwnS.pushed hr hb hrow hlo hn hcap h1 h2 h3) h2 h3 ((Below.refl base w).grown h2 (Nat.le_trans hbase hb.size) (fun j hj => (hown.lt j hj).1))
theorem Made3.swap {W wx : World} {S g1 g2 g3 : Nat} (h : Made3 W wx S g1 g2 g3) : Made3 W wx S g2 g1 g3 := by
  obtain ⟨a, b, c, d, e, f, g, i, j, k⟩ := h
  exact ⟨a.symm, c, b, e, d, f, i, g, j, k⟩
theorem blk_at {W W' : World} {g : Nat} {t : TypeId} {cs : Array Value} (h : Blk W g t cs) (hx : Ext W W') : Blk W' g t cs := h.ext hx
theorem m_bbr {W : World} {cs0 : Array Value} {S : Nat} (hF : cs0.size = S ∧ ∀ x : Nat, x < cs0.size → cs0[x]? = some (.bool false)) :
    Made3 W (((W.alloc (Obj.cells cs0 4)).alloc (Obj.cells cs0 4)).alloc (Obj.cells #[] 42)).drew S W.heap.size (W.heap.size + 1) (W.heap.size + 1 + 1) := by
  have h1 := (seen_new (W := W) hF).ext ((((Ext.refl _).alloc (Obj.cells cs0 4)).alloc (Obj.cells #[] 42)).drew)
  have h2 := (seen_new (W := W.alloc (Obj.cells cs0 4)) hF).ext (((Ext.refl _).alloc (Obj.cells #[] 42)).drew)
  have h3 := (Blk.new ((W.alloc (Obj.cells cs0 4)).alloc (Obj.cells cs0 4)) 42 #[]).ext ((Ext.refl _).drew)
  simp only [World.size_alloc] at h2 h3
  exact ⟨by omega, by omega, by omega, by omega, by omega, by omega, h1, h2, h3, ((((Ext.refl W).alloc _).alloc _).alloc _).drew.below (Nat.le_refl _)⟩
theorem m_brb {W : World} {cs0 : Array Value} {S : Nat} (hF : cs0.size = S ∧ ∀ x : Nat, x < cs0.size → cs0[x]? = some (.bool false)) :
    Made3 W (((W.alloc (Obj.cells cs0 4)).alloc (Obj.cells #[] 42)).alloc (Obj.cells cs0 4)).drew S W.heap.size (W.heap.size + 1 + 1) (W.heap.size + 1) := by
  have h1 := (seen_new (W := W) hF).ext ((((Ext.refl _).alloc (Obj.cells #[] 42)).alloc (Obj.cells cs0 4)).drew)
  have h2 := (seen_new (W := (W.alloc (Obj.cells cs0 4)).alloc (Obj.cells #[] 42)) hF).ext ((Ext.refl _).drew)
  have h3 := (Blk.new (W.alloc (Obj.cells cs0 4)) 42 #[]).ext (((Ext.refl _).alloc (Obj.cells cs0 4)).drew)
  simp only [World.size_alloc] at h2 h3
  exact ⟨by omega, by omega, by omega, by omega, by omega, by omega, h1, h2, h3, ((((Ext.refl W).alloc _).alloc _).alloc _).drew.below (Nat.le_refl _)⟩
theorem m_rbb {W : World} {cs0 : Array Value} {S : Nat} (hF : cs0.size = S ∧ ∀ x : Nat, x < cs0.size → cs0[x]? = some (.bool false)) :
    Made3 W (((W.alloc (Obj.cells #[] 42)).alloc (Obj.cells cs0 4)).alloc (Obj.cells cs0 4)).drew S (W.heap.size + 1) (W.heap.size + 1 + 1) W.heap.size := by
  have h1 := (seen_new (W := W.alloc (Obj.cells #[] 42)) hF).ext (((Ext.refl _).alloc (Obj.cells cs0 4)).drew)
  have h2 := (seen_new (W := (W.alloc (Obj.cells #[] 42)).alloc (Obj.cells cs0 4)) hF).ext ((Ext.refl _).drew)
  have h3 := (Blk.new W 42 #[]).ext ((((Ext.refl _).alloc (Obj.cells cs0 4)).alloc (Obj.cells cs0 4)).drew)
  simp only [World.size_alloc] at h1 h2
  exact ⟨by omega, by omega, by omega, by omega, by omega, by omega, h1, h2, h3, ((((Ext.refl W).alloc _).alloc _).alloc _).drew.below (Nat.le_refl _)⟩

set_option maxRecDepth 100000 in
set_option maxHeartbeats 16000000 in
theorem l06Keep_any (A : Option Addr) (N c : Nat) (rs : List (List Int)) (E : List Tl) (S : Nat) (w : World) (hN : N ≤ 5000) (hl : E.length = N) (hA : IRR w w.heap.size A rs) (hro : RowsOf E rs) (hS : S ≤ 700) (hs : colOk S E) :
    Calls Try.prog 101 #[.slice A N c, .int .i64 (S : Int)] w fun e w' => ∃ R q, e = .returned (.slice R (lastL E).length q) ∧ Below w.heap.size w w' ∧ IRR w' w'.heap.size R (pickR rs (lastL E)) := by
  obtain ⟨i0, hi, hz0, hz1, hz2⟩ := info_parts info_bool
  have hmk := fun W => run_make_rowN (P := Try.prog) 79 4 i0 _ (by kernel_rfl) hi hz0 .i64 .i64 S S (Nat.le_refl _) (by rw [hz2]; omega) (by omega) W
  rw [hz1] at hmk
  generalize hcs : madeCells (Value.cells (.bool false)) (S * 1) = cs0 at hmk
  have hfa := made_false hcs.symm
  have HF := Lib.hid hfa
  clear hcs hfa hi hz0 hz1 hz2
  have HS := Lib.hid hs
  have HA := Lib.hid hA
  have HRO := Lib.hid hro
  clear hs hA hro
  go_enter Try.func101, Try.ntmps101
  go_wp2_with fail
  go_loopw [0] (fun v wr => ∃ (p : Nat → Bool) (R : Option Addr) (q : Nat), v = .slice R (numsOf N p).length q ∧ (∀ x, lastT E x → p x = true) ∧ IRR wr wr.heap.size R (pickR rs (numsOf N p)) ∧ Below w.heap.size w wr) (fun v _ => lenOf v)
  case atStart =>
    refine ⟨fun _ => true, A, c, by rw [← upTo_nums, upTo_len], fun _ _ => rfl, ?_, Below.refl _ _⟩
    have e : pickR rs (numsOf N fun _ => true) = rs := by
      rw [← upTo_nums]
      refine rows_eq_of (by rw [pickR_len, upTo_len, HRO.out.1, hl]) fun j hj => ?_
      rw [pickR_len, upTo_len] at hj
      rw [pickR_at rs (by rw [upTo_len]; exact hj)]
      simp [upTo, List.getD, hj]
    rw [e]
    exact HA.out
  case round =>
    obtain ⟨p, R, q, rfl, hp, hir, hb⟩ := hrel
    have HP := Lib.hid hp
    have HI := Lib.hid hir
    have HB := Lib.hid hb
    have HBN := Lib.hid (betwN_nums E N p)
    have HLS := Lib.hid (nums_less E N p)
    have HNX := Lib.hid (nums_same (ts := E) (n := N) (p := p))
    have HIN := Lib.hid (fun k (hk : k < (numsOf N p).length) => numsOf_in (n := N) (p := p) hk)
    have hle := numsOf_le N p
    clear hp hir hb
    generalize hxs : numsOf N p = xs at *
    have HXS := Lib.hid hxs
    clear hxs
    generalize hM : xs.length = m at *
    obtain ⟨WR, hWR⟩ : ∃ W1, W1 = wr := ⟨_, rfl⟩
    subst hWR
    go_wp2_with fail
    go_upto_region 1 with (fail)
    go_cut [5, 6, 7] from 15 to 76 (fun v5 v6 v7 wx => ∃ g1 g2 g3 : Nat, v5 = .slice (some ⟨g1, 0, none⟩) S S ∧ v6 = .slice (some ⟨g2, 0, none⟩) S S ∧ v7 = .slice (some ⟨g3, 0, none⟩) 0 0 ∧ Made3 WR wx S g1 g2 g3)
    case first =>
      go_region
      all_goals (go_wp2_with fail)
      all_goals go_meet
      all_goals exact ⟨_, _, _, rfl, rfl, rfl, by first | exact m_bbr HF.out | exact (m_bbr HF.out).swap | exact m_brb HF.out | exact (m_brb HF.out).swap | exact m_rbb HF.out | exact (m_rbb HF.out).swap⟩
    case rest =>
      obtain ⟨g1, g2, g3, rfl, rfl, rfl, hm3⟩ := hcut
      obtain ⟨h12, h13, h23, hg1, hg2, hg3, h5, h6, h7, hbx⟩ := hm3
      clear hmk
      obtain ⟨WA, hWA⟩ : ∃ W1, W1 = wc := ⟨_, rfl⟩
      subst hWA
      have H5 := Lib.hid h5
      have H6 := Lib.hid h6
      have H7 := Lib.hid h7
      have HBX := Lib.hid hbx
      have hszA := hbx.size
      clear h5 h6 h7 hbx
      go_wp2_with fail
      go_loopw [8] (fun ii wr => ∃ k : Nat, k ≤ m ∧ ii = .int .i64 k ∧ SeenB wr g1 4 S (colL (wcol E xs) k) ∧ SeenB wr g2 4 S (colL (ecol E xs) k) ∧ Blk wr g3 42 #[] ∧ Below WR.heap.size WR wr) (fun ii _ => m - (intOf ii).toNat)
      case atStart => exact ⟨0, Nat.zero_le _, rfl, H5.out, H6.out, H7.out, HBX.out⟩
      case round =>
        obtain ⟨k, hk, rfl, h5, h6, h7, hb⟩ := hrel
        by_cases hlt : k < m
        · have hlt3 : (k : Int) < (m : Int) := by omega
          obtain ⟨bR, oR, rfl, hbR, hcR⟩ := HI.out (by rw [pickR_len]; omega)
          obtain ⟨Q, qc, e1, hq, hQ⟩ := hcR k (by rw [pickR_len]; omega)
          have hin := HIN.out k (by omega)
          obtain ⟨sx, hrow⟩ := row_of HRO.out hl (k := k) (by omega) hin
          rw [hrow] at e1 hq hQ
          obtain ⟨bq, oq, rfl, hbq, hcq⟩ := hQ (by simp)
          have p0 := hcq 0 (by simp)
          have p1 := hcq 1 (by simp)
          simp only [List.getD_cons_zero, List.getD_cons_succ, List.length_cons, List.length_nil, Nat.zero_add, Nat.reduceAdd, Nat.add_zero] at p0 p1 e1 hq
          obtain ⟨a, e, ha, ha6, he, he6⟩ := HS.out (xs.getD k 0).toNat (by omega)
          have hw : wcol E xs k = (a : Int) := ha
          have hee : ecol E xs k = (e : Int) := he
          rw [hw] at p0
          rw [hee] at p1
          have b1 : (a : Int) < (S : Int) := by omega
          have b2 : (e : Int) < (S : Int) := by omega
          clear hcR
          have hbs := hb.setCell (p := ⟨g1, a, none⟩) (show WR.heap.size ≤ g1 from hg1) (.bool true)
          replace p0 := (hb.cell (p := ⟨bq, oq, none⟩) hbq).trans p0
          have e1' := (hb.cell (p := ⟨bR, oR + k, none⟩) hbR).trans e1
          have s1 := (hbs.cell (p := ⟨bR, oR + k, none⟩) hbR).trans e1
          have s2 := (hbs.cell (p := ⟨bq, oq + 1, none⟩) hbq).trans p1
          obtain ⟨g5, z5⟩ := h5.at_ ha6
          have h6' := h6.far (a := ⟨g1, a, none⟩) (by show g2 ≠ g1; omega) (.bool true)
          obtain ⟨g6, z6⟩ := h6'.at_ he6
          have h5' := h5.step ha6
          rw [← hw, ← colL_succ] at h5'
          have h5'' := h5'.far (a := ⟨g2, e, none⟩) (by show g1 ≠ g2; omega) (.bool true)
          have h6'' := h6'.step he6
          rw [← hee, ← colL_succ] at h6''
          have h7'' := (h7.far (p := ⟨g1, a, none⟩) (by show g3 ≠ g1; omega) (.bool true)).far (p := ⟨g2, e, none⟩) (by show g3 ≠ g2; omega) (.bool true)
          have HN := Lib.hid (And.intro h5'' (And.intro h6'' (And.intro h7'' (hbs.setCell (p := ⟨g2, e, none⟩) (show WR.heap.size ≤ g2 from hg2) (.bool true)))))
          clear hbs h5 h6 h7 h6' h5' h5'' h6'' h7'' hb hw hee ha he hin hQ hcq hrow e1 p1
          go_wp2_with fail
          go_roundw
          case rel => first | exact ⟨k + 1, by omega, by go_num, HN.out⟩ | ((repeat apply Exists.intro); exact ⟨⟨k + 1, by omega, by go_num, HN.out⟩, rfl⟩)
          case measure => simp [intOf]; omega
        · obtain rfl : k = m := by omega
          have G5 := Lib.hid h5
          have G6 := Lib.hid h6
          have HB2 := Lib.hid hb
          have HO0 := Lib.hid (OwnS.made (lo := 0) hg3 h7)
          have h1l := h5.lt
          have h2l := h6.lt
          clear h5 h6 h7 hb
          go_wp2_with fail
          go_loopw [7, 9] (fun v ii wr => ∃ k' : Nat, k' ≤ k ∧ ii = .int .i64 k' ∧ OwnS wr WR.heap.size 0 v (pickR rs (betwN E xs k')) ∧ SeenB wr g1 4 S (colL (wcol E xs) k) ∧ SeenB wr g2 4 S (colL (ecol E xs) k) ∧ some g1 ≠ v.ownBlock ∧ some g2 ≠ v.ownBlock ∧ Below WR.heap.size WR wr) (fun _ ii _ => k - (intOf ii).toNat)
          case atStart => exact ⟨0, Nat.zero_le _, rfl, HO0.out, G5.out, G6.out, by simp [Value.ownBlock]; omega, by simp [Value.ownBlock]; omega, HB2.out⟩
          case round =>
            obtain ⟨k', hk', rfl, hown, h5, h6, hn1, hn2, hb⟩ := hrel
            have HO := Lib.hid hown
            have K5 := Lib.hid h5
            have K6 := Lib.hid h6
            have HNE := Lib.hid (And.intro hn1 hn2)
            have HB3 := Lib.hid hb
            have hszk := hb.size
            have hl5 := h5.lt
            have hl6 := h6.lt
            by_cases hlt' : k' < k
            · have hlt3 : (k' : Int) < (k : Int) := by omega
              obtain ⟨bR, oR, rfl, hbR, hcR⟩ := HI.out (by rw [pickR_len]; omega)
              obtain ⟨Q, qc, e1, hq, hQ⟩ := hcR k' (by rw [pickR_len]; omega)
              have hin := HIN.out k' (by omega)
              obtain ⟨sx, hrow⟩ := row_of HRO.out hl (k := k') (by omega) hin
              rw [hrow] at e1 hq hQ
              obtain ⟨bq, oq, rfl, hbq, hcq⟩ := hQ (by simp)
              have p0 := hcq 0 (by simp)
              have p1 := hcq 1 (by simp)
              simp only [List.getD_cons_zero, List.getD_cons_succ, List.length_cons, List.length_nil, Nat.zero_add, Nat.reduceAdd, Nat.add_zero] at p0 p1 e1 hq
              obtain ⟨a, e, ha, ha6, he, he6⟩ := HS.out (xs.getD k' 0).toNat (by omega)
              have hw : wcol E xs k' = (a : Int) := ha
              have hee : ecol E xs k' = (e : Int) := he
              rw [hw] at p0
              rw [hee] at p1
              have b1 : (a : Int) < (S : Int) := by omega
              have b2 : (e : Int) < (S : Int) := by omega
              clear hcR
              have HKB := Lib.hid (show keepB E xs k' = (decide ((a : Int) ∈ colL (ecol E xs) k) && decide ((e : Int) ∈ colL (wcol E xs) k)) by unfold keepB; rw [colL_mem, colL_mem, hM, hw, hee])
              have hsc := betwN_succ E xs k'
              have hbl := betwN_le E xs k'
              rw [HKB.out] at hsc
              have g6 := (h6.at_ ha6).1
              have g5 := (h5.at_ he6).1
              generalize decide ((a : Int) ∈ colL (ecol E xs) k) = u1 at g6 hsc
              generalize decide ((e : Int) ∈ colL (wcol E xs) k) = u2 at g5 hsc
              replace p0 := (hb.cell (p := ⟨bq, oq, none⟩) hbq).trans p0
              replace p1 := (hb.cell (p := ⟨bq, oq + 1, none⟩) hbq).trans p1
              replace e1 := (hb.cell (p := ⟨bR, oR + k', none⟩) hbR).trans e1
              have HQR := Lib.hid (show IR wr WR.heap.size (some ⟨bq, oq, none⟩) (rs.getD (xs.getD k' 0).toNat []) by
                have e9 := pickR_at rs (xs := xs) (k := k') (by omega)
                rw [← e9, hrow]
                exact hQ.below hb (Nat.le_refl _))
              have HQL := Lib.hid (show (rs.getD (xs.getD k' 0).toNat []).length = 3 by
                have e9 := pickR_at rs (xs := xs) (k := k') (by omega)
                rw [← e9, hrow]; rfl)
              have HSC := Lib.hid hsc
              have HLE := Lib.hid (show (pickR rs (betwN E xs k')).length + 1 ≤ 1048576 by rw [pickR_len]; omega)
              clear hsc hw hee ha he hin hcq hrow hQ hown h5 h6 hb HKB
              obtain ⟨row, hrow9⟩ : ∃ row, row = rs.getD (xs.getD k' 0).toNat [] := ⟨_, rfl⟩
              rw [← hrow9] at HQR HQL
              have HROW := Lib.hid hrow9
              clear hrow9
              cases hu : (u1 && u2) with
              | true =>
                have hu1 : u1 = true := by cases u1 <;> simp_all
                have hu2 : u2 = true := by cases u2 <;> simp_all
                subst hu1 hu2
                go_wp2_with (at_builtin; refine wpList_pushS2 rfl _ _ rfl WR.heap.size 0 _ (pickR rs (betwN E xs k')) rfl wr HO.out (((Ext.refl _).alloc _).below (Nat.le_refl _)) wr.heap.size (some ⟨bq, oq, none⟩) 3 qc row rfl (heap_alloc_new wr _) ?c1 (fun _ _ _ _ => Nat.zero_le _) HQL.out hq ?c2 ?c3 ?_)
                case c1 => exact (rdi_of_ir HQR.out hszk (fun g e => (HO.out.lt e).1)).ext ((Ext.refl _).alloc _)
                case c2 => exact HLE.out
                case c3 => exact hszk
                intro v' w3 hown' hgrow hat hb3
                have e1' : betwN E xs (k' + 1) = betwN E xs k' ++ [xs.getD k' 0] := by rw [HSC.out]; simp
                have O3 := Lib.hid (show OwnS w3 WR.heap.size 0 v' (pickR rs (betwN E xs (k' + 1))) by rw [e1', pickR_snoc, ← HROW.out]; exact hown')
                have B3 := Lib.hid ((HB3.out.alloc hszk _).trans hb3)
                have K53 := Lib.hid ((K5.out.ext ((Ext.refl wr).alloc (Obj.cells #[.slice (some ⟨bq, oq, none⟩) 3 qc] 42))).grown_ hgrow HNE.out.1)
                have K63 := Lib.hid ((K6.out.ext ((Ext.refl wr).alloc (Obj.cells #[.slice (some ⟨bq, oq, none⟩) 3 qc] 42))).grown_ hgrow HNE.out.2)
                have N3 := Lib.hid (show some g1 ≠ v'.ownBlock ∧ some g2 ≠ v'.ownBlock by
                  rcases hat with h | h
                  · rw [h]; exact HNE.out
                  · rw [h]; constructor <;> (intro e9; simp at e9; omega))
                clear hown' hgrow hat hb3 e1'
                go_wp2_with fail
                go_roundw
                case rel => first | exact ⟨k' + 1, by omega, by go_num, O3.out, K53.out, K63.out, N3.out.1, N3.out.2, B3.out⟩ | ((repeat apply Exists.intro); exact ⟨⟨k' + 1, by omega, by go_num, O3.out, K53.out, K63.out, N3.out.1, N3.out.2, B3.out⟩, rfl⟩)
                case measure => simp [intOf]; omega
              | false =>
                have HO3 := Lib.hid (show OwnS wr WR.heap.size 0 _ (pickR rs (betwN E xs (k' + 1))) by rw [HSC.out, hu]; simpa using HO.out)
                cases u1 with
                | false =>
                  go_wp2_with fail
                  go_roundw
                  case rel => first | exact ⟨k' + 1, by omega, by go_num, HO3.out, K5.out, K6.out, HNE.out.1, HNE.out.2, HB3.out⟩ | ((repeat apply Exists.intro); exact ⟨⟨k' + 1, by omega, by go_num, HO3.out, K5.out, K6.out, HNE.out.1, HNE.out.2, HB3.out⟩, rfl⟩)
                  case measure => simp [intOf]; omega
                | true =>
                  obtain rfl : u2 = false := by simpa using hu
                  go_wp2_with fail
                  go_roundw
                  case rel => first | exact ⟨k' + 1, by omega, by go_num, HO3.out, K5.out, K6.out, HNE.out.1, HNE.out.2, HB3.out⟩ | ((repeat apply Exists.intro); exact ⟨⟨k' + 1, by omega, by go_num, HO3.out, K5.out, K6.out, HNE.out.1, HNE.out.2, HB3.out⟩, rfl⟩)
                  case measure => simp [intOf]; omega
            · obtain rfl : k' = k := by omega
              obtain ⟨A3, cap3, hv3, -, hirl⟩ := hown.done (Nat.zero_le _)
              subst hv3
              have HIR := Lib.hid (show IRR wr wr.heap.size A3 (pickR rs (numsOf N fun x => p x && keepP E N p x)) by rw [← HBN.out]; exact hirl.irr)
              have HLN := Lib.hid (show (pickR rs (betwN E xs k')).length = (numsOf N fun x => p x && keepP E N p x).length by rw [pickR_len, HBN.out])
              have HBF := Lib.hid (HB.out.trans (hb.mono HB.out.size))
              rw [HLN.out]
              generalize hq9 : (fun x => p x && keepP E N p x) = q9 at *
              generalize hm3 : (numsOf N q9).length = m3 at *
              clear hown h5 h6 hb hirl HO
              by_cases hme : m3 = k'
              · have HLL := Lib.hid (show numsOf N q9 = lastL E by
                  have h8 : xs = lastL E := by rw [← HXS.out]; exact nums_last hl HP.out (HNX.out hme)
                  rw [← h8, ← HXS.out]
                  refine nums_eq fun x hx => ?_
                  rw [← hq9]
                  cases hpx : p x with
                  | false => simp [hpx]
                  | true => simp [hpx, HNX.out hme x hx hpx])
                subst hme
                go_wp2_with fail
                go_ret
                first | exact ⟨A3, cap3, by rw [← HLL.out, hm3]; rfl, HBF.out, by rw [← HLL.out]; exact HIR.out⟩ | exact ⟨A3, ⟨cap3, by rw [← HLL.out, hm3]; rfl⟩, HBF.out, by rw [← HLL.out]; exact HIR.out⟩
              · have hme3 : ((m3 : Int) == (k' : Int)) = false := by rw [beq_eq_false_iff_ne]; omega
                have HLS2 := Lib.hid (show m3 < k' by have := HLS.out; omega)
                go_wp2_with fail
                go_roundw
                case rel => first | exact ⟨q9, A3, cap3, by rw [hm3], fun x hx => by rw [← hq9]; exact keep_last hl HP.out x hx, HIR.out, HBF.out⟩ | ((repeat apply Exists.intro); exact ⟨⟨q9, A3, cap3, by rw [hm3], fun x hx => by rw [← hq9]; exact keep_last hl HP.out x hx, HIR.out, HBF.out⟩, rfl⟩)
                case measure => simp [lenOf]; exact HLS2.out
end

section
set_option linter.unusedVariables false
set_option linter.unusedSimpArgs false
open Go.RowKit Go.Sort

theorem lastL_at {E : List Tl} {k : Nat} (hk : k < (lastL E).length) : 0 ≤ (lastL E).getD k 0 ∧ (lastL E).getD k 0 < E.length := by
  classical
  exact numsOf_in (n := E.length) (p := fun k => decide (lastT E k)) hk
theorem row_es {E : List Tl} {rs : List (List Int)} (h : RowsOf E rs) {k : Nat} (hk : k < (lastL E).length) : ∃ s, (pickR rs (lastL E)).getD k [] = [((lastingT E).getD k T0).1, ((lastingT E).getD k T0).2.2.1, s] := by
  obtain ⟨s, e⟩ := row_of h rfl hk (lastL_at hk)
  refine ⟨s, ?_⟩
  rw [e]
  have e2 : (lastingT E).getD k T0 = E.getD ((lastL E).getD k 0).toNat T0 := by simp [lastingT, pick, List.getD, hk]
  rw [e2]
  rfl
/-- The lasting words and their table, as the model hands them back. -/
def LastM (w : World) (E : List Tl) (e : Ending) (w' : World) : Prop :=
  ∃ A2 q2 T p, e = .returned (.tuple #[.slice A2 (wordsL E).length q2, .slice T (wordsL E).length p, .int .i64 0]) ∧ Below w.heap.size w w' ∧ IR w' w'.heap.size A2 (wordsL E) ∧ IWW w' w.heap.size w'.heap.size T (tabL E)
/-- None of them, with a code. -/
def NoLast (w : World) (code : Int) (e : Ending) (w' : World) : Prop := e = .returned (.tuple #[.slice none 0 0, .slice none 0 0, .int .i64 code]) ∧ Below w.heap.size w w'

set_option maxRecDepth 100000 in
set_option maxHeartbeats 2000000 in
theorem l06Lasting_g (C : Nat) (A : Option Addr) (n c : Nat) (ts : List Tl) (h : Nat) (w : World) (hl : ts.length = n) (hA : TR w w.heap.size A ts) (hs : isSet (C : Int) ts = true) (h1 : 1 ≤ h) (h4 : h ≤ 4) (hC7 : C ^ h ≤ 700) (hN : (colsL ts h).length ≤ 5000) :
    Calls Try.prog 56 #[.agg #[.int .i64 (C : Int), .slice A n c], .int .i64 (h : Int)] w fun e w' =>
      ((wordsL (edgesL (C : Int) ts h)).length ≤ 40 → LastM w (edgesL (C : Int) ts h) e w') ∧ (¬ (wordsL (edgesL (C : Int) ts h)).length ≤ 40 → NoLast w 3 e w') := by
  have hcc := isSet_col hs
  have hok := edges_ok (C := C) (ts := ts) (by omega) (colOk_set hs rfl) h
  have hgo : ∀ W, Ext w W → Calls Try.prog 52 #[.agg #[.int .i64 (C : Int), .slice A n c], .int .i64 (h : Int)] W _ := fun W hW => l06Code_0 C A n c ts h W hl ((hA.ext hW (Nat.le_refl _)).more (hW.below (Nat.le_refl _)).size) hs h1 h4 hC7 hN
  unfold CodeRes at hgo
  have hsi : ∀ W, Calls Try.prog 71 #[.agg #[.int .i64 (C : Int), .slice A n c], .int .i64 (h : Int)] W _ := fun W => l06Size_any C A n c h W (by omega) h4
  have hel := edgesL_len (C : Int) ts h
  have hke : ∀ W (R : Option Addr) (q : Nat), IRR W W.heap.size R (rows3 (C : Int) ts (colsL ts h)) → Calls Try.prog 101 #[.slice R (colsL ts h).length q, .int .i64 ((C ^ h : Nat) : Int)] W _ := fun W R q hR => l06Keep_any R _ q (rows3 (C : Int) ts (colsL ts h)) (edgesL (C : Int) ts h) (C ^ h) W hN hel hR (rows3_of (C : Int) ts h) hC7 hok
  have hro := fun k hk => row_es (rows3_of (C : Int) ts h) (k := k) hk
  have hle := lastL_le (edgesL (C : Int) ts h)
  have HPRL := Lib.hid (pickR_len (rows3 (C : Int) ts (colsL ts h)) (lastL (edgesL (C : Int) ts h)))
  have hlt := show (lastingT (edgesL (C : Int) ts h)).length = (lastL (edgesL (C : Int) ts h)).length from pick_len _ _
  have hwm : ∀ e ∈ lastingT (edgesL (C : Int) ts h), e.1 ∈ wordsL (edgesL (C : Int) ts h) ∧ e.2.2.1 ∈ wordsL (edgesL (C : Int) ts h) := fun e he => ⟨words_W he, words_E he⟩
  have HASC := Lib.hid (wordsL_asc (edgesL (C : Int) ts h))
  have HWB := Lib.hid (words_both (edgesL (C : Int) ts h))
  unfold LastM NoLast tabL
  have HG := Lib.hid hgo
  have HSI := Lib.hid hsi
  have HKE := Lib.hid hke
  have HRO := Lib.hid hro
  have HWM := Lib.hid hwm
  clear hgo hsi hke hro hwm hA hs hok hcc
  generalize pickR (rows3 (C : Int) ts (colsL ts h)) (lastL (edgesL (C : Int) ts h)) = prs at *
  generalize rows3 (C : Int) ts (colsL ts h) = rs3 at *
  generalize edgesL (C : Int) ts h = E at *
  generalize lastingT E = es at *
  generalize wordsL E = ws at *
  generalize (lastL E).length = N at *
  generalize (colsL ts h).length = N0 at *
  generalize C ^ h = P at *
  have hN5 : N ≤ 5000 := by omega
  go_enter Try.func56, Try.ntmps56
  go_wp2_with fail
  have HX0 := Lib.hid ((Ext.refl w).alloc (.cells #[.int .i64 (C : Int), .slice A n c] 30))
  have HS0 := Lib.hid (Blk.new w 30 #[.int .i64 (C : Int), .slice A n c])
  refine (HG.out _ HX0.out).mono ?_
  rintro e w1 ⟨R, q, rfl, hb1, hi1⟩
  have hB1 : Below (w.heap.size + 1) (w.alloc (.cells #[.int .i64 (C : Int), .slice A n c] 30)) w1 := by have := hb1; simpa using this
  have B1 := Lib.hid hB1
  have I1 := Lib.hid hi1
  have hsz1 : w.heap.size + 1 ≤ w1.heap.size := by have := hb1.size; simp at this; exact this
  have r0 := (HS0.out.below hB1 (by omega)).rd 0 rfl
  have r1 := (HS0.out.below hB1 (by omega)).rd 1 rfl
  clear hb1 hi1 hB1
  go_wp2_with fail
  refine (HSI.out _).mono ?_
  rintro e w2 ⟨rfl, hx2⟩
  have B2 := Lib.hid (B1.out.trans (hx2.below hsz1))
  have I2 := Lib.hid ((I1.out.below (hx2.below (Nat.le_refl _)) (Nat.le_refl _)).more (hx2.below (Nat.le_refl _)).size)
  have hsz2 := (hx2.below (Nat.le_refl w1.heap.size)).size
  clear hx2 r0 r1
  go_wp2_with fail
  refine (HKE.out _ _ _ I2.out).mono ?_
  rintro e w3 ⟨R3, q3, rfl, hb3, hi3⟩
  have hsz3 := hb3.size
  have B3 := Lib.hid (B2.out.trans (hb3.mono (by omega)))
  have I3 := Lib.hid hi3
  clear hb3 hi3
  go_wp2_with fail
  have HPL := Lib.hid (HRO.out)
  have hprl : prs.length = N := HPRL.out
  have hW4 : Blk (w3.alloc (Obj.cells #[] 2)) w3.heap.size 2 #[] := Blk.new w3 _ _
  have HO0 := Lib.hid (own_emptyI hW4 (Nat.le_refl w3.heap.size))
  have HX4 := Lib.hid (((Ext.refl w3).alloc (Obj.cells #[] 2)).below (Nat.le_refl w3.heap.size))
  clear hW4
  go_loopw [9, 10] (fun v ii wr => ∃ k : Nat, k ≤ N ∧ ii = .int .i64 k ∧ wr.ownsRow w3.heap.size 2 1 v (2 * k) (vis (bothW (es.take k))) ∧ Below w3.heap.size w3 wr) (fun _ ii _ => N - (intOf ii).toNat)
  case atStart => exact ⟨0, Nat.zero_le _, rfl, HO0.out, HX4.out⟩
  case round =>
    obtain ⟨k, hk, rfl, hown, hb⟩ := hrel
    have HO := Lib.hid hown
    have HB := Lib.hid hb
    have hszk := hb.size
    clear hown hb
    by_cases hlt9 : k < N
    · have hlt3 : (k : Int) < (N : Int) := by omega
      obtain ⟨bR, oR, rfl, hbR, hcR⟩ := I3.out (by omega)
      obtain ⟨Q, qc, e1, hq, hQ⟩ := hcR k (by omega)
      obtain ⟨sx, hrow⟩ := HRO.out k (by omega)
      rw [hrow] at e1 hq hQ
      obtain ⟨bq, oq, rfl, hbq, hcq⟩ := hQ (by simp)
      have p0 := hcq 0 (by simp)
      have p1 := hcq 1 (by simp)
      simp only [List.getD_cons_zero, List.getD_cons_succ, List.length_cons, List.length_nil, Nat.zero_add, Nat.reduceAdd, Nat.add_zero] at p0 p1 e1 hq
      replace e1 := (HB.out.cell (p := ⟨bR, oR + k, none⟩) hbR).trans e1
      replace p0 := (HB.out.cell (p := ⟨bq, oq, none⟩) hbq).trans p0
      replace p1 := (HB.out.cell (p := ⟨bq, oq + 1, none⟩) hbq).trans p1
      have HT := Lib.hid (show bothW (es.take (k + 1)) = bothW (es.take k) ++ [(es.getD k T0).1, (es.getD k T0).2.2.1] by rw [take_snoc es (by omega), bothW_snoc])
      generalize (es.getD k T0).1 = y0 at *
      generalize (es.getD k T0).2.2.1 = y1 at *
      have n1 : some bR ≠ u9.ownBlock := fun e => by have := (HO.out.lt _ e.symm).1; omega
      have n2 : some bq ≠ u9.ownBlock := fun e => by have := (HO.out.lt _ e.symm).1; omega
      have NN := Lib.hid (And.intro n1 n2)
      have HSZK := Lib.hid hszk
      have HLK := Lib.hid hk
      clear n1 n2 hQ hcq hrow hcR
      go_wp2_with fail
      go_region_held3 (fun w' => w'.cell? ⟨bR, oR + k, none⟩ = some (.slice (some ⟨bq, oq, none⟩) 3 qc) ∧ w'.cell? ⟨bq, oq, none⟩ = some (.int .i64 y0) ∧ w'.cell? ⟨bq, oq + 1, none⟩ = some (.int .i64 y1))
        (first | go_keep | exact ⟨hgrow4.cell (by go_simp) NN.out.1, hgrow4.cell (by go_simp) NN.out.2, hgrow4.cell (by go_simp) NN.out.2⟩)
        (first | (refine step_push2F (by rfl) _ _ (by rfl) w3.heap.size _ (2 * k) (bothW (es.take k)) (by rfl) (HO.out.alloc _).drew wr.heap.size y0 y1 (by rfl) (heap_alloc_new wr _) (by unfold maxLen; omega) (by omega) (Nat.le_trans HSZK.out (alloc_le _ _)) ?_; intro v4 w4 hown4 hgrow4 hat4))
      have O4 := Lib.hid (show w4.ownsRow w3.heap.size 2 1 v4 (2 * (k + 1)) (vis (bothW (es.take (k + 1)))) by rw [HT.out, show 2 * (k + 1) = 2 * k + 2 by omega]; exact hown4)
      have B4 := Lib.hid (((HB.out.alloc HSZK.out (Obj.cells #[.int .i64 y0, .int .i64 y1] 2)).drew).grown hgrow4 (Nat.le_trans HSZK.out (alloc_le _ _)) (fun j hj => (HO.out.lt j hj).1))
      clear hown4 hgrow4 hat4
      go_wp2_with fail
      go_roundw
      case rel => exact ⟨k + 1, by omega, by go_num, O4.out, B4.out⟩
      case measure => simp [intOf]; omega
    · obtain rfl : k = N := by omega
      have hown := HO.out
      rw [List.take_of_length_le (by omega)] at hown
      obtain ⟨A5, cap5, rfl, hcap5, hw5⟩ := own_iwr hown (by rw [bothW_len, hlt])
      have hsrt := l04Sorted_any (2 * k) (by omega) A5 cap5 (bothW es) wr (by rw [bothW_len, hlt]) hcap5 hw5.ir
      unfold SrtRes at hsrt
      rw [HWB.out] at hsrt
      have HSRT := Lib.hid hsrt
      clear hown hw5 hsrt HO
      go_wp2_with fail
      refine HSRT.out.mono ?_
      rintro e w5 ⟨A6, c6, rfl, -, hi6, hb6⟩
      have B6 := Lib.hid (HB.out.trans (hb6.mono hszk))
      have hsz6 := hb6.size
      have I6 := Lib.hid hi6
      clear hb6 hi6
      generalize hMM : ws.length = m at *
      by_cases h40 : m ≤ 40
      · have h40' : ¬ (40 : Int) < (m : Int) := by omega
        obtain ⟨i1, hi1, hy0, hy1, hy2⟩ := info_parts info_int
        have hmk1 := fun W => run_make_rowN (P := Try.prog) 42 2 i1 _ (by kernel_rfl) hi1 hy0 .i64 .i64 m m (Nat.le_refl _) (by rw [hy2]; omega) (by omega) W
        rw [hy1] at hmk1
        have hat := made_ints m
        generalize madeCells (Value.cells (.int .i64 0)) (m * 1) = cs1 at hmk1 hat
        have HATM := Lib.hid hat
        clear hi1 hy0 hy1 hy2 hat
        go_wp2_with fail
        have HR0 := Lib.hid (OwnRR.made w5 w5.heap.size (Nat.le_refl _))
        have HX5 := Lib.hid (((Ext.refl w5).alloc (Obj.cells #[] 42)).below (Nat.le_refl w5.heap.size))
        go_loopw [11, 12] (fun v ii wr => ∃ j : Nat, j ≤ m ∧ ii = .int .i64 j ∧ OwnRR wr w5.heap.size v ((matL m fun _ _ => 0).take j) ∧ Below w5.heap.size w5 wr) (fun _ ii _ => m - (intOf ii).toNat)
        case atStart => exact ⟨0, Nat.zero_le _, rfl, by rw [List.take_zero]; exact HR0.out, HX5.out⟩
        case round =>
          obtain ⟨j, hj, rfl, hown, hb⟩ := hrel
          have HO := Lib.hid hown
          have HB7 := Lib.hid hb
          have hszj := hb.size
          clear hown hb
          by_cases hltj : j < m
          · have hltj3 : (j : Int) < (m : Int) := by omega
            have hw1 : IWr ((wr.alloc (Obj.cells cs1 2)).alloc (Obj.cells #[.slice (some ⟨wr.heap.size, 0, none⟩) m m] 42)) wr.heap.size ((wr.alloc (Obj.cells cs1 2)).alloc (Obj.cells #[.slice (some ⟨wr.heap.size, 0, none⟩) m m] 42)).heap.size (some ⟨wr.heap.size, 0, none⟩) ((matL m fun _ _ => 0).getD j []) := fun h0 => by
              refine ⟨wr.heap.size, 0, 2, cs1, rfl, Nat.le_refl _, by simp; omega, (Blk.new wr _ _).ext ((Ext.refl _).alloc _), fun l hl => ?_⟩
              rw [matL_rlen hltj] at hl
              rw [matL_at hltj hl, Nat.zero_add]
              exact HATM.out l hl
            have HW1 := Lib.hid hw1
            have HBX := Lib.hid ((((Ext.refl wr).alloc (Obj.cells cs1 2)).alloc (Obj.cells #[.slice (some ⟨wr.heap.size, 0, none⟩) m m] 42)).below (Nat.le_refl wr.heap.size))
            have HBK := Lib.hid (show ((wr.alloc (Obj.cells cs1 2)).alloc (Obj.cells #[.slice (some ⟨wr.heap.size, 0, none⟩) m m] 42)).heap[wr.heap.size + 1]? = some (.cells #[.slice (some ⟨wr.heap.size, 0, none⟩) m m] 42 (0, 0)) by
              have := Blk.new (wr.alloc (Obj.cells cs1 2)) 42 #[.slice (some ⟨wr.heap.size, 0, none⟩) m m]
              simpa [Blk] using this)
            have HRT := Lib.hid (rtake_snoc (matL m fun _ _ => 0) (k := j) (by rw [matL_len]; exact hltj))
            have HRL := Lib.hid (matL_rlen (f := fun _ _ => (0 : Int)) hltj)
            have HTL := Lib.hid (show ((matL m fun _ _ => (0 : Int)).take j).length + 1 ≤ 65536 by rw [List.length_take]; omega)
            obtain ⟨row, hrw9⟩ : ∃ row, row = (matL m fun _ _ => (0 : Int)).getD j [] := ⟨_, rfl⟩
            rw [← hrw9] at HW1 HRL HRT
            clear hw1 hrw9
            obtain ⟨acc, hacc⟩ : ∃ acc, acc = (matL m fun _ _ => (0 : Int)).take j := ⟨_, rfl⟩
            rw [← hacc] at HRT HTL HO
            clear hacc
            go_wp2_with (at_builtin; refine wpList_pushR rfl _ _ rfl w5.heap.size _ acc rfl wr HO.out HBX.out (wr.heap.size + 1) (some ⟨wr.heap.size, 0, none⟩) m m row rfl HBK.out HW1.out HRL.out (Nat.le_refl _) ?c2 ?c3 ?_)
            case c2 => exact HTL.out
            case c3 => exact hszj
            intro v' w7 hown7 hgrow7 _ hb7
            have O7 := Lib.hid (show OwnRR w7 w5.heap.size v' ((matL m fun _ _ => 0).take (j + 1)) by rw [HRT.out]; exact hown7)
            have B7 := Lib.hid ((HB7.out.trans (HBX.out.mono hszj)).trans hb7)
            clear hown7 hgrow7 hb7
            go_wp2_with fail
            go_roundw
            case rel => exact ⟨j + 1, by omega, by go_num, O7.out, B7.out⟩
            case measure => simp [intOf]; omega
          · obtain rfl : j = m := by omega
            clear hmk1
            have hown := HO.out
            rw [List.take_of_length_le (by rw [matL_len]; omega)] at hown
            obtain ⟨T, capT, rfl, hcT, hmt⟩ := hown.done
            have MT := Lib.hid hmt
            have HTV := Lib.hid (matL_len j fun _ _ => (0 : Int))
            clear hown hmt HO
            obtain ⟨W7, hW7⟩ : ∃ W7, W7 = wr := ⟨_, rfl⟩
            subst hW7
            rw [HTV.out]
            go_wp2_with fail
            go_loopw [13] (fun ii wr => ∃ l : Nat, l ≤ k ∧ ii = .int .i64 l ∧ Below w5.heap.size w5 wr ∧ W7.heap.size ≤ wr.heap.size ∧ IWW wr w5.heap.size W7.heap.size T (matL j (tabF ws (es.take l)))) (fun ii _ => k - (intOf ii).toNat)
            case atStart => exact ⟨0, Nat.zero_le _, rfl, HB7.out, Nat.le_refl _, by rw [List.take_zero, tabF_nil]; exact MT.out⟩
            case round =>
              obtain ⟨l, hl9, rfl, hb, hsw, hm⟩ := hrel
              have HB8 := Lib.hid hb
              have HM := Lib.hid hm
              have HSW := Lib.hid hsw
              have hbs := hb.size
              clear hm
              by_cases hltl : l < k
              · have hltl3 : (l : Int) < (k : Int) := by omega
                obtain ⟨bR, oR, rfl, hbR, hcR⟩ := I3.out (by omega)
                obtain ⟨Q, qc, e1, hq, hQ⟩ := hcR l (by omega)
                obtain ⟨sx, hrow⟩ := HRO.out l (by omega)
                rw [hrow] at e1 hq hQ
                obtain ⟨bq, oq, rfl, hbq, hcq⟩ := hQ (by simp)
                have p0 := hcq 0 (by simp)
                have p1 := hcq 1 (by simp)
                simp only [List.getD_cons_zero, List.getD_cons_succ, List.length_cons, List.length_nil, Nat.zero_add, Nat.reduceAdd, Nat.add_zero] at p0 p1 e1 hq
                have hb38 : Below w3.heap.size w3 wr := B6.out.trans (hb.mono (by omega))
                replace e1 := (hb38.cell (p := ⟨bR, oR + l, none⟩) hbR).trans e1
                replace p0 := (hb38.cell (p := ⟨bq, oq, none⟩) hbq).trans p0
                replace p1 := (hb38.cell (p := ⟨bq, oq + 1, none⟩) hbq).trans p1
                obtain ⟨hm0, hm2⟩ := HWM.out (es.getD l T0) (by simp [List.getD, show l < es.length by omega])
                have HTK := Lib.hid (show tabF ws (es.take (l + 1)) = _ by rw [take_snoc es (k := l) (by omega), tabF_snoc])
                generalize (es.getD l T0).1 = y0 at *
                generalize (es.getD l T0).2.2.1 = y1 at *
                have hIW := (I6.out.below hb (Nat.le_refl _)).more hbs
                have hf0 := l04FindF_any A6 j c6 ws y0 wr (by omega) hMM hIW HASC.out hm0
                have hf2 := l04FindF_any A6 j c6 ws y1 wr (by omega) hMM hIW HASC.out hm2
                have hr0 := rk_lt hm0
                have hr2 := rk_lt hm2
                rw [hMM] at hr0 hr2
                generalize rk ws y0 = i0 at *
                generalize rk ws y1 = i2 at *
                have HF0 := Lib.hid hf0
                have HF2 := Lib.hid hf2
                have hi0 : (i0 : Int) < (j : Int) := by omega
                have hi2 : (i2 : Int) < (j : Int) := by omega
                obtain ⟨bt, ot, X, x, qx, rfl, hbt1, hbt2, hrow2, hX1, hX2, hqx, -, -, hcell⟩ := HM.out.row_at (i := i0) (by rw [matL_len]; exact hr0) (by rw [matL_rlen hr0]; omega)
                rw [matL_rlen hr0] at hrow2 hcell hqx
                obtain ⟨hcl, hfz, hset⟩ := hcell i2 hr2
                rw [matL_at hr0 hr2] at hcl
                have htl := tabF_le ws (es.take l) i0 i2
                rw [List.length_take] at htl
                have hset2 := hset (tabF ws (es.take l) i0 i2 + 1)
                rw [matL_set hr0 hr2, ← HTK.out] at hset2
                have HST := Lib.hid hset2
                generalize tabF ws (es.take l) i0 i2 = tv0 at *
                have hwt : IntKind.i64.wrap (tv0 + 1) = tv0 + 1 := IntWalk.i64_in _ (by omega)
                have HBF := Lib.hid (HB8.out.setCell (p := ⟨X, x + i2, none⟩) hX1 (.int .i64 (tv0 + 1)))
                clear hcell hset hset2 htl hf0 hf2 hm0 hm2 hIW hb38 hQ hcq hrow hb hcR
                go_wp2_with fail
                refine HF0.out.mono ?_
                rintro e w' ⟨rfl, rfl⟩
                go_wp2_with fail
                refine HF2.out.mono ?_
                rintro e w' ⟨rfl, rfl⟩
                go_wp2_with fail
                go_roundw
                case rel => exact ⟨l + 1, by omega, by go_num, HBF.out, by simpa using HSW.out, HST.out⟩
                case measure => simp [intOf]; omega
              · obtain rfl : l = k := by omega
                have hmm := HM.out
                rw [List.take_of_length_le (by omega)] at hmm
                have HRES := Lib.hid (hmm.up_ (lo' := w.heap.size) (hi' := wr.heap.size) (by have := (HX0.out.below (Nat.le_refl w.heap.size)).size; omega) HSW.out)
                have HBF := Lib.hid ((HX0.out.below (Nat.le_refl w.heap.size)).trans ((B3.out.mono (by omega)).trans ((B6.out.mono (by omega)).trans (hb.mono (by omega)))))
                have HI6 := Lib.hid ((I6.out.below hb (Nat.le_refl _)).more hbs)
                clear hmm HM hb
                go_wp2_with fail
                go_ret3
                exact ⟨fun _ => ⟨A6, c6, T, capT, by rw [hMM]; rfl, HBF.out, HI6.out, by rw [hMM]; exact HRES.out⟩, fun h => absurd (by omega) h⟩
      · have h40' : (40 : Int) < (m : Int) := by omega
        go_wp2_with fail
        go_ret3
        exact ⟨fun h => absurd (by omega) h40, fun _ => ⟨rfl, (HX0.out.below (Nat.le_refl _)).trans ((B3.out.mono (by omega)).trans (B6.out.mono (by omega)))⟩⟩
end

section
set_option linter.unusedVariables false
set_option linter.unusedSimpArgs false
open Go.RowKit Go.Sort

set_option maxRecDepth 100000 in
set_option maxHeartbeats 4000000 in
theorem l06Lasting_no (c0 : Int) (A : Option Addr) (n c : Nat) (ts : List Tl) (h : Int) (w : World) (hn : n ≤ 1048576) (hl : ts.length = n) (hA : TR w w.heap.size A ts) (hg : gCode c0 ts h ≠ 0) :
    Calls Try.prog 56 #[.agg #[.int .i64 c0, .slice A n c], .int .i64 h] w (NoLast w (gCode c0 ts h)) := by
  have hgo : ∀ W, Ext w W → Calls Try.prog 52 #[.agg #[.int .i64 c0, .slice A n c], .int .i64 h] W _ := fun W hW => l06Code_no c0 A n c ts h W hn hl ((hA.ext hW (Nat.le_refl _)).more (hW.below (Nat.le_refl _)).size) hg
  unfold NoCols at hgo
  unfold NoLast
  generalize gCode c0 ts h = code at *
  have hne : (code != 0) = true := by simp [hg]
  have HG := Lib.hid hgo
  clear hgo hA
  go_enter Try.func56, Try.ntmps56
  go_wp2_with fail
  refine (HG.out _ ((Ext.refl w).alloc _)).mono ?_
  rintro e w1 ⟨rfl, hb⟩
  have HB := Lib.hid ((((Ext.refl w).alloc (.cells #[.int .i64 c0, .slice A n c] 30)).below (Nat.le_refl _)).trans (hb.mono (by simp)))
  clear hb
  go_wp2_with fail
  go_ret3
  exact ⟨rfl, HB.out⟩
theorem l06Lasting_bad (c0 : Int) (A : Option Addr) (n c : Nat) (ts : List Tl) (h : Int) (w : World) (hn : n ≤ 1048576) (hl : ts.length = n) (hA : TR w w.heap.size A ts) (ht : tCode c0 ts h ≠ 0) :
    Calls Try.prog 56 #[.agg #[.int .i64 c0, .slice A n c], .int .i64 h] w (NoLast w (tCode c0 ts h)) := by
  by_cases hg : gCode c0 ts h = 0
  · obtain ⟨hs, hh, hc7, hN⟩ := gCode_zero hg
    have hcc := isSet_col hs
    obtain ⟨C, rfl⟩ : ∃ C : Nat, c0 = (C : Int) := ⟨c0.toNat, by omega⟩
    obtain ⟨h', rfl⟩ : ∃ h' : Nat, h = (h' : Int) := ⟨h.toNat, by omega⟩
    rw [Int.toNat_natCast] at hc7 hN
    have hc8 : C ^ h' ≤ 700 := by
      have e : ((C ^ h' : Nat) : Int) = (C : Int) ^ h' := by push_cast; rfl
      omega
    have h40 : ¬ (wordsL (edgesL (C : Int) ts h')).length ≤ 40 := fun h40 => ht (by unfold tCode; rw [if_pos hg, Int.toNat_natCast, if_pos h40])
    have e3 : tCode (C : Int) ts (h' : Int) = 3 := by unfold tCode; rw [if_pos hg, Int.toNat_natCast, if_neg h40]
    rw [e3]
    exact (l06Lasting_g C A n c ts h' w hl hA hs (by omega) (by omega) hc8 hN).mono fun e w' ⟨_, hno⟩ => hno h40
  · have e3 : tCode c0 ts h = gCode c0 ts h := by unfold tCode; rw [if_neg hg]
    rw [e3]
    exact l06Lasting_no c0 A n c ts h w hn hl hA hg
theorem tCode_zero {c0 : Int} {ts : List Tl} {h : Int} (e : tCode c0 ts h = 0) : isSet c0 ts = true ∧ (1 ≤ h ∧ h ≤ 4) ∧ c0 ^ h.toNat ≤ 700 ∧ (colsL ts h.toNat).length ≤ 5000 ∧ (wordsL (edgesL c0 ts h.toNat)).length ≤ 40 := by
  unfold tCode at e
  by_cases hg : gCode c0 ts h = 0
  · rw [if_pos hg] at e
    obtain ⟨h1, h2, h3, h4⟩ := gCode_zero hg
    by_cases h40 : (wordsL (edgesL c0 ts h.toNat)).length ≤ 40
    · exact ⟨h1, h2, h3, h4, h40⟩
    · rw [if_neg h40] at e; omega
  · rw [if_neg hg] at e; exact absurd e hg

set_option maxRecDepth 100000 in
set_option maxHeartbeats 4000000 in
theorem specColumnTable_0 (C : Nat) (A : Option Addr) (n c : Nat) (ts : List Tl) (h : Nat) (w : World) (hl : ts.length = n) (hA : TR w w.heap.size A ts) (hs : isSet (C : Int) ts = true) (h1 : 1 ≤ h) (h4 : h ≤ 4) (hC7 : C ^ h ≤ 700) (hN : (colsL ts h).length ≤ 5000) (h40 : (wordsL (edgesL (C : Int) ts h)).length ≤ 40) :
    Calls Try.prog 27 #[.agg #[.int .i64 (C : Int), .slice A n c], .int .i64 (h : Int)] w (MatRes w (tabL (edgesL (C : Int) ts h)) 0) := by
  have hgo : ∀ W, Ext w W → Calls Try.prog 56 #[.agg #[.int .i64 (C : Int), .slice A n c], .int .i64 (h : Int)] W _ := fun W hW => (l06Lasting_g C A n c ts h W hl ((hA.ext hW (Nat.le_refl _)).more (hW.below (Nat.le_refl _)).size) hs h1 h4 hC7 hN).mono fun e w' ⟨hyes, _⟩ => hyes h40
  unfold LastM at hgo
  unfold MatRes
  have htl : (tabL (edgesL (C : Int) ts h)).length = (wordsL (edgesL (C : Int) ts h)).length := matL_len _ _
  generalize tabL (edgesL (C : Int) ts h) = tb at *
  generalize wordsL (edgesL (C : Int) ts h) = ws at *
  have HG := Lib.hid hgo
  clear hgo hA hs
  go_enter Try.func27, Try.ntmps27
  go_wp2_with fail
  refine (HG.out _ ((Ext.refl w).alloc _)).mono ?_
  rintro e w1 ⟨A2, q2, T, p, rfl, hb, -, hm⟩
  have HB := Lib.hid ((((Ext.refl w).alloc (.cells #[.int .i64 (C : Int), .slice A n c] 30)).below (Nat.le_refl _)).trans (hb.mono (by simp)))
  have HM := Lib.hid (hm.up_ (lo' := w.heap.size) (by simp) (Nat.le_refl _))
  clear hb hm
  go_wp2_with fail
  go_ret2
  exact ⟨T, p, by rw [htl]; rfl, HB.out, HM.out⟩

set_option maxRecDepth 100000 in
set_option maxHeartbeats 4000000 in
theorem specColumnTable_no (c0 : Int) (A : Option Addr) (n c : Nat) (ts : List Tl) (h : Int) (w : World) (hn : n ≤ 1048576) (hl : ts.length = n) (hA : TR w w.heap.size A ts) (hg : tCode c0 ts h ≠ 0) :
    Calls Try.prog 27 #[.agg #[.int .i64 c0, .slice A n c], .int .i64 h] w (MatRes w [] (tCode c0 ts h)) := by
  have hgo : ∀ W, Ext w W → Calls Try.prog 56 #[.agg #[.int .i64 c0, .slice A n c], .int .i64 h] W _ := fun W hW => l06Lasting_bad c0 A n c ts h W hn hl ((hA.ext hW (Nat.le_refl _)).more (hW.below (Nat.le_refl _)).size) hg
  unfold NoLast at hgo
  generalize tCode c0 ts h = code at *
  have hne : (code != 0) = true := by simp [hg]
  have HG := Lib.hid hgo
  clear hgo hA
  go_enter Try.func27, Try.ntmps27
  go_wp2_with fail
  refine (HG.out _ ((Ext.refl w).alloc _)).mono ?_
  rintro e w1 ⟨rfl, hb⟩
  have HB := Lib.hid ((((Ext.refl w).alloc (.cells #[.int .i64 c0, .slice A n c] 30)).below (Nat.le_refl _)).trans (hb.mono (by simp)))
  clear hb
  go_wp2_with fail
  go_ret2
  exact MatRes.none_ HB.out
theorem need_mat {m : Nat} (h : m ≤ 40) (f : Nat → Nat → Int) : need (matL m f) ≤ 65536 := by
  have hs : ∀ l : List (List Int), (∀ r ∈ l, r.length = m) → (l.map List.length).sum = l.length * m := by
    intro l
    induction l with
    | nil => intro _; simp
    | cons r l ih =>
      intro hr
      rw [List.map_cons, List.sum_cons, ih fun s hs => hr s (by simp [hs]), hr r (by simp), List.length_cons, Nat.add_mul]
      omega
  have hr : ∀ r ∈ matL m f, r.length = m := by
    intro r hr
    simp only [matL, List.mem_map] at hr
    obtain ⟨i, -, rfl⟩ := hr
    simp
  unfold need pre
  rw [List.take_length, hs _ hr, matL_len]
  have : m * m ≤ 40 * 40 := Nat.mul_le_mul h h
  omega
end
end Go.Proofs.Ytleabblnikbmpaa
