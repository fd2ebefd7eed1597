/- Rows grown: the program's half rows. -/
import Derived.Test.YtnmgkchkbchfaaaBk5
namespace Go.Proofs.Ytnmgkchkbchfaaa
set_option linter.unusedVariables false
set_option linter.unusedSimpArgs false
open Go.RowKit Go.Sort

/-- The upper (j = 0) or the lower (j = 2) row that is grown from a row. -/
def halfR (bs : List (List Int)) (j : Nat) (row : List Int) : List Int := row.flatMap fun i => [bAt bs i.toNat j, bAt bs i.toNat (j + 1)]
theorem halfR_len (bs : List (List Int)) (j : Nat) (row : List Int) : (halfR bs j row).length = 2 * row.length := by
  induction row with
  | nil => rfl
  | cons x r ih => simp only [halfR, List.flatMap_cons, List.length_append, List.length_cons, List.length_nil] at *; omega
theorem halfR_succ (bs : List (List Int)) (j : Nat) (row : List Int) {k : Nat} (hk : k < row.length) : halfR bs j (row.take (k + 1)) = halfR bs j (row.take k) ++ [bAt bs (row.getD k 0).toNat j, bAt bs (row.getD k 0).toNat (j + 1)] := by
  unfold halfR
  rw [itake_snoc row hk, List.flatMap_append, List.flatMap_cons, List.flatMap_nil, List.append_nil]
/-- Rows grown. -/
def growR (bs rs : List (List Int)) : List (List Int) := rs.flatMap fun r => [halfR bs 0 r, halfR bs 2 r]
theorem growR_len (bs rs : List (List Int)) : (growR bs rs).length = 2 * rs.length := by
  induction rs with
  | nil => rfl
  | cons x r ih => simp only [growR, List.flatMap_cons, List.length_append, List.length_cons, List.length_nil] at *; omega
theorem rtake_snoc (rs : List (List Int)) {k : Nat} (hk : k < rs.length) : rs.take (k + 1) = rs.take k ++ [rs.getD k []] := by
  rw [List.take_succ_eq_append_getElem hk]
  simp [List.getD, hk]
theorem growR_succ (bs rs : List (List Int)) {k : Nat} (hk : k < rs.length) : growR bs (rs.take (k + 1)) = growR bs (rs.take k) ++ [halfR bs 0 (rs.getD k []), halfR bs 2 (rs.getD k [])] := by
  unfold growR
  rw [rtake_snoc rs hk, List.flatMap_append, List.flatMap_cons, List.flatMap_nil, List.append_nil]
theorem vis_two (xs : List Int) (x y : Int) : vis (xs ++ [x, y]) = vis xs ++ [vi x, vi y] := by simp [vis]
/-- These are numbers of tiles below n. -/
def inN (n : Nat) (row : List Int) : Prop := ∀ k, k < row.length → 0 ≤ row.getD k 0 ∧ row.getD k 0 < (n : Int)
theorem halfR_in {ts : List Tl} {bs : List (List Int)} (hok : bOk ts bs = true) {j : Nat} (hj : j ≤ 2) {row : List Int} (h : inN bs.length row) : inN bs.length (halfR bs j row) := by
  have key : ∀ x ∈ halfR bs j row, 0 ≤ x ∧ x < (bs.length : Int) := by
    intro x hx
    simp only [halfR, List.mem_flatMap] at hx
    obtain ⟨i, hi, hx⟩ := hx
    obtain ⟨k, hk, rfl⟩ := List.mem_iff_getElem.1 hi
    have h1 := h k hk
    simp only [List.getD, List.getElem?_eq_getElem hk, Option.getD_some] at h1
    simp only [List.mem_cons, List.not_mem_nil, or_false] at hx
    rcases hx with rfl | rfl
    · obtain ⟨v, e, hv⟩ := bOk_nat hok (k := (row[k]).toNat) (by omega) (j := j) (by omega); omega
    · obtain ⟨v, e, hv⟩ := bOk_nat hok (k := (row[k]).toNat) (by omega) (j := j + 1) (by omega); omega
  intro k hk
  have : (halfR bs j row).getD k 0 ∈ halfR bs j row := by simp [List.getD, hk]
  exact key _ this

/-- 'append(s, y, z)' onto a row of numbers that the call owns: y and z are two cells of another slice. -/
theorem wpList_pushS2 {w : World} {ops : Array Oper} {rest : List Oper} {o : Oper} {a : Act} {Q : Exit → Act → World → Prop} (hgd : o.guard = none) (s x : Operand)
    (ho : o.op = .call { callee := .builtin .append, args := #[s, x], argTypes := #[44, 44] })
    (base : Nat) (v : Value) (n : Nat) (xs : List Value) (hs : a.eval s = v) (hown : w.ownsRow base 2 1 v n xs)
    (g oo c : Nat) (y z : Int) (hx : a.eval x = .slice (some ⟨g, oo, none⟩) 2 c) (hy : w.cell? ⟨g, oo, none⟩ = some (.int .i64 y)) (hz : w.cell? ⟨g, oo + 1, none⟩ = some (.int .i64 z))
    (h63 : n + 2 ≤ maxLen) (hbytes : (n + 2) * 8 ≤ 140737488355328) (hbase : base ≤ w.heap.size)
    (h : ∀ v' w', w'.ownsRow base 2 1 v' (n + 2) (xs ++ [vi y, vi z]) → w.grownBy w' v.ownBlock → (v'.ownBlock = v.ownBlock ∨ v'.ownBlock = some w.heap.size) → wpList Try.prog ops Q rest (a.put o.dst v') w') :
    wpList Try.prog ops Q (o :: rest) a w := by
  obtain ⟨i0, hi, hz0, hz1, hz2⟩ := info_parts info_int
  refine wpList_append_any w hgd s x _ ho base 2 i0 _ 1 8 Try.underlying44 hi hz0 hz1 hz2 rfl (by decide) v n xs hs hown w.heap.size _ 2 _ [vi y, vi z] hx ⟨rfl, fun _ => ⟨_, rfl, World.block_lt_of_cell? w _ hy, fun j u hu => ?_⟩⟩ (by intro u hu; simp at hu; rcases hu with rfl | rfl <;> rfl) h63 hbytes hbase h
  rw [Go.WideShapes.add_plain]
  rcases j with _ | _ | j
  · simp at hu; subst hu; exact hy
  · simp at hu; subst hu; exact hz
  · simp at hu

set_option maxRecDepth 100000 in
set_option maxHeartbeats 2000000 in
theorem grownHalf0_any (c0 : Int) (A : Option Addr) (n c : Nat) (G : Option Addr) (m g : Nat) (bs : List (List Int)) (B : Option Addr) (r d : Nat) (row : List Int) (w : World) (hm : m ≤ 1048576) (hl : bs.length = m) (hG : TR w w.heap.size G (blkL bs)) (hr : r ≤ 1048576) (hlr : row.length = r) (hB : IR w w.heap.size B row) (hin : inN m row) :
    Calls Try.prog 99 #[.agg #[.int .i64 c0, .slice A n c, .slice G m g], .slice B r d, .int .i64 0] w fun e w' => ∃ R cap, e = .returned (.slice R (2 * r) cap) ∧ 2 * r ≤ cap ∧ Below w.heap.size w w' ∧ IWr w' w.heap.size w'.heap.size R (halfR bs 0 row) := by
  go_enter Try.func99, Try.ntmps99
  go_wp2_with fail
  have hx := (Ext.refl w).alloc (Obj.cells #[.int .i64 c0, .slice A n c, .slice G m g] 61)
  have HN := Lib.hid (Blk.new w 61 #[.int .i64 c0, .slice A n c, .slice G m g])
  have HG := Lib.hid (hG.ext hx (Nat.le_refl _))
  have HB := Lib.hid (hB.ext hx (Nat.le_refl _))
  have HX := Lib.hid (hx.below (Nat.le_refl w.heap.size))
  have hs0 : (w.alloc (Obj.cells #[.int .i64 c0, .slice A n c, .slice G m g] 61)).heap.size = w.heap.size + 1 := by simp
  clear hx hG hB
  generalize w.alloc (Obj.cells #[.int .i64 c0, .slice A n c, .slice G m g] 61) = W0 at *
  go_loopw [12, 7] (fun iv v wr => ∃ k : Nat, k ≤ r ∧ iv = .int .i64 k ∧ wr.ownsRow (w.heap.size + 1) 2 1 v (2 * k) (vis (halfR bs 0 (row.take k))) ∧ Below (w.heap.size + 1) W0 wr) (fun iv _ _ => r - (intOf iv).toNat)
  case atStart => exact ⟨0, Nat.zero_le _, rfl, World.ownsRow_nil _ _ _ _, Below.refl _ _⟩
  case round =>
    obtain ⟨k, hk, rfl, hown, hb⟩ := hrel
    have HO := Lib.hid hown
    have HBL := Lib.hid hb
    clear hown
    by_cases hlt : k < r
    · obtain ⟨bB, oB, rfl, hbB, hcB⟩ := HB.out (by omega)
      have q1 := (hb.cell (p := ⟨bB, oB + k, none⟩) (show bB < w.heap.size + 1 by omega)).trans (hcB k (by omega))
      have hxi := hin k (by omega)
      have HSU := Lib.hid (halfR_succ bs 0 row (k := k) (by omega))
      generalize row.getD k 0 = xv at *
      obtain ⟨x, rfl⟩ : ∃ x : Nat, xv = (x : Int) := ⟨xv.toNat, by omega⟩
      rw [Int.toNat_natCast] at HSU
      obtain ⟨bG, oG, rfl, hbG, p0, p1, p2, p3⟩ := tr_first HG.out (k := x) (by omega)
      have e0 := (hb.cell (p := ⟨bG, oG + x * 4, none⟩) (show bG < w.heap.size + 1 by omega)).trans p0
      have e1 := (hb.cell (p := ⟨bG, oG + x * 4 + 1, none⟩) (show bG < w.heap.size + 1 by omega)).trans p1
      generalize bAt bs x 0 = y0 at *
      generalize bAt bs x (0 + 1) = y1 at *
      have n2 := (HN.out.below hb (Nat.lt_succ_self _)).rd 2 rfl
      have hxm : (x : Int) < (m : Int) := by omega
      clear hb hcB p0 p1 p2 p3
      go_wp2_with (at_builtin; refine wpList_pushS2 rfl _ _ rfl (w.heap.size + 1) _ (2 * k) _ rfl HO.out bG _ _ y0 y1 rfl e0 e1 ?c1 ?c2 ?c3 ?_)
      case c1 => unfold maxLen; omega
      case c2 => omega
      case c3 => have := HBL.out.size; omega
      intro v' w3 hown' hgrow _
      rw [show vis (halfR bs 0 (row.take k)) ++ [vi y0, vi y1] = vis (halfR bs 0 (row.take (k + 1))) by rw [HSU.out, vis_two]] at hown'
      have O3 := Lib.hid hown'
      have B3 := Lib.hid (HBL.out.grown hgrow (by have := HBL.out.size; omega) (fun j hj => (HO.out.lt j hj).1))
      clear hown' hgrow HO HBL q1 e0 e1 n2
      go_wp2_with fail
      go_roundw
      case rel => exact ⟨k + 1, by omega, by go_num, O3.out, B3.out⟩
      case measure => simp [intOf]; omega
    · obtain rfl : k = r := by omega
      have hown := HO.out
      rw [List.take_of_length_le (by omega)] at hown
      obtain ⟨A2, cap2, rfl, hcap, htw⟩ := own_iwr hown (by rw [halfR_len]; omega)
      have HT := Lib.hid (htw.low (show w.heap.size ≤ w.heap.size + 1 by omega))
      have KK := Lib.hid (HX.out.trans (hb.mono (by omega)))
      clear htw HO hb hown
      go_wp2_with fail
      go_ret
      first | exact ⟨A2, cap2, rfl, hcap, KK.out, HT.out⟩ | exact ⟨A2, ⟨cap2, rfl, hcap⟩, KK.out, HT.out⟩ | exact ⟨A2, cap2, rfl, ⟨hcap, KK.out, HT.out⟩⟩

set_option maxRecDepth 100000 in
set_option maxHeartbeats 2000000 in
theorem grownHalf2_any (c0 : Int) (A : Option Addr) (n c : Nat) (G : Option Addr) (m g : Nat) (bs : List (List Int)) (B : Option Addr) (r d : Nat) (row : List Int) (w : World) (hm : m ≤ 1048576) (hl : bs.length = m) (hG : TR w w.heap.size G (blkL bs)) (hr : r ≤ 1048576) (hlr : row.length = r) (hB : IR w w.heap.size B row) (hin : inN m row) :
    Calls Try.prog 99 #[.agg #[.int .i64 c0, .slice A n c, .slice G m g], .slice B r d, .int .i64 2] w fun e w' => ∃ R cap, e = .returned (.slice R (2 * r) cap) ∧ 2 * r ≤ cap ∧ Below w.heap.size w w' ∧ IWr w' w.heap.size w'.heap.size R (halfR bs 2 row) := by
  go_enter Try.func99, Try.ntmps99
  go_wp2_with fail
  have hx := (Ext.refl w).alloc (Obj.cells #[.int .i64 c0, .slice A n c, .slice G m g] 61)
  have HN := Lib.hid (Blk.new w 61 #[.int .i64 c0, .slice A n c, .slice G m g])
  have HG := Lib.hid (hG.ext hx (Nat.le_refl _))
  have HB := Lib.hid (hB.ext hx (Nat.le_refl _))
  have HX := Lib.hid (hx.below (Nat.le_refl w.heap.size))
  have hs0 : (w.alloc (Obj.cells #[.int .i64 c0, .slice A n c, .slice G m g] 61)).heap.size = w.heap.size + 1 := by simp
  clear hx hG hB
  generalize w.alloc (Obj.cells #[.int .i64 c0, .slice A n c, .slice G m g] 61) = W0 at *
  go_loopw [12, 7] (fun iv v wr => ∃ k : Nat, k ≤ r ∧ iv = .int .i64 k ∧ wr.ownsRow (w.heap.size + 1) 2 1 v (2 * k) (vis (halfR bs 2 (row.take k))) ∧ Below (w.heap.size + 1) W0 wr) (fun iv _ _ => r - (intOf iv).toNat)
  case atStart => exact ⟨0, Nat.zero_le _, rfl, World.ownsRow_nil _ _ _ _, Below.refl _ _⟩
  case round =>
    obtain ⟨k, hk, rfl, hown, hb⟩ := hrel
    have HO := Lib.hid hown
    have HBL := Lib.hid hb
    clear hown
    by_cases hlt : k < r
    · obtain ⟨bB, oB, rfl, hbB, hcB⟩ := HB.out (by omega)
      have q1 := (hb.cell (p := ⟨bB, oB + k, none⟩) (show bB < w.heap.size + 1 by omega)).trans (hcB k (by omega))
      have hxi := hin k (by omega)
      have HSU := Lib.hid (halfR_succ bs 2 row (k := k) (by omega))
      generalize row.getD k 0 = xv at *
      obtain ⟨x, rfl⟩ : ∃ x : Nat, xv = (x : Int) := ⟨xv.toNat, by omega⟩
      rw [Int.toNat_natCast] at HSU
      obtain ⟨bG, oG, rfl, hbG, p0, p1, p2, p3⟩ := tr_first HG.out (k := x) (by omega)
      have e0 := (hb.cell (p := ⟨bG, oG + x * 4 + 2, none⟩) (show bG < w.heap.size + 1 by omega)).trans p2
      have e1 := (hb.cell (p := ⟨bG, oG + x * 4 + 3, none⟩) (show bG < w.heap.size + 1 by omega)).trans p3
      generalize bAt bs x 2 = y0 at *
      generalize bAt bs x (2 + 1) = y1 at *
      have n2 := (HN.out.below hb (Nat.lt_succ_self _)).rd 2 rfl
      have hxm : (x : Int) < (m : Int) := by omega
      clear hb hcB p0 p1 p2 p3
      go_wp2_with (at_builtin; refine wpList_pushS2 rfl _ _ rfl (w.heap.size + 1) _ (2 * k) _ rfl HO.out bG _ _ y0 y1 rfl e0 e1 ?c1 ?c2 ?c3 ?_)
      case c1 => unfold maxLen; omega
      case c2 => omega
      case c3 => have := HBL.out.size; omega
      intro v' w3 hown' hgrow _
      rw [show vis (halfR bs 2 (row.take k)) ++ [vi y0, vi y1] = vis (halfR bs 2 (row.take (k + 1))) by rw [HSU.out, vis_two]] at hown'
      have O3 := Lib.hid hown'
      have B3 := Lib.hid (HBL.out.grown hgrow (by have := HBL.out.size; omega) (fun j hj => (HO.out.lt j hj).1))
      clear hown' hgrow HO HBL q1 e0 e1 n2
      go_wp2_with fail
      go_roundw
      case rel => exact ⟨k + 1, by omega, by go_num, O3.out, B3.out⟩
      case measure => simp [intOf]; omega
    · obtain rfl : k = r := by omega
      have hown := HO.out
      rw [List.take_of_length_le (by omega)] at hown
      obtain ⟨A2, cap2, rfl, hcap, htw⟩ := own_iwr hown (by rw [halfR_len]; omega)
      have HT := Lib.hid (htw.low (show w.heap.size ≤ w.heap.size + 1 by omega))
      have KK := Lib.hid (HX.out.trans (hb.mono (by omega)))
      clear htw HO hb hown
      go_wp2_with fail
      go_ret
      first | exact ⟨A2, cap2, rfl, hcap, KK.out, HT.out⟩ | exact ⟨A2, ⟨cap2, rfl, hcap⟩, KK.out, HT.out⟩ | exact ⟨A2, cap2, rfl, ⟨hcap, KK.out, HT.out⟩⟩
end Go.Proofs.Ytnmgkchkbchfaaa
