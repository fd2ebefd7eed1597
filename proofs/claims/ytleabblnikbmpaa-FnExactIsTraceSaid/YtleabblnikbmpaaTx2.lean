/- The words at which ways end with a column more that has a colour at the north. -/
import Derived.Test.YtleabblnikbmpaaTx1
import Derived.Deep.DeepCutAuto
namespace Go.Proofs.Ytleabblnikbmpaa
set_option linter.unusedVariables false
set_option linter.unusedSimpArgs false
open Go.RowKit Go.Sort

def tileK (k : Cq) : Tl := ((k.2.1 : Int), 0, (k.2.2 : Int), 0)
/-- The edges of the columns with the colour c at the north. -/
def und (K : List Cq) (c : Nat) : List Tl := (K.filter fun k => decide (k.1 = c)).map tileK
/-- The ends of ways along some edges. -/
def ndU (U : List Tl) (p q : Nat → Bool) (e : Nat) : Bool := U.any fun t => (p t.1.toNat && q t.2.2.1.toNat) && decide (t.2.2.1.toNat = e)
theorem ndU_nil (p q : Nat → Bool) : ndU [] p q = fun _ => false := rfl
theorem ndU_snoc (U : List Tl) (a b : Nat) (x y : Int) (p q : Nat → Bool) (e : Nat) : ndU (U ++ [((a : Int), x, (b : Int), y)]) p q e = (ndU U p q e || ((p a && q b) && decide (b = e))) := by
  simp [ndU, List.any_append]
theorem und_nd (K : List Cq) (c : Nat) (p q : Nat → Bool) (e : Nat) : ndU (und K c) p q e = ndW K c p q e := by
  unfold ndU und ndW
  rw [List.any_map, List.any_filter]
  congr 1
  funext k
  show (decide (k.1 = c) && ((p (Int.toNat (k.2.1 : Int)) && q (Int.toNat (k.2.2 : Int))) && decide (Int.toNat (k.2.2 : Int) = e))) = _
  rw [Int.toNat_natCast, Int.toNat_natCast, Bool.and_assoc, Bool.and_assoc]
theorem und_at {K : List Cq} {c S k : Nat} (hK : ∀ x ∈ K, x.2.1 < S ∧ x.2.2 < S) (hk : k < (und K c).length) : ∃ a b : Nat, a < S ∧ b < S ∧ (und K c).getD k T0 = ((a : Int), 0, (b : Int), 0) := by
  unfold und at *
  have hk' : k < (K.filter fun k => decide (k.1 = c)).length := by simpa using hk
  have hm := hK _ (List.mem_filter.1 (List.getElem_mem hk')).1
  exact ⟨_, _, hm.1, hm.2, by simp [List.getD, hk', tileK]⟩
theorem und_len (K : List Cq) (c : Nat) : (und K c).length ≤ K.length := by
  unfold und
  rw [List.length_map]
  exact List.length_filter_le _ _
/-- A search for traces that can be read: the edges under each colour, and all words. -/
def TSr (w : World) (B C S : Nat) (K : List Cq) (gU gA : Nat) : Prop :=
  gU < B ∧ gA < B ∧ BQ w gA S (fun _ => true) ∧ ∀ c, c < C → ∃ A q, w.cell? ⟨gU, c, none⟩ = some (.slice A (und K c).length q) ∧ TR w B A (und K c)
theorem TSr.below {w w' : World} {B C S D : Nat} {K : List Cq} {gU gA : Nat} (h : TSr w B C S K gU gA) (hx : Below D w w') (hB : B ≤ D) : TSr w' B C S K gU gA := by
  obtain ⟨h1, h2, h3, h4⟩ := h
  refine ⟨h1, h2, h3.below hx (by omega), fun c hc => ?_⟩
  obtain ⟨A, q, h5, h6⟩ := h4 c hc
  exact ⟨A, q, (hx.cell (p := ⟨gU, c, none⟩) (by show gU < D; omega)).trans h5, h6.below hx hB⟩
theorem TSr.more {w : World} {B B' C S : Nat} {K : List Cq} {gU gA : Nat} (h : TSr w B C S K gU gA) (hB : B ≤ B') : TSr w B' C S K gU gA := by
  obtain ⟨h1, h2, h3, h4⟩ := h
  refine ⟨by omega, by omega, h3, fun c hc => ?_⟩
  obtain ⟨A, q, h5, h6⟩ := h4 c hc
  exact ⟨A, q, h5, h6.more hB⟩

set_option maxRecDepth 100000 in
set_option maxHeartbeats 2000000 in
theorem after_any (C S : Nat) (K : List Cq) (gU gA gR gO qr qo : Nat) (p q : Nat → Bool) (c : Nat) (w : World) (hS : S ≤ 1048576) (hN : K.length ≤ 1048576) (hc : c < C) (hK : ∀ x ∈ K, x.2.1 < S ∧ x.2.2 < S)
    (hTS : TSr w w.heap.size C S K gU gA) (hR : BQ w gR S p) (hO : BQ w gO S q) :
    Calls Try.prog 75 #[.agg #[.slice (some ⟨gU, 0, none⟩) C C, .slice (some ⟨gA, 0, none⟩) S S], .slice (some ⟨gR, 0, none⟩) S qr, .int .i64 (c : Int), .slice (some ⟨gO, 0, none⟩) S qo] w fun e w' => ∃ g, e = .returned (.slice (some ⟨g, 0, none⟩) S S) ∧ Below w.heap.size w w' ∧ w.heap.size ≤ g ∧ BQ w' g S (ndW K c p q) := by
  obtain ⟨i0, hi, hz0, hz1, hz2⟩ := info_parts info_bool
  have hmk := fun W => run_make_rowN (P := Try.prog) 82 4 i0 _ (by kernel_rfl) hi hz0 .i64 .i64 S S (Nat.le_refl _) (by rw [hz2]; omega) (by omega) W
  rw [hz1] at hmk
  generalize hcs : madeCells (Value.cells (.bool false)) (S * 1) = cs0 at hmk
  have HF := Lib.hid (made_false hcs.symm)
  clear hcs hi hz0 hz1 hz2
  have HR := Lib.hid hR
  have HO := Lib.hid hO
  have HTS := Lib.hid hTS
  obtain ⟨A, q0, hcell, hTR⟩ := hTS.2.2.2 c hc
  have hgU := hTS.1
  have HAT := Lib.hid (fun k hk => und_at (c := c) (k := k) hK hk)
  have hUl := und_len K c
  have HE := Lib.hid (fun e => und_nd K c p q e)
  have HT := Lib.hid hTR
  have hc3 : (c : Int) < (C : Int) := by omega
  clear hR hO hTS hTR hK
  generalize und K c = U at *
  have HSN := Lib.hid (fun (k : Nat) (hk : k < U.length) => take_snoc U (k := k) hk)
  obtain ⟨n, hn⟩ : ∃ n, U.length = n := ⟨_, rfl⟩
  rw [hn] at hcell HAT HSN hUl
  have HN := Lib.hid hn
  clear hn
  go_enter Try.func75, Try.ntmps75
  go_wp2_with fail
  obtain ⟨W0, hW0⟩ : ∃ W0, (w.alloc (Obj.cells #[.slice (some ⟨gU, 0, none⟩) C C, .slice (some ⟨gA, 0, none⟩) S S] 84)).alloc (Obj.cells cs0 4) = W0 := ⟨_, rfl⟩
  have hx0 : Ext w W0 := by rw [← hW0]; exact ((Ext.refl w).alloc _).alloc _
  have hq0 : BQ W0 (w.heap.size + 1) S (fun _ => false) := by
    rw [← hW0]
    have := BQ.new (W := w.alloc (Obj.cells #[.slice (some ⟨gU, 0, none⟩) C C, .slice (some ⟨gA, 0, none⟩) S S] 84)) HF.out
    simpa using this
  have hB0 : Blk W0 w.heap.size 84 #[.slice (some ⟨gU, 0, none⟩) C C, .slice (some ⟨gA, 0, none⟩) S S] := by
    rw [← hW0]
    exact (Blk.new w _ _).ext ((Ext.refl _).alloc _)
  have hsz0 : W0.heap.size = w.heap.size + 2 := by rw [← hW0]; simp
  have hgE : (w.alloc (Obj.cells #[.slice (some ⟨gU, 0, none⟩) C C, .slice (some ⟨gA, 0, none⟩) S S] 84)).heap.size = w.heap.size + 1 := by simp
  have H0 := Lib.hid (hx0.below (Nat.le_refl w.heap.size))
  have HQ0 := Lib.hid hq0
  have HSZ := Lib.hid hsz0
  have r0 := hB0.rd 0 rfl
  have r1 := (hx0.below (Nat.le_refl w.heap.size)).cell (p := ⟨gU, c, none⟩) hgU |>.trans hcell
  rw [hW0]
  clear hx0 hq0 hB0 hW0 hmk hcell hsz0
  go_wp2_with fail
  go_loopw [22] (fun ii wr => ∃ k : Nat, k ≤ n ∧ ii = .int .i64 k ∧ BQ wr (w.heap.size + 1) S (ndU (U.take k) p q) ∧ Below (w.heap.size + 1) W0 wr) (fun ii _ => n - (intOf ii).toNat)
  case atStart => exact ⟨0, Nat.zero_le _, rfl, by rw [List.take_zero, ndU_nil]; exact HQ0.out, Below.refl _ _⟩
  case round =>
    obtain ⟨k, hk, rfl, hq, hb⟩ := hrel
    have HQ := Lib.hid hq
    have HB := Lib.hid hb
    have hszr : w.heap.size + 2 ≤ wr.heap.size := by have := hb.size; have := HSZ.out; omega
    have HBW := Lib.hid (H0.out.trans (hb.mono (Nat.le_succ _)))
    clear hq hb
    by_cases hlt : k < n
    · have hlt3 : (k : Int) < (n : Int) := by omega
      obtain ⟨b, o, rfl, hbb, ht⟩ := (HT.out.below HBW.out (Nat.le_refl _)) (by rw [HN.out]; omega)
      replace ht := ht k (by rw [HN.out]; omega)
      obtain ⟨x, y, hx, hy, hxy⟩ := HAT.out k hlt
      have HTK := Lib.hid (HSN.out k hlt)
      rw [hxy] at ht HTK
      obtain ⟨c0', c1', c2', c3'⟩ := ht
      simp only at c0' c1' c2' c3'
      have hx5 := (Ext.refl wr).alloc (Obj.cells #[.int .i64 (x : Int), .int .i64 0, .int .i64 (y : Int), .int .i64 0] 69)
      have hb5 := hx5.below (Nat.le_refl wr.heap.size)
      have Q5 := Lib.hid (HQ.out.below hb5 HQ.out.lt)
      have B5 := Lib.hid (HB.out.trans (hb5.mono (by omega)))
      have BW5 := HBW.out.trans (hb5.mono (by omega))
      have q1 := ((HR.out.below BW5 HR.out.lt).at_ hx).1
      have q2 := ((HO.out.below BW5 HO.out.lt).at_ hy).1
      obtain ⟨q3, z3⟩ := Q5.out.at_ hy
      have hx3 : (x : Int) < (S : Int) := by omega
      have hy3 : (y : Int) < (S : Int) := by omega
      have HND := Lib.hid (fun e => ndU_snoc (U.take k) x y 0 0 p q e)
      clear hx5 hb5 BW5
      obtain ⟨px, hpx⟩ : ∃ v, v = p x := ⟨_, rfl⟩
      obtain ⟨qy, hqy⟩ : ∃ v, v = q y := ⟨_, rfl⟩
      rw [← hpx] at q1
      rw [← hqy] at q2
      have HPX := Lib.hid hpx
      have HQY := Lib.hid hqy
      clear hpx hqy
      have HNO := Lib.hid (show (px && qy) = false → BQ (wr.alloc (Obj.cells #[.int .i64 (x : Int), .int .i64 0, .int .i64 (y : Int), .int .i64 0] 69)) (w.heap.size + 1) S (ndU (U.take (k + 1)) p q) from fun h => by
        rw [HTK.out]
        refine Q5.out.congr fun e _ => ?_
        rw [HND.out, ← HPX.out, ← HQY.out, h]
        simp)
      have HYES := Lib.hid (show (px && qy) = true → BQ ((wr.alloc (Obj.cells #[.int .i64 (x : Int), .int .i64 0, .int .i64 (y : Int), .int .i64 0] 69)).setCell ⟨w.heap.size + 1, y, none⟩ (.bool true)) (w.heap.size + 1) S (ndU (U.take (k + 1)) p q) from fun h => by
        rw [HTK.out]
        refine (Q5.out.set_ y true).congr fun e _ => ?_
        rw [HND.out, ← HPX.out, ← HQY.out, h]
        by_cases e1 : e = y
        · subst e1; simp
        · rw [if_neg e1]; simp [Ne.symm e1])
      cases px with
      | false =>
        go_wp2_with fail
        go_roundw
        case rel => exact ⟨k + 1, by omega, by go_num, HNO.out rfl, B5.out⟩
        case measure => simp [intOf]; omega
      | true =>
        cases qy with
        | false =>
          go_wp2_with fail
          go_roundw
          case rel => exact ⟨k + 1, by omega, by go_num, HNO.out rfl, B5.out⟩
          case measure => simp [intOf]; omega
        | true =>
          have HB6 := Lib.hid (B5.out.setCell (p := ⟨w.heap.size + 1, y, none⟩) (Nat.le_refl _) (.bool true))
          go_wp2_with fail
          go_roundw
          case rel => exact ⟨k + 1, by omega, by go_num, HYES.out rfl, HB6.out⟩
          case measure => simp [intOf]; omega
    · obtain rfl : k = n := by omega
      have HQF := Lib.hid (HQ.out.congr (q := ndW K c p q) fun e _ => by rw [List.take_of_length_le (by rw [HN.out]; exact Nat.le_refl _)]; exact HE.out e)
      go_wp2_with fail
      go_ret
      exact ⟨_, rfl, HBW.out, Nat.le_succ _, HQF.out⟩
end Go.Proofs.Ytleabblnikbmpaa
