/- GrowRows and GrowTile: both sides. -/
import Derived.Test.YtnmgkchkbchfaaaBkA
import Derived.Test.YtnmgkchkbchfaaaBk4
namespace Go.Proofs.Ytnmgkchkbchfaaa
set_option linter.unusedVariables false
set_option linter.unusedSimpArgs false
open Go.RowKit Go.Sort

def GrRes (w : World) (vs : List (List Int)) (code : Int) (e : Ending) (w' : World) : Prop := ∃ R p, e = .returned (.tuple #[.slice R vs.length p, .int .i64 code]) ∧ Below w.heap.size w w' ∧ IWW w' w.heap.size w'.heap.size R vs
theorem mem_growR {bs rs : List (List Int)} {r : List Int} (h : r ∈ growR bs rs) : ∃ row ∈ rs, r = halfR bs 0 row ∨ r = halfR bs 2 row := by
  simp only [growR, List.mem_flatMap, List.mem_cons, List.not_mem_nil, or_false] at h
  exact h
theorem gN_facts {ts : List Tl} {bs rs : List (List Int)} {W : Nat} (hok : bOk ts bs = true) (h : ∀ r ∈ rs, r.length ≤ W ∧ inN bs.length r) : ∀ j, (gN bs rs j).length = 2 ^ j * rs.length ∧ ∀ r ∈ gN bs rs j, r.length ≤ 2 ^ j * W ∧ inN bs.length r
  | 0 => ⟨by simp [gN], fun r hr => by have := h r hr; simpa using this⟩
  | j + 1 => by
    obtain ⟨h1, h2⟩ := gN_facts hok h j
    refine ⟨?_, fun r hr => ?_⟩
    · simp only [gN, growR_len, h1, Nat.pow_succ]
      rw [← Nat.mul_assoc, Nat.mul_comm 2 (2 ^ j)]
    · obtain ⟨row, hrow, hx⟩ := mem_growR hr
      obtain ⟨h3, h4⟩ := h2 row hrow
      have h5 : 2 * row.length ≤ 2 ^ (j + 1) * W := by
        rw [Nat.pow_succ, Nat.mul_comm (2 ^ j) 2, Nat.mul_assoc]
        exact Nat.mul_le_mul_left 2 h3
      rcases hx with rfl | rfl
      · exact ⟨by rw [halfR_len]; exact h5, halfR_in hok (by omega) h4⟩
      · exact ⟨by rw [halfR_len]; exact h5, halfR_in hok (by omega) h4⟩
theorem rows_mem {rs : List (List Int)} {P : List Int → Prop} (h : ∀ k, k < rs.length → P (rs.getD k [])) : ∀ r ∈ rs, P r := fun r hr => by
  obtain ⟨k, hk, rfl⟩ := List.mem_iff_getElem.1 hr
  have := h k hk
  simpa [List.getD, hk] using this
theorem rows_at {rs : List (List Int)} {P : List Int → Prop} (h : ∀ r ∈ rs, P r) : ∀ k, k < rs.length → P (rs.getD k []) := fun k hk => by
  have : rs.getD k [] ∈ rs := by simp [List.getD, hk]
  exact h _ this
theorem pow2_le {j s : Nat} (h : j ≤ s) (hs : s ≤ 3) : 2 ^ j ≤ 8 := by
  have := Nat.pow_le_pow_right (show 0 < 2 by omega) (Nat.le_trans h hs)
  simpa using this
theorem GB_of {ts : List Tl} {bs rs : List (List Int)} {m s : Nat} (hok : bOk ts bs = true) (hm : bs.length = m) (hl : rs.length ≤ 8) (h : ∀ k, k < rs.length → (rs.getD k []).length ≤ 8 ∧ inN m (rs.getD k [])) (hs : s ≤ 3) : GB bs rs m s := fun j hj => by
  obtain ⟨h1, h2⟩ := gN_facts (W := 8) hok (rows_mem (rs := rs) (P := fun r => r.length ≤ 8 ∧ inN bs.length r) (by rw [hm]; exact h)) j
  have hp := pow2_le hj hs
  have h3 : 2 ^ j * rs.length ≤ 8 * 8 := Nat.mul_le_mul hp hl
  have h4 : 2 ^ j * 8 ≤ 8 * 8 := Nat.mul_le_mul hp (Nat.le_refl _)
  rw [hm] at h2
  exact ⟨by omega, rows_at (P := fun r => r.length ≤ 4096 ∧ inN m r) fun r hr => ⟨by have := (h2 r hr).1; omega, (h2 r hr).2⟩⟩
theorem pre_le9 {rs : List (List Int)} {wd : Nat} (h : ∀ k, k < rs.length → (rs.getD k []).length ≤ wd) : ∀ k, k ≤ rs.length → pre rs k ≤ k * wd
  | 0, _ => by simp [pre]
  | k + 1, hk => by
    have := pre_le9 h k (by omega)
    rw [pre_succ (by omega), Nat.succ_mul]
    have := h k (by omega)
    omega
theorem need_gN {ts : List Tl} {bs rs : List (List Int)} {s : Nat} (hok : bOk ts bs = true) (hl : rs.length ≤ 8) (h : ∀ k, k < rs.length → (rs.getD k []).length ≤ 8 ∧ inN bs.length (rs.getD k [])) (hs : s ≤ 3) : need (gN bs rs s) ≤ 65536 := by
  obtain ⟨h1, h2⟩ := gN_facts (W := 8) hok (rows_mem (rs := rs) (P := fun r => r.length ≤ 8 ∧ inN bs.length r) h) s
  have hp := pow2_le (Nat.le_refl s) hs
  have h3 : 2 ^ s * rs.length ≤ 8 * 8 := Nat.mul_le_mul hp hl
  have h4 : 2 ^ s * 8 ≤ 8 * 8 := Nat.mul_le_mul hp (Nat.le_refl _)
  have h5 := pre_le9 (rs := gN bs rs s) (wd := 64) (rows_at (P := fun r => r.length ≤ 64) fun r hr => by have := (h2 r hr).1; omega) (gN bs rs s).length (Nat.le_refl _)
  have h6 : (gN bs rs s).length * 64 ≤ 64 * 64 := Nat.mul_le_mul (by omega) (Nat.le_refl _)
  unfold need
  omega
theorem rowsOk_nine {ts : List Tl} {rs : List (List Int)} (h : rowsOk ts rs = true) : (1 ≤ rs.length ∧ rs.length ≤ 8) ∧ (1 ≤ (rs.getD 0 []).length ∧ (rs.getD 0 []).length ≤ 8) ∧ ∀ k, k < rs.length → (rs.getD k []).length = (rs.getD 0 []).length ∧ inN ts.length (rs.getD k []) := by
  simp only [rowsOk, Bool.and_eq_true, decide_eq_true_eq] at h
  obtain ⟨h1, h2, h3⟩ := h
  refine ⟨h1, h2, fun k hk => ?_⟩
  have h4 := List.all_eq_true.1 h3 k (List.mem_range.2 hk)
  simp only [rowFit, Bool.and_eq_true, decide_eq_true_eq] at h4
  refine ⟨h4.1, fun x hx => ?_⟩
  have h5 := allT_in h4.2 hx
  simp only [inT, decide_eq_true_eq] at h5
  exact h5

def limB (rs : List (List Int)) : Bool := decide (4 < rs.length ∨ 4 < (rs.getD 0 []).length)
def gwV (c0 : Int) (ts : List Tl) (bs rs : List (List Int)) : List (List Int) := if rCode c0 ts bs rs = 0 then (if limB rs = true then [] else growR bs rs) else []
def gwC (c0 : Int) (ts : List Tl) (bs rs : List (List Int)) : Int := if rCode c0 ts bs rs = 0 then (if limB rs = true then 3 else 0) else rCode c0 ts bs rs

set_option maxRecDepth 100000 in
set_option maxHeartbeats 4000000 in
theorem specGrowRows_any (c0 : Int) (A : Option Addr) (n c : Nat) (ts : List Tl) (B : Option Addr) (m d : Nat) (bs : List (List Int)) (E : Option Addr) (r rd : Nat) (rs : List (List Int)) (w : World) (hn : n ≤ 1048576) (hl : ts.length = n) (hA : TR w w.heap.size A ts) (hm : m ≤ 1048576) (hlr : bs.length = m) (hB : IRR w w.heap.size B bs) (hrow : ∀ k, k < m → (bs.getD k []).length ≤ 1048576) (hr : r ≤ 1048576) (hrd : r ≤ rd) (hlq : rs.length = r) (hE : IRR w w.heap.size E rs) (hrow2 : ∀ k, k < r → (rs.getD k []).length ≤ 1048576) :
    Calls Try.prog 24 #[.agg #[.int .i64 c0, .slice A n c], .slice B m d, .slice E r rd] w (GrRes w (gwV c0 ts bs rs) (gwC c0 ts bs rs)) := by
  have HC := Lib.hid (l09Given_any c0 A n c ts B m d bs E r rd rs (w.alloc (Obj.cells #[.int .i64 c0, .slice A n c] 32)) hn hl ((hA.ext ((Ext.refl w).alloc _) (Nat.le_refl _)).more (((Ext.refl w).alloc _).below (Nat.le_refl _)).size) hm hlr ((hB.ext ((Ext.refl w).alloc _) (Nat.le_refl _)).more (((Ext.refl w).alloc _).below (Nat.le_refl _)).size) hrow hr hlq ((hE.ext ((Ext.refl w).alloc _) (Nat.le_refl _)).more (((Ext.refl w).alloc _).below (Nat.le_refl _)).size) hrow2)
  unfold GrRes
  by_cases hz : rCode c0 ts bs rs = 0
  · obtain ⟨hb0, hro⟩ := gc_zero hz
    obtain ⟨hset, hok⟩ := bCode_zero hb0
    have hlen := bCode_len hb0
    obtain ⟨hr8, hw8, hrin⟩ := rowsOk_nine hro
    rw [hlq] at hr8 hrin
    rw [hl] at hrin
    obtain ⟨bE, oE, hEe, hbE, hcE⟩ := hE (by omega)
    obtain ⟨Q0, q0, e0, -, -⟩ := hcE 0 (by omega)
    rw [Nat.add_zero] at e0
    obtain ⟨w0, hw0⟩ : ∃ w0, w0 = (rs.getD 0 []).length := ⟨_, rfl⟩
    rw [← hw0] at e0 hw8 hrin
    have hw1 : IntKind.i64.wrap (2 * (r : Int)) = 2 * (r : Int) := IntWalk.i64_in _ (by omega)
    have hw2 : IntKind.i64.wrap (2 * (w0 : Int)) = 2 * (w0 : Int) := IntWalk.i64_in _ (by omega)
    have hr1 : (1 : Int) ≤ (r : Int) := by omega
    have hr0 : (0 : Int) < (r : Int) := by omega
    have HGR := Lib.hid (fun W (hW : Ext w W) => l09Grow_any ts B m d bs E r rd rs W hm hlr ((hB.ext hW (Nat.le_refl _)).more (hW.below (Nat.le_refl _)).size) hok (by omega) hlq ((hE.ext hW (Nat.le_refl _)).more (hW.below (Nat.le_refl _)).size) (fun k hk => ⟨by have := (hrin k hk).1; omega, by rw [← hlr, hlen, hl]; exact (hrin k hk).2⟩))
    have HLB := Lib.hid (show limB rs = decide (4 < r ∨ 4 < w0) by unfold limB; rw [hlq, hw0])
    have HZ := Lib.hid hz
    unfold gwV gwC
    rw [if_pos hz, if_pos hz, HLB.out]
    rw [hz] at HC
    subst hEe
    clear hb0 hro hset hok hlen hrin hcE hw0 hz hA hB hE
    by_cases h1 : 4 < r
    · rw [if_pos (decide_eq_true (.inl h1)), if_pos (decide_eq_true (.inl h1))]
      have h2 : (8 : Int) < 2 * (r : Int) := by omega
      go_enter Try.func24, Try.ntmps24
      go_wp2_with fail
      refine HC.out.mono ?_
      rintro e w1 ⟨rfl, hx⟩
      have HX := Lib.hid (((Ext.refl w).alloc (Obj.cells #[.int .i64 c0, .slice A n c] 32)).trans hx)
      have e1 := (HX.out.below (Nat.le_refl _)).cell (p := ⟨bE, oE, none⟩) hbE |>.trans e0
      clear hx
      go_wp2_with fail
      go_ret2
      first | exact ⟨none, 0, rfl, HX.out.below (Nat.le_refl _), fun h => absurd h (Nat.lt_irrefl _)⟩ | exact ⟨none, ⟨0, rfl⟩, HX.out.below (Nat.le_refl _), fun h => absurd h (Nat.lt_irrefl _)⟩
    · have h2 : ¬ (8 : Int) < 2 * (r : Int) := by omega
      by_cases h3 : 4 < w0
      · rw [if_pos (decide_eq_true (.inr h3)), if_pos (decide_eq_true (.inr h3))]
        have h4 : (8 : Int) < 2 * (w0 : Int) := by omega
        go_enter Try.func24, Try.ntmps24
        go_wp2_with fail
        refine HC.out.mono ?_
        rintro e w1 ⟨rfl, hx⟩
        have HX := Lib.hid (((Ext.refl w).alloc (Obj.cells #[.int .i64 c0, .slice A n c] 32)).trans hx)
        have e1 := (HX.out.below (Nat.le_refl _)).cell (p := ⟨bE, oE, none⟩) hbE |>.trans e0
        clear hx
        go_wp2_with fail
        go_ret2
        first | exact ⟨none, 0, rfl, HX.out.below (Nat.le_refl _), fun h => absurd h (Nat.lt_irrefl _)⟩ | exact ⟨none, ⟨0, rfl⟩, HX.out.below (Nat.le_refl _), fun h => absurd h (Nat.lt_irrefl _)⟩
      · rw [if_neg (by simp; omega), if_neg (by simp; omega)]
        have h4 : ¬ (8 : Int) < 2 * (w0 : Int) := by omega
        go_enter Try.func24, Try.ntmps24
        go_wp2_with fail
        refine HC.out.mono ?_
        rintro e w1 ⟨rfl, hx⟩
        have HX := Lib.hid (((Ext.refl w).alloc (Obj.cells #[.int .i64 c0, .slice A n c] 32)).trans hx)
        have e1 := (HX.out.below (Nat.le_refl _)).cell (p := ⟨bE, oE, none⟩) hbE |>.trans e0
        clear hx
        go_wp2_with fail
        refine (HGR.out _ HX.out).mono ?_
        rintro e w3 ⟨R, q, rfl, -, hb3, hw3⟩
        have HB3 := Lib.hid ((HX.out.below (Nat.le_refl _)).trans (hb3.mono (HX.out.below (Nat.le_refl _)).size))
        have HW3 := Lib.hid (hw3.lowF (HX.out.below (Nat.le_refl _)).size)
        clear hb3 hw3 e1
        go_wp2_with fail
        go_ret2
        first | exact ⟨R, q, rfl, HB3.out, HW3.out⟩ | exact ⟨R, ⟨q, rfl⟩, HB3.out, HW3.out⟩
  · unfold gwV gwC
    rw [if_neg hz, if_neg hz]
    generalize rCode c0 ts bs rs = cd at *
    clear hB hA hE
    go_enter Try.func24, Try.ntmps24
    go_wp2_with fail
    refine HC.out.mono ?_
    rintro e w1 ⟨rfl, hx⟩
    have HX := Lib.hid (((Ext.refl w).alloc _).trans hx)
    clear hx
    go_wp2_with fail
    go_ret2
    first | exact ⟨none, 0, rfl, HX.out.below (Nat.le_refl _), fun h => absurd h (Nat.lt_irrefl _)⟩ | exact ⟨none, ⟨0, rfl⟩, HX.out.below (Nat.le_refl _), fun h => absurd h (Nat.lt_irrefl _)⟩

set_option maxRecDepth 100000 in
set_option maxHeartbeats 4000000 in
theorem implGrowRows_any (c0 : Int) (A : Option Addr) (n c : Nat) (ts : List Tl) (B : Option Addr) (m d : Nat) (bs : List (List Int)) (E : Option Addr) (r rd : Nat) (rs : List (List Int)) (w : World) (hn : n ≤ 1048576) (hl : ts.length = n) (hA : TR w w.heap.size A ts) (hm : m ≤ 1048576) (hlr : bs.length = m) (hB : IRR w w.heap.size B bs) (hrow : ∀ k, k < m → (bs.getD k []).length ≤ 1048576) (hr : r ≤ 1048576) (hrd : r ≤ rd) (hlq : rs.length = r) (hE : IRR w w.heap.size E rs) (hrow2 : ∀ k, k < r → (rs.getD k []).length ≤ 1048576) :
    Calls Try.prog 25 #[.agg #[.int .i64 c0, .slice A n c], .slice B m d, .slice E r rd] w (GrRes w (gwV c0 ts bs rs) (gwC c0 ts bs rs)) := by
  have HC := Lib.hid (fun QQ => growthOfRows_any c0 A n c ts B m d bs E r rd rs (w.alloc (Obj.cells #[.int .i64 c0, .slice A n c] 32)) hn hl ((hA.ext ((Ext.refl w).alloc _) (Nat.le_refl _)).more (((Ext.refl w).alloc _).below (Nat.le_refl _)).size) hm hlr ((hB.ext ((Ext.refl w).alloc _) (Nat.le_refl _)).more (((Ext.refl w).alloc _).below (Nat.le_refl _)).size) hrow hr hlq ((hE.ext ((Ext.refl w).alloc _) (Nat.le_refl _)).more (((Ext.refl w).alloc _).below (Nat.le_refl _)).size) hrow2 QQ)
  have HX0 := Lib.hid (((Ext.refl w).alloc (Obj.cells #[.int .i64 c0, .slice A n c] 32)).below (Nat.le_refl w.heap.size))
  unfold GrRes
  by_cases hz : rCode c0 ts bs rs = 0
  · obtain ⟨hb0, hro⟩ := gc_zero hz
    obtain ⟨hset, hok⟩ := bCode_zero hb0
    have hlen := bCode_len hb0
    obtain ⟨hr8, hw8, hrin⟩ := rowsOk_nine hro
    rw [hlq] at hr8 hrin
    rw [hl] at hrin
    obtain ⟨bE, oE, hEe, hbE, hcE⟩ := hE (by omega)
    obtain ⟨Q0, q0, e0, -, -⟩ := hcE 0 (by omega)
    rw [Nat.add_zero] at e0
    obtain ⟨w0, hw0⟩ : ∃ w0, w0 = (rs.getD 0 []).length := ⟨_, rfl⟩
    rw [← hw0] at e0 hw8 hrin
    have hw1 : IntKind.i64.wrap (2 * (r : Int)) = 2 * (r : Int) := IntWalk.i64_in _ (by omega)
    have hw2 : IntKind.i64.wrap (2 * (w0 : Int)) = 2 * (w0 : Int) := IntWalk.i64_in _ (by omega)
    have hr1 : (1 : Int) ≤ (r : Int) := by omega
    have hr0 : (0 : Int) < (r : Int) := by omega
    have HGR := Lib.hid (fun (G : Option Addr) (g : Nat) (W : World) (hW : Below w.heap.size w W) (hG : TR W W.heap.size G (blkL bs)) => (show Calls Try.prog 62 #[.agg #[.int .i64 c0, .slice A n c, .slice G m g], .slice E r rd, .int .i64 1] W _ from grown_any ts c0 A n c G m g bs E r rd rs 1 W.heap.size W hm hlr hG hlq hrd ((hE.below hW (Nat.le_refl _)).more hW.size) (GB_of hok hlr (by omega) (fun k hk => ⟨by have := (hrin k (by omega)).1; omega, by rw [← hlr, hlen, hl]; exact (hrin k (by omega)).2⟩) (by omega)) (by omega) (Nat.le_refl _) (.inl (by omega))))
    have HLB := Lib.hid (show limB rs = decide (4 < r ∨ 4 < w0) by unfold limB; rw [hlq, hw0])
    have HZ := Lib.hid hz
    unfold gwV gwC
    rw [if_pos hz, if_pos hz, HLB.out]
    subst hEe
    clear hb0 hro hset hok hlen hrin hcE hw0 hz hA hB hE
    by_cases h1 : 4 < r
    · rw [if_pos (decide_eq_true (.inl h1)), if_pos (decide_eq_true (.inl h1))]
      have h2 : (8 : Int) < 2 * (r : Int) := by omega
      go_enter Try.func25, Try.ntmps25
      go_wp2_with fail
      refine HC.out _ ?_ (fun h => absurd HZ.out h)
      intro _ e w1 ⟨G, g, he, hb1, htw⟩
      subst he
      rw [blkL_len, hlr]
      have K1 := Lib.hid (HX0.out.trans (hb1.mono HX0.out.size))
      have hx2 := (Ext.refl w1).alloc (Obj.cells #[.int .i64 c0, .slice A n c, .slice G m g] 61)
      have N2 := Lib.hid (Blk.new w1 61 #[.int .i64 c0, .slice A n c, .slice G m g])
      have T2 := Lib.hid (((htw.tr).ext hx2 (Nat.le_refl _)).more (hx2.below (Nat.le_refl _)).size)
      have K2 := Lib.hid (K1.out.trans (hx2.below K1.out.size))
      have n0 := N2.out.rd 0 rfl
      have n1 := N2.out.rd 1 rfl
      have n2 := N2.out.rd 2 rfl
      have hbE1 : bE < w1.heap.size := Nat.lt_of_lt_of_le hbE K1.out.size
      have e1 := (K1.out.cell (p := ⟨bE, oE, none⟩) hbE).trans e0
      have e2 := (K2.out.cell (p := ⟨bE, oE, none⟩) hbE).trans e0
      clear hb1 htw hx2
      go_wp2_with fail
      go_ret2
      first | exact ⟨none, 0, rfl, K2.out, fun h => absurd h (Nat.lt_irrefl _)⟩ | exact ⟨none, ⟨0, rfl⟩, K2.out, fun h => absurd h (Nat.lt_irrefl _)⟩
    · have h2 : ¬ (8 : Int) < 2 * (r : Int) := by omega
      by_cases h3 : 4 < w0
      · rw [if_pos (decide_eq_true (.inr h3)), if_pos (decide_eq_true (.inr h3))]
        have h4 : (8 : Int) < 2 * (w0 : Int) := by omega
        go_enter Try.func25, Try.ntmps25
        go_wp2_with fail
        refine HC.out _ ?_ (fun h => absurd HZ.out h)
        intro _ e w1 ⟨G, g, he, hb1, htw⟩
        subst he
        rw [blkL_len, hlr]
        have K1 := Lib.hid (HX0.out.trans (hb1.mono HX0.out.size))
        have hx2 := (Ext.refl w1).alloc (Obj.cells #[.int .i64 c0, .slice A n c, .slice G m g] 61)
        have N2 := Lib.hid (Blk.new w1 61 #[.int .i64 c0, .slice A n c, .slice G m g])
        have T2 := Lib.hid (((htw.tr).ext hx2 (Nat.le_refl _)).more (hx2.below (Nat.le_refl _)).size)
        have K2 := Lib.hid (K1.out.trans (hx2.below K1.out.size))
        have n0 := N2.out.rd 0 rfl
        have n1 := N2.out.rd 1 rfl
        have n2 := N2.out.rd 2 rfl
        have hbE1 : bE < w1.heap.size := Nat.lt_of_lt_of_le hbE K1.out.size
        have e1 := (K1.out.cell (p := ⟨bE, oE, none⟩) hbE).trans e0
        have e2 := (K2.out.cell (p := ⟨bE, oE, none⟩) hbE).trans e0
        clear hb1 htw hx2
        go_wp2_with fail
        go_ret2
        first | exact ⟨none, 0, rfl, K2.out, fun h => absurd h (Nat.lt_irrefl _)⟩ | exact ⟨none, ⟨0, rfl⟩, K2.out, fun h => absurd h (Nat.lt_irrefl _)⟩
      · rw [if_neg (by simp; omega), if_neg (by simp; omega)]
        have h4 : ¬ (8 : Int) < 2 * (w0 : Int) := by omega
        go_enter Try.func25, Try.ntmps25
        go_wp2_with fail
        refine HC.out _ ?_ (fun h => absurd HZ.out h)
        intro _ e w1 ⟨G, g, he, hb1, htw⟩
        subst he
        rw [blkL_len, hlr]
        have K1 := Lib.hid (HX0.out.trans (hb1.mono HX0.out.size))
        have hx2 := (Ext.refl w1).alloc (Obj.cells #[.int .i64 c0, .slice A n c, .slice G m g] 61)
        have N2 := Lib.hid (Blk.new w1 61 #[.int .i64 c0, .slice A n c, .slice G m g])
        have T2 := Lib.hid (((htw.tr).ext hx2 (Nat.le_refl _)).more (hx2.below (Nat.le_refl _)).size)
        have K2 := Lib.hid (K1.out.trans (hx2.below K1.out.size))
        have n0 := N2.out.rd 0 rfl
        have n1 := N2.out.rd 1 rfl
        have n2 := N2.out.rd 2 rfl
        have hbE1 : bE < w1.heap.size := Nat.lt_of_lt_of_le hbE K1.out.size
        have e1 := (K1.out.cell (p := ⟨bE, oE, none⟩) hbE).trans e0
        have e2 := (K2.out.cell (p := ⟨bE, oE, none⟩) hbE).trans e0
        clear hb1 htw hx2
        go_wp2_with fail
        refine (HGR.out G g _ K2.out T2.out).mono ?_
        rintro e w3 ⟨R, q, rfl, -, hb3, -, hw3⟩
        have HB3 := Lib.hid (K2.out.trans (hb3.mono K2.out.size))
        have HW3 := Lib.hid (show IWW w3 w.heap.size w3.heap.size R (growR bs rs) from hw3.lowF K2.out.size)
        clear hb3 hw3 e1 e2 n0 n1 n2
        go_wp2_with fail
        go_ret2
        first | exact ⟨R, q, rfl, HB3.out, HW3.out⟩ | exact ⟨R, ⟨q, rfl⟩, HB3.out, HW3.out⟩
  · have HZ := Lib.hid hz
    unfold gwV gwC
    rw [if_neg hz, if_neg hz]
    generalize rCode c0 ts bs rs = cd at *
    clear hB hA hE
    go_enter Try.func25, Try.ntmps25
    go_wp2_with fail
    refine HC.out _ (fun h => absurd h HZ.out) ?_
    intro _ e w1 ⟨he, hb1⟩
    subst he
    have K1 := Lib.hid (HX0.out.trans (hb1.mono HX0.out.size))
    have hx2 := (Ext.refl w1).alloc (Obj.cells #[.int .i64 0, .slice none 0 0, .slice none 0 0] 61)
    have K2 := Lib.hid (K1.out.trans (hx2.below K1.out.size))
    clear hb1 hx2
    go_wp2_with fail
    go_ret2
    first | exact ⟨none, 0, rfl, K2.out, fun h => absurd h (Nat.lt_irrefl _)⟩ | exact ⟨none, ⟨0, rfl⟩, K2.out, fun h => absurd h (Nat.lt_irrefl _)⟩
end Go.Proofs.Ytnmgkchkbchfaaa
