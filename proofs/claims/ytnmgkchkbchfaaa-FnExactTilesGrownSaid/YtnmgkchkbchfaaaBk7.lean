/- Lists of blocks that are one to one: both sides. -/
import Derived.Test.YtnmgkchkbchfaaaBk6
namespace Go.Proofs.Ytnmgkchkbchfaaa
set_option linter.unusedVariables false
set_option linter.unusedSimpArgs false
open Go.RowKit Go.Sort

set_option maxRecDepth 100000 in
set_option maxHeartbeats 2000000 in
theorem l09Equal_any (b1 o1 q1 b2 o2 q2 : Nat) (x0 x1 x2 x3 y0 y1 y2 y3 : Int) (w : World)
    (c0 : w.cell? ⟨b1, o1, none⟩ = some (.int .i64 x0)) (c1 : w.cell? ⟨b1, o1 + 1, none⟩ = some (.int .i64 x1)) (c2 : w.cell? ⟨b1, o1 + 2, none⟩ = some (.int .i64 x2)) (c3 : w.cell? ⟨b1, o1 + 3, none⟩ = some (.int .i64 x3))
    (d0 : w.cell? ⟨b2, o2, none⟩ = some (.int .i64 y0)) (d1 : w.cell? ⟨b2, o2 + 1, none⟩ = some (.int .i64 y1)) (d2 : w.cell? ⟨b2, o2 + 2, none⟩ = some (.int .i64 y2)) (d3 : w.cell? ⟨b2, o2 + 3, none⟩ = some (.int .i64 y3)) :
    Calls Try.prog 57 #[.slice (some ⟨b1, o1, none⟩) 4 q1, .slice (some ⟨b2, o2, none⟩) 4 q2] w fun e w' => e = .returned (.bool (eqT (x0, x1, x2, x3) (y0, y1, y2, y3))) ∧ ∃ n, w' = w.drewN n := by
  generalize hr : eqT (x0, x1, x2, x3) (y0, y1, y2, y3) = r
  by_cases h0 : x0 = y0
  · by_cases h1 : x1 = y1
    · by_cases h2 : x2 = y2
      · by_cases h3 : x3 = y3
        · obtain rfl : r = true := by rw [← hr]; exact eqT_yes (by rw [h0, h1, h2, h3])
          have g0 : (x0 == y0) = true := by simp [h0]
          have g1 : (x1 == y1) = true := by simp [h1]
          have g2 : (x2 == y2) = true := by simp [h2]
          have g3 : (x3 == y3) = true := by simp [h3]
          clear hr h0 h1 h2 h3
          go_enter Try.func57, Try.ntmps57
          go_wp2_with fail
          go_quiet (fail)
          clear c0 c1 c2 c3 d0 d1 d2 d3
          go_wp2_with fail
          go_ret
          exact ⟨rfl, _, rfl⟩
        · obtain rfl : r = false := by rw [← hr]; exact eqT_ne (by simp [h3])
          have g0 : (x0 == y0) = true := by simp [h0]
          have g1 : (x1 == y1) = true := by simp [h1]
          have g2 : (x2 == y2) = true := by simp [h2]
          have g3 : (x3 == y3) = false := by simp [h3]
          clear hr h0 h1 h2 h3
          go_enter Try.func57, Try.ntmps57
          go_wp2_with fail
          go_quiet (fail)
          clear c0 c1 c2 c3 d0 d1 d2 d3
          go_wp2_with fail
          go_ret
          exact ⟨rfl, _, rfl⟩
      · obtain rfl : r = false := by rw [← hr]; exact eqT_ne (by simp [h2])
        have g0 : (x0 == y0) = true := by simp [h0]
        have g1 : (x1 == y1) = true := by simp [h1]
        have g2 : (x2 == y2) = false := by simp [h2]
        clear hr h0 h1 h2
        go_enter Try.func57, Try.ntmps57
        go_wp2_with fail
        go_quiet (fail)
        clear c0 c1 c2 c3 d0 d1 d2 d3
        go_wp2_with fail
        go_ret
        exact ⟨rfl, _, rfl⟩
    · obtain rfl : r = false := by rw [← hr]; exact eqT_ne (by simp [h1])
      have g0 : (x0 == y0) = true := by simp [h0]
      have g1 : (x1 == y1) = false := by simp [h1]
      clear hr h0 h1
      go_enter Try.func57, Try.ntmps57
      go_wp2_with fail
      go_quiet (fail)
      clear c0 c1 c2 c3 d0 d1 d2 d3
      go_wp2_with fail
      go_ret
      exact ⟨rfl, _, rfl⟩
  · obtain rfl : r = false := by rw [← hr]; exact eqT_ne (by simp [h0])
    have g0 : (x0 == y0) = false := by simp [h0]
    clear hr h0
    go_enter Try.func57, Try.ntmps57
    go_wp2_with fail
    go_quiet (fail)
    clear c0 c1 c2 c3 d0 d1 d2 d3
    go_wp2_with fail
    go_ret
    exact ⟨rfl, _, rfl⟩

/-- All blocks are different. -/
def oneB (bs : List (List Int)) : Bool := (List.range bs.length).all fun i => decide (idxB (blkL bs) ((blkL bs).getD i T0) = (i : Int))
theorem oneB_no {bs : List (List Int)} {i k : Nat} (hi : i < bs.length) (hk : k < i) (h : (blkL bs).getD i T0 = (blkL bs).getD k T0) : oneB bs = false := by
  unfold oneB
  rw [List.all_eq_false]
  refine ⟨i, List.mem_range.2 hi, ?_⟩
  rw [decide_eq_true_eq]
  intro e
  rcases idxB_cases (blkL bs) ((blkL bs).getD i T0) with ⟨h1, _⟩ | ⟨j, h1, h2, h3, h4⟩
  · omega
  · obtain rfl : j = i := by omega
    exact h4 k hk h.symm
theorem oneB_yes {bs : List (List Int)} (h : ∀ i, i < bs.length → ∀ k, k < i → (blkL bs).getD i T0 ≠ (blkL bs).getD k T0) : oneB bs = true := by
  unfold oneB
  rw [List.all_eq_true]
  intro i hi
  have hi := List.mem_range.1 hi
  exact decide_eq_true (idxB_eq (by rw [blkL_len]; exact hi) rfl fun k hk e => h i hi k hk e.symm)
theorem oneB_idx {bs : List (List Int)} (h : ∀ i, i < bs.length → idxB (blkL bs) ((blkL bs).getD i T0) = (i : Int)) : oneB bs = true := by
  unfold oneB
  rw [List.all_eq_true]
  intro i hi
  exact decide_eq_true (h i (List.mem_range.1 hi))
theorem oneB_at {bs : List (List Int)} {i : Nat} (hi : i < bs.length) (h : idxB (blkL bs) ((blkL bs).getD i T0) ≠ (i : Int)) : oneB bs = false := by
  unfold oneB
  rw [List.all_eq_false]
  exact ⟨i, List.mem_range.2 hi, by rw [decide_eq_true_eq]; exact h⟩
def oneV (c0 : Int) (ts : List Tl) (bs : List (List Int)) : Bool := decide (bCode c0 ts bs = 0) && oneB bs
/-- The four numbers of a block of the argument. -/
theorem irr_block {w : World} {B : Nat} {A : Option Addr} {ts : List Tl} {bs : List (List Int)} (h : IRR w B A bs) (hok : bOk ts bs = true) {k : Nat} (hk : k < bs.length) :
    ∃ b o bx ox q, A = some ⟨b, o, none⟩ ∧ b < B ∧ bx < B ∧ w.cell? ⟨b, o + k, none⟩ = some (.slice (some ⟨bx, ox, none⟩) 4 q) ∧ 4 ≤ q ∧
      w.cell? ⟨bx, ox, none⟩ = some (.int .i64 (bAt bs k 0)) ∧ w.cell? ⟨bx, ox + 1, none⟩ = some (.int .i64 (bAt bs k 1)) ∧ w.cell? ⟨bx, ox + 2, none⟩ = some (.int .i64 (bAt bs k 2)) ∧ w.cell? ⟨bx, ox + 3, none⟩ = some (.int .i64 (bAt bs k 3)) := by
  obtain ⟨b, o, e, hb, hc⟩ := h (by omega)
  obtain ⟨Q, q, h1, h2, h3⟩ := hc k hk
  have h4 := ((bOk_facts hok).2 k hk).1
  obtain ⟨bx, ox, e2, hbx, hcx⟩ := h3 (by omega)
  subst e2
  rw [h4] at h1 h2
  exact ⟨b, o, bx, ox, q, e, hb, hbx, h1, h2, by have := hcx 0 (by omega); rwa [Nat.add_zero] at this, hcx 1 (by omega), hcx 2 (by omega), hcx 3 (by omega)⟩

set_option maxRecDepth 100000 in
set_option maxHeartbeats 4000000 in
theorem specIsOneToOne_any (c0 : Int) (A : Option Addr) (n c : Nat) (ts : List Tl) (B : Option Addr) (m d : Nat) (bs : List (List Int)) (w : World) (hn : n ≤ 1048576) (hl : ts.length = n) (hA : TR w w.heap.size A ts) (hm : m ≤ 1048576) (hlr : bs.length = m) (hB : IRR w w.heap.size B bs) (hrow : ∀ k, k < m → (bs.getD k []).length ≤ 1048576) :
    Calls Try.prog 22 #[.agg #[.int .i64 c0, .slice A n c], .slice B m d] w fun e w' => e = .returned (.tuple #[.bool (oneV c0 ts bs), .int .i64 (bCode c0 ts bs)]) ∧ Below w.heap.size w w' := by
  have mixed : Try.prog.follows .mixedOrders = true := by kernel_rfl
  have HC := Lib.hid (l09Code_any c0 A n c ts B m d bs (w.alloc (Obj.cells #[.int .i64 c0, .slice A n c] 32)) hn hl ((hA.ext ((Ext.refl w).alloc _) (Nat.le_refl _)).more (((Ext.refl w).alloc _).below (Nat.le_refl _)).size) hm hlr ((hB.ext ((Ext.refl w).alloc _) (Nat.le_refl _)).more (((Ext.refl w).alloc _).below (Nat.le_refl _)).size) hrow)
  unfold oneV
  by_cases hz : bCode c0 ts bs = 0
  · have hok := (bCode_zero hz).2
    have HOK := Lib.hid hok
    rw [hz] at HC ⊢
    rw [decide_eq_true (rfl : (0 : Int) = 0), Bool.true_and]
    obtain ⟨rr, hrr⟩ : ∃ r, r = oneB bs := ⟨_, rfl⟩
    rw [← hrr]
    have HRR := Lib.hid hrr
    clear hz hok hrr hA
    go_enter Try.func22, Try.ntmps22
    go_wp2_with fail
    refine HC.out.mono ?_
    rintro e w1 ⟨rfl, hx⟩
    have HX := Lib.hid (((Ext.refl w).alloc _).trans hx)
    clear hx
    go_wp2_with fail
    go_loopw [7] (fun i wr => ∃ a : Nat, a ≤ m ∧ i = .int .i64 a ∧ (∀ x, x < a → ∀ y, y < x → (blkL bs).getD x T0 ≠ (blkL bs).getD y T0) ∧ Ext w wr) (fun i _ => m - (intOf i).toNat)
    case atStart => exact ⟨0, Nat.zero_le _, rfl, fun j hj => absurd hj (Nat.not_lt_zero _), HX.out⟩
    case round =>
      obtain ⟨a, ha, rfl, heq, hx⟩ := hrel
      have H := Lib.hid heq
      have HX2 := Lib.hid hx
      clear heq hx
      by_cases hlt : a < m
      · go_wp2_with fail
        go_loopw [8] (fun i wr => ∃ k : Nat, k ≤ a ∧ i = .int .i64 k ∧ (∀ y, y < k → (blkL bs).getD a T0 ≠ (blkL bs).getD y T0) ∧ Ext w wr) (fun i _ => a - (intOf i).toNat)
        case atStart => exact ⟨0, Nat.zero_le _, rfl, fun j hj => absurd hj (Nat.not_lt_zero _), HX2.out⟩
        case round =>
          obtain ⟨k, hk, rfl, heq, hx⟩ := hrel
          have H3 := Lib.hid heq
          have HX3 := Lib.hid hx
          clear heq
          by_cases hlk : k < a
          · obtain ⟨b, o, bx, ox, q, rfl, hb, hbx, e1, hq1, p0, p1, p2, p3⟩ := irr_block hB HOK.out (k := a) (by omega)
            obtain ⟨b', o', by_, oy, q', he, hb', hby, e2, hq2, r0, r1, r2, r3⟩ := irr_block hB HOK.out (k := k) (by omega)
            cases he
            have hga := blkL_get (bs := bs) (k := a) (by omega)
            have hgk := blkL_get (bs := bs) (k := k) (by omega)
            generalize bAt bs a 0 = x0 at p0 hga
            generalize bAt bs a 1 = x1 at p1 hga
            generalize bAt bs a 2 = x2 at p2 hga
            generalize bAt bs a 3 = x3 at p3 hga
            generalize bAt bs k 0 = y0 at r0 hgk
            generalize bAt bs k 1 = y1 at r1 hgk
            generalize bAt bs k 2 = y2 at r2 hgk
            generalize bAt bs k 3 = y3 at r3 hgk
            have hcon : ∀ W, Ext wr W → Calls Try.prog 57 #[.slice (some ⟨bx, ox, none⟩) 4 q, .slice (some ⟨by_, oy, none⟩) 4 q'] W (fun e w' => e = .returned (.bool (eqT (x0, x1, x2, x3) (y0, y1, y2, y3))) ∧ Ext W w') := fun W hW =>
              (l09Equal_any bx ox q by_ oy q' x0 x1 x2 x3 y0 y1 y2 y3 W ((hx.trans hW).cell_ p0) ((hx.trans hW).cell_ p1) ((hx.trans hW).cell_ p2) ((hx.trans hW).cell_ p3) ((hx.trans hW).cell_ r0) ((hx.trans hW).cell_ r1) ((hx.trans hW).cell_ r2) ((hx.trans hW).cell_ r3)).mono fun e w' ⟨h1, nn, h2⟩ => ⟨h1, by rw [h2]; exact (Ext.refl W).drewN nn⟩
            unfold Ext at hcon
            have f1 := hx.cell_ e1
            have f2 := hx.cell_ e2
            have g1 := fun q os => (cell?_grow (wr.drewN q) os ⟨b, o + a, none⟩ (by have := World.block_lt_of_cell? wr _ f1; exact this)).trans f1
            have g2 := fun q os => (cell?_grow (wr.drewN q) os ⟨b, o + k, none⟩ (by have := World.block_lt_of_cell? wr _ f2; exact this)).trans f2
            have hk3 : (k : Int) < (m : Int) := by omega
            have ha3 : (a : Int) < (m : Int) := by omega
            have HGA := Lib.hid (And.intro hga hgk)
            clear hga hgk f1 f2 e1 e2 p0 p1 p2 p3 r0 r1 r2 r3 hx
            by_cases heq : (x0, x1, x2, x3) = (y0, y1, y2, y3)
            · rw [eqT_yes heq] at hcon
              have HF := Lib.hid hcon
              obtain rfl : rr = false := by rw [HRR.out]; exact oneB_no (i := a) (k := k) (by omega) hlk (by rw [HGA.out.1, HGA.out.2, heq])
              clear heq hcon
              go_wp2_with fail
              refine wp_region_quiet_grown mixed (by kernel_rfl) ?_
              repeat (go_big_quiet_step (((go_at_call 57; refine Calls.grown_of (HF.out _ ⟨_, _, rfl⟩)))))
              refine wpQuiet_nil ?_
              intro _ hw'
              obtain ⟨⟨nq, osq⟩, hw''⟩ := hw'
              subst hw''
              clear g1 g2
              go_wp2_with fail
              go_ret2
              exact ⟨rfl, (HX3.out.trans ⟨nq, osq, rfl⟩).below (Nat.le_refl _)⟩
            · rw [eqT_ne heq] at hcon
              have HF := Lib.hid hcon
              have HNE := Lib.hid heq
              clear heq hcon
              go_wp2_with fail
              refine wp_region_quiet_grown mixed (by kernel_rfl) ?_
              repeat (go_big_quiet_step (((go_at_call 57; refine Calls.grown_of (HF.out _ ⟨_, _, rfl⟩)))))
              refine wpQuiet_nil ?_
              intro _ hw'
              obtain ⟨⟨nq, osq⟩, hw''⟩ := hw'
              subst hw''
              clear g1 g2
              have HX4 := Lib.hid (HX3.out.trans ⟨nq, osq, rfl⟩)
              go_wp2_with fail
              go_roundw
              case rel =>
                refine ⟨k + 1, by omega, by go_num, fun y hy => ?_, HX4.out⟩
                by_cases hyk : y = k
                · subst hyk
                  rw [HGA.out.1, HGA.out.2]
                  exact HNE.out
                · exact H3.out y (by omega)
              case measure => simp [intOf]; omega
          · obtain rfl : k = a := by omega
            clear hx hB
            go_wp2_with fail
            go_roundw
            case rel =>
              refine ⟨k + 1, by omega, by go_num, fun x hx => ?_, HX3.out⟩
              by_cases hxk : x = k
              · subst hxk
                exact H3.out
              · exact H.out x (by omega)
            case measure => simp [intOf]; omega
      · obtain rfl : a = m := by omega
        obtain rfl : rr = true := by rw [HRR.out]; exact oneB_yes (fun i hi k hk => H.out i (by omega) k hk)
        clear hB
        go_wp2_with fail
        go_ret2
        exact ⟨rfl, HX2.out.below (Nat.le_refl _)⟩
  · rw [decide_eq_false hz, Bool.false_and]
    generalize bCode c0 ts bs = cd at *
    clear hB hA
    go_enter Try.func22, Try.ntmps22
    go_wp2_with fail
    refine HC.out.mono ?_
    rintro e w1 ⟨rfl, hx⟩
    have HX := Lib.hid (((Ext.refl w).alloc _).trans hx)
    clear hx
    go_wp2_with fail
    go_ret2
    exact ⟨rfl, HX.out.below (Nat.le_refl _)⟩

set_option maxRecDepth 100000 in
set_option maxHeartbeats 4000000 in
theorem implIsOneToOne_any (c0 : Int) (A : Option Addr) (n c : Nat) (ts : List Tl) (B : Option Addr) (m d : Nat) (bs : List (List Int)) (w : World) (hn : n ≤ 1048576) (hl : ts.length = n) (hA : TR w w.heap.size A ts) (hm : m ≤ 1048576) (hlr : bs.length = m) (hB : IRR w w.heap.size B bs) (hrow : ∀ k, k < m → (bs.getD k []).length ≤ 1048576) :
    Calls Try.prog 23 #[.agg #[.int .i64 c0, .slice A n c], .slice B m d] w fun e w' => e = .returned (.tuple #[.bool (oneV c0 ts bs), .int .i64 (bCode c0 ts bs)]) ∧ Below w.heap.size w w' := by
  have HC := Lib.hid (fun QQ => growthOf_any c0 A n c ts B m d bs (w.alloc (Obj.cells #[.int .i64 c0, .slice A n c] 32)) hn hl ((hA.ext ((Ext.refl w).alloc _) (Nat.le_refl _)).more (((Ext.refl w).alloc _).below (Nat.le_refl _)).size) hm hlr ((hB.ext ((Ext.refl w).alloc _) (Nat.le_refl _)).more (((Ext.refl w).alloc _).below (Nat.le_refl _)).size) hrow QQ)
  have HX0 := Lib.hid (((Ext.refl w).alloc (Obj.cells #[.int .i64 c0, .slice A n c] 32)).below (Nat.le_refl w.heap.size))
  unfold oneV
  by_cases hz : bCode c0 ts bs = 0
  · have HZ := Lib.hid hz
    rw [hz, decide_eq_true (rfl : (0 : Int) = 0), Bool.true_and]
    obtain ⟨rr, hrr⟩ : ∃ r, r = oneB bs := ⟨_, rfl⟩
    rw [← hrr]
    have HRR := Lib.hid hrr
    clear hz hrr hA hB
    go_enter Try.func23, Try.ntmps23
    go_wp2_with fail
    refine HC.out _ ?_ ?_
    · intro _ e w1 ⟨G, g, he, hb1, htw⟩
      subst he
      rw [blkL_len, hlr]
      have K1 := Lib.hid (HX0.out.trans (hb1.mono HX0.out.size))
      have hx2 := (Ext.refl w1).alloc (Obj.cells #[.int .i64 c0, .slice A n c, .slice G m g] 61)
      have N2 := Lib.hid (Blk.new w1 61 #[.int .i64 c0, .slice A n c, .slice G m g])
      have T2 := Lib.hid ((htw.tr).ext hx2 (Nat.le_refl _))
      have K2 := Lib.hid (K1.out.trans (hx2.below K1.out.size))
      have hs2 : (w1.alloc (Obj.cells #[.int .i64 c0, .slice A n c, .slice G m g] 61)).heap.size = w1.heap.size + 1 := by simp
      have n2 := N2.out.rd 2 rfl
      clear hb1 htw hx2
      go_wp2_with fail
      clear n2
      generalize w1.alloc (Obj.cells #[.int .i64 c0, .slice A n c, .slice G m g] 61) = W2 at *
      generalize w1.heap.size = g9 at *
      go_loopw [22] (fun i wr => ∃ k : Nat, k ≤ m ∧ i = .int .i64 k ∧ (∀ x, x < k → idxB (blkL bs) ((blkL bs).getD x T0) = (x : Int)) ∧ Ext W2 wr) (fun i _ => m - (intOf i).toNat)
      case atStart => exact ⟨0, Nat.zero_le _, rfl, fun j hj => absurd hj (Nat.not_lt_zero _), Ext.refl _⟩
      case round =>
        obtain ⟨k, hk, rfl, heq, hx⟩ := hrel
        have H := Lib.hid heq
        have HX3 := Lib.hid hx
        clear heq
        by_cases hlt : k < m
        · have hTr := T2.out.ext hx (by omega)
          obtain ⟨bG, oG, hGe, hbG, p0, p1, p2, p3⟩ := tr_first hTr (k := k) (by omega)
          subst hGe
          have hgk := blkL_get (bs := bs) (k := k) (by omega)
          have hfw := fun W (hW : Ext W2 W) => firstWith_any c0 A n c (some ⟨bG, oG, none⟩) m g (blkL bs) ((blkL bs).getD k T0) W (by omega) (by rw [blkL_len]; exact hlr) ((T2.out.ext hW (by omega)).more (by have := (hW.below (Nat.le_refl _)).size; omega))
          rw [hgk] at hfw
          obtain ⟨ix, hix⟩ : ∃ ix, ix = idxB (blkL bs) ((blkL bs).getD k T0) := ⟨_, rfl⟩
          have HIX := Lib.hid hix
          rw [hgk] at hix
          rw [← hix] at hfw
          generalize bAt bs k 0 = x0 at *
          generalize bAt bs k 1 = x1 at *
          generalize bAt bs k 2 = x2 at *
          generalize bAt bs k 3 = x3 at *
          simp only [tv] at hfw
          have HF := Lib.hid hfw
          have hx4 := (Ext.refl wr).alloc (Obj.cells #[.int .i64 x0, .int .i64 x1, .int .i64 x2, .int .i64 x3] 66)
          have hN := Blk.new wr 66 #[.int .i64 x0, .int .i64 x1, .int .i64 x2, .int .i64 x3]
          have hG2 := ((N2.out.ext hx).ext hx4)
          have v0 := hN.rd 0 rfl
          have v1 := hN.rd 1 rfl
          have v2 := hN.rd 2 rfl
          have v3 := hN.rd 3 rfl
          have u0 := hG2.rd 0 rfl
          have u1 := hG2.rd 1 rfl
          have u2 := hG2.rd 2 rfl
          have HX5 := Lib.hid (HX3.out.trans hx4)
          clear hfw hgk hix hx hTr hx4 hN hG2
          go_wp2_with fail
          refine (HF.out _ HX5.out).mono ?_
          rintro e w4 ⟨rfl, hx⟩
          have HX6 := Lib.hid (HX5.out.trans hx)
          clear hx v0 v1 v2 v3 u0 u1 u2 p0 p1 p2 p3
          by_cases hik : ix = (k : Int)
          · subst hik
            have hne : ((k : Int) != (k : Int)) = false := by simp
            go_wp2_with fail
            go_roundw
            case rel =>
              refine ⟨k + 1, by omega, by go_num, fun x hx => ?_, HX6.out⟩
              by_cases hxk : x = k
              · subst hxk
                exact HIX.out.symm
              · exact H.out x (by omega)
            case measure => simp [intOf]; omega
          · have hne : (ix != (k : Int)) = true := by simpa using hik
            obtain rfl : rr = false := by rw [HRR.out]; exact oneB_at (i := k) (by omega) (by rw [← HIX.out]; exact hik)
            clear hik
            go_wp2_with fail
            go_ret2
            exact ⟨rfl, K2.out.trans (HX6.out.below K2.out.size)⟩
        · obtain rfl : k = m := by omega
          obtain rfl : rr = true := by rw [HRR.out]; exact oneB_idx (fun i hi => H.out i (by omega))
          clear hx
          go_wp2_with fail
          go_ret2
          exact ⟨rfl, K2.out.trans (HX3.out.below K2.out.size)⟩
    · intro h
      exact absurd HZ.out h
  · have HZ := Lib.hid hz
    rw [decide_eq_false hz, Bool.false_and]
    generalize bCode c0 ts bs = cd at *
    clear hB hA
    go_enter Try.func23, Try.ntmps23
    go_wp2_with fail
    refine HC.out _ ?_ ?_
    · intro h
      exact absurd h HZ.out
    · intro _ e w1 ⟨he, hb1⟩
      subst he
      have K1 := Lib.hid (HX0.out.trans (hb1.mono HX0.out.size))
      have hx2 := (Ext.refl w1).alloc (Obj.cells #[.int .i64 0, .slice none 0 0, .slice none 0 0] 61)
      have K2 := Lib.hid (K1.out.trans (hx2.below K1.out.size))
      clear hb1 hx2
      go_wp2_with fail
      go_ret2
      exact ⟨rfl, K2.out⟩
end Go.Proofs.Ytnmgkchkbchfaaa
