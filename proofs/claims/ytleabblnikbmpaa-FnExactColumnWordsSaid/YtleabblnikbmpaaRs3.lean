/- Lists of lists that are written over with marks, and read again. -/
import Derived.Test.YtleabblnikbmpaaRs
namespace Go.Proofs.Ytleabblnikbmpaa
set_option linter.unusedVariables false
set_option linter.unusedSimpArgs false
open Go.RowKit Go.Sort

theorem Blk.one {w : World} {g : Nat} {t t' : TypeId} {cs cs' : Array Value} (h : Blk w g t cs) (h' : Blk w g t' cs') : cs = cs' := by
  unfold Blk at h h'
  rw [h] at h'
  injection h' with h'
  injection h'

/-- A stretch of a block is being marked: nothing else of the block has turned. -/
def FMark (w wr : World) (b : Nat) (t : TypeId) (cs : Array Value) (off : Nat) (k : Int) (i : Nat) : Prop :=
  ∃ cs', Blk wr b t cs' ∧ cs'.size = cs.size ∧ (∀ j, j < i → cs'[off + j]? = some (.int .i64 (k + (j : Int)))) ∧ (∀ q, q < off ∨ off + i ≤ q → cs'[q]? = cs[q]?) ∧ OnlyR b (b + 1) w wr
theorem FMark.room {w wr : World} {b : Nat} {t : TypeId} {cs : Array Value} {off i n : Nat} {k : Int} (h : FMark w wr b t cs off k i) (hi : i < n) (hs : off + n ≤ cs.size) : ∃ v0, wr.cell? ⟨b, off + i, none⟩ = some v0 ∧ wr.frozen? ⟨b, off + i, none⟩ = false := by
  obtain ⟨cs', hb, hs', _⟩ := h
  exact ⟨cs'[off + i]'(by omega), by rw [hb.cell]; simp, hb.frozen _⟩
theorem FMark.step {w wr : World} {b : Nat} {t : TypeId} {cs : Array Value} {off i n : Nat} {k : Int} (h : FMark w wr b t cs off k i) (hi : i < n) (hs : off + n ≤ cs.size) : FMark w (wr.setCell ⟨b, off + i, none⟩ (.int .i64 (k + (i : Int)))) b t cs off k (i + 1) := by
  obtain ⟨cs', hb, hs', h1, h2, ho⟩ := h
  refine ⟨_, hb.set_ _ _, by simpa using hs', fun j hj => ?_, fun q hq => ?_, ho.setCell (Nat.le_refl _) (by show b < b + 1; omega) _⟩
  · rw [Array.getElem?_setIfInBounds]
    by_cases hji : off + i = off + j
    · rw [if_pos hji, if_pos (by omega), show i = j by omega]
    · rw [if_neg hji]
      exact h1 j (by omega)
  · rw [Array.getElem?_setIfInBounds, if_neg (by omega)]
    exact h2 q (by omega)

set_option maxRecDepth 100000 in
set_option maxHeartbeats 400000 in
theorem markInt64S_fine (b off n c : Nat) (k : Int) (t : TypeId) (cs : Array Value) (w : World) (hn : n ≤ 1048576) (hk0 : 0 ≤ k) (hk1 : k ≤ 16777216) (hb : Blk w b t cs) (hs : off + n ≤ cs.size) :
    Calls Try.prog 61 #[.slice (some ⟨b, off, none⟩) n c, .int .i64 k] w fun e w' => e = .returned (.int .i64 (k + n)) ∧ FMark w w' b t cs off k n := by
  have hst : FMark w w b t cs off k 0 := ⟨cs, hb, rfl, fun j hj => absurd hj (Nat.not_lt_zero _), fun q _ => rfl, OnlyR.refl _ _ _⟩
  have HST := Lib.hid hst
  clear hb hst
  go_enter Try.func61, Try.ntmps61
  go_wp2_with fail
  go_loopw [1, 5] (fun kk i wr => ∃ j : Nat, j ≤ n ∧ i = .int .i64 j ∧ kk = .int .i64 (k + (j : Int)) ∧ FMark w wr b t cs off k j) (fun _ i _ => n - (intOf i).toNat)
  case atStart => exact ⟨0, Nat.zero_le _, rfl, by simp, HST.out⟩
  case round =>
    obtain ⟨j, hj, rfl, rfl, hm⟩ := hrel
    have HM := Lib.hid hm
    clear hm
    have hj2 : k + (j : Int) + 4 ≤ 33554432 := by omega
    by_cases hlt : j < n
    · obtain ⟨v0, r0, z0⟩ := HM.out.room hlt hs
      go_wp2_with fail
      go_roundw
      case rel => exact ⟨j + 1, by omega, by go_num, congrArg (Value.int .i64) (by omega), HM.out.step hlt hs⟩
      case measure => simp [intOf]; omega
    · go_wp2_with fail
      go_ret
      obtain rfl : j = n := by omega
      exact ⟨rfl, HM.out⟩
set_option maxHeartbeats 400000 in
theorem markInt64S_nil (A : Option Addr) (c : Nat) (k : Int) (w : World) :
    Calls Try.prog 61 #[.slice A 0 c, .int .i64 k] w fun e w' => e = .returned (.int .i64 k) ∧ w' = w := by
  go_enter Try.func61, Try.ntmps61
  go_wp2_with fail
  refine wp_loop_rounds 1 ?_
  rw [rounds_succ]
  go_wp2
  go_ret
  exact ⟨rfl, rfl⟩

/-- The rows with marks from k on. -/
def rmarks (k : Int) (rs : List (List Int)) : List (List Int) := (List.range rs.length).map fun j => imarks (k + (pre rs j : Nat)) (rs.getD j []).length
theorem rmarks_len (k : Int) (rs : List (List Int)) : (rmarks k rs).length = rs.length := by simp [rmarks]
theorem rmarks_at {k : Int} {rs : List (List Int)} {j : Nat} (h : j < rs.length) : (rmarks k rs).getD j [] = imarks (k + (pre rs j : Nat)) (rs.getD j []).length := by simp [rmarks, List.getD, h]
/-- The rows when the first i are marked. -/
def rowNow (k : Int) (rs : List (List Int)) (i j : Nat) : List Int := if j < i then imarks (k + (pre rs j : Nat)) (rs.getD j []).length else rs.getD j []
theorem rowNow_len (k : Int) (rs : List (List Int)) (i j : Nat) : (rowNow k rs i j).length = (rs.getD j []).length := by unfold rowNow; split <;> simp [imarks_len]

def RMark (w wr : World) (lo hi b off n : Nat) (t : TypeId) (cs : Array Value) (Q : Nat → Option Addr) (k : Int) (rs : List (List Int)) (i : Nat) : Prop :=
  Blk wr b t cs ∧ OnlyR lo hi w wr ∧ ∀ j, j < n → IWr wr lo hi (Q j) (rowNow k rs i j)
theorem OnlyR.wide {lo hi lo' hi' : Nat} {a b c : World} (h : OnlyR lo hi a b) (k : OnlyR lo' hi' b c) (h1 : lo ≤ lo') (h2 : hi' ≤ hi) : OnlyR lo hi a c :=
  ⟨k.os.trans h.os, k.tape.trans h.tape, k.output.trans h.output, Nat.le_trans h.size k.size, fun i hi3 hr => (k.block i (Nat.lt_of_lt_of_le hi3 h.size) (by omega)).trans (h.block i hi3 hr)⟩
theorem RMark.step {w wr w1 : World} {lo hi b off n i b1 o1 : Nat} {t t1 : TypeId} {cs cs1 : Array Value} {Q : Nat → Option Addr} {k : Int} {rs : List (List Int)} (h : RMark w wr lo hi b off n t cs Q k rs i) (hi0 : i < n) (hl : rs.length = n) (hpos : 0 < (rs.getD i []).length)
    (hQ : Q i = some ⟨b1, o1, none⟩) (hlo : lo ≤ b1) (hhi : b1 < hi) (hb1 : Blk wr b1 t1 cs1) (hs1 : o1 + (rs.getD i []).length ≤ cs1.size) (hbb : b1 ≠ b)
    (hap : ∀ p j, p < j → j < n → Apart (Q p) (rs.getD p []).length (Q j) (rs.getD j []).length)
    (hm : FMark wr w1 b1 t1 cs1 o1 (k + (pre rs i : Nat)) (rs.getD i []).length) : RMark w w1 lo hi b off n t cs Q k rs (i + 1) := by
  obtain ⟨hb, ho, hr⟩ := h
  obtain ⟨cs', hb', hs', hin, hout, hon⟩ := hm
  refine ⟨hb.only hon (by omega), ho.wide hon hlo (by omega), fun j hj => ?_⟩
  by_cases hji : j = i
  · subst hji
    have e : rowNow k rs (j + 1) j = imarks (k + (pre rs j : Nat)) (rs.getD j []).length := by unfold rowNow; rw [if_pos (by omega)]
    rw [e, hQ]
    exact fun _ => ⟨b1, o1, t1, cs', rfl, hlo, hhi, hb', fun q hq => by rw [imarks_len] at hq; rw [imarks_at hq]; exact hin q hq⟩
  · have e : rowNow k rs (i + 1) j = rowNow k rs i j := by
      unfold rowNow
      by_cases h1 : j < i
      · rw [if_pos h1, if_pos (by omega)]
      · rw [if_neg h1, if_neg (by omega)]
    rw [e]
    intro h0
    obtain ⟨c, u, t2, cs2, e2, hl2, hh2, hb2, hc2⟩ := hr j hj h0
    have hlen := rowNow_len k rs i j
    rw [hlen] at h0
    by_cases hcb : c = b1
    · subst hcb
      have hcs := hb2.one hb1
      subst hcs
      have apart : o1 + (rs.getD i []).length ≤ u ∨ u + (rs.getD j []).length ≤ o1 := by
        rcases Nat.lt_or_ge i j with hij | hij
        · rcases hap i j hij hj c o1 c u hQ e2 hpos h0 with h | h | h
          · exact absurd rfl h
          · exact .inl h
          · exact .inr h
        · rcases hap j i (by omega) hi0 c u c o1 e2 hQ h0 hpos with h | h | h
          · exact absurd rfl h
          · exact .inr h
          · exact .inl h
      refine ⟨c, u, t1, cs', e2, hl2, hh2, hb', fun q hq => ?_⟩
      rw [hout (u + q) (by rw [hlen] at hq; omega)]
      exact hc2 q hq
    · exact ⟨c, u, t2, cs2, e2, hl2, hh2, hb2.only hon (by omega), hc2⟩
theorem RMark.skip {w wr : World} {lo hi b off n i : Nat} {t : TypeId} {cs : Array Value} {Q : Nat → Option Addr} {k : Int} {rs : List (List Int)} (h : RMark w wr lo hi b off n t cs Q k rs i) (hz : (rs.getD i []).length = 0) : RMark w wr lo hi b off n t cs Q k rs (i + 1) := by
  obtain ⟨hb, ho, hr⟩ := h
  refine ⟨hb, ho, fun j hj => ?_⟩
  by_cases hji : j = i
  · subst hji
    intro h0
    rw [rowNow_len] at h0
    omega
  · have e : rowNow k rs (i + 1) j = rowNow k rs i j := by
      unfold rowNow
      by_cases h1 : j < i
      · rw [if_pos h1, if_pos (by omega)]
      · rw [if_neg h1, if_neg (by omega)]
    rw [e]
    exact hr j hj

set_option maxRecDepth 100000 in
set_option maxHeartbeats 1000000 in
theorem markInt64SS_any (A : Option Addr) (n c : Nat) (k : Int) (rs : List (List Int)) (lo hi : Nat) (w : World) (hn : n ≤ 1048576) (hneed : pre rs n ≤ 1048576) (hk0 : 0 ≤ k) (hk1 : k ≤ 8388608) (hl : rs.length = n) (hA : IWW w lo hi A rs) :
    Calls Try.prog 25 #[.slice A n c, .int .i64 k] w fun e w' => e = .returned (.int .i64 (k + (pre rs n : Nat))) ∧ OnlyR lo hi w w' ∧ IWW w' lo hi A (rmarks k rs) := by
  by_cases h0 : n = 0
  · subst h0
    go_enter Try.func25, Try.ntmps25
    go_wp2_with fail
    refine wp_loop_rounds 1 ?_
    rw [rounds_succ]
    go_wp2
    go_ret
    exact ⟨ret_i (by simp [pre]), OnlyR.refl _ _ _, fun h => absurd h (by rw [rmarks_len, hl]; omega)⟩
  · obtain ⟨b, off, t, cs, Q, q, rfl, hlo, hhi, hb, hc, hap⟩ := hA (by omega)
    have hst : RMark w w lo hi b off n t cs Q k rs 0 := ⟨hb, OnlyR.refl _ _ _, fun j hj => by
      have e : rowNow k rs 0 j = rs.getD j [] := by unfold rowNow; rw [if_neg (by omega)]
      rw [e]
      exact (hc j (by omega)).2.2.1⟩
    have HST := Lib.hid hst
    have HC := Lib.hid hc
    have HAP := Lib.hid hap
    clear hb hst hA hc hap
    go_enter Try.func25, Try.ntmps25
    go_wp2_with fail
    go_loopw [1, 5] (fun kk i wr => ∃ j : Nat, j ≤ n ∧ i = .int .i64 j ∧ kk = .int .i64 (k + (pre rs j : Nat)) ∧ RMark w wr lo hi b off n t cs Q k rs j) (fun _ i _ => n - (intOf i).toNat)
    case atStart => exact ⟨0, Nat.zero_le _, rfl, by simp [pre], HST.out⟩
    case round =>
      obtain ⟨j, hj, rfl, rfl, hm⟩ := hrel
      have HM := Lib.hid hm
      by_cases hlt : j < n
      · have hps := pre_succ (rs := rs) (k := j) (by omega)
        have hmono := pre_mono rs (k := j + 1) (n - (j + 1)) (by omega)
        rw [show j + 1 + (n - (j + 1)) = n by omega] at hmono
        have ec : wr.cell? ⟨b, off + j, none⟩ = some (.slice (Q j) (rs.getD j []).length (q j)) := (hm.1.cell _).trans (HC.out j (by omega)).1
        have hrow := hm.2.2 j hlt
        have erow : rowNow k rs j j = rs.getD j [] := by unfold rowNow; rw [if_neg (by omega)]
        rw [erow] at hrow
        clear hm
        by_cases hz : (rs.getD j []).length = 0
        · have hcon := markInt64S_nil (Q j) (q j) (k + (pre rs j : Nat)) wr
          rw [hz] at ec hps
          have HPS := Lib.hid hps
          have HZ := Lib.hid hz
          have HCON := Lib.hid hcon
          clear hps hz hcon hrow erow hmono
          go_wp2_with fail
          refine HCON.out.mono ?_
          rintro e w1 ⟨rfl, rfl⟩
          clear ec
          go_wp2_with fail
          go_roundw
          case rel => exact ⟨j + 1, by omega, by go_num, congrArg (Value.int .i64) (by have := HPS.out; omega), HM.out.skip HZ.out⟩
          case measure => simp [intOf]; omega
        · obtain ⟨b1, o1, t1, cs1, hQ, hlo1, hhi1, hb1, hc1⟩ := hrow (by omega)
          have hs1 : o1 + (rs.getD j []).length ≤ cs1.size := by
            have := hc1 ((rs.getD j []).length - 1) (by omega)
            have h := (Array.getElem?_eq_some_iff.1 this).1
            omega
          have hbb : b1 ≠ b := (HC.out j (by omega)).2.2.2 b1 o1 hQ (by omega)
          have hcon := markInt64S_fine b1 o1 (rs.getD j []).length (q j) (k + (pre rs j : Nat)) t1 cs1 wr (by omega) (by omega) (by omega) hb1 hs1
          rw [hQ] at ec
          have HQ := Lib.hid hQ
          have HB1 := Lib.hid (And.intro hb1 hs1)
          generalize hM : (rs.getD j []).length = mj at ec hcon hps
          have HPS := Lib.hid hps
          have HMJ := Lib.hid hM
          have HCON := Lib.hid hcon
          have hzp : 0 < (rs.getD j []).length := by omega
          have HZP := Lib.hid hzp
          clear hps hM hcon hrow erow hmono hc1 hb1 hs1 hQ hz hzp
          go_wp2_with fail
          refine HCON.out.mono ?_
          rintro e w1 ⟨rfl, hfm⟩
          have HFM := Lib.hid hfm
          clear ec hfm
          go_wp2_with fail
          go_roundw
          case rel =>
            refine ⟨j + 1, by omega, by go_num, congrArg (Value.int .i64) (by have := HPS.out; omega), HM.out.step hlt hl HZP.out HQ.out hlo1 hhi1 HB1.out.1 HB1.out.2 hbb (fun p j hp hj => HAP.out p j hp (by omega)) ?_⟩
            rw [HMJ.out]
            exact HFM.out
          case measure => simp [intOf]; omega
      · clear hm
        go_wp2_with fail
        go_ret
        obtain rfl : j = n := by omega
        obtain ⟨hb', ho', hr'⟩ := HM.out
        refine ⟨rfl, ho', fun _ => ⟨b, off, t, cs, Q, q, rfl, hlo, hhi, hb', fun p hp => ?_, fun p j hpj hj => ?_⟩⟩
        · rw [rmarks_len] at hp
          obtain ⟨h1, h2, h3, h4⟩ := HC.out p (by omega)
          have h5 := hr' p (by omega)
          have e5 : rowNow k rs j p = imarks (k + (pre rs p : Nat)) (rs.getD p []).length := by unfold rowNow; rw [if_pos (by omega)]
          rw [e5] at h5
          rw [rmarks_at (by omega), imarks_len]
          exact ⟨h1, h2, h5, h4⟩
        · rw [rmarks_len] at hj
          rw [rmarks_at (by omega), rmarks_at (by omega), imarks_len, imarks_len]
          exact HAP.out p j hpj hj

set_option maxRecDepth 100000 in
set_option maxHeartbeats 1000000 in
theorem heldInt64SS_any (A : Option Addr) (n c : Nat) (k : Int) (rs : List (List Int)) (w : World) (hn : n ≤ 1048576) (hneed : pre rs n ≤ 1048576) (hk0 : 0 ≤ k) (hk1 : k ≤ 8388608) (hl : rs.length = n) (hA : IRR w w.heap.size A (rmarks k rs)) :
    Calls Try.prog 26 #[.slice A n c, .int .i64 k] w fun e w' => e = .returned (.int .i64 (k + (pre rs n : Nat))) ∧ Ext w w' := by
  go_enter Try.func26, Try.ntmps26
  go_wp2_with fail
  go_loopw [1, 5] (fun kk i wr => ∃ j : Nat, j ≤ n ∧ i = .int .i64 j ∧ kk = .int .i64 (k + (pre rs j : Nat)) ∧ Ext w wr) (fun _ i _ => n - (intOf i).toNat)
  case atStart => exact ⟨0, Nat.zero_le _, rfl, by simp [pre], Ext.refl _⟩
  case round =>
    obtain ⟨j, hj, rfl, rfl, hx⟩ := hrel
    have HX := Lib.hid hx
    by_cases hlt : j < n
    · obtain ⟨b, off, rfl, hb0, hc⟩ := hA (by rw [rmarks_len]; omega)
      obtain ⟨Q, q, hcQ, hq1, hir⟩ := hc j (by rw [rmarks_len]; omega)
      rw [rmarks_at (by omega), imarks_len] at hcQ
      rw [rmarks_at (by omega)] at hir
      have ec := ((hx.below (Nat.le_refl _)).cell (p := ⟨b, off + j, none⟩) hb0).trans hcQ
      have hps := pre_succ (rs := rs) (k := j) (by omega)
      have hmono := pre_mono rs (k := j + 1) (n - (j + 1)) (by omega)
      rw [show j + 1 + (n - (j + 1)) = n by omega] at hmono
      have hcon := heldInt64S_any Q (rs.getD j []).length q (k + (pre rs j : Nat)) wr (by omega) (by omega) (by omega) ((hir.ext hx (Nat.le_refl _)).more (hx.below (Nat.le_refl _)).size)
      have hneg : ¬ (k + (pre rs j : Nat) + ((rs.getD j []).length : Nat) < 0) := by omega
      generalize (rs.getD j []).length = m at ec hcon hps hneg
      have HPS := Lib.hid hps
      have HCON := Lib.hid hcon
      clear hx hA hc hcQ hir hps hmono hcon
      go_wp2_with fail
      refine HCON.out.mono ?_
      rintro e w1 ⟨rfl, hx⟩
      have HX2 := Lib.hid (HX.out.trans hx)
      clear ec hx
      go_wp2_with fail
      go_roundw
      case rel => exact ⟨j + 1, by omega, by go_num, congrArg (Value.int .i64) (by have := HPS.out; omega), HX2.out⟩
      case measure => simp [intOf]; omega
    · clear hx hA
      go_wp2_with fail
      go_ret
      obtain rfl : j = n := by omega
      exact ⟨rfl, HX.out⟩

theorem markRows_at (A : Option Addr) (n c p : Nat) (k : Int) (rs : List (List Int)) (lo hi : Nat) (w : World) (hp : pre rs n = p) (hn : n ≤ 1048576) (hneed : p ≤ 1048576) (hk0 : 0 ≤ k) (hk1 : k ≤ 8388608) (hl : rs.length = n) (hA : IWW w lo hi A rs) :
    Calls Try.prog 25 #[.slice A n c, .int .i64 k] w fun e w' => e = .returned (.int .i64 (k + (p : Nat))) ∧ OnlyR lo hi w w' ∧ IWW w' lo hi A (rmarks k rs) := by
  subst hp
  exact markInt64SS_any A n c k rs lo hi w hn hneed hk0 hk1 hl hA
theorem heldRows_at (A : Option Addr) (n c p : Nat) (k : Int) (rs : List (List Int)) (w : World) (hp : pre rs n = p) (hn : n ≤ 1048576) (hneed : p ≤ 1048576) (hk0 : 0 ≤ k) (hk1 : k ≤ 8388608) (hl : rs.length = n) (hA : IRR w w.heap.size A (rmarks k rs)) :
    Calls Try.prog 26 #[.slice A n c, .int .i64 k] w fun e w' => e = .returned (.int .i64 (k + (p : Nat))) ∧ Ext w w' := by
  subst hp
  exact heldInt64SS_any A n c k rs w hn hneed hk0 hk1 hl hA
end Go.Proofs.Ytleabblnikbmpaa
