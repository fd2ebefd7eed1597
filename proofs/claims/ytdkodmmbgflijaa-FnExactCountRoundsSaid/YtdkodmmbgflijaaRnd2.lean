/- Rounds are counted: the model's side. -/
import Derived.Test.YtdkodmmbgflijaaRnd1
namespace Go.Proofs.Ytdkodmmbgflijaa
set_option linter.unusedVariables false
set_option linter.unusedSimpArgs false
open Go.RowKit Go.Sort

set_option maxRecDepth 100000 in
set_option maxHeartbeats 4000000 in
theorem specRounds_any (c0 : Int) (A : Option Addr) (n c : Nat) (ts : List Tl) (i : Int) (w : World) (hn : n ≤ 1048576) (hl : ts.length = n) (hA : TR w w.heap.size A ts) :
    Calls Try.prog 44 #[.agg #[.int .i64 c0, .slice A n c], .int .i64 i] w (IntRes w (roundCount c0 ts i) (roundCode c0 ts i)) := by
  have hck : ∀ W, Ext w W → Calls Try.prog 79 #[.agg #[.int .i64 c0, .slice A n c], .int .i64 i] W _ := fun W hW => l02Long_any c0 A n c ts i W hn hl ((hA.ext hW (Nat.le_refl _)).more (hW.below (Nat.le_refl _)).size)
  have HC := Lib.hid hck
  clear hck
  unfold roundCount roundCode
  by_cases hc : lenCode c0 ts i = 0
  · obtain ⟨hset, hi1, hi2⟩ := lenCode_ok hc
    obtain ⟨j, rfl⟩ : ∃ j : Nat, i = (j : Int) := ⟨i.toNat, by omega⟩
    have hcol := isSet_col hset
    obtain ⟨C, rfl⟩ : ∃ C : Nat, c0 = (C : Int) := ⟨c0.toNat, by omega⟩
    have hok : ∀ t ∈ ts, tileOk C t = true := fun t ht => ok_of_isSet' hset t ht
    have hC6 : C ≤ 6 := by omega
    have hwy : ∀ (F : Option Addr) (cf k : Nat) W, Below w.heap.size w W → IR W W.heap.size F (fl C (unit k)) → Calls Try.prog 82 #[.agg #[.int .i64 (C : Int), .slice A n c], .slice F C cf, .int .i64 (j : Int), .slice none 0 0] W _ :=
      fun F cf k W hW hF => l02Ways_any C A n c ts F cf (unit k) j none 0 0 [] W (by omega) (by omega) hn hl ((hA.below hW (Nat.le_refl _)).more hW.size) hok (unit_cap k) hF (by omega) (by omega) rfl (fun h => absurd h (Nat.lt_irrefl _)) (.inl rfl)
    simp only [npow_nil] at hwy
    have HY := Lib.hid hwy
    have hres := cnt_cap (tot6 (rndTo ts j C))
    rw [← rnd_sum ts j hC6] at hres
    obtain ⟨i0, hi, hz0, hz1, hz2⟩ := info_parts info_int
    have hmk := fun W => run_make_rowN (P := Try.prog) 38 2 i0 _ (by kernel_rfl) hi hz0 .i64 .i64 C C (Nat.le_refl _) (by rw [hz2]; omega) (by omega) W
    rw [hz1] at hmk
    generalize hcs : madeCells (Value.cells (.int .i64 0)) (C * 1) = cs0 at hmk
    have hsz : Arr cs0 C (fun _ => 0) := by rw [← hcs]; exact arr_made C
    clear hcs hi hz0 hz1 hz2
    have HZ := Lib.hid hsz
    have HMK := Lib.hid hmk
    clear hsz hmk
    rw [if_pos hc, if_pos hc, Int.toNat_natCast, Int.toNat_natCast, ← hres.1, ← hres.2]
    rw [hc] at HC
    have hj : j ≤ 40 := by omega
    clear hwy hc hA hok hset hcol hres
    go_enter Try.func44, Try.ntmps44
    go_wp2_with fail
    refine (HC.out _ ((Ext.refl w).alloc _)).mono ?_
    rintro e w1 ⟨rfl, hx⟩
    have K1 := Lib.hid ((((Ext.refl w).alloc _).trans hx).below (Nat.le_refl _))
    have B1 := Lib.hid ((Blk.new w 29 #[.int .i64 (C : Int), .slice A n c]).ext hx)
    have S1 : w.heap.size + 1 ≤ w1.heap.size := by have := (hx.below (Nat.le_refl _)).size; simpa using this
    clear hx
    go_wp2_with fail
    go_loopw [7, 8] (fun s i wr => ∃ k : Nat, k ≤ C ∧ i = .int .i64 k ∧ s = .int .i64 (capSum (rnd ts j) k) ∧ Blk wr w.heap.size 29 #[.int .i64 (C : Int), .slice A n c] ∧ Below w.heap.size w wr ∧ w.heap.size + 1 ≤ wr.heap.size) (fun _ i _ => C - (intOf i).toNat)
    case atStart => exact ⟨0, Nat.zero_le _, rfl, rfl, B1.out, K1.out, S1⟩
    case round =>
      obtain ⟨k, hk, rfl, rfl, hb, hbw, hsz⟩ := hrel
      clear B1 K1 S1
      have hcs := capSum_cap (rnd_cap ts j) k
      have hcr := rnd_cap ts j k
      have hstep : capSum (rnd ts j) (k + 1) = min (capSum (rnd ts j) k + rnd ts j k) 1000000000000001 := rfl
      have er : rnd ts j k = wpow ts (unit k) j k := rfl
      have r0 := hb.rd 0 rfl
      have r1 := hb.rd 1 rfl
      have B' := Lib.hid hb
      have K := Lib.hid hbw
      have HST := Lib.hid hstep
      have ER := Lib.hid er
      clear hb hbw hstep er
      by_cases hlt : k < C
      · have hk3 : (k : Int) < (C : Int) := by omega
        have hmk := HMK.out
        obtain ⟨wo, rfl⟩ : ∃ wo : World, wo = wr := ⟨_, rfl⟩
        have hn9 : BArr (wo.alloc (Obj.cells cs0 2)) wo.heap.size C (fun _ => 0) := ⟨_, cs0, Blk.new _ _ _, HZ.out⟩
        have d9 := hn9.cell hlt
        have f9 := hn9.frozen k
        have hx5 : Ext wo (wo.alloc (Obj.cells (cs0.setIfInBounds k (.int .i64 1)) 2)) := (Ext.refl _).alloc _
        have N9 := Lib.hid (show BArr (wo.alloc (Obj.cells (cs0.setIfInBounds k (.int .i64 1)) 2)) wo.heap.size C (unit k) from ⟨_, _, Blk.new _ _ _, HZ.out.set 1⟩)
        have B5 := Lib.hid (B'.out.ext hx5)
        have K5 := Lib.hid (K.out.trans (hx5.below K.out.size))
        have S5 : wo.heap.size + 1 ≤ (wo.alloc (Obj.cells (cs0.setIfInBounds k (.int .i64 1)) 2)).heap.size := by simp
        have p0 := B5.out.rd 0 rfl
        have p1 := B5.out.rd 1 rfl
        clear hn9 hx5
        go_wp2_with fail
        clear hmk r0 r1 d9 f9 p0 p1
        refine (HY.out _ _ k _ K5.out (N9.out.iwr (Nat.zero_le _)).ir).mono ?_
        rintro e w6 ⟨Q, cq, rfl, hb6, hq6⟩
        have B6 := Lib.hid (B5.out.below hb6 B5.out.lt)
        have K6 := Lib.hid (K5.out.trans (hb6.mono K5.out.size))
        have S6 := hb6.size
        obtain ⟨bq, oq, rfl, -, hcq⟩ := hq6.ir (by rw [fl_len]; omega)
        have q1 := hcq k (by rw [fl_len]; exact hlt)
        rw [fl_at hlt, ← ER.out] at q1
        generalize rnd ts j k = y at q1 hcr HST
        clear hb6 hq6 hcq N9 B5 K5
        go_wp2_with fail
        all_goals
          go_roundw
          case rel =>
            refine ⟨k + 1, by omega, by go_num, ?_, B6.out, K6.out, by omega⟩
            rw [HST.out, Int.min_def]
            first | rfl | (congr 1; (repeat' split) <;> omega)
          case measure => simp [intOf]; omega
      · obtain rfl : k = C := by omega
        clear r1
        go_wp2_with fail
        refine (l02Told_any _ _).mono ?_
        rintro e w5 ⟨rfl, rfl⟩
        clear r0
        go_wp2_with fail
        go_ret2
        exact IntRes.mk rfl K.out
  · rw [if_neg hc, if_neg hc]
    generalize lenCode c0 ts i = code at HC hc
    clear hA
    have hne : (code != 0) = true := by simp [hc]
    go_enter Try.func44, Try.ntmps44
    go_wp2_with fail
    refine (HC.out _ ((Ext.refl w).alloc _)).mono ?_
    rintro e w1 ⟨rfl, hx⟩
    have HX := Lib.hid (((Ext.refl w).alloc _).trans hx)
    clear hx
    go_wp2_with fail
    go_ret2
    exact IntRes.mk rfl (HX.out.below (Nat.le_refl _))
end Go.Proofs.Ytdkodmmbgflijaa
