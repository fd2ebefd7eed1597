/- PowerOf: the program's side. -/
import Derived.Test.YtcakbnfpmpdljaaPw3
import Derived.Lib.Hide
namespace Go.Proofs.Ytcakbnfpmpdljaa
set_option linter.unusedVariables false
set_option linter.unusedSimpArgs false
open Go.RowKit Go.Sort

set_option maxRecDepth 100000 in
set_option maxHeartbeats 4000000 in
theorem implPowerOf_0 (c0 : Int) (A0 : Option Addr) (n0 q0 : Nat) (ts : List Tl) (m : Nat) (w : World) (hn0 : n0 ≤ 1048576) (hl0 : ts.length = n0) (hA0 : TR w w.heap.size A0 ts) (hs0 : isSet c0 ts = true) (hm : m ≤ 3) :
    Calls Try.prog 29 #[.agg #[.int .i64 c0, .slice A0 n0 q0], .int .i64 ((m : Int) + 1)] w (PwRes c0 ts m w) := by
  have hle16 := isSet_len hs0
  rw [hl0] at hle16
  have hwl := fun W (hW : Below w.heap.size w W) => wlSet_any c0 A0 n0 q0 ts W hl0 ((hA0.below hW (Nat.le_refl _)).more hW.size) hs0
  have hst := fun (d : Int) A cap (vs : List Tl) W (hW : Below w.heap.size w W) (hA : TR W W.heap.size A vs) (hd : isSet d vs = true) => implStack_any d A vs.length cap vs c0 A0 n0 q0 ts W rfl hA hl0 ((hA0.below hW (Nat.le_refl _)).more hW.size) hd hs0
  have his0 : ∀ W, Below w.heap.size w W → Calls Try.prog 53 #[.agg #[.int .i64 c0, .slice A0 n0 q0]] W _ := fun W hW => isSet_any c0 A0 n0 q0 ts W (by omega) hl0 ((hA0.below hW (Nat.le_refl _)).more hW.size)
  rw [hs0] at his0
  have HI0 := Lib.hid his0
  clear his0
  unfold SetOnly at hwl
  have HWL := Lib.hid hwl
  have HST := Lib.hid hst
  have HS0 := Lib.hid hs0
  obtain ⟨s0, hs0l⟩ : ∃ n, n = (lastingT ts).length := ⟨_, rfl⟩
  rw [← hs0l] at HWL
  have HS0L := Lib.hid hs0l
  have hp1 : ¬ ((m : Int) + 1 < 1) := by omega
  have hp4 : ¬ (4 < (m : Int) + 1) := by omega
  clear hwl hst hs0l hA0 hs0
  go_enter Try.func29, Try.ntmps29
  go_wp2_with fail
  have hx0 : Ext w ((w.alloc (Obj.cells #[.int .i64 c0, .slice A0 n0 q0] 29)).alloc (Obj.cells #[.int .i64 0, .slice none 0 0] 29)) := ((Ext.refl w).alloc _).alloc _
  have hb0 : Blk ((w.alloc (Obj.cells #[.int .i64 c0, .slice A0 n0 q0] 29)).alloc (Obj.cells #[.int .i64 0, .slice none 0 0] 29)) (w.heap.size) 29 #[.int .i64 c0, .slice A0 n0 q0] := by have := ((Blk.new w 29 #[.int .i64 c0, .slice A0 n0 q0]).ext (show Ext (w.alloc (Obj.cells #[.int .i64 c0, .slice A0 n0 q0] 29)) ((w.alloc (Obj.cells #[.int .i64 c0, .slice A0 n0 q0] 29)).alloc (Obj.cells #[.int .i64 0, .slice none 0 0] 29)) from (Ext.refl _).alloc _)); simpa using this
  have hb1 : Blk ((w.alloc (Obj.cells #[.int .i64 c0, .slice A0 n0 q0] 29)).alloc (Obj.cells #[.int .i64 0, .slice none 0 0] 29)) (w.heap.size + 1) 29 #[.int .i64 0, .slice none 0 0] := by have := (Blk.new (w.alloc (Obj.cells #[.int .i64 c0, .slice A0 n0 q0] 29)) 29 #[.int .i64 0, .slice none 0 0]); simpa using this
  have K0 := Lib.hid (hx0.below (Nat.le_refl _))
  have L0 := Lib.hid (show w.heap.size + 2 ≤ ((w.alloc (Obj.cells #[.int .i64 c0, .slice A0 n0 q0] 29)).alloc (Obj.cells #[.int .i64 0, .slice none 0 0] 29)).heap.size by simp)
  have B0_0 := Lib.hid hb0
  have B1_0 := Lib.hid hb1
  clear hx0 hb0 hb1
  generalize ((w.alloc (Obj.cells #[.int .i64 c0, .slice A0 n0 q0] 29)).alloc (Obj.cells #[.int .i64 0, .slice none 0 0] 29)) = w0 at *
  refine (HI0.out _ K0.out).mono ?_
  rintro e w1 ⟨rfl, hx⟩
  have K1 := Lib.hid (K0.out.trans ((hx.below (Nat.le_refl _)).mono K0.out.size))
  have L1 := Lib.hid (Nat.le_trans L0.out (hx.below (Nat.le_refl _)).size)
  have B0_1 := Lib.hid (B0_0.out.below (hx.below (Nat.le_refl _)) B0_0.out.lt)
  have B1_1 := Lib.hid (B1_0.out.below (hx.below (Nat.le_refl _)) B1_0.out.lt)
  clear K0 B0_0 B1_0 L0 hx
  have r0_0 := B0_1.out.rd 0 rfl
  have r0_1 := B0_1.out.rd 1 rfl
  have r1_0 := B1_1.out.rd 0 rfl
  have r1_1 := B1_1.out.rd 1 rfl
  have z1_0 := B1_1.out.frozen 0
  have z1_1 := B1_1.out.frozen 1
  go_wp2_with fail
  refine (HWL.out _ K1.out).mono ?_
  rintro e w5 ⟨A5, cap5, rfl, hb5, htw5⟩
  have hk5 := K1.out.trans (hb5.mono K1.out.size)
  have HK5 := Lib.hid hk5
  have hL5 : w.heap.size + 2 ≤ w5.heap.size := Nat.le_trans L1.out hb5.size
  have HB0 := Lib.hid (B0_1.out.below hb5 B0_1.out.lt)
  have HB1 := Lib.hid (B1_1.out.below hb5 B1_1.out.lt)
  have hx6 := (Ext.refl w5).alloc (Obj.cells #[.int .i64 c0, .slice A5 s0 cap5] 29)
  have N0 := Lib.hid (Blk.new w5 29 #[.int .i64 c0, .slice A5 s0 cap5])
  have N1 := Lib.hid (htw5.r.ext hx6)
  have N2 := Lib.hid (hx6.below (Nat.le_refl _))
  have hLW := L1.out
  have hsz5 := hb5.size
  clear hb5 htw5 hx6 hk5 r0_0 r0_1 r1_0 r1_1 z1_0 z1_1
  go_wp2_with fail
  go_loopw [24] (fun ii wr => ∃ (j : Nat) (d : Int) (vs : List Tl) (A : Option Addr) (cap lo hi : Nat), ii = .int .i64 (j : Int) ∧ j ≤ m ∧ pw c0 ts j = some (d, vs) ∧ isSet d vs = true ∧ Blk wr w5.heap.size 29 #[.int .i64 d, .slice A vs.length cap] ∧ TWr wr lo hi A vs ∧ w.heap.size + 2 ≤ lo ∧ Below w5.heap.size w5 wr) (fun ii _ => m + 1 - (intOf ii).toNat)
  case atStart => exact ⟨0, c0, lastingT ts, A5, cap5, _, _, rfl, Nat.zero_le _, rfl, isSet_lasting HS0.out, by rw [← HS0L.out]; exact N0.out, N1.out, hLW, N2.out⟩
  case round =>
    clear N0 N1 N2
    obtain ⟨j, d, vs, A, cap, lo, hi, rfl, hj, hpw, hset, hbk, htw, hlo, hb⟩ := hrel
    have HPW := Lib.hid hpw
    have HSET := Lib.hid hset
    have HBK := Lib.hid hbk
    have HTW := Lib.hid htw
    have HBW := Lib.hid hb
    have hszw := hb.size
    have hglt := hbk.lt
    have hbw := HK5.out.trans (hb.mono (by omega))
    have HBWW := Lib.hid hbw
    have p0 := hbk.rd 0 rfl
    have p1 := hbk.rd 1 rfl
    obtain ⟨sl, hsl⟩ : ∃ n, n = vs.length := ⟨_, rfl⟩
    have hstk := HST.out d A cap vs wr hbw htw.tr hset
    rw [← hsl] at p1 hstk
    have HSL := Lib.hid hsl
    clear hpw hset hbk htw hb hbw hsl
    by_cases hlt : j < m
    · have t0 := (HB0.out.below HBW.out (by omega)).rd 0 rfl
      have t1 := (HB0.out.below HBW.out (by omega)).rd 1 rfl
      have c9 : (j : Int) < (m : Int) := by omega
      have c8 : (j : Int) + 1 < (m : Int) + 1 := by omega
      by_cases hlim : stkC d c0 vs ts ≤ 6 ∧ (stkT vs ts).length ≤ 16
      · rw [madeRes_yes hlim] at hstk
        have HNX := Lib.hid (pw_yes HPW.out hlim)
        have HNS := Lib.hid (isSet_stack HSET.out HS0.out hlim.1 hlim.2)
        unfold SetRes at hstk
        generalize stkC d c0 vs ts = M at *
        generalize stkT vs ts = us at *
        obtain ⟨ul, hul⟩ : ∃ n, n = us.length := ⟨_, rfl⟩
        rw [← hul] at hstk
        have HUL := Lib.hid hul
        have HSTK := Lib.hid hstk
        clear hstk hlim hul
        go_wp2_with fail
        refine HSTK.out.mono ?_
        rintro e w7 ⟨A7, cap7, rfl, hb7, htw7⟩
        have hx8 := (Ext.refl w7).alloc (Obj.cells #[.int .i64 M, .slice A7 ul cap7] 29)
        have hbx8 := hb7.trans (hx8.below (Nat.le_trans (Nat.le_refl _) hb7.size))
        have hwl8 := wlSet_any M A7 ul cap7 us (w7.alloc (Obj.cells #[.int .i64 M, .slice A7 ul cap7] 29)) HUL.out.symm (htw7.ext hx8).tr HNS.out
        unfold SetOnly at hwl8
        have HW8 := Lib.hid hwl8
        have HBX8 := Lib.hid hbx8
        have hq := Blk.new w7 29 #[.int .i64 M, .slice A7 ul cap7]
        have u0 := hq.rd 0 rfl
        have u1 := hq.rd 1 rfl
        have hs7 := hb7.size
        have HNL := Lib.hid (isSet_lasting HNS.out)
        clear hb7 htw7 hx8 hbx8 hwl8 hq p0 p1 t0 t1
        go_wp2_with fail
        refine HW8.out.mono ?_
        rintro e w9 ⟨A9, cap9, rfl, hb9, htw9⟩
        have hbb := HBX8.out.trans (hb9.mono (by simp; omega))
        have hbk9 := HBK.out.below hbb hglt
        have q0 := hbk9.rd 0 rfl
        have q1 := hbk9.rd 1 rfl
        have z0 := hbk9.frozen 0
        have z1 := hbk9.frozen 1
        have N0 := Lib.hid (show Blk ((w9.setCell ⟨w5.heap.size, 0, none⟩ (.int .i64 M)).setCell ⟨w5.heap.size, 1, none⟩ (.slice A9 (lastingT us).length cap9)) w5.heap.size 29 #[.int .i64 M, .slice A9 (lastingT us).length cap9] from (hbk9.set_ 0 _).set_ 1 _)
        have hg9 : w5.heap.size < (w7.alloc (Obj.cells #[.int .i64 M, .slice A7 ul cap7] 29)).heap.size := by simp; omega
        have N1 := Lib.hid ((htw9.far (p := ⟨w5.heap.size, 0, none⟩) hg9 (.int .i64 M)).far (p := ⟨w5.heap.size, 1, none⟩) hg9 (.slice A9 (lastingT us).length cap9)).r
        have N2 := Lib.hid (((HBW.out.trans (hbb.mono hszw)).setCell (p := ⟨w5.heap.size, 0, none⟩) (Nat.le_refl _) (.int .i64 M)).setCell (p := ⟨w5.heap.size, 1, none⟩) (Nat.le_refl _) (.slice A9 (lastingT us).length cap9))
        have hlo9 : w.heap.size + 2 ≤ (w7.alloc (Obj.cells #[.int .i64 M, .slice A7 ul cap7] 29)).heap.size := by simp; omega
        have HLO9 := Lib.hid hlo9
        clear hb9 htw9 hbb hbk9 u0 u1 hg9 hlo9
        go_wp2_with fail
        go_roundw
        case rel => first | exact ⟨j + 1, M, lastingT us, A9, cap9, _, _, by go_num, by omega, HNX.out, HNL.out, N0.out, N1.out, HLO9.out, N2.out⟩ | ((repeat apply Exists.intro); exact ⟨⟨j + 1, M, lastingT us, A9, cap9, _, _, by go_num, by omega, HNX.out, HNL.out, N0.out, N1.out, HLO9.out, N2.out⟩, rfl⟩)
        case measure => simp [intOf]; omega
      · rw [madeRes_no hlim] at hstk
        have HNX := Lib.hid (pw_none (pw_no HPW.out hlim) m (by omega))
        unfold SetRes at hstk
        have HSTK := Lib.hid hstk
        clear hstk hlim
        go_wp2_with fail
        refine HSTK.out.mono ?_
        rintro e w7 ⟨A7, cap7, rfl, hb7, -⟩
        have hx8 := (Ext.refl w7).alloc (Obj.cells #[.int .i64 0, .slice A7 0 cap7] 29)
        have hbx8 := hb7.trans (hx8.below hb7.size)
        have hbr := (HB1.out.below HBW.out (by omega)).below hbx8 (by omega)
        have q0 := hbr.rd 0 rfl
        have q1 := hbr.rd 1 rfl
        have z0 := hbr.frozen 0
        have z1 := hbr.frozen 1
        have HBF := Lib.hid (HBWW.out.trans (hbx8.mono HBWW.out.size))
        clear hb7 hx8 hbx8 hbr p0 p1 t0 t1
        go_wp2_with fail
        refine bodyPost_ret (v := .tuple #[.agg #[.int .i64 0, .slice none 0 0], .int .i64 3]) (by simp [results, Try.results29, go_sem, q0, q1, z0, z1]) rfl ?_
        rw [pwRes_none HNX.out]
        exact ⟨none, 0, rfl, (HBF.out.setCell (show w.heap.size ≤ w.heap.size + 1 by omega) _).setCell (show w.heap.size ≤ w.heap.size + 1 by omega) _, fun h => absurd h (Nat.lt_irrefl _)⟩
    · obtain rfl : j = m := by omega
      have hbr := HB1.out.below HBW.out (by omega)
      have q0 := hbr.rd 0 rfl
      have q1 := hbr.rd 1 rfl
      have z0 := hbr.frozen 0
      have z1 := hbr.frozen 1
      have hng := HTW.out
      clear hbr hstk hng
      go_wp2_with fail
      refine bodyPost_ret (v := .tuple #[.agg #[.int .i64 d, .slice A sl cap], .int .i64 0]) (by simp [results, Try.results29, go_sem, q0, q1, z0, z1]) rfl ?_
      rw [pwRes_some HPW.out]
      exact ⟨A, cap, by rw [HSL.out], (HBWW.out.setCell (show w.heap.size ≤ w.heap.size + 1 by omega) _).setCell (show w.heap.size ≤ w.heap.size + 1 by omega) _, (((HTW.out.far (.inl (show w.heap.size + 1 < lo by omega)) _).far (.inl (show w.heap.size + 1 < lo by omega)) _).tw9).low (by omega)⟩

end Go.Proofs.Ytcakbnfpmpdljaa
