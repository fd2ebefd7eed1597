/- Sets of tiles in any order: the program's side. -/
import Derived.Test.YtfhdgilddnndcaaKyA
import Derived.Test.YtfhdgilddnndcaaSortF
import Derived.Test.YtfhdgilddnndcaaNum
import Derived.Test.YtfhdgilddnndcaaHc1
import Derived.Lib.Hide
namespace Go.Proofs.Ytfhdgilddnndcaa
set_option linter.unusedVariables false
set_option linter.unusedSimpArgs false
open Go.RowKit Go.Sort

/-- What is handed back of colours and tiles that are not too many. -/
def SetOfRes (c : Int) (ts : List Tl) (w : World) : Ending → World → Prop := if allOk c ts = true then (if (sortT ts).length ≤ 16 then SetRes w c (sortT ts) 0 else SetRes w 0 [] 3) else SetRes w 0 [] 2

set_option maxRecDepth 100000 in
set_option maxHeartbeats 4000000 in
theorem implSetOf_0 (c0 : Int) (A0 : Option Addr) (n0 q0 : Nat) (ts : List Tl) (w : World) (hn0 : n0 ≤ 100) (hl0 : ts.length = n0) (hA0 : TR w w.heap.size A0 ts) (hc1 : 1 ≤ c0) (hc6 : c0 ≤ 6) :
    Calls Try.prog 18 #[.int .i64 c0, .slice A0 n0 q0] w (SetOfRes c0 ts w) := by
  have hcol : ∀ W, Ext w W → Calls Try.prog 69 #[.slice A0 n0 q0, .int .i64 c0] W _ := fun W hW => haveColours_any A0 n0 q0 ts c0 W (by omega) hl0 ((hA0.ext hW (Nat.le_refl _)).more (hW.below (Nat.le_refl _)).size)
  have HC := Lib.hid hcol
  have HA := Lib.hid hA0
  clear hA0 hcol
  have hd : decide (1 ≤ c0 ∧ c0 ≤ 6) = true := decide_eq_true ⟨hc1, hc6⟩
  have h100 : ¬ (100 : Int) < (n0 : Int) := by omega
  cases hall : allOk c0 ts with
  | false =>
    have HALL := Lib.hid hall
    rw [hall] at HC
    clear hall
    go_enter Try.func18, Try.ntmps18
    go_wp2_with (go_at_call 68; refine (isColour_any _ _).mono ?_; rintro e w' ⟨rfl, rfl⟩)
    refine (HC.out _ ((Ext.refl w).alloc _)).mono ?_
    rintro e w1 ⟨rfl, hx1⟩
    have hbr := (Blk.new w 26 #[.int .i64 0, .slice none 0 0]).ext hx1
    have q0 := hbr.rd 0 rfl
    have q1 := hbr.rd 1 rfl
    have z0 := hbr.frozen 0
    have z1 := hbr.frozen 1
    have HX := Lib.hid (((Ext.refl w).alloc (Obj.cells #[.int .i64 0, .slice none 0 0] 26)).trans hx1)
    clear hx1 hbr
    go_wp2_with fail
    refine bodyPost_ret (v := .tuple #[.agg #[.int .i64 0, .slice none 0 0], .int .i64 2]) (by simp [results, Try.results18, go_sem, q0, q1, z0, z1]) rfl ?_
    unfold SetOfRes
    rw [if_neg (by rw [HALL.out]; exact Bool.false_ne_true)]
    refine ⟨none, 0, rfl, ?_, fun h => absurd h (Nat.lt_irrefl _)⟩
    exact ((HX.out.below (Nat.le_refl _)).setCell (by simp) _).setCell (by simp) _
  | true =>
    have HALL := Lib.hid hall
    rw [hall] at HC
    go_enter Try.func18, Try.ntmps18
    have hall2 := fun j (hj : j < n0) => allOk_get hall (k := j) (by omega)
    clear hall
    have HOK := HALL
    have hsm : ∀ j, j < n0 → smallT (ts.getD j T0) := fun j hj => small_ok (hall2 j hj) hc6
    have HSM := Lib.hid hsm
    clear hsm hall2
    go_wp2_with (go_at_call 68; refine (isColour_any _ _).mono ?_; rintro e w' ⟨rfl, rfl⟩)
    refine (HC.out _ ((Ext.refl w).alloc _)).mono ?_
    rintro e wr ⟨rfl, hx⟩
    have hxw := ((Ext.refl w).alloc (Obj.cells #[.int .i64 0, .slice none 0 0] 26)).trans hx
    have HXW := Lib.hid hxw
    have hsz := (hx.below (Nat.le_refl _)).size
    rw [World.size_alloc] at hsz
    have HBZ := Lib.hid ((Blk.new w 26 #[.int .i64 0, .slice none 0 0]).ext hx)
    clear hx
    have hsm := HSM.out
    have hkey : ∀ t ∈ ts, ∃ l, keyOf Try.prog 38 (tv t) = some l := fun t ht => by
      obtain ⟨j, hj, e⟩ := List.getElem_of_mem ht
      have := small_key (hsm j (by omega))
      rwa [show ts.getD j T0 = t by simp [List.getD, hj, e]] at this
    have HKEY := Lib.hid hkey
    have HDT := Lib.hid (differentTiles_any A0 n0 q0 ts wr (by omega) hl0 ((HA.out.ext hxw (Nat.le_refl _)).more (hxw.below (Nat.le_refl _)).size) hsm)
    clear hkey hsm hxw
    go_wp2_with fail
    refine HDT.out.mono ?_
    rintro e w1 ⟨b, rfl, hbge, hb1, D, ho, hhas, htrue, hkeys⟩
    have HO := Lib.hid ho
    obtain ⟨ks, hset, hks⟩ := setT_size ho
    have hsrt := hset.sorted HKEY.out (by rw [hl0]; exact hhas)
    have HSZ := Lib.hid (show (sortT ts).length = Go.Maps.size D by rw [← hsrt, sortT_nodup_len hset.1, hks])
    have HSS := Lib.hid (fun ss (h : SetT D ss) => h.sorted HKEY.out (by rw [hl0]; exact hhas))
    have hlen := fun ty => HO.out.len Try.underlying89 ty
    have HB1 := Lib.hid hb1
    have hbr := HBZ.out.below hb1 (by omega)
    have HBR := Lib.hid hbr
    have HBW := Lib.hid ((HXW.out.below (Nat.le_refl _)).trans (hb1.mono (by omega)))
    have hsz1 := hb1.size
    have hmax := HSZ.out
    have hmle := sortT_len ts
    rw [hmax] at hmle
    generalize hm : Go.Maps.size D = m at hlen hmax hmle
    have HM := Lib.hid hm
    have hml : ((m : Int)) ≤ 100 := by omega
    clear ho hhas htrue hkeys hset hks hsrt hb1 hbr hm hmax
    by_cases h16 : (16 : Int) < (m : Int)
    · have q0 := HBR.out.rd 0 rfl
      have q1 := HBR.out.rd 1 rfl
      have z0 := HBR.out.frozen 0
      have z1 := HBR.out.frozen 1
      go_wp2_with fail
      refine bodyPost_ret (v := .tuple #[.agg #[.int .i64 0, .slice none 0 0], .int .i64 3]) (by simp [results, Try.results18, go_sem, q0, q1, z0, z1]) rfl ?_
      unfold SetOfRes
      rw [if_pos HOK.out, if_neg (by rw [HSZ.out, HM.out]; omega)]
      refine ⟨none, 0, rfl, ?_, fun h => absurd h (Nat.lt_irrefl _)⟩
      exact (HBW.out.setCell (by simp) _).setCell (by simp) _
    · have HK := Lib.hid (keys_any (some b) w1)
      go_wp2_with fail
      refine HK.out.mono ?_
      rintro e w2 ⟨rfl, rfl⟩
      have hx2 := (Ext.refl w1).alloc (Obj.cells #[.map (some b)] 89)
      have hcell : (w1.alloc (Obj.cells #[.map (some b)] 89)).cell? ⟨w1.heap.size, 0, none⟩ = some (.map (some b)) := (Blk.new w1 89 #[.map (some b)]).rd 0 rfl
      have HCL := Lib.hid (collect_any w1.heap.size b n0 D (w1.alloc (Obj.cells #[.map (some b)] 89)) (by simp) hcell (ownsMap_ext HO.out hx2) (by rw [HM.out]; omega))
      clear hcell hx2 hlen
      go_wp2_with fail
      refine HCL.out.mono ?_
      rintro e w3 ⟨v, ss, rfl, hS, hrow, hb3⟩
      obtain ⟨A3, cap3, rfl, htw3⟩ := own_tw hrow rfl
      have hss := HSS.out ss hS
      have hsl : ss.length = m := by rw [← sortT_nodup_len hS.1, hss, HSZ.out, HM.out]
      have HSR := Lib.hid (sortedSet_any c0 ss.length cap3 A3 ss (w1.heap.size + 1) w3 rfl (by omega) (by have := hb3.size; simp at this; omega) (by simpa using hrow))
      rw [sortM_eq hS.1, hss] at HSR
      have HB3 := Lib.hid hb3
      have hsz3 := hb3.size
      rw [World.size_alloc] at hsz3
      have HSL := Lib.hid (show ss.length = (sortT ts).length by rw [hsl, HSZ.out, HM.out])
      clear hS hrow hb3 htw3 hss hsl
      go_wp2_with fail
      refine HSR.out.mono ?_
      rintro e w4 ⟨rfl, hown4, hb4⟩
      rw [HSL.out] at hown4
      obtain ⟨A5, cap5, hv5, htw5⟩ := own_tw hown4 rfl
      cases hv5
      have HT := Lib.hid htw5
      have hb2 := (((Below.refl w1.heap.size w1).alloc (Nat.le_refl _) (Obj.cells #[.map (some b)] 89)).trans (HB3.out.mono (by simp))).trans (hb4.mono (by omega))
      have hbr := HBR.out.below hb2 (by omega)
      have q0 := hbr.rd 0 rfl
      have q1 := hbr.rd 1 rfl
      have z0 := hbr.frozen 0
      have z1 := hbr.frozen 1
      have HBF := Lib.hid (HBW.out.trans (hb2.mono (by omega)))
      clear hbr hown4 hb4 htw5 hb2
      go_wp2_with fail
      refine bodyPost_ret (v := .tuple #[.agg #[.int .i64 c0, .slice A3 ss.length cap3], .int .i64 0]) (by simp [results, Try.results18, go_sem, q0, q1, z0, z1]) rfl ?_
      unfold SetOfRes
      rw [if_pos HOK.out, if_pos (by rw [HSZ.out, HM.out]; omega)]
      refine ⟨A3, cap3, by rw [HSL.out], ?_, ?_⟩
      · exact (HBF.out.setCell (by simp) _).setCell (by simp) _
      · exact ((HT.out.far (by show _ < _; simp; omega) _).far (by show _ < _; simp; omega) _).low (by omega)

set_option maxHeartbeats 1000000 in
theorem implSetOf_2a (c0 : Int) (A0 : Option Addr) (n0 q0 : Nat) (w : World) (hn0 : n0 ≤ 1048576) (hc : ¬ (1 ≤ c0 ∧ c0 ≤ 6)) :
    Calls Try.prog 18 #[.int .i64 c0, .slice A0 n0 q0] w (SetRes w 0 [] 2) := by
  have hd : decide (1 ≤ c0 ∧ c0 ≤ 6) = false := decide_eq_false hc
  unfold SetRes
  go_enter Try.func18, Try.ntmps18
  go_wp2_with (go_at_call 68; refine (isColour_any _ _).mono ?_; rintro e w' ⟨rfl, rfl⟩)
  refine bodyPost_ret (v := .tuple #[.agg #[.int .i64 0, .slice none 0 0], .int .i64 2]) (by simp [results, Try.results18, go_sem]) rfl ⟨none, 0, rfl, ?_, fun h => absurd h (Nat.lt_irrefl _)⟩
  exact ((Ext.refl w).alloc _).below (Nat.le_refl _)
set_option maxHeartbeats 1000000 in
theorem implSetOf_2b (c0 : Int) (A0 : Option Addr) (n0 q0 : Nat) (w : World) (hn0 : n0 ≤ 1048576) (hc1 : 1 ≤ c0) (hc6 : c0 ≤ 6) (hn : 100 < n0) :
    Calls Try.prog 18 #[.int .i64 c0, .slice A0 n0 q0] w (SetRes w 0 [] 2) := by
  have hd : decide (1 ≤ c0 ∧ c0 ≤ 6) = true := decide_eq_true ⟨hc1, hc6⟩
  have h100 : (100 : Int) < (n0 : Int) := by omega
  unfold SetRes
  go_enter Try.func18, Try.ntmps18
  go_wp2_with (go_at_call 68; refine (isColour_any _ _).mono ?_; rintro e w' ⟨rfl, rfl⟩)
  refine bodyPost_ret (v := .tuple #[.agg #[.int .i64 0, .slice none 0 0], .int .i64 2]) (by simp [results, Try.results18, go_sem]) rfl ⟨none, 0, rfl, ?_, fun h => absurd h (Nat.lt_irrefl _)⟩
  exact ((Ext.refl w).alloc _).below (Nat.le_refl _)
end Go.Proofs.Ytfhdgilddnndcaa
