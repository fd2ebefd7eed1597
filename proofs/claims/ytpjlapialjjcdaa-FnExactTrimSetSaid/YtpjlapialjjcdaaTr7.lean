/- Trimmed sets: the program's machine, walked. -/
import Derived.Test.YtpjlapialjjcdaaTr4
import Derived.Test.YtpjlapialjjcdaaJn4
import Derived.Test.YtpjlapialjjcdaaNum
import Derived.Deep.DeepCutAuto
import Derived.Lib.Hide
import Derived.Test.YtpjlapialjjcdaaKept1
import Derived.Test.YtpjlapialjjcdaaNumM
import Derived.Test.YtpjlapialjjcdaaAppT
import Derived.Test.YtpjlapialjjcdaaMChanged
namespace Go.Proofs.Ytpjlapialjjcdaa
section
set_option linter.unusedVariables false
set_option linter.unusedSimpArgs false
open Go.RowKit Go.Sort

theorem close_cl_set {B g n lo : Nat} {W w4 wy : World} {t : TypeId} {v u0 u1 x : Value} {xs : List Value} (hK : Below B W w4) (hown : w4.ownsRow lo 51 4 v n xs) (hlo : B ≤ lo) (hg : Blk w4 g t #[u0, u1]) (hglo : g < lo) (hBg : B ≤ g) (hB : B ≤ W.heap.size)
    (hx : Ext ((w4.setCell ⟨g, 0, none⟩ x).setCell ⟨g, 1, none⟩ v) wy) : B ≤ g ∧ Blk wy g t #[x, v] ∧ wy.ownsRow B 51 4 v n xs ∧ v.ownBlock ≠ some g ∧ Below B W wy := by
  have hne : v.ownBlock ≠ some g := fun e => by have := (hown.lt g e).1; omega
  have h2 := (hK.setCell (p := ⟨g, 0, none⟩) hBg x).setCell (p := ⟨g, 1, none⟩) hBg v
  refine ⟨hBg, (show Blk ((w4.setCell ⟨g, 0, none⟩ x).setCell ⟨g, 1, none⟩ v) g t #[x, v] from (hg.set_ 0 x).set_ 1 v).ext hx, ownsRow_base (own_ext (own_far (own_far hown (fun e => hne e.symm) _) (fun e => hne e.symm) _) hx) hlo, hne, h2.trans (hx.below (Nat.le_trans hB h2.size))⟩
theorem close_cl_new {B n lo : Nat} {W w4 wy wz : World} (t : TypeId) {v x : Value} {xs : List Value} (hK : Below B W w4) (hown : w4.ownsRow lo 51 4 v n xs) (hlo : B ≤ lo) (hB : B ≤ W.heap.size) (h3 : Ext w4 wy)
    (hx : Ext (wy.alloc (Obj.cells #[x, v] t)) wz) : B ≤ wy.heap.size ∧ Blk wz wy.heap.size t #[x, v] ∧ wz.ownsRow B 51 4 v n xs ∧ v.ownBlock ≠ some wy.heap.size ∧ Below B W wz := by
  have h4 := (h3.alloc (Obj.cells #[x, v] t)).trans hx
  refine ⟨Nat.le_trans (Nat.le_trans hB hK.size) (h3.below (Nat.le_refl _)).size, (Blk.new wy t #[x, v]).ext hx, ownsRow_base (own_ext hown h4) hlo, fun e => ?_, hK.trans (h4.below (Nat.le_trans hB hK.size))⟩
  have h5 := (own_ext hown h3).lt _ e
  omega
theorem far_lo {wF : World} {B q g : Nat} {t : TypeId} {cs : Array Value} (h : Blk wF q t cs) (hq : q < B) (hg : B ≤ g) {a b : Value} : Blk ((wF.setCell ⟨g, 0, none⟩ a).setCell ⟨g, 1, none⟩ b) q t cs := (h.far (show q ≠ g by omega) a).far (show q ≠ g by omega) b
/-- Between two jumps: what is left of the tiles lies in the box g and in a row of the call's own. -/
def TrimSt (w : World) (c0 : Int) (ts us : List Tl) (g : Nat) (A : Option Addr) (cap : Nat) (W : World) : Prop :=
  Blk W g 31 #[.int .i64 c0, .slice A us.length cap] ∧ W.ownsRow (w.heap.size + 2) 51 4 (.slice A us.length cap) us.length (flat us) ∧ (Value.slice A us.length cap).ownBlock ≠ some g ∧ w.heap.size + 2 ≤ g ∧
    Blk W (w.heap.size + 1) 31 #[.int .i64 0, .slice none 0 0] ∧ Below w.heap.size w W ∧ holdsAll ts us ∧ w.heap.size + 2 ≤ W.heap.size
/-- At the label l, with m left to do. -/
def TrimJ (w : World) (c0 : Int) (A0 : Option Addr) (n0 q0 : Nat) (ts : List Tl) (l m : Nat) (a : Act) (W : World) : Prop :=
  ∃ (us : List Tl) (g : Nat) (A : Option Addr) (cap k : Nat) (kk : Int) (u5 u6 u7 u8 u9 u10 u11 u12 u13 u14 u15 u16 u17 u18 u19 u20 u21 u22 u23 u24 u25 u26 u27 : Value), TrimSt w c0 ts us g A cap W ∧
    a = { tmps := #[.agg #[.int .i64 c0, .slice A0 n0 q0], .pointer (some ⟨w.heap.size, 0, none⟩), .pointer (some ⟨w.heap.size + 1, 0, none⟩), .pointer (some ⟨g, 0, none⟩), .int .i64 kk, u5, u6, u7, u8, u9, u10, u11, u12, u13, u14, u15, u16, u17, u18, u19, u20, u21, u22, u23, u24, u25, u26, u27], defers := [] } ∧ kk = (k : Int) ∧
    ((l = 0 ∧ m = us.length * 100 + us.length + 1) ∨ (l = 1 ∧ k ≤ us.length ∧ (∀ j, j < k → good4 us (us.getD j T0) = true) ∧ m = us.length * 100 + (us.length - k)))

set_option maxRecDepth 100000 in
set_option maxHeartbeats 8000000 in
theorem trimmed_any (c0 : Int) (A0 : Option Addr) (n0 q0 : Nat) (ts : List Tl) (w : World) (hl0 : ts.length = n0) (hA0 : TR w w.heap.size A0 ts) (h16 : ts.length ≤ 16) (hasc : Asc ts) :
    Calls Try.prog 78 #[.agg #[.int .i64 c0, .slice A0 n0 q0]] w fun e w' => ∃ A cap, e = .returned (.agg #[.int .i64 c0, .slice A (trimT ts).length cap]) ∧ Below w.heap.size w w' ∧ TW w' w.heap.size A (trimT ts) := by
  have hcl : ∀ W, Below w.heap.size w W → Calls Try.prog 72 #[.slice A0 n0 q0] W _ := fun W hW => clone_any A0 n0 q0 ts W (by omega) hl0 ((hA0.below hW (Nat.le_refl _)).more hW.size)
  have HCL := Lib.hid hcl
  clear hcl hA0
  go_enter Try.func78, Try.ntmps78
  go_wp2_with fail
  refine wp_scope_many (TrimJ w c0 A0 n0 q0 ts) ?pass ?first
  case pass =>
    rintro l m a W ⟨us, g, A, cap, k, kk, u5, u6, u7, u8, u9, u10, u11, u12, u13, u14, u15, u16, u17, u18, u19, u20, u21, u22, u23, u24, u25, u26, u27, hst, rfl, rfl, hcase⟩
    have HST := Lib.hid hst
    clear hst
    rcases hcase with ⟨rfl, rfl⟩ | ⟨rfl, hk, hall, rfl⟩
    · refine ⟨_, rfl, ?_⟩
      go_wp2_with fail
      go_step3
      have HALL := Lib.hid (fun (j : Nat) (hj : j < 0) => (absurd hj (Nat.not_lt_zero _) : good4 us (us.getD j T0) = true))
      have hkle := Nat.zero_le us.length
      have hst := HST.out
      have r0 := hst.1.rd 0 rfl
      have r1 := hst.1.rd 1 rfl
      have hus16 : us.length ≤ 16 := Nat.le_trans hst.2.2.2.2.2.2.1.1.length_le h16
      have htn := fun V => isTileNumber_any c0 A us.length cap ((0 : Nat) : Int) V (by omega)
      by_cases hlt : 0 < us.length
      · rw [decide_eq_true (show 0 ≤ (((0 : Nat)) : Int) ∧ (((0 : Nat)) : Int) < (us.length : Int) by omega)] at htn
        have HTN := Lib.hid htn
        clear htn hst
        (try simp only [Int.natCast_zero, Int.ofNat_zero, Nat.cast_zero, Int.cast_ofNat_Int] at HTN)
        go_wp2_with fail
        refine (HTN.out _).mono ?_
        rintro e V1 ⟨rfl, hx1⟩
        clear r0 r1
        have hst := HST.out
        have r0 := (hst.1.ext hx1).rd 0 rfl
        have r1 := (hst.1.ext hx1).rd 1 rfl
        obtain ⟨A', cap', hv', htw⟩ := own_tw (own_ext hst.2.1 hx1) rfl
        cases hv'
        have HNB := Lib.hid (hasNeighbours_any c0 A us.length cap us 0 V1 (by omega) rfl htw.tr hlt)
        have HX1 := Lib.hid hx1
        clear hst hx1 htw
        go_wp2_with fail
        refine HNB.out.mono ?_
        rintro e V2 ⟨rfl, hb2⟩
        clear r0 r1
        have hst := HST.out
        have hb12 := (HX1.out.below (Nat.le_refl _)).trans (hb2.mono (HX1.out.below (Nat.le_refl _)).size)
        have HB12 := Lib.hid hb12
        have hbk := hst.1.below hb12 hst.1.lt
        have s0 := hbk.rd 0 rfl
        have s1 := hbk.rd 1 rfl
        have f1 := hbk.frozen 1
        have hsz12 := hb12.size
        clear hst hb2 hb12 hbk
        cases hgd : good4 us (us.getD 0 T0) with
        | true =>
          go_wp2_with fail
          go_step3
          have hst := HST.out
          have hb12 := HB12.out
          refine ⟨_, ?_, us, g, A, cap, 1, _, _, _, _, _, _, _, _, _, _, _, _, _, _, _, _, _, _, _, _, _, _, _, _, ?_, rfl, ?_, .inr ⟨rfl, ?_, ?_, rfl⟩⟩
          · (show _ < _; omega)
          · exact ⟨hst.1.below hb12 hst.1.lt, own_below hst.2.1 hb12, hst.2.2.1, hst.2.2.2.1, hst.2.2.2.2.1.below hb12 hst.2.2.2.2.1.lt, hst.2.2.2.2.2.1.trans (hb12.mono hst.2.2.2.2.2.1.size), hst.2.2.2.2.2.2.1, Nat.le_trans hst.2.2.2.2.2.2.2 hb12.size⟩
          · first | rfl | omega | simp
          · omega
          · intro j hj
            by_cases e9 : j < 0
            · exact HALL.out j e9
            · obtain rfl : j = 0 := by omega
              exact hgd
        | false =>
          have HDL := Lib.hid (delete_any (w.heap.size + 2) us.length cap 0 (0 + 1) A us V2 rfl (by omega) hlt rfl (own_below HST.out.2.1 HB12.out))
          have hj1 : (((0 + 1 : Nat)) : Int) = ((0 : Nat) : Int) + 1 := by omega
          rw [hj1] at HDL
          (try simp only [Int.natCast_zero, Int.zero_add, Nat.zero_add] at HDL)
          have hw3 : IntKind.i64.wrap (((0 : Nat) : Int) + 1) = ((0 : Nat) : Int) + 1 := IntWalk.i64_in _ (by omega)
          go_wp2_with fail
          refine HDL.out.mono ?_
          rintro e V3 ⟨rfl, hown3, hb3, hsz3, hfar3⟩
          have hst := HST.out
          have hb12 := HB12.out
          have hbk3 : Blk V3 g 31 #[.int .i64 c0, .slice A us.length cap] := (hfar3 g hst.2.2.1).trans (hst.1.below hb12 hst.1.lt)
          have hz3 : Blk V3 (w.heap.size + 1) 31 #[.int .i64 0, .slice none 0 0] := (hb3.block _ (by omega)).trans (hst.2.2.2.2.1.below hb12 hst.2.2.2.2.1.lt)
          clear s0 s1 f1
          have s1 := hbk3.rd 1 rfl
          have f1 := hbk3.frozen 1
          have HB3 := Lib.hid (And.intro hbk3 (And.intro hz3 (And.intro hown3 (And.intro hb3 hsz3))))
          clear hst hb12 hbk3 hz3 hown3 hb3 hfar3
          go_wp2_with fail
          go_step3
          obtain ⟨hbk3, hz3, hown3, hb3, hsz3⟩ := HB3.out
          have hst := HST.out
          have hel : (us.eraseIdx 0).length = us.length - 1 := List.length_eraseIdx_of_lt hlt
          have hne3 : (Value.slice A (us.length - 1) cap).ownBlock ≠ some g := fun e => hst.2.2.1 (by rw [← e]; cases A <;> rfl)
          refine ⟨_, ?_, us.eraseIdx 0, g, A, cap, 0, _, _, _, _, _, _, _, _, _, _, _, _, _, _, _, _, _, _, _, _, _, _, _, _, ?_, rfl, ?_, .inl ⟨rfl, rfl⟩⟩
          · (rw [List.length_eraseIdx_of_lt hlt]; omega)
          · unfold TrimSt
            rw [hel]
            refine ⟨hbk3.set_ 1 _, own_far hown3 (fun e => hne3 e.symm) _, hne3, hst.2.2.2.1, hz3.far (by show w.heap.size + 1 ≠ g; have := hst.2.2.2.1; omega) _, ?_, hst.2.2.2.2.2.2.1.erase hlt hgd, ?_⟩
            · exact ((hst.2.2.2.2.2.1.trans (HB12.out.mono hst.2.2.2.2.2.1.size)).trans (hb3.mono (by omega))).setCell (p := ⟨g, 1, none⟩) (by show w.heap.size ≤ g; have := hst.2.2.2.1; omega) _
            · have h1 := hst.2.2.2.2.2.2.2; have h2 := HB12.out.size; simp; omega
          · first | rfl | omega | simp
      · obtain hke : 0 = us.length := by omega
        rw [decide_eq_false (show ¬ (0 ≤ (((0 : Nat)) : Int) ∧ (((0 : Nat)) : Int) < (us.length : Int)) by omega)] at htn
        have HTN := Lib.hid htn
        clear htn hst
        (try simp only [Int.natCast_zero, Int.ofNat_zero, Nat.cast_zero, Int.cast_ofNat_Int] at HTN)
        have HKE := Lib.hid hke
        clear hke
        go_wp2_with fail
        refine (HTN.out _).mono ?_
        rintro e V1 ⟨rfl, hx1⟩
        clear r0 r1
        have hst := HST.out
        have r0 := (hst.1.ext hx1).rd 0 rfl
        have r1 := (hst.1.ext hx1).rd 1 rfl
        have hz := hst.2.2.2.2.1.ext hx1
        have q0 := hz.rd 0 rfl
        have q1 := hz.rd 1 rfl
        have z0 := hz.frozen 0
        have z1 := hz.frozen 1
        have HX1 := Lib.hid hx1
        clear hst hx1 hz
        go_wp2_with fail
        have hst := HST.out
        have hend : us = trimT ts := end_is hasc hst.2.2.2.2.2.2.1 (fun x hx => by
          obtain ⟨j, hj, e9⟩ := List.getElem_of_mem hx
          have := HALL.out j (by have := HKE.out; omega)
          rwa [show us.getD j T0 = x by simp [List.getD, hj, e9]] at this)
        obtain ⟨A', cap', hv', htw⟩ := own_tw (own_ext hst.2.1 HX1.out) rfl
        cases hv'
        (try simp only [jumpM])
        refine bodyPost_ret (v := .agg #[.int .i64 c0, .slice A us.length cap]) (by simp [results, Try.results78, go_sem, q0, q1, z0, z1]) rfl ⟨A, cap, by rw [← hend], ?_, ?_⟩
        · exact ((hst.2.2.2.2.2.1.trans ((HX1.out.below (Nat.le_refl _)).mono hst.2.2.2.2.2.1.size)).setCell (by simp) _).setCell (by simp) _
        · rw [← hend]
          exact ((htw.far (by show _ < _; simp) _).far (by show _ < _; simp) _).low (by omega)
    · refine ⟨_, rfl, ?_⟩
      have HALL := Lib.hid hall
      have hkle := hk
      have hst := HST.out
      have r0 := hst.1.rd 0 rfl
      have r1 := hst.1.rd 1 rfl
      have hus16 : us.length ≤ 16 := Nat.le_trans hst.2.2.2.2.2.2.1.1.length_le h16
      have htn := fun V => isTileNumber_any c0 A us.length cap ((k : Nat) : Int) V (by omega)
      by_cases hlt : k < us.length
      · rw [decide_eq_true (show 0 ≤ (((k : Nat)) : Int) ∧ (((k : Nat)) : Int) < (us.length : Int) by omega)] at htn
        have HTN := Lib.hid htn
        clear htn hst
        go_wp2_with fail
        refine (HTN.out _).mono ?_
        rintro e V1 ⟨rfl, hx1⟩
        clear r0 r1
        have hst := HST.out
        have r0 := (hst.1.ext hx1).rd 0 rfl
        have r1 := (hst.1.ext hx1).rd 1 rfl
        obtain ⟨A', cap', hv', htw⟩ := own_tw (own_ext hst.2.1 hx1) rfl
        cases hv'
        have HNB := Lib.hid (hasNeighbours_any c0 A us.length cap us k V1 (by omega) rfl htw.tr hlt)
        have HX1 := Lib.hid hx1
        clear hst hx1 htw
        go_wp2_with fail
        refine HNB.out.mono ?_
        rintro e V2 ⟨rfl, hb2⟩
        clear r0 r1
        have hst := HST.out
        have hb12 := (HX1.out.below (Nat.le_refl _)).trans (hb2.mono (HX1.out.below (Nat.le_refl _)).size)
        have HB12 := Lib.hid hb12
        have hbk := hst.1.below hb12 hst.1.lt
        have s0 := hbk.rd 0 rfl
        have s1 := hbk.rd 1 rfl
        have f1 := hbk.frozen 1
        have hsz12 := hb12.size
        clear hst hb2 hb12 hbk
        cases hgd : good4 us (us.getD k T0) with
        | true =>
          go_wp2_with fail
          go_step3
          have hst := HST.out
          have hb12 := HB12.out
          refine ⟨_, ?_, us, g, A, cap, k + 1, _, _, _, _, _, _, _, _, _, _, _, _, _, _, _, _, _, _, _, _, _, _, _, _, ?_, rfl, ?_, .inr ⟨rfl, ?_, ?_, rfl⟩⟩
          · (show _ < _; omega)
          · exact ⟨hst.1.below hb12 hst.1.lt, own_below hst.2.1 hb12, hst.2.2.1, hst.2.2.2.1, hst.2.2.2.2.1.below hb12 hst.2.2.2.2.1.lt, hst.2.2.2.2.2.1.trans (hb12.mono hst.2.2.2.2.2.1.size), hst.2.2.2.2.2.2.1, Nat.le_trans hst.2.2.2.2.2.2.2 hb12.size⟩
          · first | rfl | omega | simp
          · omega
          · intro j hj
            by_cases e9 : j < k
            · exact HALL.out j e9
            · obtain rfl : j = k := by omega
              exact hgd
        | false =>
          have HDL := Lib.hid (delete_any (w.heap.size + 2) us.length cap k (k + 1) A us V2 rfl (by omega) hlt rfl (own_below HST.out.2.1 HB12.out))
          have hj1 : (((k + 1 : Nat)) : Int) = ((k : Nat) : Int) + 1 := by omega
          rw [hj1] at HDL
          have hw3 : IntKind.i64.wrap (((k : Nat) : Int) + 1) = ((k : Nat) : Int) + 1 := IntWalk.i64_in _ (by omega)
          go_wp2_with fail
          refine HDL.out.mono ?_
          rintro e V3 ⟨rfl, hown3, hb3, hsz3, hfar3⟩
          have hst := HST.out
          have hb12 := HB12.out
          have hbk3 : Blk V3 g 31 #[.int .i64 c0, .slice A us.length cap] := (hfar3 g hst.2.2.1).trans (hst.1.below hb12 hst.1.lt)
          have hz3 : Blk V3 (w.heap.size + 1) 31 #[.int .i64 0, .slice none 0 0] := (hb3.block _ (by omega)).trans (hst.2.2.2.2.1.below hb12 hst.2.2.2.2.1.lt)
          clear s0 s1 f1
          have s1 := hbk3.rd 1 rfl
          have f1 := hbk3.frozen 1
          have HB3 := Lib.hid (And.intro hbk3 (And.intro hz3 (And.intro hown3 (And.intro hb3 hsz3))))
          clear hst hb12 hbk3 hz3 hown3 hb3 hfar3
          go_wp2_with fail
          go_step3
          obtain ⟨hbk3, hz3, hown3, hb3, hsz3⟩ := HB3.out
          have hst := HST.out
          have hel : (us.eraseIdx k).length = us.length - 1 := List.length_eraseIdx_of_lt hlt
          have hne3 : (Value.slice A (us.length - 1) cap).ownBlock ≠ some g := fun e => hst.2.2.1 (by rw [← e]; cases A <;> rfl)
          refine ⟨_, ?_, us.eraseIdx k, g, A, cap, k, _, _, _, _, _, _, _, _, _, _, _, _, _, _, _, _, _, _, _, _, _, _, _, _, ?_, rfl, ?_, .inl ⟨rfl, rfl⟩⟩
          · (rw [List.length_eraseIdx_of_lt hlt]; omega)
          · unfold TrimSt
            rw [hel]
            refine ⟨hbk3.set_ 1 _, own_far hown3 (fun e => hne3 e.symm) _, hne3, hst.2.2.2.1, hz3.far (by show w.heap.size + 1 ≠ g; have := hst.2.2.2.1; omega) _, ?_, hst.2.2.2.2.2.2.1.erase hlt hgd, ?_⟩
            · exact ((hst.2.2.2.2.2.1.trans (HB12.out.mono hst.2.2.2.2.2.1.size)).trans (hb3.mono (by omega))).setCell (p := ⟨g, 1, none⟩) (by show w.heap.size ≤ g; have := hst.2.2.2.1; omega) _
            · have h1 := hst.2.2.2.2.2.2.2; have h2 := HB12.out.size; simp; omega
          · first | rfl | omega | simp
      · obtain hke : k = us.length := by omega
        rw [decide_eq_false (show ¬ (0 ≤ (((k : Nat)) : Int) ∧ (((k : Nat)) : Int) < (us.length : Int)) by omega)] at htn
        have HTN := Lib.hid htn
        clear htn hst
        have HKE := Lib.hid hke
        clear hke
        go_wp2_with fail
        refine (HTN.out _).mono ?_
        rintro e V1 ⟨rfl, hx1⟩
        clear r0 r1
        have hst := HST.out
        have r0 := (hst.1.ext hx1).rd 0 rfl
        have r1 := (hst.1.ext hx1).rd 1 rfl
        have hz := hst.2.2.2.2.1.ext hx1
        have q0 := hz.rd 0 rfl
        have q1 := hz.rd 1 rfl
        have z0 := hz.frozen 0
        have z1 := hz.frozen 1
        have HX1 := Lib.hid hx1
        clear hst hx1 hz
        go_wp2_with fail
        have hst := HST.out
        have hend : us = trimT ts := end_is hasc hst.2.2.2.2.2.2.1 (fun x hx => by
          obtain ⟨j, hj, e9⟩ := List.getElem_of_mem hx
          have := HALL.out j (by have := HKE.out; omega)
          rwa [show us.getD j T0 = x by simp [List.getD, hj, e9]] at this)
        obtain ⟨A', cap', hv', htw⟩ := own_tw (own_ext hst.2.1 HX1.out) rfl
        cases hv'
        (try simp only [jumpM])
        refine bodyPost_ret (v := .agg #[.int .i64 c0, .slice A us.length cap]) (by simp [results, Try.results78, go_sem, q0, q1, z0, z1]) rfl ⟨A, cap, by rw [← hend], ?_, ?_⟩
        · exact ((hst.2.2.2.2.2.1.trans ((HX1.out.below (Nat.le_refl _)).mono hst.2.2.2.2.2.1.size)).setCell (by simp) _).setCell (by simp) _
        · rw [← hend]
          exact ((htw.far (by show _ < _; simp) _).far (by show _ < _; simp) _).low (by omega)
  case first =>
    go_wp2_with fail
    obtain ⟨W, hW⟩ : ∃ W, (w.alloc (Obj.cells #[.int .i64 c0, .slice A0 n0 q0] 31)).alloc (Obj.cells #[.int .i64 0, .slice none 0 0] 31) = W := ⟨_, rfl⟩
    have hx0 : Ext w W := by rw [← hW]; exact ((Ext.refl w).alloc _).alloc _
    have hs0 : W.heap.size = w.heap.size + 2 := by rw [← hW]; simp
    have hb0 : Blk W w.heap.size 31 #[.int .i64 c0, .slice A0 n0 q0] := by rw [← hW]; exact (Blk.new w _ _).ext ((Ext.refl _).alloc _)
    have hbz : Blk W (w.heap.size + 1) 31 #[.int .i64 0, .slice none 0 0] := by
      rw [← hW]
      have := Blk.new (w.alloc (Obj.cells #[.int .i64 c0, .slice A0 n0 q0] 31)) 31 #[.int .i64 0, .slice none 0 0]
      simpa using this
    rw [hW]
    have r0 := hb0.rd 0 rfl
    have r1 := hb0.rd 1 rfl
    have HB0 := Lib.hid hb0
    have HBZ := Lib.hid hbz
    have HX0 := Lib.hid hx0
    have HS0 := Lib.hid hs0
    have hle0 : w.heap.size + 2 ≤ W.heap.size := by omega
    clear hW hb0 hbz hx0 hs0
    go_upto_region 1 with (fail)
    go_cut [3] (fun v3 wx => ∃ (g : Nat) (A : Option Addr) (cap : Nat), v3 = .pointer (some ⟨g, 0, none⟩) ∧ W.heap.size ≤ g ∧ Blk wx g 31 #[.int .i64 c0, .slice A n0 cap] ∧ wx.ownsRow W.heap.size 51 4 (.slice A n0 cap) n0 (flat ts) ∧ (Value.slice A n0 cap).ownBlock ≠ some g ∧ Below W.heap.size W wx)
    case first =>
      go_region_held3 (fun w' => w'.cell? ⟨w.heap.size, 0, none⟩ = some (.int .i64 c0) ∧ w'.cell? ⟨w.heap.size, 1, none⟩ = some (.slice A0 n0 q0))
        (first | exact ⟨r0, r1⟩ | exact ⟨(HB0.out.ext (by first | exact Ext.refl _ | exact (Ext.refl _).drew | exact (Ext.refl _).alloc _ | exact ((Ext.refl _).alloc _).drew | exact ((Ext.refl _).drew).alloc _ | exact (((Ext.refl _).drew).alloc _).drew | exact ((Ext.refl _).alloc _).alloc _ | exact (((Ext.refl _).alloc _).alloc _).drew)).rd 0 rfl, (HB0.out.ext (by first | exact Ext.refl _ | exact (Ext.refl _).drew | exact (Ext.refl _).alloc _ | exact ((Ext.refl _).alloc _).drew | exact ((Ext.refl _).drew).alloc _ | exact (((Ext.refl _).drew).alloc _).drew | exact ((Ext.refl _).alloc _).alloc _ | exact (((Ext.refl _).alloc _).alloc _).drew)).rd 1 rfl⟩ | exact ⟨(C0.ext (by first | exact Ext.refl _ | exact (Ext.refl _).drew | exact (Ext.refl _).alloc _ | exact ((Ext.refl _).alloc _).drew | exact ((Ext.refl _).drew).alloc _ | exact (((Ext.refl _).drew).alloc _).drew | exact ((Ext.refl _).alloc _).alloc _ | exact (((Ext.refl _).alloc _).alloc _).drew)).rd 0 rfl, (C0.ext (by first | exact Ext.refl _ | exact (Ext.refl _).drew | exact (Ext.refl _).alloc _ | exact ((Ext.refl _).alloc _).drew | exact ((Ext.refl _).drew).alloc _ | exact (((Ext.refl _).drew).alloc _).drew | exact ((Ext.refl _).alloc _).alloc _ | exact (((Ext.refl _).alloc _).alloc _).drew)).rd 1 rfl⟩ | exact ⟨(far_lo C0 hq0 (by omega)).rd 0 rfl, (far_lo C0 hq0 (by omega)).rd 1 rfl⟩ | exact ⟨((far_lo C0 hq0 (by omega)).ext ((Ext.refl _).drew)).rd 0 rfl, ((far_lo C0 hq0 (by omega)).ext ((Ext.refl _).drew)).rd 1 rfl⟩ | go_keep)
        (first
        | (go_at_call 72; refine (HCL.out _ ((HX0.out.below (Nat.le_refl _)).trans ((below_next0 (Below.refl W.heap.size W) (by first | exact Ext.refl _ | exact (Ext.refl _).drew | exact (Ext.refl _).alloc _ | exact ((Ext.refl _).alloc _).drew | exact ((Ext.refl _).drew).alloc _ | exact (((Ext.refl _).drew).alloc _).drew | exact ((Ext.refl _).alloc _).alloc _ | exact (((Ext.refl _).alloc _).alloc _).drew) (Nat.le_refl _)).mono (by omega)))).mono ?_; rintro e w4 ⟨v4, rfl, hown4, hb4⟩; have hK4 := below_next (Below.refl W.heap.size W) (by first | exact Ext.refl _ | exact (Ext.refl _).drew | exact (Ext.refl _).alloc _ | exact ((Ext.refl _).alloc _).drew | exact ((Ext.refl _).drew).alloc _ | exact (((Ext.refl _).drew).alloc _).drew | exact ((Ext.refl _).alloc _).alloc _ | exact (((Ext.refl _).alloc _).alloc _).drew) hb4 (Nat.le_refl _); have hsc := (below_pair (Below.refl W.heap.size W) (by first | exact Ext.refl _ | exact (Ext.refl _).drew | exact (Ext.refl _).alloc _ | exact ((Ext.refl _).alloc _).drew | exact ((Ext.refl _).drew).alloc _ | exact (((Ext.refl _).drew).alloc _).drew | exact ((Ext.refl _).alloc _).alloc _ | exact (((Ext.refl _).alloc _).alloc _).drew) hb4 (Nat.le_refl _)).size; obtain ⟨A4, cap4, rfl, htw4⟩ := own_tw hown4 hl0; clear htw4; have C0 := blk_next HB0.out (by first | exact Ext.refl _ | exact (Ext.refl _).drew | exact (Ext.refl _).alloc _ | exact ((Ext.refl _).alloc _).drew | exact ((Ext.refl _).drew).alloc _ | exact (((Ext.refl _).drew).alloc _).drew | exact ((Ext.refl _).alloc _).alloc _ | exact (((Ext.refl _).alloc _).alloc _).drew) hb4; have hq0 : w.heap.size < W.heap.size := (by omega); (try have nz := blk_next (Blk.new W 31 #[.int .i64 0, .slice none 0 0]) (by first | exact Ext.refl _ | exact (Ext.refl _).drew | exact (Ext.refl _).alloc _ | exact ((Ext.refl _).alloc _).drew | exact ((Ext.refl _).drew).alloc _ | exact (((Ext.refl _).drew).alloc _).drew | exact ((Ext.refl _).alloc _).alloc _ | exact (((Ext.refl _).alloc _).alloc _).drew) hb4); (try have nl := (blk_pair (Blk.new W 31 #[.int .i64 0, .slice none 0 0]) (by first | exact Ext.refl _ | exact (Ext.refl _).drew | exact (Ext.refl _).alloc _ | exact ((Ext.refl _).alloc _).drew | exact ((Ext.refl _).drew).alloc _ | exact (((Ext.refl _).drew).alloc _).drew | exact ((Ext.refl _).alloc _).alloc _ | exact (((Ext.refl _).alloc _).alloc _).drew) hb4).lt); (try have y0 := nz.rd 0 rfl); (try have y1 := nz.rd 1 rfl); (try have z0 := nz.frozen 0); (try have z1 := nz.frozen 1)))
      all_goals
        go_wp2_with fail
        go_meet
        first
          | (obtain ⟨h1, h2, h3, h4, h5⟩ := close_cl_set hK4 hown4 hsc nz nl (Nat.le_refl _) (Nat.le_refl _) (by first | exact Ext.refl _ | exact (Ext.refl _).drew | exact (Ext.refl _).alloc _ | exact ((Ext.refl _).alloc _).drew | exact ((Ext.refl _).drew).alloc _ | exact (((Ext.refl _).drew).alloc _).drew | exact ((Ext.refl _).alloc _).alloc _ | exact (((Ext.refl _).alloc _).alloc _).drew); exact ⟨_, _, _, rfl, h1, h2, h3, h4, h5⟩)
          | (obtain ⟨h1, h2, h3, h4, h5⟩ := close_cl_new 31 hK4 hown4 hsc (Nat.le_refl _) (Ext.refl w4) (by first | exact Ext.refl _ | exact (Ext.refl _).drew | exact (Ext.refl _).alloc _ | exact ((Ext.refl _).alloc _).drew | exact ((Ext.refl _).drew).alloc _ | exact (((Ext.refl _).drew).alloc _).drew | exact ((Ext.refl _).alloc _).alloc _ | exact (((Ext.refl _).alloc _).alloc _).drew); exact ⟨_, _, _, rfl, h1, h2, h3, h4, h5⟩)
    case rest =>
      obtain ⟨g, A, cap, rfl, hg, hbk, hown, hne, hb⟩ := hcut
      obtain ⟨W5, hW5⟩ : ∃ W5, W5 = wc := ⟨_, rfl⟩
      subst hW5
      obtain ⟨us, hus⟩ : ∃ us, us = ts := ⟨_, rfl⟩
      have hlu : us.length = n0 := by rw [hus]; exact hl0
      have hst : TrimSt w c0 ts us g A cap W5 := by
        unfold TrimSt
        rw [hlu, hus]
        have hs0 := HS0.out
        rw [hs0] at hown
        exact ⟨hbk, hown, hne, by omega, HBZ.out.below hb (by omega), (HX0.out.below (Nat.le_refl _)).trans (hb.mono (by omega)), holdsAll.start ts, by have := hb.size; omega⟩
      have HST := Lib.hid hst
      clear r0 r1 hbk hown hne hb hst hus hlu
      go_wp2_with fail
      go_step3
      go_wp2_with fail
      go_step3
      have HALL := Lib.hid (fun (j : Nat) (hj : j < 0) => (absurd hj (Nat.not_lt_zero _) : good4 us (us.getD j T0) = true))
      have hkle := Nat.zero_le us.length
      have hst := HST.out
      have r0 := hst.1.rd 0 rfl
      have r1 := hst.1.rd 1 rfl
      have hus16 : us.length ≤ 16 := Nat.le_trans hst.2.2.2.2.2.2.1.1.length_le h16
      have htn := fun V => isTileNumber_any c0 A us.length cap ((0 : Nat) : Int) V (by omega)
      by_cases hlt : 0 < us.length
      · rw [decide_eq_true (show 0 ≤ (((0 : Nat)) : Int) ∧ (((0 : Nat)) : Int) < (us.length : Int) by omega)] at htn
        have HTN := Lib.hid htn
        clear htn hst
        (try simp only [Int.natCast_zero, Int.ofNat_zero, Nat.cast_zero, Int.cast_ofNat_Int] at HTN)
        go_wp2_with fail
        refine (HTN.out _).mono ?_
        rintro e V1 ⟨rfl, hx1⟩
        clear r0 r1
        have hst := HST.out
        have r0 := (hst.1.ext hx1).rd 0 rfl
        have r1 := (hst.1.ext hx1).rd 1 rfl
        obtain ⟨A', cap', hv', htw⟩ := own_tw (own_ext hst.2.1 hx1) rfl
        cases hv'
        have HNB := Lib.hid (hasNeighbours_any c0 A us.length cap us 0 V1 (by omega) rfl htw.tr hlt)
        have HX1 := Lib.hid hx1
        clear hst hx1 htw
        go_wp2_with fail
        refine HNB.out.mono ?_
        rintro e V2 ⟨rfl, hb2⟩
        clear r0 r1
        have hst := HST.out
        have hb12 := (HX1.out.below (Nat.le_refl _)).trans (hb2.mono (HX1.out.below (Nat.le_refl _)).size)
        have HB12 := Lib.hid hb12
        have hbk := hst.1.below hb12 hst.1.lt
        have s0 := hbk.rd 0 rfl
        have s1 := hbk.rd 1 rfl
        have f1 := hbk.frozen 1
        have hsz12 := hb12.size
        clear hst hb2 hb12 hbk
        cases hgd : good4 us (us.getD 0 T0) with
        | true =>
          go_wp2_with fail
          go_step3
          have hst := HST.out
          have hb12 := HB12.out
          refine ⟨_, us, g, A, cap, 1, _, _, _, _, _, _, _, _, _, _, _, _, _, _, _, _, _, _, _, _, _, _, _, _, ?_, rfl, ?_, .inr ⟨rfl, ?_, ?_, rfl⟩⟩
          · exact ⟨hst.1.below hb12 hst.1.lt, own_below hst.2.1 hb12, hst.2.2.1, hst.2.2.2.1, hst.2.2.2.2.1.below hb12 hst.2.2.2.2.1.lt, hst.2.2.2.2.2.1.trans (hb12.mono hst.2.2.2.2.2.1.size), hst.2.2.2.2.2.2.1, Nat.le_trans hst.2.2.2.2.2.2.2 hb12.size⟩
          · first | rfl | omega | simp
          · omega
          · intro j hj
            by_cases e9 : j < 0
            · exact HALL.out j e9
            · obtain rfl : j = 0 := by omega
              exact hgd
        | false =>
          have HDL := Lib.hid (delete_any (w.heap.size + 2) us.length cap 0 (0 + 1) A us V2 rfl (by omega) hlt rfl (own_below HST.out.2.1 HB12.out))
          have hj1 : (((0 + 1 : Nat)) : Int) = ((0 : Nat) : Int) + 1 := by omega
          rw [hj1] at HDL
          (try simp only [Int.natCast_zero, Int.zero_add, Nat.zero_add] at HDL)
          have hw3 : IntKind.i64.wrap (((0 : Nat) : Int) + 1) = ((0 : Nat) : Int) + 1 := IntWalk.i64_in _ (by omega)
          go_wp2_with fail
          refine HDL.out.mono ?_
          rintro e V3 ⟨rfl, hown3, hb3, hsz3, hfar3⟩
          have hst := HST.out
          have hb12 := HB12.out
          have hbk3 : Blk V3 g 31 #[.int .i64 c0, .slice A us.length cap] := (hfar3 g hst.2.2.1).trans (hst.1.below hb12 hst.1.lt)
          have hz3 : Blk V3 (w.heap.size + 1) 31 #[.int .i64 0, .slice none 0 0] := (hb3.block _ (by omega)).trans (hst.2.2.2.2.1.below hb12 hst.2.2.2.2.1.lt)
          clear s0 s1 f1
          have s1 := hbk3.rd 1 rfl
          have f1 := hbk3.frozen 1
          have HB3 := Lib.hid (And.intro hbk3 (And.intro hz3 (And.intro hown3 (And.intro hb3 hsz3))))
          clear hst hb12 hbk3 hz3 hown3 hb3 hfar3
          go_wp2_with fail
          go_step3
          obtain ⟨hbk3, hz3, hown3, hb3, hsz3⟩ := HB3.out
          have hst := HST.out
          have hel : (us.eraseIdx 0).length = us.length - 1 := List.length_eraseIdx_of_lt hlt
          have hne3 : (Value.slice A (us.length - 1) cap).ownBlock ≠ some g := fun e => hst.2.2.1 (by rw [← e]; cases A <;> rfl)
          refine ⟨_, us.eraseIdx 0, g, A, cap, 0, _, _, _, _, _, _, _, _, _, _, _, _, _, _, _, _, _, _, _, _, _, _, _, _, ?_, rfl, ?_, .inl ⟨rfl, rfl⟩⟩
          · unfold TrimSt
            rw [hel]
            refine ⟨hbk3.set_ 1 _, own_far hown3 (fun e => hne3 e.symm) _, hne3, hst.2.2.2.1, hz3.far (by show w.heap.size + 1 ≠ g; have := hst.2.2.2.1; omega) _, ?_, hst.2.2.2.2.2.2.1.erase hlt hgd, ?_⟩
            · exact ((hst.2.2.2.2.2.1.trans (HB12.out.mono hst.2.2.2.2.2.1.size)).trans (hb3.mono (by omega))).setCell (p := ⟨g, 1, none⟩) (by show w.heap.size ≤ g; have := hst.2.2.2.1; omega) _
            · have h1 := hst.2.2.2.2.2.2.2; have h2 := HB12.out.size; simp; omega
          · first | rfl | omega | simp
      · obtain hke : 0 = us.length := by omega
        rw [decide_eq_false (show ¬ (0 ≤ (((0 : Nat)) : Int) ∧ (((0 : Nat)) : Int) < (us.length : Int)) by omega)] at htn
        have HTN := Lib.hid htn
        clear htn hst
        (try simp only [Int.natCast_zero, Int.ofNat_zero, Nat.cast_zero, Int.cast_ofNat_Int] at HTN)
        have HKE := Lib.hid hke
        clear hke
        go_wp2_with fail
        refine (HTN.out _).mono ?_
        rintro e V1 ⟨rfl, hx1⟩
        clear r0 r1
        have hst := HST.out
        have r0 := (hst.1.ext hx1).rd 0 rfl
        have r1 := (hst.1.ext hx1).rd 1 rfl
        have hz := hst.2.2.2.2.1.ext hx1
        have q0 := hz.rd 0 rfl
        have q1 := hz.rd 1 rfl
        have z0 := hz.frozen 0
        have z1 := hz.frozen 1
        have HX1 := Lib.hid hx1
        clear hst hx1 hz
        go_wp2_with fail
        have hst := HST.out
        have hend : us = trimT ts := end_is hasc hst.2.2.2.2.2.2.1 (fun x hx => by
          obtain ⟨j, hj, e9⟩ := List.getElem_of_mem hx
          have := HALL.out j (by have := HKE.out; omega)
          rwa [show us.getD j T0 = x by simp [List.getD, hj, e9]] at this)
        obtain ⟨A', cap', hv', htw⟩ := own_tw (own_ext hst.2.1 HX1.out) rfl
        cases hv'
        (try simp only [jumpM])
        refine bodyPost_ret (v := .agg #[.int .i64 c0, .slice A us.length cap]) (by simp [results, Try.results78, go_sem, q0, q1, z0, z1]) rfl ⟨A, cap, by rw [← hend], ?_, ?_⟩
        · exact ((hst.2.2.2.2.2.1.trans ((HX1.out.below (Nat.le_refl _)).mono hst.2.2.2.2.2.1.size)).setCell (by simp) _).setCell (by simp) _
        · rw [← hend]
          exact ((htw.far (by show _ < _; simp) _).far (by show _ < _; simp) _).low (by omega)
end

section
set_option linter.unusedVariables false
set_option linter.unusedSimpArgs false
open Go.RowKit Go.Sort

set_option maxRecDepth 100000 in
set_option maxHeartbeats 1000000 in
theorem specTrimSet_1 (c0 : Int) (A : Option Addr) (n c : Nat) (ts : List Tl) (w : World) (hn : n ≤ 1048576) (hl : ts.length = n) (hA : TR w w.heap.size A ts) (hs : isSet c0 ts = false) :
    Calls Try.prog 43 #[.agg #[.int .i64 c0, .slice A n c]] w (SetRes w 0 [] 1) := by
  have his : ∀ W, Below w.heap.size w W → Calls Try.prog 56 #[.agg #[.int .i64 c0, .slice A n c]] W _ := fun W hW => l01Is_any c0 A n c ts W (by omega) hl ((hA.below hW (Nat.le_refl _)).more hW.size)
  rw [hs] at his
  have HI := Lib.hid his
  clear his
  clear hA
  unfold SetRes
  go_enter Try.func43, Try.ntmps43
  go_wp2_with fail
  have hx0 : Ext w ((w.alloc (Obj.cells #[.int .i64 c0, .slice A n c] 31)).alloc (Obj.cells #[.int .i64 0, .slice none 0 0] 31)) := ((Ext.refl w).alloc _).alloc _
  have hb0 : Blk ((w.alloc (Obj.cells #[.int .i64 c0, .slice A n c] 31)).alloc (Obj.cells #[.int .i64 0, .slice none 0 0] 31)) (w.heap.size) 31 #[.int .i64 c0, .slice A n c] := by have := ((Blk.new w 31 #[.int .i64 c0, .slice A n c]).ext (show Ext (w.alloc (Obj.cells #[.int .i64 c0, .slice A n c] 31)) ((w.alloc (Obj.cells #[.int .i64 c0, .slice A n c] 31)).alloc (Obj.cells #[.int .i64 0, .slice none 0 0] 31)) from (Ext.refl _).alloc _)); simpa using this
  have hb1 : Blk ((w.alloc (Obj.cells #[.int .i64 c0, .slice A n c] 31)).alloc (Obj.cells #[.int .i64 0, .slice none 0 0] 31)) (w.heap.size + 1) 31 #[.int .i64 0, .slice none 0 0] := by have := (Blk.new (w.alloc (Obj.cells #[.int .i64 c0, .slice A n c] 31)) 31 #[.int .i64 0, .slice none 0 0]); simpa using this
  have K0 := Lib.hid (hx0.below (Nat.le_refl _))
  have L0 := Lib.hid (show w.heap.size + 2 ≤ ((w.alloc (Obj.cells #[.int .i64 c0, .slice A n c] 31)).alloc (Obj.cells #[.int .i64 0, .slice none 0 0] 31)).heap.size by simp)
  have B0_0 := Lib.hid hb0
  have B1_0 := Lib.hid hb1
  clear hx0 hb0 hb1
  generalize ((w.alloc (Obj.cells #[.int .i64 c0, .slice A n c] 31)).alloc (Obj.cells #[.int .i64 0, .slice none 0 0] 31)) = w0 at *
  refine (HI.out _ K0.out).mono ?_
  rintro e w1 ⟨rfl, hx⟩
  have K1 := Lib.hid (K0.out.trans ((hx.below (Nat.le_refl _)).mono K0.out.size))
  have L1 := Lib.hid (Nat.le_trans L0.out (hx.below (Nat.le_refl _)).size)
  have B0_1 := Lib.hid (B0_0.out.below (hx.below (Nat.le_refl _)) B0_0.out.lt)
  have B1_1 := Lib.hid (B1_0.out.below (hx.below (Nat.le_refl _)) B1_0.out.lt)
  clear K0 B0_0 B1_0 L0 hx
  have r0_0 := B0_1.out.rd 0 rfl
  have r0_1 := B0_1.out.rd 1 rfl
  have r1_0 := B1_1.out.rd 0 rfl
  have r1_1 := B1_1.out.rd 1 rfl
  have z1_0 := B1_1.out.frozen 0
  have z1_1 := B1_1.out.frozen 1
  go_wp2_with fail
  refine bodyPost_ret (v := .tuple #[.agg #[.int .i64 0, .slice none 0 0], .int .i64 1]) (by simp [results, Try.results43, go_sem, r1_0, r1_1, z1_0, z1_1]) rfl ⟨none, 0, rfl, ?_, ?_⟩
  · exact (K1.out.setCell (show w.heap.size ≤ w.heap.size + 1 by omega) _).setCell (show w.heap.size ≤ w.heap.size + 1 by omega) _
  · exact fun h => absurd h (Nat.lt_irrefl _)

set_option maxRecDepth 100000 in
set_option maxHeartbeats 1000000 in
theorem implTrimSet_1 (c0 : Int) (A : Option Addr) (n c : Nat) (ts : List Tl) (w : World) (hn : n ≤ 1048576) (hl : ts.length = n) (hA : TR w w.heap.size A ts) (hs : isSet c0 ts = false) :
    Calls Try.prog 44 #[.agg #[.int .i64 c0, .slice A n c]] w (SetRes w 0 [] 1) := by
  have his : ∀ W, Below w.heap.size w W → Calls Try.prog 58 #[.agg #[.int .i64 c0, .slice A n c]] W _ := fun W hW => isSet_any c0 A n c ts W (by omega) hl ((hA.below hW (Nat.le_refl _)).more hW.size)
  rw [hs] at his
  have HI := Lib.hid his
  clear his
  clear hA
  unfold SetRes
  go_enter Try.func44, Try.ntmps44
  go_wp2_with fail
  have hx0 : Ext w ((w.alloc (Obj.cells #[.int .i64 c0, .slice A n c] 31)).alloc (Obj.cells #[.int .i64 0, .slice none 0 0] 31)) := ((Ext.refl w).alloc _).alloc _
  have hb0 : Blk ((w.alloc (Obj.cells #[.int .i64 c0, .slice A n c] 31)).alloc (Obj.cells #[.int .i64 0, .slice none 0 0] 31)) (w.heap.size) 31 #[.int .i64 c0, .slice A n c] := by have := ((Blk.new w 31 #[.int .i64 c0, .slice A n c]).ext (show Ext (w.alloc (Obj.cells #[.int .i64 c0, .slice A n c] 31)) ((w.alloc (Obj.cells #[.int .i64 c0, .slice A n c] 31)).alloc (Obj.cells #[.int .i64 0, .slice none 0 0] 31)) from (Ext.refl _).alloc _)); simpa using this
  have hb1 : Blk ((w.alloc (Obj.cells #[.int .i64 c0, .slice A n c] 31)).alloc (Obj.cells #[.int .i64 0, .slice none 0 0] 31)) (w.heap.size + 1) 31 #[.int .i64 0, .slice none 0 0] := by have := (Blk.new (w.alloc (Obj.cells #[.int .i64 c0, .slice A n c] 31)) 31 #[.int .i64 0, .slice none 0 0]); simpa using this
  have K0 := Lib.hid (hx0.below (Nat.le_refl _))
  have L0 := Lib.hid (show w.heap.size + 2 ≤ ((w.alloc (Obj.cells #[.int .i64 c0, .slice A n c] 31)).alloc (Obj.cells #[.int .i64 0, .slice none 0 0] 31)).heap.size by simp)
  have B0_0 := Lib.hid hb0
  have B1_0 := Lib.hid hb1
  clear hx0 hb0 hb1
  generalize ((w.alloc (Obj.cells #[.int .i64 c0, .slice A n c] 31)).alloc (Obj.cells #[.int .i64 0, .slice none 0 0] 31)) = w0 at *
  refine (HI.out _ K0.out).mono ?_
  rintro e w1 ⟨rfl, hx⟩
  have K1 := Lib.hid (K0.out.trans ((hx.below (Nat.le_refl _)).mono K0.out.size))
  have L1 := Lib.hid (Nat.le_trans L0.out (hx.below (Nat.le_refl _)).size)
  have B0_1 := Lib.hid (B0_0.out.below (hx.below (Nat.le_refl _)) B0_0.out.lt)
  have B1_1 := Lib.hid (B1_0.out.below (hx.below (Nat.le_refl _)) B1_0.out.lt)
  clear K0 B0_0 B1_0 L0 hx
  have r0_0 := B0_1.out.rd 0 rfl
  have r0_1 := B0_1.out.rd 1 rfl
  have r1_0 := B1_1.out.rd 0 rfl
  have r1_1 := B1_1.out.rd 1 rfl
  have z1_0 := B1_1.out.frozen 0
  have z1_1 := B1_1.out.frozen 1
  go_wp2_with fail
  refine bodyPost_ret (v := .tuple #[.agg #[.int .i64 0, .slice none 0 0], .int .i64 1]) (by simp [results, Try.results44, go_sem, r1_0, r1_1, z1_0, z1_1]) rfl ⟨none, 0, rfl, ?_, ?_⟩
  · exact (K1.out.setCell (show w.heap.size ≤ w.heap.size + 1 by omega) _).setCell (show w.heap.size ≤ w.heap.size + 1 by omega) _
  · exact fun h => absurd h (Nat.lt_irrefl _)

set_option maxRecDepth 100000 in
set_option maxHeartbeats 1000000 in
theorem implTrimSet_0 (c0 : Int) (A : Option Addr) (n c : Nat) (ts : List Tl) (w : World) (hn : n ≤ 1048576) (hl : ts.length = n) (hA : TR w w.heap.size A ts) (hs : isSet c0 ts = true) :
    Calls Try.prog 44 #[.agg #[.int .i64 c0, .slice A n c]] w (SetRes w c0 (trimT ts) 0) := by
  have his : ∀ W, Below w.heap.size w W → Calls Try.prog 58 #[.agg #[.int .i64 c0, .slice A n c]] W _ := fun W hW => isSet_any c0 A n c ts W (by omega) hl ((hA.below hW (Nat.le_refl _)).more hW.size)
  rw [hs] at his
  have HI := Lib.hid his
  clear his
  have hre : ∀ W, Below w.heap.size w W → Calls Try.prog 78 #[.agg #[.int .i64 c0, .slice A n c]] W (SetOnly W c0 (trimT ts)) := fun W hW => (trimmed_any c0 A n c ts W hl ((hA.below hW (Nat.le_refl _)).more hW.size) (isSet_len hs) (asc_of_isSet hs))
  unfold SetOnly at hre
  have HC := Lib.hid hre
  clear hre
  generalize trimT ts = us at HC ⊢
  clear hA
  unfold SetRes
  go_enter Try.func44, Try.ntmps44
  go_wp2_with fail
  have hx0 : Ext w ((w.alloc (Obj.cells #[.int .i64 c0, .slice A n c] 31)).alloc (Obj.cells #[.int .i64 0, .slice none 0 0] 31)) := ((Ext.refl w).alloc _).alloc _
  have hb0 : Blk ((w.alloc (Obj.cells #[.int .i64 c0, .slice A n c] 31)).alloc (Obj.cells #[.int .i64 0, .slice none 0 0] 31)) (w.heap.size) 31 #[.int .i64 c0, .slice A n c] := by have := ((Blk.new w 31 #[.int .i64 c0, .slice A n c]).ext (show Ext (w.alloc (Obj.cells #[.int .i64 c0, .slice A n c] 31)) ((w.alloc (Obj.cells #[.int .i64 c0, .slice A n c] 31)).alloc (Obj.cells #[.int .i64 0, .slice none 0 0] 31)) from (Ext.refl _).alloc _)); simpa using this
  have hb1 : Blk ((w.alloc (Obj.cells #[.int .i64 c0, .slice A n c] 31)).alloc (Obj.cells #[.int .i64 0, .slice none 0 0] 31)) (w.heap.size + 1) 31 #[.int .i64 0, .slice none 0 0] := by have := (Blk.new (w.alloc (Obj.cells #[.int .i64 c0, .slice A n c] 31)) 31 #[.int .i64 0, .slice none 0 0]); simpa using this
  have K0 := Lib.hid (hx0.below (Nat.le_refl _))
  have L0 := Lib.hid (show w.heap.size + 2 ≤ ((w.alloc (Obj.cells #[.int .i64 c0, .slice A n c] 31)).alloc (Obj.cells #[.int .i64 0, .slice none 0 0] 31)).heap.size by simp)
  have B0_0 := Lib.hid hb0
  have B1_0 := Lib.hid hb1
  clear hx0 hb0 hb1
  generalize ((w.alloc (Obj.cells #[.int .i64 c0, .slice A n c] 31)).alloc (Obj.cells #[.int .i64 0, .slice none 0 0] 31)) = w0 at *
  refine (HI.out _ K0.out).mono ?_
  rintro e w1 ⟨rfl, hx⟩
  have K1 := Lib.hid (K0.out.trans ((hx.below (Nat.le_refl _)).mono K0.out.size))
  have L1 := Lib.hid (Nat.le_trans L0.out (hx.below (Nat.le_refl _)).size)
  have B0_1 := Lib.hid (B0_0.out.below (hx.below (Nat.le_refl _)) B0_0.out.lt)
  have B1_1 := Lib.hid (B1_0.out.below (hx.below (Nat.le_refl _)) B1_0.out.lt)
  clear K0 B0_0 B1_0 L0 hx
  have r0_0 := B0_1.out.rd 0 rfl
  have r0_1 := B0_1.out.rd 1 rfl
  go_wp2_with fail
  refine (HC.out _ K1.out).mono ?_
  rintro e w2 ⟨A', cap, rfl, hb, hw⟩
  clear r0_0 r0_1
  have K2 := Lib.hid (K1.out.trans (hb.mono K1.out.size))
  have L2 := Lib.hid (Nat.le_trans L1.out hb.size)
  have B0_2 := Lib.hid (B0_1.out.below hb B0_1.out.lt)
  have B1_2 := Lib.hid (B1_1.out.below hb B1_1.out.lt)
  have Tw_2 := Lib.hid hw
  have Mw := Lib.hid L1.out
  clear K1 B0_1 B1_1 L1 hb hw
  have r0_0 := B0_2.out.rd 0 rfl
  have r0_1 := B0_2.out.rd 1 rfl
  have r1_0 := B1_2.out.rd 0 rfl
  have r1_1 := B1_2.out.rd 1 rfl
  have z1_0 := B1_2.out.frozen 0
  have z1_1 := B1_2.out.frozen 1
  go_wp2_with fail
  refine bodyPost_ret (v := .tuple #[.agg #[.int .i64 c0, .slice A' us.length cap], .int .i64 0]) (by simp [results, Try.results44, go_sem, r1_0, r1_1, z1_0, z1_1]) rfl ⟨A', cap, rfl, ?_, ?_⟩
  · exact (K2.out.setCell (show w.heap.size ≤ w.heap.size + 1 by omega) _).setCell (show w.heap.size ≤ w.heap.size + 1 by omega) _
  · have h1 := Mw.out
    exact ((Tw_2.out.far (show w.heap.size + 1 < _ by omega) _).far (show w.heap.size + 1 < _ by omega) _).low (by omega)
end

section
set_option linter.unusedVariables false
set_option linter.unusedSimpArgs false
open Go.RowKit Go.Sort

/-- Is a neighbour of x at the side j among the first k tiles? -/
def nbAny (cur : List Tl) (x : Tl) (k j : Nat) : Bool := (cur.take k).any fun y => nbT x y j
/-- The same, with the tile k as well at the sides below s. -/
def mb (cur : List Tl) (x : Tl) (k s j : Nat) : Bool := nbAny cur x k j || (decide (j < s) && nbT x (cur.getD k T0) j)
def bl (p : Nat → Bool) : Array Value := #[.bool (p 0), .bool (p 1), .bool (p 2), .bool (p 3)]
theorem bl_at (p : Nat → Bool) {s : Nat} (hs : s < 4) : (bl p)[s]? = some (.bool (p s)) := by
  obtain rfl | rfl | rfl | rfl : s = 0 ∨ s = 1 ∨ s = 2 ∨ s = 3 := by omega
  all_goals rfl
theorem bl_eq {p q : Nat → Bool} (h : ∀ j, j < 4 → p j = q j) : bl p = bl q := by unfold bl; rw [h 0 (by omega), h 1 (by omega), h 2 (by omega), h 3 (by omega)]
theorem nbAny_succ {cur : List Tl} {x : Tl} {k j : Nat} (hk : k < cur.length) : nbAny cur x (k + 1) j = (nbAny cur x k j || nbT x (cur.getD k T0) j) := by
  unfold nbAny
  rw [List.take_add_one, List.any_append, List.getElem?_eq_getElem hk]
  simp [List.getD, hk]
theorem mb_zero (cur : List Tl) (x : Tl) (k : Nat) : bl (mb cur x k 0) = bl (nbAny cur x k) := bl_eq fun j _ => by simp [mb]
theorem mb_four {cur : List Tl} {x : Tl} {k : Nat} (hk : k < cur.length) : bl (mb cur x k 4) = bl (nbAny cur x (k + 1)) := bl_eq fun j hj => by rw [nbAny_succ hk]; simp [mb, hj]
theorem mb_yes {cur : List Tl} {x : Tl} {k s : Nat} (hs : s < 4) (h : nbT x (cur.getD k T0) s = true) : (bl (mb cur x k s)).setIfInBounds s (.bool true) = bl (mb cur x k (s + 1)) := by
  have h1 : ∀ j, j ≠ s → mb cur x k (s + 1) j = mb cur x k s j := fun j hj => by
    unfold mb
    rw [show decide (j < s + 1) = decide (j < s) by rw [decide_eq_decide]; omega]
  have h2 : mb cur x k (s + 1) s = true := by unfold mb; rw [h]; simp
  unfold bl
  obtain rfl | rfl | rfl | rfl : s = 0 ∨ s = 1 ∨ s = 2 ∨ s = 3 := by omega
  · rw [h2, h1 1 (by omega), h1 2 (by omega), h1 3 (by omega)]; rfl
  · rw [h2, h1 0 (by omega), h1 2 (by omega), h1 3 (by omega)]; rfl
  · rw [h2, h1 0 (by omega), h1 1 (by omega), h1 3 (by omega)]; rfl
  · rw [h2, h1 0 (by omega), h1 1 (by omega), h1 2 (by omega)]; rfl
theorem mb_no {cur : List Tl} {x : Tl} {k s : Nat} (h : nbT x (cur.getD k T0) s = false) : bl (mb cur x k s) = bl (mb cur x k (s + 1)) := bl_eq fun j _ => by
  unfold mb
  by_cases e : j = s
  · subst e; rw [h]; simp
  · rw [show decide (j < s + 1) = decide (j < s) by rw [decide_eq_decide]; omega]
theorem nbAny_nil (cur : List Tl) (x : Tl) : bl (nbAny cur x 0) = #[.bool false, .bool false, .bool false, .bool false] := by simp [bl, nbAny]
theorem nbAny_all (cur : List Tl) (x : Tl) (j : Nat) : nbAny cur x cur.length j = hasNb cur x j := by simp [nbAny, hasNb]
/-- The good ones of the first i. -/
def fltN (cur : List Tl) (i : Nat) : List Tl := (cur.take i).filter (good4 cur)
theorem fltN_yes {cur : List Tl} {i : Nat} (hi : i < cur.length) (h : good4 cur (cur.getD i T0) = true) : fltN cur (i + 1) = fltN cur i ++ [cur.getD i T0] := by
  unfold fltN
  rw [List.take_add_one, List.filter_append, List.getElem?_eq_getElem hi]
  have e : cur[i] = cur.getD i T0 := by simp [List.getD, hi]
  rw [Option.toList_some, e, List.filter_cons_of_pos h, List.filter_nil]
theorem fltN_no {cur : List Tl} {i : Nat} (hi : i < cur.length) (h : good4 cur (cur.getD i T0) = false) : fltN cur (i + 1) = fltN cur i := by
  unfold fltN
  rw [List.take_add_one, List.filter_append, List.getElem?_eq_getElem hi]
  have e : cur[i] = cur.getD i T0 := by simp [List.getD, hi]
  rw [Option.toList_some, e, List.filter_cons_of_neg (by rw [h]; simp), List.filter_nil, List.append_nil]
theorem fltN_le (cur : List Tl) (i : Nat) : (fltN cur i).length ≤ i := by
  unfold fltN
  have := List.length_filter_le (good4 cur) (cur.take i)
  rw [List.length_take] at this
  omega
theorem fltN_all (cur : List Tl) : fltN cur cur.length = flt cur := by simp [fltN, flt]
def lenV : Value → Nat
  | .slice _ n _ => n
  | _ => 0
end
end Go.Proofs.Ytpjlapialjjcdaa
