/- Multiplying sets: the model's side. -/
import Derived.Test.YtnagpndclagfaaaDoorMu1
import Derived.Test.YtnagpndclagfaaaDoorMChanged
namespace Go.Proofs.YtnagpndclagfaaaDoor
set_option linter.unusedVariables false
set_option linter.unusedSimpArgs false
open Go.RowKit Go.Sort

/-- The number of colours of a multiplying set. -/
def mulC (p q n v : Int) : Int := if (if p + q - 1 < n + 1 then n + 1 else p + q - 1) < v + 1 then v + 1 else (if p + q - 1 < n + 1 then n + 1 else p + q - 1)
def MulRes (p q n v : Int) (L : List Tl) (w : World) : Ending → World → Prop := if L.length ≤ 16 then SetRes w (mulC p q n v) (sortT L) 0 else SetRes w 0 [] 3

theorem lsL_bound {p q m u d l : Int} {J I i j k : Nat} (hI : I ≤ 6) (hJ : J ≤ 6) (hi : i ≤ 5) (hj : j ≤ 6) (hk : k ≤ 6) : (lsL p q m u J I i ++ lsD p q l m u J j ++ lsE p q d l u k).length ≤ 400 := by
  have h1 := lsL_len (p := p) (q := q) (m := m) (u := u) (J := J) (I := I) i
  have h2 := lsD_len (p := p) (q := q) (l := l) (m := m) (u := u) (J := J) j
  have h3 := lsE_len (p := p) (q := q) (d := d) (l := l) (u := u) k
  have h4 : i * (I * J) ≤ 5 * (6 * 6) := Nat.mul_le_mul hi (Nat.mul_le_mul hI hJ)
  have h5 : j * J ≤ 6 * 6 := Nat.mul_le_mul hj hJ
  simp only [List.length_append]
  omega

set_option maxRecDepth 100000 in
set_option maxHeartbeats 4000000 in
theorem l08Made_any (p q m n u v : Int) (I J K : Nat) (w : World) (hp : 1 ≤ p ∧ p ≤ 3) (hq : 1 ≤ q ∧ q ≤ 3) (hm : 0 ≤ m) (hn : n ≤ 5) (hu : 0 ≤ u) (hv : v ≤ 5) (hI : (I : Int) = n - m + 1) (hJ : (J : Int) = v - u + 1) (hK : (K : Int) = p + q - 1) (hmn : m ≤ n) (huv : u ≤ v) :
    Calls Tryd.prog 28 #[.int .i64 p, .int .i64 q, .int .i64 m, .int .i64 n, .int .i64 u, .int .i64 v] w (MulRes p q n v (lsL p q m u J I K) w) := by
  have HKI := Lib.hid hI
  have HKJ := Lib.hid hJ
  have HKK := Lib.hid hK
  have b6 : I ≤ 6 ∧ J ≤ 6 ∧ K ≤ 5 := by omega
  obtain ⟨lo, hlo⟩ : ∃ lo, 1 - p = lo := ⟨_, rfl⟩
  have hl0 : IntKind.i64.wrap (1 - p) = lo := by rw [hlo]; exact wrap_in _ (by omega)
  obtain ⟨q1, hq1⟩ : ∃ x, q - 1 = x := ⟨_, rfl⟩
  have hl1 : IntKind.i64.wrap (q - 1) = q1 := by rw [hq1]; exact wrap_in _ (by omega)
  have HLO := Lib.hid hlo
  have HQ1 := Lib.hid hq1
  clear hI hJ hK hlo hq1
  go_enter Tryd.func28, Tryd.ntmps28
  go_wp2_with fail
  obtain ⟨W0, hW0⟩ : ∃ W0, w.alloc (Obj.cells #[.int .i64 0, .slice none 0 0] 32) = W0 := ⟨_, rfl⟩
  have hE : Below w.heap.size w W0 := by rw [← hW0]; exact ((Ext.refl w).alloc _).below (Nat.le_refl _)
  have hP0 : Blk W0 w.heap.size 32 #[.int .i64 0, .slice none 0 0] := by rw [← hW0]; exact Blk.new w _ _
  have hsz0 : W0.heap.size = w.heap.size + 1 := by rw [← hW0]; simp
  have hown0 : (W0.alloc (Obj.cells #[] 56)).ownsRow W0.heap.size 56 4 (.slice (some ⟨w.heap.size + 1, 0, none⟩) 0 0) 0 (flat []) := by
    have := World.ownsRow_made (base := W0.heap.size) (e := 56) (size := 4) W0 #[] 0 (Nat.le_refl _) (by unfold maxLen; omega) rfl
    rw [hsz0] at this ⊢
    exact this
  rw [hW0]
  have HE := Lib.hid hE
  have HP := Lib.hid hP0
  have HOWN0 := Lib.hid hown0
  clear hW0 hE hP0 hsz0 hown0
  go_loopw [14, 15] (fun t l wr => ∃ (k : Nat) (z : Int) (L : List Tl), Hid (z = 1 - p + (k : Int)) ∧ Hid (L = lsL p q m u J I k) ∧ k ≤ K ∧ l = .int .i64 z ∧ wr.ownsRow W0.heap.size 56 4 t L.length (flat L) ∧ Below W0.heap.size W0 wr) (fun _ l _ => (q - intOf l).toNat)
  case atStart => exact ⟨0, lo, [], Lib.hid (by have := HLO.out; omega), Lib.hid rfl, by omega, rfl, HOWN0.out, (Below.refl _ _).alloc (Nat.le_refl _) _⟩
  case round =>
    obtain ⟨k, z, L, HZK, HLK, hk, rfl, hown, hb⟩ := hrel
    have HO := Lib.hid hown
    have HB := Lib.hid hb
    clear hown hb
    by_cases hlt : k < K
    · have hzq : z < q := by have := HZK.out; have := HKK.out; omega
      have hzb : -3 ≤ z ∧ z ≤ 3 := by have := HZK.out; have := HKK.out; omega
      go_wp2_with fail
      go_loopw [14, 16] (fun t b wr => ∃ (i : Nat) (x : Int) (M : List Tl), Hid (x = m + (i : Int)) ∧ Hid (M = lsL p q m u J I k ++ lsD p q z m u J i) ∧ i ≤ I ∧ b = .int .i64 x ∧ wr.ownsRow W0.heap.size 56 4 t M.length (flat M) ∧ Below W0.heap.size W0 wr) (fun _ b _ => (n + 1 - intOf b).toNat)
      case atStart => exact ⟨0, m, L, Lib.hid (by omega), Lib.hid (by rw [HLK.out]; simp [lsD]), by omega, rfl, HO.out, HB.out⟩
      case round =>
        obtain ⟨i, x, M, HXI, HMI, hi, rfl, hown, hb⟩ := hrel
        clear HO HB
        have HO := Lib.hid hown
        have HB := Lib.hid hb
        clear hown hb
        by_cases hlt2 : i < I
        · have hxn : x ≤ n := by have := HXI.out; have := HKI.out; omega
          have hx0 : 0 ≤ x := by have := HXI.out; omega
          go_wp2_with fail
          go_loopw [14, 17] (fun t b wr => ∃ (j : Nat) (y : Int) (N : List Tl), Hid (y = u + (j : Int)) ∧ Hid (N = lsL p q m u J I k ++ lsD p q z m u J i ++ lsE p q x z u j) ∧ j ≤ J ∧ b = .int .i64 y ∧ wr.ownsRow W0.heap.size 56 4 t N.length (flat N) ∧ Below W0.heap.size W0 wr) (fun _ b _ => (v + 1 - intOf b).toNat)
          case atStart => exact ⟨0, u, M, Lib.hid (by omega), Lib.hid (by rw [HMI.out]; simp [lsE]), by omega, rfl, HO.out, HB.out⟩
          case round =>
            obtain ⟨j, y, N, HYJ, HNJ, hj, rfl, hown, hb⟩ := hrel
            clear HO HB
            have HO := Lib.hid hown
            have HB := Lib.hid hb
            clear hown hb
            by_cases hlt3 : j < J
            · have hyv : y ≤ v := by have := HYJ.out; have := HKJ.out; omega
              have hy0 : 0 ≤ y := by have := HYJ.out; omega
              have hstep : lsE p q x z u (j + 1) = lsE p q x z u j ++ (if mulOk p q x y z = true then [mulT p q x y z] else []) := by rw [HYJ.out]; rfl
              have hmt : mulT p q x y z = (z + (p - 1), x, p * x + z - q * y + (p - 1), y) := rfl
              have hmo : mulOk p q x y z = decide (1 - p ≤ p * x + z - q * y ∧ p * x + z - q * y ≤ q - 1) := rfl
              have m1 := mul35 hp (x := x) ⟨hx0, by omega⟩
              have m2 := mul35 hq (x := y) ⟨hy0, by omega⟩
              obtain ⟨e1, he1⟩ : ∃ e, p * x = e := ⟨_, rfl⟩
              obtain ⟨e3, he3⟩ : ∃ e, q * y = e := ⟨_, rfl⟩
              have hw1 : IntKind.i64.wrap (p * x) = e1 := by rw [he1]; exact wrap_in _ (by omega)
              have hw3 : IntKind.i64.wrap (q * y) = e3 := by rw [he3]; exact wrap_in _ (by omega)
              rw [he1] at m1 hmt hmo
              rw [he3] at m2 hmt hmo
              obtain ⟨e2, he2⟩ : ∃ e, e1 + z = e := ⟨_, rfl⟩
              have hw2 : IntKind.i64.wrap (e1 + z) = e2 := by rw [he2]; exact wrap_in _ (by omega)
              obtain ⟨r, hr⟩ : ∃ e, e2 - e3 = e := ⟨_, rfl⟩
              have hw4 : IntKind.i64.wrap (e2 - e3) = r := by rw [hr]; exact wrap_in _ (by omega)
              have hrb : -100 ≤ r ∧ r ≤ 100 := by omega
              obtain ⟨s1, hs1⟩ : ∃ e, z + p = e := ⟨_, rfl⟩
              have hw5 : IntKind.i64.wrap (z + p) = s1 := by rw [hs1]; exact wrap_in _ (by omega)
              obtain ⟨s2, hs2⟩ : ∃ e, s1 - 1 = e := ⟨_, rfl⟩
              have hw6 : IntKind.i64.wrap (s1 - 1) = s2 := by rw [hs2]; exact wrap_in _ (by omega)
              obtain ⟨s3, hs3⟩ : ∃ e, r + p = e := ⟨_, rfl⟩
              have hw7 : IntKind.i64.wrap (r + p) = s3 := by rw [hs3]; exact wrap_in _ (by omega)
              obtain ⟨s4, hs4⟩ : ∃ e, s3 - 1 = e := ⟨_, rfl⟩
              have hw8 : IntKind.i64.wrap (s3 - 1) = s4 := by rw [hs4]; exact wrap_in _ (by omega)
              rw [he2, hr] at hmt hmo
              rw [show z + (p - 1) = s2 by omega, show r + (p - 1) = s4 by omega] at hmt
              have hin := fun W => l01In_any r lo q1 W
              rw [HLO.out, HQ1.out] at hmo
              rw [← hmo] at hin
              have HIN := Lib.hid hin
              have HBD := Lib.hid (lsL_bound (p := p) (q := q) (m := m) (u := u) (d := x) (l := z) (i := k) (j := i) (k := j) b6.1 b6.2.1 (by omega) (by omega) (by omega))
              rw [← HNJ.out] at HBD
              rw [hmt] at hstep
              have HST := Lib.hid hstep
              generalize mulOk p q x y z = ok at *
              clear hmt hmo he1 he2 he3 hr m1 m2 hrb hstep hs1 hs2 hs3 hs4 hin
              go_wp2_with fail
              refine (HIN.out _).mono ?_
              rintro e w2 ⟨rfl, rfl⟩
              clear hw1 hw2 hw3 hw4
              cases ok with
              | false =>
                have HEE := Lib.hid (show lsE p q x z u (j + 1) = lsE p q x z u j by rw [HST.out]; simp)
                clear hw5 hw6 hw7 hw8
                go_wp2_with fail
                go_roundw
                case rel => exact ⟨j + 1, y + 1, N, Lib.hid (by have := HYJ.out; omega), Lib.hid (by rw [HEE.out]; exact HNJ.out), by omega, by go_num, HO.out, HB.out⟩
                case measure => simp [intOf]; omega
              | true =>
                have HEE := Lib.hid (show lsE p q x z u (j + 1) = lsE p q x z u j ++ [(s2, x, s4, y)] by rw [HST.out]; simp)
                go_wp2_with (at_builtin; refine wpList_pushT rfl _ _ rfl W0.heap.size _ N.length _ rfl (HO.out.alloc _) w2.heap.size (s2, x, s4, y) rfl (heap_alloc_new w2 _) ?c1 ?c2 ?c3 ?_)
                case c1 => have := HBD.out; unfold maxLen; omega
                case c2 => have := HBD.out; omega
                case c3 => have := HB.out.size; simp; omega
                intro v' w4 hown' hgrow _
                rw [flatSnoc, ← lenSnoc N (s2, x, s4, y)] at hown'
                have O4 := Lib.hid hown'
                have B4 := Lib.hid ((HB.out.alloc HB.out.size _).grown hgrow (by have := HB.out.size; simp; omega) (fun j hj => (HO.out.lt j hj).1))
                clear hown' hgrow HO HB hw5 hw6 hw7 hw8
                go_wp2_with fail
                go_roundw
                case rel => exact ⟨j + 1, y + 1, N ++ [(s2, x, s4, y)], Lib.hid (by have := HYJ.out; omega), Lib.hid (by rw [HEE.out, HNJ.out]; simp only [List.append_assoc]), by omega, by go_num, O4.out, B4.out⟩
                case measure => simp [intOf]; omega
            · obtain rfl : j = J := by omega
              have hyv : ¬ y ≤ v := by have := HYJ.out; have := HKJ.out; omega
              have HEE := Lib.hid (show lsD p q z m u j (i + 1) = lsD p q z m u j i ++ lsE p q x z u j by rw [HXI.out]; rfl)
              go_wp2_with fail
              go_roundw
              case rel => exact ⟨i + 1, x + 1, N, Lib.hid (by have := HXI.out; omega), Lib.hid (by rw [HNJ.out, HEE.out]; simp only [List.append_assoc]), by omega, by go_num, HO.out, HB.out⟩
              case measure => simp [intOf]; omega
        · obtain rfl : i = I := by omega
          have hxn : ¬ x ≤ n := by have := HXI.out; have := HKI.out; omega
          have HEE := Lib.hid (show lsL p q m u J i (k + 1) = lsL p q m u J i k ++ lsD p q z m u J i by rw [HZK.out]; rfl)
          go_wp2_with fail
          go_roundw
          case rel => exact ⟨k + 1, z + 1, M, Lib.hid (by have := HZK.out; omega), Lib.hid (by rw [HMI.out, HEE.out]), by omega, by go_num, HO.out, HB.out⟩
          case measure => simp [intOf]; omega
    · obtain rfl : k = K := by omega
      have hzq : ¬ z < q := by have := HZK.out; have := HKK.out; omega
      have hLL : L.length ≤ 400 := by
        have := lsL_len (p := p) (q := q) (m := m) (u := u) (J := J) (I := I) k
        have h4 : k * (I * J) ≤ 5 * (6 * 6) := Nat.mul_le_mul b6.2.2 (Nat.mul_le_mul b6.1 b6.2.1)
        rw [HLK.out]
        omega
      obtain ⟨A2, cap2, rfl, htw⟩ := own_tw HO.out rfl
      have HTW := Lib.hid htw
      have hbr := HP.out.below HB.out HP.out.lt
      have HBF := Lib.hid (HE.out.trans (HB.out.mono HE.out.size))
      have HPR := Lib.hid hbr
      clear htw hbr
      by_cases h16 : 16 < L.length
      · have h163 : (16 : Int) < (L.length : Int) := by omega
        have q0 := HPR.out.rd 0 rfl
        have q1 := HPR.out.rd 1 rfl
        have z0 := HPR.out.frozen 0
        have z1 := HPR.out.frozen 1
        go_wp2_with fail
        unfold MulRes
        rw [if_neg (by rw [← HLK.out]; omega)]
        refine bodyPost_ret (v := .tuple #[.agg #[.int .i64 0, .slice none 0 0], .int .i64 3]) (by simp [results, Tryd.results28, go_sem, q0, q1, z0, z1]) rfl ⟨none, 0, rfl, ?_, fun h => absurd h (Nat.lt_irrefl _)⟩
        exact (HBF.out.setCell (by simp) _).setCell (by simp) _
      · have h163 : ¬ (16 : Int) < (L.length : Int) := by omega
        have hv1 : IntKind.i64.wrap (p + q) = p + q := wrap_in _ (by omega)
        have hv2 : IntKind.i64.wrap (p + q - 1) = p + q - 1 := wrap_in _ (by omega)
        have hv3 : IntKind.i64.wrap (n + 1) = n + 1 := wrap_in _ (by omega)
        have hv4 : IntKind.i64.wrap (v + 1) = v + 1 := wrap_in _ (by omega)
        go_wp2_with fail
        · have HX := Lib.hid (show mulC p q n v = v + 1 by unfold mulC; rw [if_pos h])
          refine (l01Made_any (v + 1) A2 L.length cap2 L wr (by omega) rfl HTW.out.tr).mono ?_
          rintro e w5 ⟨A5, cap5, rfl, hb5, htw5⟩
          have hbr := HPR.out.below hb5 HPR.out.lt
          have q0 := hbr.rd 0 rfl
          have q1 := hbr.rd 1 rfl
          have z0 := hbr.frozen 0
          have z1 := hbr.frozen 1
          have HBG := Lib.hid (HBF.out.trans (hb5.mono HBF.out.size))
          have HT5 := Lib.hid htw5
          have HS5 := Lib.hid HB.out.size
          have HS6 := Lib.hid HE.out.size
          clear hbr hb5 htw5
          go_wp2_with fail
          unfold MulRes
          rw [if_pos (by rw [← HLK.out]; omega), HX.out]
          refine bodyPost_ret (v := .tuple #[.agg #[.int .i64 (v + 1), .slice A5 (sortT L).length cap5], .int .i64 0]) (by simp [results, Tryd.results28, go_sem, q0, q1, z0, z1]) rfl ⟨A5, cap5, by rw [HLK.out], ?_, ?_⟩
          · exact (HBG.out.setCell (by simp) _).setCell (by simp) _
          · rw [← HLK.out]
            exact ((HT5.out.far (by show w.heap.size < wr.heap.size; have := HPR.out.lt; exact this) _).far (by show w.heap.size < wr.heap.size; have := HPR.out.lt; exact this) _).low HBF.out.size
        · have HX := Lib.hid (show mulC p q n v = n + 1 by unfold mulC; rw [if_neg (by omega), if_pos h])
          refine (l01Made_any (n + 1) A2 L.length cap2 L wr (by omega) rfl HTW.out.tr).mono ?_
          rintro e w5 ⟨A5, cap5, rfl, hb5, htw5⟩
          have hbr := HPR.out.below hb5 HPR.out.lt
          have q0 := hbr.rd 0 rfl
          have q1 := hbr.rd 1 rfl
          have z0 := hbr.frozen 0
          have z1 := hbr.frozen 1
          have HBG := Lib.hid (HBF.out.trans (hb5.mono HBF.out.size))
          have HT5 := Lib.hid htw5
          have HS5 := Lib.hid HB.out.size
          have HS6 := Lib.hid HE.out.size
          clear hbr hb5 htw5
          go_wp2_with fail
          unfold MulRes
          rw [if_pos (by rw [← HLK.out]; omega), HX.out]
          refine bodyPost_ret (v := .tuple #[.agg #[.int .i64 (n + 1), .slice A5 (sortT L).length cap5], .int .i64 0]) (by simp [results, Tryd.results28, go_sem, q0, q1, z0, z1]) rfl ⟨A5, cap5, by rw [HLK.out], ?_, ?_⟩
          · exact (HBG.out.setCell (by simp) _).setCell (by simp) _
          · rw [← HLK.out]
            exact ((HT5.out.far (by show w.heap.size < wr.heap.size; have := HPR.out.lt; exact this) _).far (by show w.heap.size < wr.heap.size; have := HPR.out.lt; exact this) _).low HBF.out.size
        · have HX := Lib.hid (show mulC p q n v = p + q - 1 by unfold mulC; rw [if_neg (by omega), if_neg (by omega)])
          refine (l01Made_any (p + q - 1) A2 L.length cap2 L wr (by omega) rfl HTW.out.tr).mono ?_
          rintro e w5 ⟨A5, cap5, rfl, hb5, htw5⟩
          have hbr := HPR.out.below hb5 HPR.out.lt
          have q0 := hbr.rd 0 rfl
          have q1 := hbr.rd 1 rfl
          have z0 := hbr.frozen 0
          have z1 := hbr.frozen 1
          have HBG := Lib.hid (HBF.out.trans (hb5.mono HBF.out.size))
          have HT5 := Lib.hid htw5
          have HS5 := Lib.hid HB.out.size
          have HS6 := Lib.hid HE.out.size
          clear hbr hb5 htw5
          go_wp2_with fail
          unfold MulRes
          rw [if_pos (by rw [← HLK.out]; omega), HX.out]
          refine bodyPost_ret (v := .tuple #[.agg #[.int .i64 (p + q - 1), .slice A5 (sortT L).length cap5], .int .i64 0]) (by simp [results, Tryd.results28, go_sem, q0, q1, z0, z1]) rfl ⟨A5, cap5, by rw [HLK.out], ?_, ?_⟩
          · exact (HBG.out.setCell (by simp) _).setCell (by simp) _
          · rw [← HLK.out]
            exact ((HT5.out.far (by show w.heap.size < wr.heap.size; have := HPR.out.lt; exact this) _).far (by show w.heap.size < wr.heap.size; have := HPR.out.lt; exact this) _).low HBF.out.size
end Go.Proofs.YtnagpndclagfaaaDoor
