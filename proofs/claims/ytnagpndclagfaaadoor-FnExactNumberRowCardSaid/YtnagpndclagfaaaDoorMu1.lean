/- Multiplying sets: the program's list of tiles. -/
import Derived.Test.YtnagpndclagfaaaDoorMu0
import Derived.Test.YtnagpndclagfaaaDoorBa1
import Derived.Test.YtnagpndclagfaaaDoorAppT
import Derived.Test.YtnagpndclagfaaaDoorSortF
namespace Go.Proofs.YtnagpndclagfaaaDoor
set_option linter.unusedVariables false
set_option linter.unusedSimpArgs false
open Go.RowKit Go.Sort

set_option maxHeartbeats 1000000 in
theorem isCarry_any (p q r : Int) (w : World) (hp : 1 ≤ p ∧ p ≤ 3) (hq : 1 ≤ q ∧ q ≤ 3) :
    Calls Tryd.prog 58 #[.agg #[.int .i64 p, .int .i64 q], .int .i64 r] w fun e w' => e = .returned (.bool (decide (1 - p ≤ r ∧ r ≤ q - 1))) ∧ Ext w w' := by
  obtain ⟨lo, hlo⟩ : ∃ x, 1 - p = x := ⟨_, rfl⟩
  obtain ⟨hi, hhi⟩ : ∃ x, q - 1 = x := ⟨_, rfl⟩
  have h1 : IntKind.i64.wrap (1 - p) = lo := by rw [hlo]; exact wrap_in _ (by omega)
  have h2 : IntKind.i64.wrap (q - 1) = hi := by rw [hhi]; exact wrap_in _ (by omega)
  rw [hlo, hhi]
  clear hlo hhi
  have HC := Lib.hid (areWithin1 lo hi r (w.alloc (Obj.cells #[.int .i64 p, .int .i64 q] 50)))
  generalize decide (lo ≤ r ∧ r ≤ hi) = d at HC ⊢
  go_enter Tryd.func58, Tryd.ntmps58
  go_wp2_with fail
  have HC' := HC.out
  simp only [World.size_alloc] at HC'
  refine HC'.mono ?_
  rintro e w1 ⟨rfl, rfl⟩
  clear HC'
  go_wp2_with fail
  go_ret
  exact ⟨rfl, ((Ext.refl w).alloc _).alloc _⟩
set_option maxHeartbeats 1000000 in
theorem mulTile_any (p q a b l r : Int) (w : World) (hp : 1 ≤ p ∧ p ≤ 3) (hq : 1 ≤ q ∧ q ≤ 3) (hl : -10 ≤ l ∧ l ≤ 10) (hr : -100 ≤ r ∧ r ≤ 100) :
    Calls Tryd.prog 47 #[.agg #[.int .i64 p, .int .i64 q], .int .i64 l, .int .i64 a, .int .i64 r, .int .i64 b] w fun e w' => e = .returned (tv (l + (p - 1), a, r + (p - 1), b)) ∧ Below w.heap.size w w' := by
  obtain ⟨s, hs⟩ : ∃ x, p - 1 = x := ⟨_, rfl⟩
  rw [hs]
  obtain ⟨l2, hl2⟩ : ∃ x, l + s = x := ⟨_, rfl⟩
  obtain ⟨r2, hr2⟩ : ∃ x, r + s = x := ⟨_, rfl⟩
  have h1 : IntKind.i64.wrap (p - 1) = s := by rw [hs]; exact wrap_in _ (by omega)
  have h2 : IntKind.i64.wrap (l + s) = l2 := by rw [hl2]; exact wrap_in _ (by omega)
  have h3 : IntKind.i64.wrap (r + s) = r2 := by rw [hr2]; exact wrap_in _ (by omega)
  rw [hl2, hr2]
  clear hs hl2 hr2
  unfold tv
  go_enter Tryd.func47, Tryd.ntmps47
  go_wp2_with fail
  refine bodyPost_ret (v := .agg #[.int .i64 l2, .int .i64 a, .int .i64 r2, .int .i64 b]) (by simp [results, Tryd.results47, go_sem]) rfl ⟨rfl, ?_⟩
  exact (((Ext.refl w).alloc _).alloc _).below (Nat.le_refl _)
theorem own_belowT {w w' : World} {base n size : Nat} {e : TypeId} {v : Value} {xs : List Value} (h : w.ownsRow base e size v n xs) (hx : Below w.heap.size w w') : w'.ownsRow base e size v n xs := by
  refine ⟨h.1, ?_⟩
  rcases h.2 with h0 | ⟨g, cap, cur, hv, hb, hg, r⟩
  · exact .inl h0
  · have hlt : g < w.heap.size := by
      rcases Nat.lt_or_ge g w.heap.size with hlt | hge
      · exact hlt
      · rw [Array.getElem?_eq_none hge] at hg; cases hg
    exact .inr ⟨g, cap, cur, hv, hb, (hx.block g hlt).trans hg, r⟩
theorem _root_.Go.World.ownsRow.low2 {w : World} {base base' n size : Nat} {e : TypeId} {v : Value} {xs : List Value} (h : w.ownsRow base e size v n xs) (hb : base' ≤ base) : w.ownsRow base' e size v n xs := by
  refine ⟨h.1, ?_⟩
  rcases h.2 with h0 | ⟨g, cap, cur, hv, h1, r⟩
  · exact .inl h0
  · exact .inr ⟨g, cap, cur, hv, Nat.le_trans hb h1, r⟩
theorem flatSnoc (L : List Tl) (t : Tl) : flat L ++ enc t = flat (L ++ [t]) := by simp [flat]
theorem lenSnoc (L : List Tl) (t : Tl) : (L ++ [t]).length = L.length + 1 := by simp
theorem mul35 {p x : Int} (hp : 1 ≤ p ∧ p ≤ 3) (hx : 0 ≤ x ∧ x ≤ 5) : 0 ≤ p * x ∧ p * x ≤ 15 := by
  constructor
  · exact Int.mul_nonneg (by omega) hx.1
  · calc p * x ≤ 3 * 5 := Int.mul_le_mul hp.2 hx.2 hx.1 (by omega)
      _ = 15 := rfl
theorem ls_bound {p q m u a b : Int} {K J i j k : Nat} (hK : K ≤ 5) (hJ : J ≤ 6) (hi : i ≤ 6) (hj : j ≤ 6) (hk : k ≤ 5) : (lsA p q m u K J i ++ lsB p q a u K j ++ lsI p q a b k).length ≤ 400 := by
  have h1 := lsA_len (p := p) (q := q) (m := m) (u := u) (K := K) (J := J) i
  have h2 := lsB_len (p := p) (q := q) (a := a) (u := u) (K := K) j
  have h3 := lsI_len (p := p) (q := q) (a := a) (b := b) k
  have h4 : i * (J * K) ≤ 6 * (6 * 5) := Nat.mul_le_mul hi (Nat.mul_le_mul hJ hK)
  have h5 : j * K ≤ 6 * 5 := Nat.mul_le_mul hj hK
  simp only [List.length_append]
  omega

set_option maxRecDepth 100000 in
set_option maxHeartbeats 2000000 in
theorem tiles_any (p q m n u v : Int) (I J K : Nat) (w : World) (hp : 1 ≤ p ∧ p ≤ 3) (hq : 1 ≤ q ∧ q ≤ 3) (hm : 0 ≤ m) (hn : n ≤ 5) (hu : 0 ≤ u) (hv : v ≤ 5) (hI : (I : Int) = n - m + 1) (hJ : (J : Int) = v - u + 1) (hK : (K : Int) = p + q - 1) :
    Calls Tryd.prog 55 #[.agg #[.int .i64 p, .int .i64 q], .int .i64 m, .int .i64 n, .int .i64 u, .int .i64 v] w fun e w' => ∃ R, e = .returned R ∧ Below w.heap.size w w' ∧ w'.ownsRow w.heap.size 56 4 R (lsA p q m u K J I).length (flat (lsA p q m u K J I)) := by
  have HKI := Lib.hid hI
  have HKJ := Lib.hid hJ
  have HKK := Lib.hid hK
  have HCY := Lib.hid (fun r W => isCarry_any p q r W hp hq)
  have HTI := Lib.hid (fun a b l r W hl hr => mulTile_any p q a b l r W hp hq hl hr)
  have b6 : I ≤ 6 ∧ J ≤ 6 ∧ K ≤ 5 := by omega
  clear hI hJ hK
  go_enter Tryd.func55, Tryd.ntmps55
  go_wp2_with fail
  obtain ⟨W0, hW0⟩ : ∃ W0, w.alloc (Obj.cells #[.int .i64 p, .int .i64 q] 50) = W0 := ⟨_, rfl⟩
  have hE : Below w.heap.size w W0 := by rw [← hW0]; exact ((Ext.refl w).alloc _).below (Nat.le_refl _)
  have hP0 : Blk W0 w.heap.size 50 #[.int .i64 p, .int .i64 q] := by rw [← hW0]; exact Blk.new w _ _
  rw [hW0]
  clear hW0
  have HE := Lib.hid hE
  have HP := Lib.hid hP0
  clear hE hP0
  go_loopw [11, 12] (fun t a wr => ∃ (i : Nat) (x : Int) (L : List Tl), Hid (x = m + (i : Int)) ∧ Hid (L = lsA p q m u K J i) ∧ i ≤ I ∧ a = .int .i64 x ∧ wr.ownsRow W0.heap.size 56 4 t L.length (flat L) ∧ Below W0.heap.size W0 wr) (fun _ a _ => (n + 1 - intOf a).toNat)
  case atStart => exact ⟨0, m, [], Lib.hid (by omega), Lib.hid rfl, by omega, rfl, World.ownsRow_nil _ _ _ _, Below.refl _ _⟩
  case round =>
    obtain ⟨i, x, L, HXI, HLI, hi, rfl, hown, hb⟩ := hrel
    have HO := Lib.hid hown
    have HB := Lib.hid hb
    clear hown hb
    by_cases hlt : i < I
    · have hxn : x ≤ n := by have := HXI.out; have := HKI.out; omega
      have hx0 : 0 ≤ x := by have := HXI.out; omega
      go_wp2_with fail
      go_loopw [11, 13] (fun t b wr => ∃ (j : Nat) (y : Int) (M : List Tl), Hid (y = u + (j : Int)) ∧ Hid (M = lsA p q m u K J i ++ lsB p q x u K j) ∧ j ≤ J ∧ b = .int .i64 y ∧ wr.ownsRow W0.heap.size 56 4 t M.length (flat M) ∧ Below W0.heap.size W0 wr) (fun _ b _ => (v + 1 - intOf b).toNat)
      case atStart => exact ⟨0, u, L, Lib.hid (by omega), Lib.hid (by rw [HLI.out]; simp [lsB]), by omega, rfl, HO.out, HB.out⟩
      case round =>
        obtain ⟨j, y, M, HYJ, HMJ, hj, rfl, hown, hb⟩ := hrel
        clear HO HB
        have HO := Lib.hid hown
        have HB := Lib.hid hb
        have hP1 := HP.out.below hb HP.out.lt
        have p0 := hP1.rd 0 rfl
        have p1 := hP1.rd 1 rfl
        clear hown hb hP1
        by_cases hlt2 : j < J
        · have hyv : y ≤ v := by have := HYJ.out; have := HKJ.out; omega
          have hy0 : 0 ≤ y := by have := HYJ.out; omega
          obtain ⟨lo, hlo⟩ : ∃ lo, 1 - p = lo := ⟨_, rfl⟩
          have hl0 : IntKind.i64.wrap (1 - p) = lo := by rw [hlo]; exact wrap_in _ (by omega)
          have HLO := Lib.hid hlo
          clear hlo
          go_wp2_with fail
          clear hl0 p0 p1
          go_loopw [11, 14] (fun t l wr => ∃ (k : Nat) (z : Int) (N : List Tl), Hid (z = 1 - p + (k : Int)) ∧ Hid (N = lsA p q m u K J i ++ lsB p q x u K j ++ lsI p q x y k) ∧ k ≤ K ∧ l = .int .i64 z ∧ wr.ownsRow W0.heap.size 56 4 t N.length (flat N) ∧ Below W0.heap.size W0 wr) (fun _ l _ => (q - intOf l).toNat)
          case atStart => exact ⟨0, lo, M, Lib.hid (by have := HLO.out; omega), Lib.hid (by rw [HMJ.out]; simp [lsI]), by omega, rfl, HO.out, HB.out⟩
          case round =>
            obtain ⟨k, z, N, HZK, HNK, hk, rfl, hown, hb⟩ := hrel
            clear HO HB
            have HO := Lib.hid hown
            have HB := Lib.hid hb
            have hP1 := HP.out.below hb HP.out.lt
            have p0 := hP1.rd 0 rfl
            have p1 := hP1.rd 1 rfl
            by_cases hlt3 : k < K
            · have hzq : z < q := by have := HZK.out; have := HKK.out; omega
              have hzb : -3 ≤ z ∧ z ≤ 3 := by have := HZK.out; have := HKK.out; omega
              have hstep : lsI p q x y (k + 1) = lsI p q x y k ++ (if mulOk p q x y z = true then [mulT p q x y z] else []) := by rw [HZK.out]; rfl
              have hmt : mulT p q x y z = (z + (p - 1), x, p * x + z - q * y + (p - 1), y) := rfl
              have hmo : mulOk p q x y z = decide (1 - p ≤ p * x + z - q * y ∧ p * x + z - q * y ≤ q - 1) := rfl
              have m1 := mul35 hp (x := x) ⟨hx0, by omega⟩
              have m2 := mul35 hq (x := y) ⟨hy0, by omega⟩
              obtain ⟨e1, he1⟩ : ∃ e, p * x = e := ⟨_, rfl⟩
              obtain ⟨e3, he3⟩ : ∃ e, q * y = e := ⟨_, rfl⟩
              have hw1 : IntKind.i64.wrap (p * x) = e1 := by rw [he1]; exact wrap_in _ (by omega)
              have hw3 : IntKind.i64.wrap (q * y) = e3 := by rw [he3]; exact wrap_in _ (by omega)
              rw [he1] at m1 hmt hmo
              rw [he3] at m2 hmt hmo
              obtain ⟨e2, he2⟩ : ∃ e, e1 + z = e := ⟨_, rfl⟩
              have hw2 : IntKind.i64.wrap (e1 + z) = e2 := by rw [he2]; exact wrap_in _ (by omega)
              obtain ⟨r, hr⟩ : ∃ e, e2 - e3 = e := ⟨_, rfl⟩
              have hw4 : IntKind.i64.wrap (e2 - e3) = r := by rw [hr]; exact wrap_in _ (by omega)
              have hrb : -100 ≤ r ∧ r ≤ 100 := by omega
              rw [he2, hr] at hmt hmo
              have HCY1 := Lib.hid (fun W => HCY.out r W)
              rw [← hmo] at HCY1
              have HTI1 := Lib.hid (fun W => HTI.out x y z r W (by omega) hrb)
              rw [← hmt] at HTI1
              have HBD := Lib.hid (ls_bound (p := p) (q := q) (m := m) (u := u) (a := x) (b := y) (i := i) (j := j) (k := k) b6.2.2 b6.2.1 (by omega) (by omega) (by omega))
              rw [← HNK.out] at HBD
              have HST := Lib.hid hstep
              generalize mulOk p q x y z = ok at *
              generalize mulT p q x y z = t at *
              obtain ⟨t0, t1, t2, t3⟩ := t
              simp only [tv] at HTI1
              clear hown hb hP1 hmt hmo he1 he2 he3 hr m1 m2 hrb hstep
              go_wp2_with fail
              refine (HCY1.out _).mono ?_
              rintro e w2 ⟨rfl, hx2⟩
              have HB2 := Lib.hid (HB.out.trans (hx2.below HB.out.size))
              have HW2 := Lib.hid (hx2.below (Nat.le_refl _))
              replace p0 := hx2.cell_ p0
              replace p1 := hx2.cell_ p1
              clear hx2 hw1 hw2 hw3 hw4
              cases ok with
              | false =>
                have HE := Lib.hid (show lsI p q x y (k + 1) = lsI p q x y k by rw [HST.out]; simp)
                clear p0 p1
                go_wp2_with fail
                go_roundw
                case rel => exact ⟨k + 1, z + 1, N, Lib.hid (by have := HZK.out; omega), Lib.hid (by rw [HE.out]; exact HNK.out), by omega, by go_num, own_belowT HO.out HW2.out, HB2.out⟩
                case measure => simp [intOf]; omega
              | true =>
                have HE := Lib.hid (show lsI p q x y (k + 1) = lsI p q x y k ++ [(t0, t1, t2, t3)] by rw [HST.out]; simp)
                go_wp2_with fail
                refine (HTI1.out _).mono ?_
                rintro e w3 ⟨rfl, hb3⟩
                have HB3 := Lib.hid (HB2.out.trans (hb3.mono HB2.out.size))
                have HO3 := Lib.hid (own_belowT HO.out (HW2.out.trans (hb3.mono HW2.out.size)))
                clear hb3 p0 p1 HO HB HB2 HW2
                go_wp2_with (at_builtin; refine wpList_pushT rfl _ _ rfl W0.heap.size _ N.length _ rfl (HO3.out.alloc _) w3.heap.size (t0, t1, t2, t3) rfl (heap_alloc_new w3 _) ?c1 ?c2 ?c3 ?_)
                case c1 => have := HBD.out; unfold maxLen; omega
                case c2 => have := HBD.out; omega
                case c3 => have := HB3.out.size; simp; omega
                intro v' w4 hown' hgrow _
                rw [flatSnoc, ← lenSnoc N (t0, t1, t2, t3)] at hown'
                have O4 := Lib.hid hown'
                have B4 := Lib.hid ((HB3.out.alloc HB3.out.size _).grown hgrow (by have := HB3.out.size; simp; omega) (fun j hj => (HO3.out.lt j hj).1))
                clear hown' hgrow HO3 HB3
                go_wp2_with fail
                go_roundw
                case rel => exact ⟨k + 1, z + 1, N ++ [(t0, t1, t2, t3)], Lib.hid (by have := HZK.out; omega), Lib.hid (by rw [HE.out, HNK.out]; simp only [List.append_assoc]), by omega, by go_num, O4.out, B4.out⟩
                case measure => simp [intOf]; omega
            · obtain rfl : k = K := by omega
              have hzq : ¬ z < q := by have := HZK.out; have := HKK.out; omega
              have HE := Lib.hid (show lsB p q x u k (j + 1) = lsB p q x u k j ++ lsI p q x y k by rw [HYJ.out]; rfl)
              clear hown hb hP1
              go_wp2_with fail
              clear p0 p1
              go_roundw
              case rel => exact ⟨j + 1, y + 1, N, Lib.hid (by have := HYJ.out; omega), Lib.hid (by rw [HNK.out, HE.out]; simp only [List.append_assoc]), by omega, by go_num, HO.out, HB.out⟩
              case measure => simp [intOf]; omega
        · obtain rfl : j = J := by omega
          have hyv : ¬ y ≤ v := by have := HYJ.out; have := HKJ.out; omega
          have HE := Lib.hid (show lsA p q m u K j (i + 1) = lsA p q m u K j i ++ lsB p q x u K j by rw [HXI.out]; rfl)
          clear p0 p1
          go_wp2_with fail
          go_roundw
          case rel => exact ⟨i + 1, x + 1, M, Lib.hid (by have := HXI.out; omega), Lib.hid (by rw [HMJ.out, HE.out]), by omega, by go_num, HO.out, HB.out⟩
          case measure => simp [intOf]; omega
    · obtain rfl : i = I := by omega
      have hxn : ¬ x ≤ n := by have := HXI.out; have := HKI.out; omega
      go_wp2_with fail
      go_ret
      exact ⟨_, rfl, HE.out.trans (HB.out.mono HE.out.size), by rw [← HLI.out]; exact HO.out.low2 HE.out.size⟩
end Go.Proofs.YtnagpndclagfaaaDoor
