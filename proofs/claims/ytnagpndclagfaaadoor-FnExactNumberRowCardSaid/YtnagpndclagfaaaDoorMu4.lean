/- MultiplyingSet: the program's door. -/
import Derived.Test.YtnagpndclagfaaaDoorMu3
namespace Go.Proofs.YtnagpndclagfaaaDoor
set_option linter.unusedVariables false
set_option linter.unusedSimpArgs false
open Go.RowKit Go.Sort

theorem areWithin4 (lo hi a b c d : Int) (w : World) : Calls Tryd.prog 25 #[.int .i64 lo, .int .i64 hi, .slice (some ⟨w.heap.size, 0, none⟩) 4 4] (w.alloc (.cells #[.int .i64 a, .int .i64 b, .int .i64 c, .int .i64 d] 2)) fun e w' => e = .returned (.bool (withinB lo hi [a, b, c, d])) ∧ w' = w.alloc (.cells #[.int .i64 a, .int .i64 b, .int .i64 c, .int .i64 d] 2) := by
  exact areWithin_raw lo hi _ 4 4 [a, b, c, d] _ (by omega) rfl (fun _ => ⟨_, _, rfl, fun k hk => by
    obtain rfl | rfl | rfl | rfl : k = 0 ∨ k = 1 ∨ k = 2 ∨ k = 3 := by omega
    all_goals simp [go_sem]⟩)
theorem mulArgs_impl (p q m n u v : Int) : mulArgs p q m n u v = (facB p q && withinB 0 5 [m, n, u, v] && !decide (n < m) && !decide (v < u)) := by
  rw [Bool.eq_iff_iff]
  simp [mulArgs, facB, withinB]
  omega
set_option maxRecDepth 100000 in
set_option maxHeartbeats 4000000 in
theorem implMulSet_any (p q m n u v : Int) (w : World) : Calls Tryd.prog 46 #[.int .i64 p, .int .i64 q, .int .i64 m, .int .i64 n, .int .i64 u, .int .i64 v] w (MulDoor p q m n u v w) := by
  have htl : mulArgs p q m n u v = true → ∀ W, Calls Tryd.prog 55 #[.agg #[.int .i64 p, .int .i64 q], .int .i64 m, .int .i64 n, .int .i64 u, .int .i64 v] W _ := fun h W => by
    simp only [mulArgs, facB, Bool.and_eq_true, decide_eq_true_eq] at h
    exact tiles_any p q m n u v (n - m + 1).toNat (v - u + 1).toNat (p + q - 1).toNat W (by omega) (by omega) (by omega) (by omega) (by omega) (by omega) (by omega) (by omega) (by omega)
  have hbd : mulArgs p q m n u v = true → (lsA p q m u (p + q - 1).toNat (v - u + 1).toNat (n - m + 1).toNat).length ≤ 400 ∧ (1 ≤ p ∧ p ≤ 3) ∧ (1 ≤ q ∧ q ≤ 3) ∧ (0 ≤ n ∧ n ≤ 5) ∧ (0 ≤ v ∧ v ≤ 5) := fun h => by
    simp only [mulArgs, facB, Bool.and_eq_true, decide_eq_true_eq] at h
    refine ⟨?_, by omega, by omega, by omega, by omega⟩
    have h1 := lsA_len (p := p) (q := q) (m := m) (u := u) (K := (p + q - 1).toNat) (J := (v - u + 1).toNat) (n - m + 1).toNat
    have h4 : (n - m + 1).toNat * ((v - u + 1).toNat * (p + q - 1).toNat) ≤ 6 * (6 * 5) := Nat.mul_le_mul (by omega) (Nat.mul_le_mul (by omega) (by omega))
    omega
  have HSS := Lib.hid (sort_both (p := p) (q := q) (m := m) (u := u) (K := (p + q - 1).toNat) (J := (v - u + 1).toNat) (I := (n - m + 1).toNat))
  have HLL := Lib.hid (len_both (p := p) (q := q) (m := m) (u := u) (K := (p + q - 1).toNat) (J := (v - u + 1).toNat) (I := (n - m + 1).toNat))
  have HND := Lib.hid (nodup_lsA (p := p) (q := q) (m := m) (u := u) (K := (p + q - 1).toNat) (J := (v - u + 1).toNat) (n - m + 1).toNat)
  have HLN := Lib.hid (sortT_nodup_len HND.out)
  have hq2 : mulArgs p q m n u v = false → ∀ e w', SetRes w 0 [] 2 e w' → MulDoor p q m n u v w e w' := fun h e w' hs => by
    unfold MulDoor
    rw [if_neg (by rw [h]; decide)]
    exact hs
  have hq0 : mulArgs p q m n u v = true → ∀ e w', MulRes p q n v (mulL p q m n u v) w e w' → MulDoor p q m n u v w e w' := fun h e w' hs => by
    unfold MulDoor
    rw [if_pos h]
    exact hs
  unfold mulL at hq0
  generalize MulDoor p q m n u v w = Q at *
  rw [mulArgs_impl] at htl hbd hq2 hq0
  have HQ2 := Lib.hid hq2
  have HQ0 := Lib.hid hq0
  clear hq2 hq0
  have HTL := Lib.hid htl
  have HBD := Lib.hid hbd
  clear htl hbd
  generalize lsA p q m u (p + q - 1).toNat (v - u + 1).toNat (n - m + 1).toNat = L at *
  generalize lsL p q m u (v - u + 1).toNat (n - m + 1).toNat (p + q - 1).toNat = L2 at *
  have h1 := fun W => areWithin2 1 3 p q W
  rw [show decide (1 ≤ p ∧ p ≤ 3 ∧ 1 ≤ q ∧ q ≤ 3) = facB p q from rfl] at h1
  have H1 := Lib.hid h1
  have H2 := Lib.hid (fun W => areWithin4 0 5 m n u v W)
  clear h1
  generalize facB p q = o1 at *
  generalize withinB 0 5 [m, n, u, v] = o2 at *
  have HX := Lib.hid (((Ext.refl w).alloc (Obj.cells #[.int .i64 0, .slice none 0 0] 32)).alloc (Obj.cells #[.int .i64 p, .int .i64 q] 2))
  have HX2 := Lib.hid (HX.out.alloc (Obj.cells #[.int .i64 m, .int .i64 n, .int .i64 u, .int .i64 v] 2))
  go_enter Tryd.func46, Tryd.ntmps46
  go_wp2_with fail
  have h1 := H1.out (w.alloc (Obj.cells #[.int .i64 0, .slice none 0 0] 32))
  simp only [World.size_alloc] at h1
  refine h1.mono ?_
  rintro e w' ⟨rfl, rfl⟩
  clear h1
  cases o1 with
  | false =>
    have HXX := Lib.hid (HX.out.below (Nat.le_refl _))
    go_wp2_with fail
    refine bodyPost_ret (v := .tuple #[.agg #[.int .i64 0, .slice none 0 0], .int .i64 2]) (by simp [results, Tryd.results46, go_sem]) rfl (HQ2.out (by first | rfl | trivial | decide | simp [*]) _ _ ⟨none, 0, rfl, HXX.out, fun h => absurd h (Nat.lt_irrefl _)⟩)
  | true =>
    go_wp2_with fail
    have h2 := H2.out ((w.alloc (Obj.cells #[.int .i64 0, .slice none 0 0] 32)).alloc (Obj.cells #[.int .i64 p, .int .i64 q] 2))
    simp only [World.size_alloc] at h2
    refine h2.mono ?_
    rintro e w' ⟨rfl, rfl⟩
    clear h2
    have HXX := Lib.hid (HX2.out.below (Nat.le_refl _))
    cases o2 with
    | false =>
      go_wp2_with fail
      refine bodyPost_ret (v := .tuple #[.agg #[.int .i64 0, .slice none 0 0], .int .i64 2]) (by simp [results, Tryd.results46, go_sem]) rfl (HQ2.out (by first | rfl | trivial | decide | simp [*]) _ _ ⟨none, 0, rfl, HXX.out, fun h => absurd h (Nat.lt_irrefl _)⟩)
    | true =>
      by_cases hmn : n < m
      · have hd : decide (n < m) = true := by simpa using hmn
        clear HTL HBD HQ0
        go_wp2_with fail
        refine bodyPost_ret (v := .tuple #[.agg #[.int .i64 0, .slice none 0 0], .int .i64 2]) (by simp [results, Tryd.results46, go_sem]) rfl (HQ2.out (by first | rfl | trivial | decide | simp [*]) _ _ ⟨none, 0, rfl, HXX.out, fun h => absurd h (Nat.lt_irrefl _)⟩)
      · have hd : decide (n < m) = false := by simpa using hmn
        rw [hd] at HTL HBD HQ0
        by_cases huv : v < u
        · have hd2 : decide (v < u) = true := by simpa using huv
          clear HTL HBD HQ0
          go_wp2_with fail
          refine bodyPost_ret (v := .tuple #[.agg #[.int .i64 0, .slice none 0 0], .int .i64 2]) (by simp [results, Tryd.results46, go_sem]) rfl (HQ2.out (by first | rfl | trivial | decide | simp [*]) _ _ ⟨none, 0, rfl, HXX.out, fun h => absurd h (Nat.lt_irrefl _)⟩)
        · have hd2 : decide (v < u) = false := by simpa using huv
          rw [hd2] at HTL HBD HQ0
          have HTL2 := Lib.hid (HTL.out (by first | rfl | trivial | decide))
          obtain ⟨hbd, hpp, hqq, hnn, hvv⟩ := HBD.out (by first | rfl | trivial | decide)
          have HQ4 := Lib.hid (HQ0.out (by first | rfl | trivial | decide))
          clear HTL HBD hd hd2 HQ0 HQ2
          have hW := Blk.new w 32 #[.int .i64 0, .slice none 0 0]
          have HR := Lib.hid (hW.ext (((Ext.refl _).alloc (Obj.cells #[.int .i64 p, .int .i64 q] 2)).alloc (Obj.cells #[.int .i64 m, .int .i64 n, .int .i64 u, .int .i64 v] 2)))
          clear hW
          generalize ((w.alloc (Obj.cells #[.int .i64 0, .slice none 0 0] 32)).alloc (Obj.cells #[.int .i64 p, .int .i64 q] 2)).alloc (Obj.cells #[.int .i64 m, .int .i64 n, .int .i64 u, .int .i64 v] 2) = W3 at *
          go_wp2_with fail
          refine (HTL2.out _).mono ?_
          rintro e w3 ⟨R, rfl, hb3, hown⟩
          obtain ⟨A, cap, rfl, htw⟩ := own_tw hown rfl
          have hs3 := hb3.size
          have hlt := HR.out.lt
          have HB3 := Lib.hid (HXX.out.trans (hb3.mono HXX.out.size))
          have HR3 := Lib.hid (HR.out.below hb3 HR.out.lt)
          have HO3 := Lib.hid hown
          clear hb3 htw hown
          have hv1 : IntKind.i64.wrap (p + q) = p + q := wrap_in _ (by omega)
          have hv2 : IntKind.i64.wrap (p + q - 1) = p + q - 1 := wrap_in _ (by omega)
          have hv3 : IntKind.i64.wrap (n + 1) = n + 1 := wrap_in _ (by omega)
          have hv4 : IntKind.i64.wrap (v + 1) = v + 1 := wrap_in _ (by omega)
          by_cases h16 : L.length ≤ 16
          · have h163 : ¬ (16 : Int) < (L.length : Int) := by omega
            go_wp2_with fail
            · have HC := Lib.hid (show mulC p q n v = v + 1 by unfold mulC; rw [if_pos h])
              have HSR := Lib.hid (sortedSet_any (v + 1) L.length cap A L W3.heap.size w3 rfl (by omega) hs3 HO3.out)
              rw [sortM_eq HND.out] at HSR
              refine HSR.out.mono ?_
              rintro e w4 ⟨rfl, hown4, hb4⟩
              rw [← HLN.out] at hown4
              obtain ⟨A5, cap5, hv5, htw5⟩ := own_tw hown4 rfl
              cases hv5
              have hbr := HR3.out.below hb4 hlt
              have q0 := hbr.rd 0 rfl
              have q1 := hbr.rd 1 rfl
              have z0 := hbr.frozen 0
              have z1 := hbr.frozen 1
              have HBF := Lib.hid (HB3.out.trans (hb4.mono (by omega)))
              have HT5 := Lib.hid htw5
              clear hbr hown4 hb4 htw5
              go_wp2_with fail
              refine bodyPost_ret (v := .tuple #[.agg #[.int .i64 (v + 1), .slice A L.length cap], .int .i64 0]) (by simp [results, Tryd.results46, go_sem, q0, q1, z0, z1]) rfl (HQ4.out _ _ ?_)
              unfold MulRes
              rw [if_pos (by rw [← HLL.out]; exact h16), HC.out]
              refine ⟨A, cap, by rw [← HLN.out, HSS.out], ?_, ?_⟩
              · exact (HBF.out.setCell (by simp) _).setCell (by simp) _
              · rw [← HSS.out]
                exact ((HT5.out.far (by show w.heap.size < W3.heap.size; exact hlt) _).far (by show w.heap.size < W3.heap.size; exact hlt) _).low (by omega)
            · have HC := Lib.hid (show mulC p q n v = n + 1 by unfold mulC; rw [if_neg (by omega), if_pos h])
              have HSR := Lib.hid (sortedSet_any (n + 1) L.length cap A L W3.heap.size w3 rfl (by omega) hs3 HO3.out)
              rw [sortM_eq HND.out] at HSR
              refine HSR.out.mono ?_
              rintro e w4 ⟨rfl, hown4, hb4⟩
              rw [← HLN.out] at hown4
              obtain ⟨A5, cap5, hv5, htw5⟩ := own_tw hown4 rfl
              cases hv5
              have hbr := HR3.out.below hb4 hlt
              have q0 := hbr.rd 0 rfl
              have q1 := hbr.rd 1 rfl
              have z0 := hbr.frozen 0
              have z1 := hbr.frozen 1
              have HBF := Lib.hid (HB3.out.trans (hb4.mono (by omega)))
              have HT5 := Lib.hid htw5
              clear hbr hown4 hb4 htw5
              go_wp2_with fail
              refine bodyPost_ret (v := .tuple #[.agg #[.int .i64 (n + 1), .slice A L.length cap], .int .i64 0]) (by simp [results, Tryd.results46, go_sem, q0, q1, z0, z1]) rfl (HQ4.out _ _ ?_)
              unfold MulRes
              rw [if_pos (by rw [← HLL.out]; exact h16), HC.out]
              refine ⟨A, cap, by rw [← HLN.out, HSS.out], ?_, ?_⟩
              · exact (HBF.out.setCell (by simp) _).setCell (by simp) _
              · rw [← HSS.out]
                exact ((HT5.out.far (by show w.heap.size < W3.heap.size; exact hlt) _).far (by show w.heap.size < W3.heap.size; exact hlt) _).low (by omega)
            · have HC := Lib.hid (show mulC p q n v = p + q - 1 by unfold mulC; rw [if_neg (by omega), if_neg (by omega)])
              have HSR := Lib.hid (sortedSet_any (p + q - 1) L.length cap A L W3.heap.size w3 rfl (by omega) hs3 HO3.out)
              rw [sortM_eq HND.out] at HSR
              refine HSR.out.mono ?_
              rintro e w4 ⟨rfl, hown4, hb4⟩
              rw [← HLN.out] at hown4
              obtain ⟨A5, cap5, hv5, htw5⟩ := own_tw hown4 rfl
              cases hv5
              have hbr := HR3.out.below hb4 hlt
              have q0 := hbr.rd 0 rfl
              have q1 := hbr.rd 1 rfl
              have z0 := hbr.frozen 0
              have z1 := hbr.frozen 1
              have HBF := Lib.hid (HB3.out.trans (hb4.mono (by omega)))
              have HT5 := Lib.hid htw5
              clear hbr hown4 hb4 htw5
              go_wp2_with fail
              refine bodyPost_ret (v := .tuple #[.agg #[.int .i64 (p + q - 1), .slice A L.length cap], .int .i64 0]) (by simp [results, Tryd.results46, go_sem, q0, q1, z0, z1]) rfl (HQ4.out _ _ ?_)
              unfold MulRes
              rw [if_pos (by rw [← HLL.out]; exact h16), HC.out]
              refine ⟨A, cap, by rw [← HLN.out, HSS.out], ?_, ?_⟩
              · exact (HBF.out.setCell (by simp) _).setCell (by simp) _
              · rw [← HSS.out]
                exact ((HT5.out.far (by show w.heap.size < W3.heap.size; exact hlt) _).far (by show w.heap.size < W3.heap.size; exact hlt) _).low (by omega)
          · have h163 : (16 : Int) < (L.length : Int) := by omega
            have q0 := HR3.out.rd 0 rfl
            have q1 := HR3.out.rd 1 rfl
            have z0 := HR3.out.frozen 0
            have z1 := HR3.out.frozen 1
            go_wp2_with fail
            refine bodyPost_ret (v := .tuple #[.agg #[.int .i64 0, .slice none 0 0], .int .i64 3]) (by simp [results, Tryd.results46, go_sem, q0, q1, z0, z1]) rfl (HQ4.out _ _ ?_)
            unfold MulRes
            rw [if_neg (by rw [← HLL.out]; exact h16)]
            refine ⟨none, 0, rfl, ?_, fun h => absurd h (Nat.lt_irrefl _)⟩
            exact (HB3.out.setCell (by simp) _).setCell (by simp) _
end Go.Proofs.YtnagpndclagfaaaDoor
