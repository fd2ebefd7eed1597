/- Intervals of digits: the program's ends. -/
import Derived.Test.YtplbjnnicmcpdaaIt1
namespace Go.Proofs.Ytplbjnnicmcpdaa
set_option linter.unusedVariables false
set_option linter.unusedSimpArgs false
open Go.RowKit Go.Sort

/-- The sum of the first k digits. -/
def nS (xs : List Int) : Nat → Nat
  | 0 => 0
  | k + 1 => nS xs k + (xs.getD k 0).toNat
def lowsF (xs : List Int) (n : Nat) : List Fq := (List.range n).map fun k => (nS xs (k + 1), k + 1)
def highsF (xs : List Int) (n : Nat) : List Fq := (List.range n).map fun k => (nS xs (k + 1) + 1, k + 1)
theorem lowsF_len (xs : List Int) (n : Nat) : (lowsF xs n).length = n := by simp [lowsF]
theorem highsF_len (xs : List Int) (n : Nat) : (highsF xs n).length = n := by simp [highsF]
theorem lowsF_at (xs : List Int) {n k : Nat} (hk : k < n) : (lowsF xs n).getD k F0 = (nS xs (k + 1), k + 1) := by simp [lowsF, List.getD, hk]
theorem highsF_at (xs : List Int) {n k : Nat} (hk : k < n) : (highsF xs n).getD k F0 = (nS xs (k + 1) + 1, k + 1) := by simp [highsF, List.getD, hk]
theorem lowsF_succ (xs : List Int) (n : Nat) : lowsF xs (n + 1) = lowsF xs n ++ [(nS xs (n + 1), n + 1)] := by simp [lowsF, List.range_succ]
theorem highsF_succ (xs : List Int) (n : Nat) : highsF xs (n + 1) = highsF xs n ++ [(nS xs (n + 1) + 1, n + 1)] := by simp [highsF, List.range_succ]
theorem nS_le {xs : List Int} (h : ∀ k, k < xs.length → 0 ≤ xs.getD k 0 ∧ xs.getD k 0 ≤ 5) : ∀ k, k ≤ xs.length → nS xs k ≤ 5 * k
  | 0, _ => by simp [nS]
  | k + 1, hk => by
    have := nS_le h k (by omega)
    have := h k (by omega)
    simp only [nS]
    omega
/-- The ends, as the program finds them. -/
def lowE (xs : List Int) : Fq := maxF (lowsF xs xs.length) (xs.length - 1)
def highE (xs : List Int) : Fq := minF (highsF xs xs.length) (xs.length - 1)
theorem lows_small {xs : List Int} (hl : xs.length ≤ 20) (h : ∀ k, k < xs.length → 0 ≤ xs.getD k 0 ∧ xs.getD k 0 ≤ 5) : ∀ k, k < xs.length → smallF ((lowsF xs xs.length).getD k F0) := fun k hk => by
  rw [lowsF_at xs hk]
  have := nS_le h (k + 1) (by omega)
  exact ⟨by simp only; omega, by simp only; omega⟩
theorem highs_small {xs : List Int} (hl : xs.length ≤ 20) (h : ∀ k, k < xs.length → 0 ≤ xs.getD k 0 ∧ xs.getD k 0 ≤ 5) : ∀ k, k < xs.length → smallF ((highsF xs xs.length).getD k F0) := fun k hk => by
  rw [highsF_at xs hk]
  have := nS_le h (k + 1) (by omega)
  exact ⟨by simp only; omega, by simp only; omega⟩
theorem own_belowF {w w' : World} {base n size : Nat} {e : TypeId} {v : Value} {xs : List Value} (h : w.ownsRow base e size v n xs) (hx : Below w.heap.size w w') : w'.ownsRow base e size v n xs := by
  refine ⟨h.1, ?_⟩
  rcases h.2 with h0 | ⟨g, cap, cur, hv, hb, hg, r⟩
  · exact .inl h0
  · have hlt : g < w.heap.size := by
      rcases Nat.lt_or_ge g w.heap.size with hlt | hge
      · exact hlt
      · rw [Array.getElem?_eq_none hge] at hg; cases hg
    exact .inr ⟨g, cap, cur, hv, hb, (hx.block g hlt).trans hg, r⟩
theorem own_keptF {w w' : World} {base n size : Nat} {e : TypeId} {v u : Value} {xs : List Value} (h : w.ownsRow base e size v n xs) (hg : w.grownBy w' u.ownBlock) (hne : ∀ g, u.ownBlock = some g → v.ownBlock ≠ some g) : w'.ownsRow base e size v n xs := by
  refine ⟨h.1, ?_⟩
  rcases h.2 with h0 | ⟨g, cap, cur, rfl, hb, hgg, r⟩
  · exact .inl h0
  · have hlt : g < w.heap.size := by
      rcases Nat.lt_or_ge g w.heap.size with hlt | hge
      · exact hlt
      · rw [Array.getElem?_eq_none hge] at hgg; cases hgg
    exact .inr ⟨g, cap, cur, rfl, hb, (hg.block g hlt (fun e => hne g e.symm rfl)).trans hgg, r⟩
set_option maxRecDepth 100000 in
set_option maxHeartbeats 4000000 in
theorem intervalOf_any (A : Option Addr) (n c : Nat) (xs : List Int) (w : World) (hn1 : 1 ≤ n) (hn : n ≤ 20) (hl : xs.length = n) (hA : IR w w.heap.size A xs) (h5 : ∀ k, k < xs.length → 0 ≤ xs.getD k 0 ∧ xs.getD k 0 ≤ 5) :
    Calls Try.prog 34 #[.slice A n c] w fun e w' => e = .returned (.tuple #[fv (lowE xs), fv (highE xs)]) ∧ Below w.heap.size w w' := by
  have HNS := Lib.hid (nS_le h5)
  have HLS := Lib.hid (lows_small (by omega) h5)
  have HHS := Lib.hid (highs_small (by omega) h5)
  have H5 := Lib.hid h5
  have HL := Lib.hid hl
  obtain ⟨W0, hW0⟩ : ∃ W0, (w.alloc (Obj.cells #[.int .i64 0, .int .i64 0] 59)).alloc (Obj.cells #[.int .i64 0, .int .i64 0] 59) = W0 := ⟨_, rfl⟩
  have hE : Below w.heap.size w W0 := by rw [← hW0]; exact (((Ext.refl w).alloc _).alloc _).below (Nat.le_refl _)
  have hL0 : Blk W0 w.heap.size 59 #[.int .i64 0, .int .i64 0] := by rw [← hW0]; exact (Blk.new w _ _).ext ((Ext.refl _).alloc _)
  have hH0 : Blk W0 (w.heap.size + 1) 59 #[.int .i64 0, .int .i64 0] := by rw [← hW0]; have := Blk.new (w.alloc (Obj.cells #[.int .i64 0, .int .i64 0] 59)) 59 #[.int .i64 0, .int .i64 0]; simpa using this
  have HE := Lib.hid hE
  have HL0 := Lib.hid hL0
  have HH0 := Lib.hid hH0
  have HA := Lib.hid (hA.below hE (Nat.le_refl _))
  clear hE hL0 hH0 h5 hl hA
  go_enter Try.func34, Try.ntmps34
  go_wp2_with fail
  try rw [hW0]
  clear hW0
  go_loopw [4, 5, 6, 12] (fun lv hv s i wr => ∃ (k S : Nat), Hid (S = nS xs k) ∧ k ≤ n ∧ i = .int .i64 (k : Int) ∧ s = .int .i64 (S : Int) ∧ wr.ownsRow W0.heap.size 59 2 lv k (flatF (lowsF xs k)) ∧ wr.ownsRow W0.heap.size 59 2 hv k (flatF (highsF xs k)) ∧ (∀ g, lv.ownBlock = some g → hv.ownBlock ≠ some g) ∧ Below W0.heap.size W0 wr) (fun _ _ _ i _ => n - (intOf i).toNat)
  case atStart =>
    refine ⟨0, 0, Lib.hid rfl, Nat.zero_le _, rfl, rfl, ?_⟩
    first
    | exact ⟨World.ownsRow_nil _ _ _ _, World.ownsRow_nil _ _ _ _, fun g e => (by simp [Value.ownBlock] at e), Below.refl _ _⟩
    | exact ⟨World.ownsRow_nil _ _ _ _, fun g e => (by simp [Value.ownBlock] at e), Below.refl _ _⟩
  case round =>
    obtain ⟨k, S, HSK, hk, rfl, rfl, hlo, hhi, hne, hb⟩ := hrel
    have HLO := Lib.hid hlo
    have HHI := Lib.hid hhi
    have HNE := Lib.hid hne
    have HB := Lib.hid hb
    clear hlo hhi hne hb
    by_cases hlt : k < n
    · obtain ⟨bx, ox, rfl, hbx, hcx⟩ := (HA.out.below HB.out (by have := HE.out.size; omega)) (by rw [HL.out]; omega)
      have q1 := hcx k (by rw [HL.out]; omega)
      have hxk := H5.out k (by rw [HL.out]; omega)
      have hSS : nS xs (k + 1) = S + (xs.getD k 0).toNat := by rw [HSK.out]; rfl
      have hSb := HNS.out (k + 1) (by rw [HL.out]; omega)
      generalize xs.getD k 0 = x at q1 hxk hSS
      obtain ⟨y, rfl⟩ : ∃ y : Nat, x = (y : Int) := ⟨x.toNat, by omega⟩
      simp only [Int.toNat_natCast] at hSS
      obtain ⟨S1, hS1⟩ : ∃ S1, S + y = S1 := ⟨_, rfl⟩
      rw [hS1] at hSS
      have hw1 : IntKind.i64.wrap ((S : Int) + (y : Int)) = (S1 : Int) := by rw [show (S : Int) + (y : Int) = (S1 : Int) by omega]; exact IntWalk.i64_in _ (by omega)
      obtain ⟨S2, hS2⟩ : ∃ S2, S1 + 1 = S2 := ⟨_, rfl⟩
      have hw2 : IntKind.i64.wrap ((S1 : Int) + 1) = (S2 : Int) := by rw [show (S1 : Int) + 1 = (S2 : Int) by omega]; exact IntWalk.i64_in _ (by omega)
      obtain ⟨k1, hk1⟩ : ∃ k1, k + 1 = k1 := ⟨_, rfl⟩
      have hw3 : IntKind.i64.wrap ((k : Int) + 1) = (k1 : Int) := by rw [show (k : Int) + 1 = (k1 : Int) by omega]; exact IntWalk.i64_in _ (by omega)
      have HSN := Lib.hid hSS
      have HLW := Lib.hid (show lowsF xs (k + 1) = lowsF xs k ++ [(S1, k1)] by rw [lowsF_succ, hSS, hk1])
      have HHW := Lib.hid (show highsF xs (k + 1) = highsF xs k ++ [(S2, k1)] by rw [highsF_succ, hSS, hk1, hS2])
      have HK1 := Lib.hid hk1
      have hkn : (k : Int) < (n : Int) := by omega
      clear hcx hSS hSb hS1 hS2 hk1
      go_wp2_with (at_builtin; refine wpList_pushF rfl _ _ rfl W0.heap.size _ k _ rfl (HLO.out.alloc _) wr.heap.size (S1, k1) rfl (heap_alloc_new wr _) ?c1 ?c2 ?c3 ?_)
      case c1 => unfold maxLen; omega
      case c2 => omega
      case c3 => have := HB.out.size; simp; omega
      intro v' w3 hown' hgrow hat
      rw [flatF_snoc] at hown'
      have O3 := Lib.hid (show w3.ownsRow W0.heap.size 59 2 v' (k + 1) (flatF (lowsF xs (k + 1))) by rw [HLW.out]; exact hown')
      have P3 := Lib.hid (own_keptF (HHI.out.alloc (Obj.cells (encFA (S1, k1)) 59)) hgrow HNE.out)
      have hb0 := HB.out.size
      have B3 := Lib.hid ((HB.out.alloc HB.out.size _).grown hgrow (by simp; omega) (fun j hj => (HLO.out.lt j hj).1))
      have N3 := Lib.hid (show ∀ g, v'.ownBlock = some g → u5.ownBlock ≠ some g from fun g e e2 => by
        rcases hat with h | h
        · exact HNE.out g (h.symm.trans e) e2
        · have := (HHI.out.lt g e2).2
          rw [h] at e
          simp at e
          omega)
      clear hown' hgrow hat HLO HHI HNE HB
      go_wp2_with (at_builtin; refine wpList_pushF rfl _ _ rfl W0.heap.size _ k _ rfl (P3.out.alloc _) w3.heap.size (S2, k1) rfl (heap_alloc_new w3 _) ?d1 ?d2 ?d3 ?_)
      case d1 => unfold maxLen; omega
      case d2 => omega
      case d3 => have := B3.out.size; simp; omega
      intro v2 w4 hown' hgrow hat
      rw [flatF_snoc] at hown'
      have O4 := Lib.hid (own_keptF (O3.out.alloc (Obj.cells (encFA (S2, k1)) 59)) hgrow (fun g e e2 => N3.out g e2 e))
      have P4 := Lib.hid (show w4.ownsRow W0.heap.size 59 2 v2 (k + 1) (flatF (highsF xs (k + 1))) by rw [HHW.out]; exact hown')
      have B4 := Lib.hid ((B3.out.alloc B3.out.size _).grown hgrow (by have := B3.out.size; simp; omega) (fun j hj => (P3.out.lt j hj).1))
      have N4 := Lib.hid (show ∀ g, v'.ownBlock = some g → v2.ownBlock ≠ some g from fun g e e2 => by
        rcases hat with h | h
        · exact N3.out g e (h.symm.trans e2)
        · have := (O3.out.lt g e).2
          rw [h] at e2
          simp at e2
          omega)
      clear hown' hgrow hat O3 P3 B3 N3 hw1 hw2 hw3 q1
      go_wp2_with fail
      go_roundw
      case rel => exact ⟨k + 1, S1, Lib.hid HSN.out.symm, by omega, by go_num, rfl, O4.out, P4.out, N4.out, B4.out⟩
      case measure => simp [intOf]; omega
    · obtain rfl : k = n := by omega
      obtain ⟨AL, cl, rfl, hfl⟩ := own_fr HLO.out (lowsF_len _ _)
      obtain ⟨AH, ch, rfl, hfh⟩ := own_fr HHI.out (highsF_len _ _)
      have hls := HLS.out
      have hhs := HHS.out
      rw [HL.out] at hls hhs
      have HMX := Lib.hid (maxFuncF_any AL k cl (lowsF xs k) wr hn1 (by omega) (lowsF_len _ _) hfl hls)
      have HMN := Lib.hid (fun W (hW : Below wr.heap.size wr W) => minFuncF_any AH k ch (highsF xs k) W hn1 (by omega) (highsF_len _ _) (hfh.below hW) hhs)
      have HLE := Lib.hid (show lowE xs = maxF (lowsF xs k) (k - 1) by unfold lowE; rw [HL.out])
      have HHE := Lib.hid (show highE xs = minF (highsF xs k) (k - 1) by unfold highE; rw [HL.out])
      rw [← HLE.out] at HMX
      rw [← HHE.out] at HMN
      obtain ⟨⟨lx, ly⟩, hlo⟩ : ∃ f, f = lowE xs := ⟨_, rfl⟩
      obtain ⟨⟨hx, hy⟩, hhi⟩ : ∃ f, f = highE xs := ⟨_, rfl⟩
      rw [← hlo] at HMX
      rw [← hhi] at HMN
      have HLO2 := Lib.hid hlo
      have HHI2 := Lib.hid hhi
      clear hlo hhi
      have HL1 := Lib.hid (HL0.out.below HB.out HL0.out.lt)
      have HH1 := Lib.hid (HH0.out.below HB.out HH0.out.lt)
      have HB1 := Lib.hid (HE.out.trans (HB.out.mono HE.out.size))
      simp only [fv] at HMX HMN
      clear hfl hfh hls hhs HLO HHI
      go_wp2_with fail
      refine HMX.out.mono ?_
      rintro e w2 ⟨rfl, hb2⟩
      have HW2 := Lib.hid hb2
      have HL2 := Lib.hid (HL1.out.below hb2 HL1.out.lt)
      have HH2 := Lib.hid (HH1.out.below hb2 HH1.out.lt)
      have HB2 := Lib.hid (HB1.out.trans (hb2.mono HB1.out.size))
      clear hb2
      go_wp2_with fail
      refine (HMN.out _ HW2.out).mono ?_
      rintro e w3 ⟨rfl, hb3⟩
      have hL := HL2.out.below hb3 HL2.out.lt
      have hH := HH2.out.below hb3 HH2.out.lt
      have HB3 := Lib.hid (HB2.out.trans (hb3.mono HB2.out.size))
      have l0 := hL.rd 0 rfl
      have l1 := hL.rd 1 rfl
      have y0 := hL.frozen 0
      have y1 := hL.frozen 1
      have h0 := hH.rd 0 rfl
      have h1 := hH.rd 1 rfl
      have z0 := hH.frozen 0
      have z1 := hH.frozen 1
      clear hb3 hL hH
      go_wp2_with fail
      refine bodyPost_ret (v := .tuple #[.agg #[.int .i64 (lx : Int), .int .i64 (ly : Int)], .agg #[.int .i64 (hx : Int), .int .i64 (hy : Int)]]) (by simp [results, Try.results34, go_sem, l0, l1, y0, y1, h0, h1, z0, z1]) rfl ⟨by rw [← HLO2.out, ← HHI2.out]; rfl, ?_⟩
      exact (((HB3.out.setCell (p := ⟨w.heap.size, 0, none⟩) (Nat.le_refl _) _).setCell (p := ⟨w.heap.size, 1, none⟩) (Nat.le_refl _) _).setCell (p := ⟨w.heap.size + 1, 0, none⟩) (Nat.le_succ _) _).setCell (p := ⟨w.heap.size + 1, 1, none⟩) (Nat.le_succ _) _
end Go.Proofs.Ytplbjnnicmcpdaa
