/- The words that are connected; the program's side. -/
import Derived.Test.YtleabblnikbmpaaGs1
import Derived.Lib.Hide
namespace Go.Proofs.Ytleabblnikbmpaa
set_option linter.unusedVariables false
set_option linter.unusedSimpArgs false
open Go.RowKit Go.Sort

theorem made_nils (n : Nat) : ∀ j, j < n → (madeCells (Value.cells (.slice none 0 0)) (n * 1))[j]? = some (.slice none 0 0) := by
  intro j hj
  have h := toList_madeCells_one (.slice none 0 0) (n * 1)
  rw [show Value.cells (.slice none 0 0) = #[.slice none 0 0] from rfl, ← Array.getElem?_toList, h]
  simp [hj]
/-- There is an edge. -/
def relF (f : Nat → Nat → Int) : Rel := fun i j => decide (0 < f i j)
theorem irr_mat {w : World} {B n : Nat} {A : Option Addr} {f : Nat → Nat → Int} (h : IRR w B A (matL n f)) {i : Nat} (hi : i < n) : ∃ b off Q x q, A = some ⟨b, off, none⟩ ∧ b < B ∧ Q < B ∧ n ≤ q ∧ w.cell? ⟨b, off + i, none⟩ = some (.slice (some ⟨Q, x, none⟩) n q) ∧ ∀ j, j < n → w.cell? ⟨Q, x + j, none⟩ = some (.int .i64 (f i j)) := by
  obtain ⟨b, off, rfl, hb, hc⟩ := h (by rw [matL_len]; omega)
  obtain ⟨Q, q, h1, h2, h3⟩ := hc i (by rw [matL_len]; exact hi)
  rw [matL_rlen hi] at h1 h2
  obtain ⟨Q', x, rfl, hQ, hr⟩ := h3 (by rw [matL_rlen hi]; omega)
  refine ⟨b, off, Q', x, q, rfl, hb, hQ, h2, h1, fun j hj => ?_⟩
  have := hr j (by rw [matL_rlen hi]; exact hj)
  rwa [matL_at hi hj] at this

set_option maxRecDepth 100000 in
set_option maxHeartbeats 1000000 in
theorem connectedWords_any (A : Option Addr) (n c : Nat) (f : Nat → Nat → Int) (w : World) (hn : n ≤ 40) (hA : IRR w w.heap.size A (matL n f)) :
    Calls Try.prog 110 #[.slice A n c] w fun e w' => ∃ b G q, e = .returned (.slice (some ⟨b, 0, none⟩) n n) ∧ Below w.heap.size w w' ∧ BMat w' w.heap.size b 0 n G (fun _ => 0) q (fwR (relF f) n) := by
  obtain ⟨i0, hi, hz0, hz1, hz2⟩ := info_parts info_rowB
  have hmk := fun W => run_make_rowN (P := Try.prog) 120 79 i0 _ (by kernel_rfl) hi hz0 .i64 .i64 n n (Nat.le_refl _) (by rw [hz2]; omega) (by omega) W
  rw [hz1] at hmk
  have hat := made_nils n
  have hsz := show (madeCells (Value.cells (.slice none 0 0)) (n * 1)).size = n by rw [size_madeCells, Nat.mul_one]
  generalize madeCells (Value.cells (.slice none 0 0)) (n * 1) = cs0 at hmk hat hsz
  have HA := Lib.hid hA
  clear hi hz0 hz1 hz2 hA
  have HP0 := Lib.hid (show BPre (w.alloc (Obj.cells cs0 79)) w.heap.size w.heap.size n 0 (fun _ => 0) (fun _ => 0) (relF f) (.slice none 0 0) from
    ⟨⟨cs0, Blk.new w _ _, hsz, fun i hi => absurd hi (Nat.not_lt_zero _), fun h0 => hat 0 h0, fun i _ hi => hat i hi⟩, fun i hi => absurd hi (Nat.not_lt_zero _), Nat.le_refl _, fun i hi => absurd hi (Nat.not_lt_zero _), fun i hi => absurd hi (Nat.not_lt_zero _), fun i j _ hj => absurd hj (Nat.not_lt_zero _)⟩)
  have HB0 := Lib.hid (((Ext.refl w).alloc (Obj.cells cs0 79)).below (Nat.le_refl w.heap.size))
  clear hat hsz
  go_enter Try.func110, Try.ntmps110
  go_wp2_with fail
  generalize w.alloc (Obj.cells cs0 79) = W1 at *
  clear hmk
  go_loopw [16] (fun ii wr => ∃ (i : Nat) (G q : Nat → Nat), i ≤ n ∧ ii = .int .i64 i ∧ BPre wr w.heap.size w.heap.size n i G q (relF f) (.slice none 0 0) ∧ Below w.heap.size w wr) (fun ii _ => n - (intOf ii).toNat)
  case atStart => exact ⟨0, _, _, Nat.zero_le _, rfl, HP0.out, HB0.out⟩
  case round =>
    obtain ⟨i, G, q, hi, rfl, hp, hb⟩ := hrel
    have HP := Lib.hid hp
    have HB := Lib.hid hb
    have hlt0 := hp.lts
    clear hp hb
    by_cases hlt : i < n
    · have hlt3 : (i : Int) < (n : Int) := by omega
      obtain ⟨bA, oA, Q, x, qc, rfl, hbA, hQ, hnq, e1, hrow⟩ := irr_mat HA.out hlt
      have HROW := Lib.hid hrow
      replace e1 := (HB.out.cell (p := ⟨bA, oA + i, none⟩) hbA).trans e1
      clear hrow
      go_wp2_with fail
      obtain ⟨WR, hWR⟩ : ∃ W1, W1 = wr := ⟨_, rfl⟩
      subst hWR
      go_loopw [23] (fun kk wr => ∃ (k : Nat) (v : Value), k ≤ n ∧ kk = .int .i64 k ∧ BPre wr w.heap.size w.heap.size n i G q (relF f) v ∧ wr.ownsRow WR.heap.size 4 1 v k (vbs (relF f i) k) ∧ WR.heap.size ≤ wr.heap.size ∧ Below w.heap.size w wr) (fun kk _ => n - (intOf kk).toNat)
      case atStart => exact ⟨0, .slice none 0 0, Nat.zero_le _, rfl, HP.out, World.ownsRow_nil _ _ _ _, Nat.le_refl _, HB.out⟩
      case round =>
        obtain ⟨k, v, hk, rfl, hp, ho, hsw, hb⟩ := hrel
        have HP2 := Lib.hid hp
        have HO2 := Lib.hid ho
        have HB2 := Lib.hid hb
        have hszk := hb.size
        clear hp ho hb
        by_cases hltk : k < n
        · have hltk3 : (k : Int) < (n : Int) := by omega
          have q1 := (HB2.out.cell (p := ⟨Q, x + k, none⟩) hQ).trans (HROW.out k hltk)
          have HRF := Lib.hid (show relF f i k = decide (0 < f i k) from rfl)
          generalize f i k = y at q1 HRF
          have HNE := Lib.hid (show some w.heap.size ≠ v.ownBlock from fun e => by have := (HO2.out.lt _ e.symm).1; omega)
          have hx1 := fun ob => ((Ext.refl wr).alloc ob).below (Nat.le_refl wr.heap.size)
          have hpa := fun ob => HP2.out.keep (hx1 ob) (by omega) (fun i' hi' => by have := hlt0.2 i' hi'; omega)
          have y1 : wr.cell? ⟨w.heap.size, i, none⟩ = some v := by
            obtain ⟨cs, k1, k2, k3, k4, k5⟩ := HP2.out.outer
            exact (k1.cell _).trans (k4 hlt)
          have HPA := Lib.hid hpa
          clear hpa hx1
          go_wp2_with (at_builtin; refine wpList_pushB rfl _ _ rfl WR.heap.size _ k (relF f i) rfl (own_belowA HO2.out (((Ext.refl _).alloc _).below (Nat.le_refl _))) wr.heap.size rfl (by rw [HRF.out]; exact heap_alloc_new wr _) ?c1 ?c2 ?_)
          case c1 => omega
          case c2 => simp; omega
          intro v' w3 hown' hgrow hat3
          obtain ⟨g3, cap3, rfl⟩ := ownsRow_succ hown'
          have hsz3 := hgrow.size
          simp only [World.size_alloc] at hsz3
          have hp3 : BPre w3 w.heap.size w.heap.size n i G q (relF f) v := by
            obtain ⟨cs, k1, k2⟩ := (HPA.out (Obj.cells #[.bool (decide (0 < y))] 4)).outer
            refine ⟨⟨cs, (hgrow.block w.heap.size (by simp; omega) HNE.out).trans k1, k2⟩, HP2.out.cap, HP2.out.lob, HP2.out.log, fun i' hi' => ?_, HP2.out.inj⟩
            obtain ⟨ci, hbi, hci⟩ := (HPA.out (Obj.cells #[.bool (decide (0 < y))] 4)).row i' hi'
            exact ⟨ci, (hgrow.block (G i') (by have := hlt0.2 i' hi'; simp; omega) (fun e => by have := (HO2.out.lt _ e.symm).1; have := hlt0.2 i' hi'; omega)).trans hbi, hci⟩
          have c3 : w3.cell? ⟨w.heap.size, i, none⟩ = some v := by
            obtain ⟨cs, k1, k2, k3, k4, k5⟩ := hp3.outer
            exact (k1.cell _).trans (k4 hlt)
          have f3 : w3.frozen? ⟨w.heap.size, i, none⟩ = false := by
            obtain ⟨cs, k1, k2⟩ := hp3.outer
            exact k1.frozen _
          have P4 := Lib.hid (hp3.put hlt (.slice (some ⟨g3, 0, none⟩) (k + 1) cap3))
          have O4 := Lib.hid (own_set_far hown' (p := ⟨w.heap.size, i, none⟩) (show w.heap.size < WR.heap.size by omega) (.slice (some ⟨g3, 0, none⟩) (k + 1) cap3))
          have B4 := Lib.hid ((((HB2.out.alloc hszk (Obj.cells #[.bool (decide (0 < y))] 4)).grown hgrow (by simp; omega) (fun j hj => by have := (HO2.out.lt j hj).1; omega))).setCell (p := ⟨w.heap.size, i, none⟩) (Nat.le_refl _) (.slice (some ⟨g3, 0, none⟩) (k + 1) cap3))
          have S4 := Lib.hid (show WR.heap.size ≤ w3.heap.size by omega)
          clear hp3 hown' hgrow hat3 y1
          go_wp2_with fail
          go_roundw
          case rel => exact ⟨k + 1, _, by omega, by go_num, P4.out, O4.out, by simpa using S4.out, B4.out⟩
          case measure => simp [intOf]; omega
        · obtain rfl : k = n := by omega
          obtain ⟨G', q', hn9⟩ := HP2.out.next hlt HO2.out (by omega) hlt0.1 hlt0.2
          have HN9 := Lib.hid hn9
          clear hn9
          go_wp2_with fail
          go_roundw
          case rel => first | exact ⟨i + 1, G', q', by omega, by go_num, HN9.out, HB2.out⟩ | ((repeat apply Exists.intro); exact ⟨⟨i + 1, G', q', by omega, by go_num, HN9.out, HB2.out⟩, rfl⟩)
          case measure => simp [intOf]; omega
    · obtain rfl : i = n := by omega
      have HM := Lib.hid HP.out.done
      clear HP
      go_wp2_with fail
      go_loopw [42] (fun ii wr => ∃ m : Nat, m ≤ i ∧ ii = .int .i64 m ∧ BMat wr w.heap.size w.heap.size 0 i G (fun _ => 0) q (fwR (relF f) m) ∧ Below w.heap.size w wr) (fun ii _ => i - (intOf ii).toNat)
      case atStart => exact ⟨0, Nat.zero_le _, rfl, HM.out, HB.out⟩
      case round =>
        obtain ⟨m, hm, rfl, hmat, hb⟩ := hrel
        have HM1 := Lib.hid hmat
        have HB1 := Lib.hid hb
        clear hmat hb
        by_cases hltm : m < i
        · have hltm3 : (m : Int) < (i : Int) := by omega
          have HFS := Lib.hid (show fwR (relF f) (m + 1) = stg (fwR (relF f) m) m from rfl)
          generalize fwR (relF f) m = R at *
          go_wp2_with fail
          go_loopw [47] (fun ii wr => ∃ a : Nat, a ≤ i ∧ ii = .int .i64 a ∧ BMat wr w.heap.size w.heap.size 0 i G (fun _ => 0) q (mixR R m a 0) ∧ Below w.heap.size w wr) (fun ii _ => i - (intOf ii).toNat)
          case atStart => exact ⟨0, Nat.zero_le _, rfl, by rw [mixR_zero]; exact HM1.out, HB1.out⟩
          case round =>
            obtain ⟨a, ha, rfl, hmat, hb⟩ := hrel
            have HM2 := Lib.hid hmat
            have HB2 := Lib.hid hb
            clear hmat hb
            by_cases hlta : a < i
            · have hlta3 : (a : Int) < (i : Int) := by omega
              go_wp2_with fail
              go_loopw [52] (fun ii wr => ∃ k : Nat, k ≤ i ∧ ii = .int .i64 k ∧ BMat wr w.heap.size w.heap.size 0 i G (fun _ => 0) q (mixR R m a k) ∧ Below w.heap.size w wr) (fun ii _ => i - (intOf ii).toNat)
              case atStart => exact ⟨0, Nat.zero_le _, rfl, HM2.out, HB2.out⟩
              case round =>
                obtain ⟨k, hk, rfl, hmat, hb⟩ := hrel
                have HM3 := Lib.hid hmat
                have HB3 := Lib.hid hb
                clear hmat hb
                by_cases hltk : k < i
                · have hltk3 : (k : Int) < (i : Int) := by omega
                  have e1 := HM3.out.cell a hlta
                  have e2 := HM3.out.cell m hltm
                  have s1 := (HM3.out.at_ hlta hltm).1
                  have s2 := (HM3.out.at_ hltm hltk).1
                  obtain ⟨t1, t2, -⟩ := HM3.out.at_ hlta hltk
                  rw [mixR_to] at s1
                  rw [mixR_from] at s2
                  rw [mixR_here] at t1
                  simp only [Nat.zero_add] at e1 e2 s1 s2 t1 t2
                  have HY := Lib.hid (fun (h1 : R a m = true) (h2 : R m k = true) => (show BMat (wr.setCell ⟨G a, k, none⟩ (.bool true)) w.heap.size w.heap.size 0 i G (fun _ => 0) q (mixR R m a (k + 1)) by
                    have := HM3.out.set_ hlta hltk true
                    simp only [Nat.zero_add] at this
                    exact this.congr fun i' j' _ _ => (mixR_yes h1 h2 i' j').symm))
                  have HN := Lib.hid (fun (h1 : (R a m && R m k) = false) => (show BMat wr w.heap.size w.heap.size 0 i G (fun _ => 0) q (mixR R m a (k + 1)) from HM3.out.congr fun i' j' _ _ => (mixR_no h1 i' j').symm))
                  have HLG := Lib.hid (HM3.out.log a hlta).1
                  have HBS := Lib.hid (HB3.out.setCell (p := ⟨G a, k, none⟩) HLG.out (.bool true))
                  generalize R a m = u1 at *
                  generalize R m k = u2 at *
                  cases u1 with
                  | false =>
                    have HNM := Lib.hid (HN.out rfl)
                    go_wp2_with fail
                    go_roundw
                    case rel => first | exact ⟨k + 1, by omega, by go_num, HNM.out, HB3.out⟩ | ((repeat apply Exists.intro); exact ⟨⟨k + 1, by omega, by go_num, HNM.out, HB3.out⟩, rfl⟩)
                    case measure => simp [intOf]; omega
                  | true =>
                    cases u2 with
                    | false =>
                      have HNM := Lib.hid (HN.out rfl)
                      go_wp2_with fail
                      go_roundw
                      case rel => first | exact ⟨k + 1, by omega, by go_num, HNM.out, HB3.out⟩ | ((repeat apply Exists.intro); exact ⟨⟨k + 1, by omega, by go_num, HNM.out, HB3.out⟩, rfl⟩)
                      case measure => simp [intOf]; omega
                    | true =>
                      have HNM := Lib.hid (HY.out rfl rfl)
                      go_wp2_with fail
                      go_roundw
                      case rel => first | exact ⟨k + 1, by omega, by go_num, HNM.out, HBS.out⟩ | ((repeat apply Exists.intro); exact ⟨⟨k + 1, by omega, by go_num, HNM.out, HBS.out⟩, rfl⟩)
                      case measure => simp [intOf]; omega
                · obtain rfl : k = i := by omega
                  have HNM := Lib.hid (show BMat wr w.heap.size w.heap.size 0 k G (fun _ => 0) q (mixR R m (a + 1) 0) from HM3.out.congr fun i' j' _ hj' => mixR_row hj')
                  go_wp2_with fail
                  go_roundw
                  case rel => first | exact ⟨a + 1, by omega, by go_num, HNM.out, HB3.out⟩ | ((repeat apply Exists.intro); exact ⟨⟨a + 1, by omega, by go_num, HNM.out, HB3.out⟩, rfl⟩)
                  case measure => simp [intOf]; omega
            · obtain rfl : a = i := by omega
              have HNM := Lib.hid (show BMat wr w.heap.size w.heap.size 0 a G (fun _ => 0) q (fwR (relF f) (m + 1)) by rw [HFS.out]; exact HM2.out.congr fun i' j' hi' _ => mixR_done hi')
              go_wp2_with fail
              go_roundw
              case rel => first | exact ⟨m + 1, by omega, by go_num, HNM.out, HB2.out⟩ | ((repeat apply Exists.intro); exact ⟨⟨m + 1, by omega, by go_num, HNM.out, HB2.out⟩, rfl⟩)
              case measure => simp [intOf]; omega
        · obtain rfl : m = i := by omega
          go_wp2_with fail
          go_ret
          exact ⟨w.heap.size, G, q, rfl, HB1.out, HM1.out⟩
end Go.Proofs.Ytleabblnikbmpaa
