/- The words that are reached; the model's side. -/
import Derived.Test.YtleabblnikbmpaaGs2
import Derived.Lib.Hide
namespace Go.Proofs.Ytleabblnikbmpaa
set_option linter.unusedVariables false
set_option linter.unusedSimpArgs false
open Go.RowKit Go.Sort

theorem mixR_put {R : Rel} {m i k : Nat} (h1 : R i m = true) (a b : Nat) : mixR R m i (k + 1) a b = if a = i ∧ b = k then (R i k || R m k) else mixR R m i k a b := by
  by_cases h : a = i ∧ b = k
  · obtain ⟨rfl, rfl⟩ := h
    rw [if_pos ⟨rfl, rfl⟩]
    unfold mixR
    rw [if_pos (by omega)]
    simp [stg, h1]
  · rw [if_neg h]
    unfold mixR
    by_cases h3 : a < i ∨ (a = i ∧ b < k)
    · rw [if_pos h3, if_pos (by omega)]
    · rw [if_neg h3, if_neg (by omega)]
/-- Rows of bits, k of them, in a list that the call owns. -/
def rowsV (G : Nat → Nat) (n k : Nat) : List Value := (List.range k).map fun i => .slice (some ⟨G i, 0, none⟩) n n
theorem rowsV_succ (G : Nat → Nat) (n k g : Nat) : rowsV (fun i => if i = k then g else G i) n (k + 1) = rowsV G n k ++ [.slice (some ⟨g, 0, none⟩) n n] := by
  unfold rowsV
  rw [List.range_succ, List.map_append]
  congr 1
  · refine List.map_congr_left fun i hi => ?_
    simp only [List.mem_range] at hi
    show Value.slice (some ⟨if i = k then g else G i, 0, none⟩) n n = _
    rw [if_neg (by omega)]
  · simp
structure BOwn (w : World) (base : Nat) (v : Value) (n k : Nat) (G : Nat → Nat) (R : Rel) : Prop where
  form : ∃ g cap, v = .slice (some ⟨g, 0, none⟩) k cap
  own : w.ownsRow base 79 1 v k (rowsV G n k)
  log : ∀ i, i < k → base ≤ G i ∧ some (G i) ≠ v.ownBlock
  row : ∀ i, i < k → ∃ cs, Blk w (G i) 4 cs ∧ ∀ j, j < n → cs[j]? = some (.bool (R i j))
  inj : ∀ i j, i < j → j < k → G i ≠ G j
theorem BOwn.below {w w' : World} {base n k : Nat} {v : Value} {G : Nat → Nat} {R : Rel} (h : BOwn w base v n k G R) (hx : Below w.heap.size w w') : BOwn w' base v n k G R :=
  ⟨h.form, own_belowA h.own hx, h.log, fun i hi => by obtain ⟨cs, hb, hc⟩ := h.row i hi; exact ⟨cs, hb.below hx hb.lt, hc⟩, h.inj⟩
theorem BOwn.pushed {w0 w w' : World} {base n k g : Nat} {v v' : Value} {G : Nat → Nat} {R : Rel} (h : BOwn w0 base v n k G R) (hb : Below w0.heap.size w0 w) (hg : w0.heap.size ≤ g) (hbase : base ≤ w0.heap.size)
    (hrow : ∃ cs, Blk w g 4 cs ∧ ∀ j, j < n → cs[j]? = some (.bool (R k j)))
    (hown : w'.ownsRow base 79 1 v' (k + 1) (rowsV G n k ++ [.slice (some ⟨g, 0, none⟩) n n])) (hgrow : w.grownBy w' v.ownBlock) (hat : v'.ownBlock = v.ownBlock ∨ v'.ownBlock = some w.heap.size) :
    BOwn w' base v' n (k + 1) (fun i => if i = k then g else G i) R := by
  have hob : ∀ c, v.ownBlock = some c → c < w0.heap.size := fun c e => (h.own.lt c e).2
  have hlt : ∀ i, i < k → G i < w0.heap.size := fun i hi => by obtain ⟨cs, hb, -⟩ := h.row i hi; exact hb.lt
  have hglt : g < w.heap.size := by obtain ⟨cs, hb, -⟩ := hrow; exact hb.lt
  have hsz := hb.size
  obtain ⟨g3, cap3, hv⟩ := ownsRow_succ hown
  refine ⟨⟨g3, cap3, hv⟩, by rw [rowsV_succ]; exact hown, fun i hi => ?_, fun i hi => ?_, fun i j hij hj => ?_⟩
  · by_cases e : i = k
    · subst e; simp only [if_true]
      refine ⟨by omega, fun e2 => ?_⟩
      rcases hat with h1 | h1
      · rw [h1] at e2; have := hob g e2.symm; omega
      · rw [h1] at e2; have := Option.some.inj e2; omega
    · simp only [if_neg e]
      obtain ⟨h1, h2⟩ := h.log i (by omega)
      refine ⟨h1, fun e2 => ?_⟩
      rcases hat with h3 | h3
      · rw [h3] at e2; exact h2 e2
      · rw [h3] at e2; have e3 := Option.some.inj e2; have := hlt i (by omega); omega
  · by_cases e : i = k
    · subst e; simp only [if_true]
      obtain ⟨cs, hbk, hc⟩ := hrow
      exact ⟨cs, (hgrow.block g hglt (fun e2 => by have := hob g e2.symm; omega)).trans hbk, hc⟩
    · simp only [if_neg e]
      obtain ⟨cs, hbk, hc⟩ := h.row i (by omega)
      exact ⟨cs, (hgrow.block (G i) (by have := hlt i (by omega); omega) (h.log i (by omega)).2).trans (hbk.below hb hbk.lt), hc⟩
  · by_cases e : j = k
    · subst e; simp only [if_true, if_neg (show ¬ i = j by omega)]; have := hlt i hij; omega
    · simp only [if_neg e, if_neg (show ¬ i = k by omega)]; exact h.inj i j hij (by omega)
theorem BOwn.done {w : World} {base n : Nat} {v : Value} {G : Nat → Nat} {R : Rel} (h : BOwn w base v n n G R) : ∃ g cap, v = .slice (some ⟨g, 0, none⟩) n cap ∧ BMat w base g 0 n G (fun _ => 0) (fun _ => n) R := by
  obtain ⟨g, cap, hv⟩ := h.form
  have hob : v.ownBlock = some g := by rw [hv]; rfl
  have hl := h.own.lt g hob
  refine ⟨g, cap, hv, ⟨fun i hi => ?_, fun i _ => Nat.le_refl _, hl.1, ?_, fun i hi => ⟨(h.log i hi).1, fun e => (h.log i hi).2 (by rw [hob, e])⟩, fun i hi => ?_, h.inj⟩⟩
  · have := h.own
    rw [hv] at this
    rw [Nat.zero_add, this.cellAt i (by omega)]
    simp [rowsV, hi]
  · rcases h.own.2 with ⟨e, -⟩ | ⟨g', cap', cur, e, -, hg, -⟩
    · rw [hv] at e; cases e
    · rw [hv] at e; cases e; exact ⟨cur, hg⟩
  · obtain ⟨cs, hb, hc⟩ := h.row i hi
    exact ⟨cs, hb, fun j hj => by rw [Nat.zero_add]; exact hc j hj⟩

set_option maxRecDepth 100000 in
set_option maxHeartbeats 1000000 in
theorem l06Reach_any (A : Option Addr) (n c : Nat) (f : Nat → Nat → Int) (w : World) (hn : n ≤ 40) (hA : IRR w w.heap.size A (matL n f)) :
    Calls Try.prog 109 #[.slice A n c] w fun e w' => ∃ b cap G q, e = .returned (.slice (some ⟨b, 0, none⟩) n cap) ∧ Below w.heap.size w w' ∧ BMat w' w.heap.size b 0 n G (fun _ => 0) q (fwR (relF f) n) := by
  obtain ⟨i0, hi, hz0, hz1, hz2⟩ := info_parts info_bool
  have hmk := fun W => run_make_rowN (P := Try.prog) 79 4 i0 _ (by kernel_rfl) hi hz0 .i64 .i64 n n (Nat.le_refl _) (by rw [hz2]; omega) (by omega) W
  rw [hz1] at hmk
  have hsz := show (madeCells (Value.cells (.bool false)) (n * 1)).size = n by rw [size_madeCells, Nat.mul_one]
  generalize madeCells (Value.cells (.bool false)) (n * 1) = cs0 at hmk hsz
  have HSZ := Lib.hid hsz
  have HA := Lib.hid hA
  clear hi hz0 hz1 hz2 hA hsz
  go_enter Try.func109, Try.ntmps109
  go_wp2_with fail
  have HP0 := Lib.hid (show BOwn (w.alloc (Obj.cells #[] 79)) w.heap.size (.slice (some ⟨w.heap.size, 0, none⟩) 0 0) n 0 (fun _ => 0) (relF f) from
    ⟨⟨_, _, rfl⟩, ⟨rfl, .inr ⟨w.heap.size, 0, #[], rfl, Nat.le_refl _, Blk.new w _ _, Nat.le_refl _, by unfold maxLen; omega, rfl, rfl⟩⟩, fun i hi => absurd hi (Nat.not_lt_zero _), fun i hi => absurd hi (Nat.not_lt_zero _), fun i j _ hj => absurd hj (Nat.not_lt_zero _)⟩)
  have HB0 := Lib.hid (((Ext.refl w).alloc (Obj.cells #[] 79)).below (Nat.le_refl w.heap.size))
  go_loopw [4, 5] (fun v ii wr => ∃ (i : Nat) (G : Nat → Nat), i ≤ n ∧ ii = .int .i64 i ∧ BOwn wr w.heap.size v n i G (relF f) ∧ Below w.heap.size w wr) (fun _ ii _ => n - (intOf ii).toNat)
  case atStart => exact ⟨0, _, Nat.zero_le _, rfl, HP0.out, HB0.out⟩
  case round =>
    obtain ⟨i, G, hi, rfl, hp, hb⟩ := hrel
    have HP := Lib.hid hp
    have HB := Lib.hid hb
    have hszw := hb.size
    clear hp hb
    by_cases hlt : i < n
    · have hlt3 : (i : Int) < (n : Int) := by omega
      obtain ⟨bA, oA, Q, x, qc, rfl, hbA, hQ, hnq, e1, hrow⟩ := irr_mat HA.out hlt
      have HROW := Lib.hid hrow
      clear hrow
      go_wp2_with fail
      have hbn : Blk (wr.alloc (Obj.cells cs0 4)) wr.heap.size 4 cs0 := Blk.new wr _ _
      have HR0 := Lib.hid (show ∃ cs, Blk (wr.alloc (Obj.cells cs0 4)) wr.heap.size 4 cs ∧ cs.size = n ∧ ∀ j, j < 0 → cs[j]? = some (.bool (relF f i j)) from ⟨cs0, hbn, HSZ.out, fun j hj => absurd hj (Nat.not_lt_zero _)⟩)
      have HX0 := Lib.hid (((Ext.refl wr).alloc (Obj.cells cs0 4)).below (Nat.le_refl wr.heap.size))
      clear hbn
      obtain ⟨WR, hWR⟩ : ∃ W1, W1 = wr := ⟨_, rfl⟩
      subst hWR
      go_loopw [7] (fun kk wr => ∃ k : Nat, k ≤ n ∧ kk = .int .i64 k ∧ (∃ cs, Blk wr WR.heap.size 4 cs ∧ cs.size = n ∧ ∀ j, j < k → cs[j]? = some (.bool (relF f i j))) ∧ Below WR.heap.size WR wr) (fun kk _ => n - (intOf kk).toNat)
      case atStart => exact ⟨0, Nat.zero_le _, rfl, HR0.out, HX0.out⟩
      case round =>
        obtain ⟨k, hk, rfl, hr, hb⟩ := hrel
        have HB2 := Lib.hid hb
        have hszk := hb.size
        obtain ⟨cs, hbk, hcs, hce⟩ := hr
        have hbl := hbk.lt
        by_cases hltk : k < n
        · have hltk3 : (k : Int) < (n : Int) := by omega
          have hbw := HB.out.trans (hb.mono hszw)
          have e1' := (hbw.cell (p := ⟨bA, oA + i, none⟩) hbA).trans e1
          have q1 := (hbw.cell (p := ⟨Q, x + k, none⟩) hQ).trans (HROW.out k hltk)
          have HRF := Lib.hid (show relF f i k = decide (0 < f i k) from rfl)
          generalize f i k = y at q1 HRF
          obtain ⟨v0, hv0⟩ : ∃ v0, cs[k]? = some v0 := ⟨cs[k]'(by omega), Array.getElem?_eq_getElem (by omega)⟩
          have r0 := (hbk.cell k).trans hv0
          have z0 := hbk.frozen k
          have HN := Lib.hid (show ∃ cs', Blk (wr.setCell ⟨WR.heap.size, k, none⟩ (.bool (decide (0 < y)))) WR.heap.size 4 cs' ∧ cs'.size = n ∧ ∀ j, j < k + 1 → cs'[j]? = some (.bool (relF f i j)) from
            ⟨_, hbk.set_ k _, by simp [hcs], fun j hj => by
              by_cases e : j = k
              · subst e; rw [Array.getElem?_setIfInBounds_self_of_lt (by omega), HRF.out]
              · rw [Array.getElem?_setIfInBounds_ne (by omega)]; exact hce j (by omega)⟩)
          have HBS := Lib.hid (hb.setCell (p := ⟨WR.heap.size, k, none⟩) (Nat.le_refl _) (.bool (decide (0 < y))))
          clear hbw hb hbk hce hv0 e1
          go_wp2_with fail
          go_roundw
          case rel => first | exact ⟨k + 1, by omega, by go_num, HN.out, HBS.out⟩ | ((repeat apply Exists.intro); exact ⟨⟨k + 1, by omega, by go_num, HN.out, HBS.out⟩, rfl⟩)
          case measure => simp [intOf]; omega
        · obtain rfl : k = n := by omega
          have HR := Lib.hid (show ∃ cs, Blk wr WR.heap.size 4 cs ∧ ∀ j, j < k → cs[j]? = some (.bool (relF f i j)) from ⟨cs, hbk, hce⟩)
          have hbxr := fun ob => ((Ext.refl wr).alloc ob)
          obtain ⟨j0, hj, hy0, hy1, hy2⟩ := info_parts info_rowB
          have HJ := Lib.hid (And.intro hj (And.intro hy0 (And.intro hy1 hy2)))
          have HPB := Lib.hid (HP.out.below hb)
          clear hb hbk hce hj hy0 hy1 hy2 hbxr hmk
          go_wp2_with (at_builtin; refine wpList_append_any _ rfl _ _ _ rfl w.heap.size 79 j0 _ 1 24 Try.underlying120 HJ.out.1 HJ.out.2.1 HJ.out.2.2.1 HJ.out.2.2.2 rfl (by decide) _ i (rowsV G k i) rfl (own_belowA HPB.out.own (((Ext.refl _).alloc _).below (Nat.le_refl _))) (wr.heap.size + 1) _ 1 _ [.slice (some ⟨WR.heap.size, 0, none⟩) k k] rfl ⟨rfl, fun _ => ⟨_, rfl, by simp, fun j u hu => ?c1⟩⟩ (by simp [Value.oneCell']) (by unfold maxLen; omega) (by omega) (by simp; omega) ?_)
          case c1 =>
            rcases j with _ | j
            · simp at hu
              subst hu
              rw [Go.WideShapes.add_plain]
              exact (Blk.new wr 79 #[.slice (some ⟨WR.heap.size, 0, none⟩) k k]).cell 0
            · simp at hu
          intro v' w3 hown' hgrow hat
          have hP3 := HP.out.pushed (g := WR.heap.size) (HB2.out.trans ((((Ext.refl wr).alloc (Obj.cells #[.slice (some ⟨WR.heap.size, 0, none⟩) k k] 79)).below (Nat.le_refl wr.heap.size)).mono hszk)) (Nat.le_refl _) hszw (by obtain ⟨cs, k1, k2⟩ := HR.out; exact ⟨cs, k1.ext ((Ext.refl _).alloc _), k2⟩) hown' hgrow (by simpa using hat)
          have P3 := Lib.hid hP3
          have B3 := Lib.hid (((HB.out.trans (HB2.out.mono hszw)).alloc (by omega) (Obj.cells #[.slice (some ⟨WR.heap.size, 0, none⟩) k k] 79)).grown hgrow (by simp; omega) (fun j hj => (HP.out.own.lt j hj).1))
          clear hP3 hown' hgrow hat
          go_wp2_with fail
          go_roundw
          case rel => first | exact ⟨i + 1, _, by omega, by go_num, P3.out, B3.out⟩ | ((repeat apply Exists.intro); exact ⟨⟨i + 1, _, by omega, by go_num, P3.out, B3.out⟩, rfl⟩)
          case measure => simp [intOf]; omega
    · obtain rfl : i = n := by omega
      obtain ⟨b, cap, rfl, hmat⟩ := HP.out.done
      have HM := Lib.hid hmat
      clear HP hmat hmk
      go_wp2_with fail
      go_loopw [8] (fun ii wr => ∃ m : Nat, m ≤ i ∧ ii = .int .i64 m ∧ BMat wr w.heap.size b 0 i G (fun _ => 0) (fun _ => i) (fwR (relF f) m) ∧ Below w.heap.size w wr) (fun ii _ => i - (intOf ii).toNat)
      case atStart => exact ⟨0, Nat.zero_le _, rfl, HM.out, HB.out⟩
      case round =>
        obtain ⟨m, hm, rfl, hmat, hb⟩ := hrel
        have HM1 := Lib.hid hmat
        have HB1 := Lib.hid hb
        clear hmat hb
        by_cases hltm : m < i
        · have hltm3 : (m : Int) < (i : Int) := by omega
          have HFS := Lib.hid (show fwR (relF f) (m + 1) = stg (fwR (relF f) m) m from rfl)
          generalize fwR (relF f) m = R at *
          go_wp2_with fail
          go_loopw [9] (fun ii wr => ∃ a : Nat, a ≤ i ∧ ii = .int .i64 a ∧ BMat wr w.heap.size b 0 i G (fun _ => 0) (fun _ => i) (mixR R m a 0) ∧ Below w.heap.size w wr) (fun ii _ => i - (intOf ii).toNat)
          case atStart => exact ⟨0, Nat.zero_le _, rfl, by rw [mixR_zero]; exact HM1.out, HB1.out⟩
          case round =>
            obtain ⟨a, ha, rfl, hmat, hb⟩ := hrel
            have HM2 := Lib.hid hmat
            have HB2 := Lib.hid hb
            clear hmat hb
            by_cases hlta : a < i
            · have hlta3 : (a : Int) < (i : Int) := by omega
              have e0 := HM2.out.cell a hlta
              simp only [Nat.zero_add] at e0
              go_wp2_with fail
              clear e0
              go_loopw [11] (fun ii wr => ∃ k : Nat, k ≤ i ∧ ii = .int .i64 k ∧ BMat wr w.heap.size b 0 i G (fun _ => 0) (fun _ => i) (mixR R m a k) ∧ Below w.heap.size w wr) (fun ii _ => i - (intOf ii).toNat)
              case atStart => exact ⟨0, Nat.zero_le _, rfl, HM2.out, HB2.out⟩
              case round =>
                obtain ⟨k, hk, rfl, hmat, hb⟩ := hrel
                have HM3 := Lib.hid hmat
                have HB3 := Lib.hid hb
                clear hmat hb
                by_cases hltk : k < i
                · have hltk3 : (k : Int) < (i : Int) := by omega
                  have e2 := HM3.out.cell m hltm
                  have s1 := (HM3.out.at_ hlta hltm).1
                  have s2 := (HM3.out.at_ hltm hltk).1
                  obtain ⟨t1, t2, -⟩ := HM3.out.at_ hlta hltk
                  rw [mixR_to] at s1
                  rw [mixR_from] at s2
                  rw [mixR_here] at t1
                  simp only [Nat.zero_add] at e2 s1 s2 t1 t2
                  have HY := Lib.hid (fun (h1 : R a m = true) => (show BMat (wr.setCell ⟨G a, k, none⟩ (.bool (R a k || R m k))) w.heap.size b 0 i G (fun _ => 0) (fun _ => i) (mixR R m a (k + 1)) by
                    have := HM3.out.set_ hlta hltk (R a k || R m k)
                    simp only [Nat.zero_add] at this
                    exact this.congr fun i' j' _ _ => (mixR_put h1 i' j').symm))
                  have HN := Lib.hid (fun (h1 : R a m = false) => (show BMat wr w.heap.size b 0 i G (fun _ => 0) (fun _ => i) (mixR R m (a + 1) 0) from HM3.out.congr fun i' j' _ _ => mixR_rest h1 i' j'))
                  have HLG := Lib.hid (HM3.out.log a hlta).1
                  have HBS := Lib.hid (fun vv => HB3.out.setCell (p := ⟨G a, k, none⟩) HLG.out vv)
                  generalize R a m = u1 at *
                  generalize R m k = u2 at *
                  generalize R a k = u3 at *
                  cases u1 with
                  | false =>
                    have HNM := Lib.hid (HN.out rfl)
                    go_wp2_with fail
                    go_roundw
                    case rel => first | exact ⟨a + 1, by omega, by go_num, HNM.out, HB3.out⟩ | ((repeat apply Exists.intro); exact ⟨⟨a + 1, by omega, by go_num, HNM.out, HB3.out⟩, rfl⟩)
                    case measure => simp [intOf]; omega
                  | true =>
                    have HNM := Lib.hid (HY.out rfl)
                    cases u3 with
                    | true =>
                      simp only [Bool.true_or] at HNM
                      go_wp2_with fail
                      go_roundw
                      case rel => first | exact ⟨k + 1, by omega, by go_num, HNM.out, HBS.out _⟩ | ((repeat apply Exists.intro); exact ⟨⟨k + 1, by omega, by go_num, HNM.out, HBS.out _⟩, rfl⟩)
                      case measure => simp [intOf]; omega
                    | false =>
                      simp only [Bool.false_or] at HNM
                      go_wp2_with fail
                      go_roundw
                      case rel => first | exact ⟨k + 1, by omega, by go_num, HNM.out, HBS.out _⟩ | ((repeat apply Exists.intro); exact ⟨⟨k + 1, by omega, by go_num, HNM.out, HBS.out _⟩, rfl⟩)
                      case measure => simp [intOf]; omega
                · obtain rfl : k = i := by omega
                  have HNM := Lib.hid (show BMat wr w.heap.size b 0 k G (fun _ => 0) (fun _ => k) (mixR R m (a + 1) 0) from HM3.out.congr fun i' j' _ hj' => mixR_row hj')
                  go_wp2_with fail
                  go_roundw
                  case rel => first | exact ⟨a + 1, by omega, by go_num, HNM.out, HB3.out⟩ | ((repeat apply Exists.intro); exact ⟨⟨a + 1, by omega, by go_num, HNM.out, HB3.out⟩, rfl⟩)
                  case measure => simp [intOf]; omega
            · obtain rfl : a = i := by omega
              have HNM := Lib.hid (show BMat wr w.heap.size b 0 a G (fun _ => 0) (fun _ => a) (fwR (relF f) (m + 1)) by rw [HFS.out]; exact HM2.out.congr fun i' j' hi' _ => mixR_done hi')
              go_wp2_with fail
              go_roundw
              case rel => first | exact ⟨m + 1, by omega, by go_num, HNM.out, HB2.out⟩ | ((repeat apply Exists.intro); exact ⟨⟨m + 1, by omega, by go_num, HNM.out, HB2.out⟩, rfl⟩)
              case measure => simp [intOf]; omega
        · obtain rfl : m = i := by omega
          go_wp2_with fail
          go_ret
          exact ⟨b, cap, G, _, rfl, HB1.out, HM1.out⟩
end Go.Proofs.Ytleabblnikbmpaa
