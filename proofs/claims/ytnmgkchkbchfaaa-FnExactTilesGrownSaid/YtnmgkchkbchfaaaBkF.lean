/- All that come of some numbers: the program's walk. -/
import Derived.Test.YtnmgkchkbchfaaaBkE
namespace Go.Proofs.Ytnmgkchkbchfaaa
set_option linter.unusedVariables false
set_option linter.unusedSimpArgs false
open Go.RowKit Go.Sort

/-- A tile's block as a list. -/
def blkI (bs : List (List Int)) (k : Nat) : List Int := [bAt bs k 0, bAt bs k 1, bAt bs k 2, bAt bs k 3]
theorem blkI_st {ts : List Tl} {bs : List (List Int)} (hok : bOk ts bs = true) {k : Nat} (hk : k < bs.length) : blkI bs k = ints (stT bs k) := by
  obtain ⟨a0, e0, -⟩ := bOk_nat hok hk (j := 0) (by omega)
  obtain ⟨a1, e1, -⟩ := bOk_nat hok hk (j := 1) (by omega)
  obtain ⟨a2, e2, -⟩ := bOk_nat hok hk (j := 2) (by omega)
  obtain ⟨a3, e3, -⟩ := bOk_nat hok hk (j := 3) (by omega)
  simp [blkI, ints, stT, e0, e1, e2, e3]
set_option maxRecDepth 100000 in
set_option maxHeartbeats 1000000 in
theorem tilesOfBlock_any (c0 : Int) (A : Option Addr) (n c : Nat) (G : Option Addr) (m g : Nat) (bs : List (List Int)) (k : Nat) (w : World) (hm : m ≤ 1048576) (hl : bs.length = m) (hk : k < m) (hG : TR w w.heap.size G (blkL bs)) :
    Calls Try.prog 77 #[.agg #[.int .i64 c0, .slice A n c, .slice G m g], .int .i64 (k : Int)] w fun e w' => ∃ R cap, e = .returned (.slice R 4 cap) ∧ Below w.heap.size w w' ∧ IWr w' w.heap.size w'.heap.size R (blkI bs k) := by
  have hx := (Ext.refl w).alloc (Obj.cells #[.int .i64 c0, .slice A n c, .slice G m g] 61)
  have n2 := (Blk.new w 61 #[.int .i64 c0, .slice A n c, .slice G m g]).rd 2 rfl
  have hs0 : (w.alloc (Obj.cells #[.int .i64 c0, .slice A n c, .slice G m g] 61)).heap.size = w.heap.size + 1 := by simp
  obtain ⟨bG, oG, hGe, hbG, q0, q1, q2, q3⟩ := tr_first (hG.ext hx (Nat.le_refl _)) (k := k) (by omega)
  subst hGe
  have HC := Lib.hid (clone64_any bG (oG + k * 4) 4 (blkI bs k) 4 (w.alloc (Obj.cells #[.int .i64 c0, .slice A n c, .slice (some ⟨bG, oG, none⟩) m g] 61)) (by omega) rfl (fun j hj => by
    match j, hj with
    | 0, _ => exact q0
    | 1, _ => exact q1
    | 2, _ => exact q2
    | 3, _ => exact q3) (by rw [hs0]; omega))
  have HX := Lib.hid (hx.below (Nat.le_refl w.heap.size))
  have HS := Lib.hid hs0
  clear hG hx q0 q1 q2 q3
  go_enter Try.func77, Try.ntmps77
  go_wp2_with fail
  refine HC.out.mono ?_
  rintro e w1 ⟨R, cap, rfl, hb, hw⟩
  have HB := Lib.hid (HX.out.trans (hb.mono HX.out.size))
  have HW := Lib.hid (hw.low (show w.heap.size ≤ _ by rw [HS.out]; omega))
  clear hb hw
  go_wp2_with fail
  go_ret
  first | exact ⟨R, cap, rfl, HB.out, HW.out⟩ | exact ⟨R, ⟨cap, rfl⟩, HB.out, HW.out⟩

/-- Things to be looked at, apart from the block of v. -/
def Tg (w : World) (A : Option Addr) (v : Value) (TH : List Nat) : Prop := 0 < TH.length → ∃ b o, A = some ⟨b, o, none⟩ ∧ b < w.heap.size ∧ v.ownBlock ≠ some b ∧ ∀ k, k < TH.length → w.cell? ⟨b, o + k, none⟩ = some (.int .i64 ((TH.getD k 0 : Nat) : Int))
theorem Tg.reads {w : World} {A : Option Addr} {v : Value} {TH : List Nat} (h : Tg w A v TH) : Reads w w.heap.size 1 A TH.length (vis (ints TH)) := ⟨by rw [vis_len, ints_len, Nat.mul_one], fun h0 => by
  obtain ⟨b, o, rfl, hb, -, hc⟩ := h h0
  refine ⟨_, rfl, hb, fun j u hu => ?_⟩
  rw [Go.WideShapes.add_plain]
  have hj : j < TH.length := by
    rcases Nat.lt_or_ge j TH.length with h | h
    · exact h
    · rw [List.getElem?_eq_none (by rw [vis_len, ints_len]; omega)] at hu; cases hu
  have : (vis (ints TH))[j]? = some (.int .i64 ((TH.getD j 0 : Nat) : Int)) := by simp [vis, vi, ints, List.getD, hj]
  rw [this] at hu
  cases hu
  exact hc j hj⟩
theorem Tg.tail {w : World} {b o : Nat} {v : Value} {x : Nat} {TH : List Nat} (h : Tg w (some ⟨b, o, none⟩) v (x :: TH)) : Tg w (some ⟨b, o + 1, none⟩) v TH := fun h0 => by
  obtain ⟨b', o', e, hb, hv, hc⟩ := h (by simp)
  cases e
  refine ⟨b, o + 1, rfl, hb, hv, fun k hk => ?_⟩
  have := hc (k + 1) (by simp; omega)
  rw [show o + 1 + k = o + (k + 1) by omega]
  simpa using this
theorem Tg.ext {w w' : World} {A : Option Addr} {v : Value} {TH : List Nat} (h : Tg w A v TH) (hx : Ext w w') : Tg w' A v TH := fun h0 => by
  obtain ⟨b, o, e, hb, hv, hc⟩ := h h0
  have hbl := hx.below (Nat.le_refl w.heap.size)
  exact ⟨b, o, e, Nat.lt_of_lt_of_le hb hbl.size, hv, fun k hk => (hbl.cell (p := ⟨b, o + k, none⟩) hb).trans (hc k hk)⟩
theorem Tg.nil (w : World) (A : Option Addr) (v : Value) : Tg w A v [] := fun h => absurd h (by simp)
theorem Tg.grown {w w' : World} {A : Option Addr} {v : Value} {TH : List Nat} (h : Tg w A v TH) (hg : w.grownBy w' v.ownBlock) : Reads w' w.heap.size 1 A TH.length (vis (ints TH)) := ⟨by rw [vis_len, ints_len, Nat.mul_one], fun h0 => by
  obtain ⟨b, o, rfl, hb, hv, hc⟩ := h h0
  refine ⟨_, rfl, hb, fun j u hu => ?_⟩
  have h1 := (h.reads).2 h0
  obtain ⟨ad, e, hb2, hc2⟩ := h1
  cases e
  have hu2 := hc2 j u hu
  rw [Go.WideShapes.add_plain] at hu2 ⊢
  exact hg.cell hu2 (fun e => hv e.symm)⟩
theorem Tg.fresh {w' : World} {base : Nat} {v1 v : Value} {TH : List Nat} {A : Option Addr} {cap n : Nat} (hn : TH.length = n) (h : w'.ownsRow base 2 1 v1 n (vis (ints TH))) (hv : v1 = .slice A n cap) (hb : ∀ k, v.ownBlock = some k → k < base) : Tg w' A v TH := fun h0 => by
  obtain ⟨A', cap', hv', hcap, hw⟩ := own_iwr h (by rw [ints_len]; exact hn)
  rw [hv] at hv'
  cases hv'
  obtain ⟨b, off, ty, cs, e, hlo, hhi, hblk, hc⟩ := hw (by rw [ints_len]; exact h0)
  exact ⟨b, off, e, hhi, fun e' => by have := hb b e'; omega, fun k hk => by rw [← ints_get hk]; exact (hblk.cell _).trans (hc k (by rw [ints_len]; exact hk))⟩
theorem reads_ir {w : World} {A : Option Addr} {xs : List Int} {n : Nat} (h : IR w w.heap.size A xs) (hl : xs.length = n) : Reads w w.heap.size 1 A n (vis xs) := ⟨by rw [vis_len, hl, Nat.mul_one], fun h0 => by
  obtain ⟨b, o, rfl, hb, hc⟩ := h (by omega)
  refine ⟨_, rfl, hb, fun j u hu => ?_⟩
  rw [Go.WideShapes.add_plain]
  have hj : j < xs.length := by
    rcases Nat.lt_or_ge j xs.length with h | h
    · exact h
    · rw [List.getElem?_eq_none (by rw [vis_len]; omega)] at hu; cases hu
  have : (vis xs)[j]? = some (.int .i64 (xs.getD j 0)) := by simp [vis, vi, List.getD, hj]
  rw [this] at hu
  cases hu
  exact hc j hj⟩
set_option maxRecDepth 100000 in
set_option maxHeartbeats 2000000 in
theorem allFrom64_any (ts : List Tl) (c0 : Int) (A : Option Addr) (n c : Nat) (G : Option Addr) (m g : Nat) (bs : List (List Int)) (I b o : Nat) (w : World) (hm : m ≤ 16) (hl : bs.length = m) (hok : bOk ts bs = true) (hI : I < m) (hG : TR w w.heap.size G (blkL bs)) (hb : b < w.heap.size) (hA : w.cell? ⟨b, o, none⟩ = some (.int .i64 (I : Int))) :
    Calls Try.prog 76 #[.slice (some ⟨b, o, none⟩) 1 1, .func (.func 77) #[.agg #[.int .i64 c0, .slice A n c, .slice G m g]] #[]] w fun e w' => ∃ v AL, e = .returned v ∧ Below w.heap.size w w' ∧ w'.ownsRow w.heap.size 2 1 v AL.length (vis (ints AL)) ∧ AL.Nodup ∧ (∀ x, x ∈ AL ↔ Rch (stT bs) I x) := by
  have HG := Lib.hid hG
  have HOK := Lib.hid hok
  have HA0 := Lib.hid (show Tg w (some ⟨b, o, none⟩) (.slice none 0 0) [I] from fun _ => ⟨b, o, rfl, hb, by simp [Value.ownBlock], fun k hk => by
    obtain rfl : k = 0 := by simpa using hk
    simpa using hA⟩)
  have HLT := Lib.hid (fun x (h : Rch (stT bs) I x) => (rch_lt hok (by omega) h : x < bs.length))
  clear hG hok hA
  go_enter Try.func76, Try.ntmps76
  go_wp2_with fail
  go_loopw [0, 5] (fun th v wr => ∃ (TH AL : List Nat) (A' : Option Addr) (t c' : Nat), th = .slice A' t c' ∧ TH.length = t ∧ t ≤ c' ∧ Tg wr A' v TH ∧ wr.ownsRow w.heap.size 2 1 v AL.length (vis (ints AL)) ∧ lenOfV v = AL.length ∧ Srch (stT bs) I m TH AL ∧ Below w.heap.size w wr) (fun th v _ => (17 - lenOfV v) * 5 + lenOfV th)
  case atStart => exact ⟨[I], [], some ⟨b, o, none⟩, 1, 1, rfl, rfl, Nat.le_refl _, HA0.out, World.ownsRow_nil _ _ _ _, rfl, Srch.begin _ _ _, Below.refl _ _⟩
  case round =>
    obtain ⟨TH, AL, A', t, c', rfl, hTl, htc, htg, hown, hlv, hsr, hbw⟩ := hrel
    have hA16 : AL.length ≤ 16 := Nat.le_trans (nodup_len hsr.nodup (fun x hx => by have := HLT.out x (hsr.rchA x hx); omega)) hm
    have hsm := hsr.small
    have HS := Lib.hid hsr
    have HO := Lib.hid hown
    have HT := Lib.hid htg
    have HB := Lib.hid hbw
    have HLV := Lib.hid hlv
    obtain ⟨A2, cap2, hv, hcap, hiw⟩ := own_iwr hown (ints_len AL)
    subst hv
    have HIW := Lib.hid hiw
    cases TH with
    | nil =>
      obtain rfl : t = 0 := by simpa using hTl.symm
      clear hsr hown htg hbw hlv hiw
      go_wp2_with fail
      go_ret
      have hd := HS.out.done
      first
      | exact ⟨_, AL, rfl, HB.out, HO.out, HS.out.nodup, hd⟩
      | exact ⟨AL, HB.out, HO.out, HS.out.nodup, hd⟩
    | cons x TH' =>
      obtain ⟨t', rfl⟩ : ∃ t', t = t' + 1 := ⟨TH'.length, by simpa using hTl.symm⟩
      have hTl' : TH'.length = t' := by simpa using hTl
      obtain ⟨b', o', hAe, hb', hvb, hcc⟩ := htg (by simp)
      subst hAe
      have q0 := hcc 0 (by simp)
      simp only [List.getD_cons_zero, Nat.add_zero] at q0
      have HX := Lib.hid (HT.out.tail)
      have hct := contains64_any A2 AL.length cap2 (ints AL) (x : Int) wr (by omega) (ints_len AL) hiw.ir
      have hxm := HLT.out x (hsr.rchT x (by simp))
      clear hsr hown htg hbw hlv hiw hcc
      by_cases hx : x ∈ AL
      · rw [decide_eq_true (ints_mem.2 hx)] at hct
        have HCT := Lib.hid hct
        clear hct
        by_cases hc1 : c' = 1
        · subst hc1
          obtain rfl : t' = 0 := by omega
          obtain rfl : TH' = [] := List.eq_nil_of_length_eq_zero hTl'
          have HX1 := Lib.hid (Tg.nil wr (some ⟨b', o', none⟩) (.slice A2 AL.length cap2))
          go_wp2_with fail
          refine HCT.out.mono ?_
          rintro e w4 ⟨rfl, hx4⟩
          have HX4 := Lib.hid (HX1.out.ext hx4)
          have HO4 := Lib.hid (iown_ext HO.out hx4)
          have HB4 := Lib.hid (HB.out.trans (hx4.below HB.out.size))
          clear hx4
          go_wp2_with fail
          go_roundw
          case rel => exact ⟨[], AL, some ⟨b', o', none⟩, 0, 0, rfl, hTl', by omega, HX4.out, HO4.out, HLV.out, HS.out.old hx, HB4.out⟩
          case measure => simp [lenOfV]
        · go_wp2_with fail
          refine HCT.out.mono ?_
          rintro e w4 ⟨rfl, hx4⟩
          have HX4 := Lib.hid (HX.out.ext hx4)
          have HO4 := Lib.hid (iown_ext HO.out hx4)
          have HB4 := Lib.hid (HB.out.trans (hx4.below HB.out.size))
          clear hx4
          go_wp2_with fail
          go_roundw
          case rel => exact ⟨TH', AL, some ⟨b', (o' + 1), none⟩, t', (c' - 1), rfl, hTl', by omega, HX4.out, HO4.out, HLV.out, HS.out.old hx, HB4.out⟩
          case measure => simp [lenOfV]
      · rw [decide_eq_false (fun h => hx (ints_mem.1 h))] at hct
        have HCT := Lib.hid hct
        clear hct
        by_cases hc1 : c' = 1
        · subst hc1
          obtain rfl : t' = 0 := by omega
          obtain rfl : TH' = [] := List.eq_nil_of_length_eq_zero hTl'
          have HX1 := Lib.hid (Tg.nil wr (some ⟨b', o', none⟩) (.slice A2 AL.length cap2))
          go_wp2_with fail
          refine HCT.out.mono ?_
          rintro e w4 ⟨rfl, hx4⟩
          have HX4 := Lib.hid (HX1.out.ext hx4)
          have HO4 := Lib.hid (iown_ext HO.out hx4)
          have HB4 := Lib.hid (HB.out.trans (hx4.below HB.out.size))
          clear hx4
          go_wp2_with (at_builtin; refine wpList_push rfl _ _ rfl w.heap.size _ AL.length _ rfl (HO4.out.alloc _) w4.heap.size (x : Int) rfl (heap_alloc_new w4 _) ?c1 ?c2 ?c3 ?_)
          case c1 => unfold maxLen; omega
          case c2 => omega
          case c3 => have := HB4.out.size; simp; omega
          intro v' w5 hown' hgrow hat
          rw [show vis (ints AL) ++ [vi (x : Int)] = vis (ints (AL ++ [x])) by rw [ints_snoc, vis_snoc]] at hown'
          have O5 := Lib.hid hown'
          have B5 := Lib.hid ((HB4.out.alloc (by have := HB4.out.size; omega) (Obj.cells #[.int .i64 (x : Int)] 2)).grown hgrow (by have := HB4.out.size; simp; omega) (fun j hj => (HO4.out.lt j hj).1))
          have T5 := Lib.hid ((((HX4.out.ext ((Ext.refl w4).alloc _)).grown hgrow)).more (show _ ≤ w5.heap.size from hgrow.size))
          obtain ⟨g6, cap6, hv6⟩ := ownsRow_succ hown'
          have HV6 := Lib.hid (show lenOfV v' = AL.length + 1 by rw [hv6]; rfl)
          have HTB := Lib.hid (tilesOfBlock_any c0 A n c G m g bs x w5 (by omega) hl (by omega) ((HG.out.below B5.out (Nat.le_refl _)).more B5.out.size))
          clear hown' hgrow hat hv6
          go_wp2_with fail
          refine HTB.out.mono ?_
          rintro e w6 ⟨R, cap, rfl, hb6, hw6⟩
          have HB6 := Lib.hid hb6
          have hx7 := (Ext.refl w6).alloc (Obj.cells #[.slice (some ⟨b', o', none⟩) 0 0, .slice R 4 cap] 44)
          have hs7 : (w6.alloc (Obj.cells #[.slice (some ⟨b', o', none⟩) 0 0, .slice R 4 cap] 44)).heap.size = w6.heap.size + 1 := by simp
          have hr1 := ((T5.out.below hb6).more hb6.size)
          rw [hTl'] at hr1
          have HC := Lib.hid (concat64_any w6.heap.size 2 (some ⟨b', o', none⟩) R 0 0 4 cap (vis (ints [])) (vis (blkI bs x)) (w6.alloc (Obj.cells #[.slice (some ⟨b', o', none⟩) 0 0, .slice R 4 cap] 44)) (by simp at hsm; omega) (vis_one64 _) (vis_one64 _) (Blk.new w6 _ _) ((hr1.alloc (Nat.le_refl _) _).more (by rw [hs7]; omega)) (reads_ir ((hw6.ext hx7).ir) rfl))
          have HB7 := Lib.hid (hx7.below (Nat.le_refl w6.heap.size))
          clear hb6 hx7 hw6 hr1
          go_wp2_with fail
          refine HC.out.mono ?_
          rintro e w8 ⟨v8, rfl, hb8, hown8⟩
          have B58 := Lib.hid (HB6.out.trans ((HB7.out.mono HB6.out.size).trans (hb8.mono (by rw [hs7]; have := HB6.out.size; omega))))
          have B8 := Lib.hid (B5.out.trans (B58.out.mono B5.out.size))
          rw [blkI_st HOK.out hxm, show vis (ints []) ++ vis (ints (stT bs x)) = vis (ints ([] ++ stT bs x)) by rw [ints_app]; simp [vis]] at hown8
          obtain ⟨A8, cap8, hv8, hcap8, -⟩ := own_iwr hown8 (by rw [ints_len, List.length_append, hTl']; rfl)
          have T8 := Lib.hid (Tg.fresh (v := v') (by rw [List.length_append, hTl']; rfl) hown8 hv8 (fun k hk => by have := (O5.out.lt k hk).2; have := HB6.out.size; rw [hs7]; omega))
          have O8 := Lib.hid (own_belowB O5.out B58.out)
          subst hv8
          clear hb8 hown8 hs7
          go_wp2_with fail
          go_roundw
          case rel => exact ⟨[] ++ stT bs x, AL ++ [x], A8, 0 + 4, cap8, rfl, by rw [List.length_append, hTl']; rfl, hcap8, T8.out, by rw [List.length_append]; exact O8.out, by rw [HV6.out, List.length_append]; rfl, HS.out.fresh hx rfl, B8.out⟩
          case measure => show (17 - lenOfV v') * 5 + (0 + 4) < (17 - AL.length) * 5 + (0 + 1); rw [HV6.out]; omega
        · go_wp2_with fail
          refine HCT.out.mono ?_
          rintro e w4 ⟨rfl, hx4⟩
          have HX4 := Lib.hid (HX.out.ext hx4)
          have HO4 := Lib.hid (iown_ext HO.out hx4)
          have HB4 := Lib.hid (HB.out.trans (hx4.below HB.out.size))
          clear hx4
          go_wp2_with (at_builtin; refine wpList_push rfl _ _ rfl w.heap.size _ AL.length _ rfl (HO4.out.alloc _) w4.heap.size (x : Int) rfl (heap_alloc_new w4 _) ?c1 ?c2 ?c3 ?_)
          case c1 => unfold maxLen; omega
          case c2 => omega
          case c3 => have := HB4.out.size; simp; omega
          intro v' w5 hown' hgrow hat
          rw [show vis (ints AL) ++ [vi (x : Int)] = vis (ints (AL ++ [x])) by rw [ints_snoc, vis_snoc]] at hown'
          have O5 := Lib.hid hown'
          have B5 := Lib.hid ((HB4.out.alloc (by have := HB4.out.size; omega) (Obj.cells #[.int .i64 (x : Int)] 2)).grown hgrow (by have := HB4.out.size; simp; omega) (fun j hj => (HO4.out.lt j hj).1))
          have T5 := Lib.hid ((((HX4.out.ext ((Ext.refl w4).alloc _)).grown hgrow)).more (show _ ≤ w5.heap.size from hgrow.size))
          obtain ⟨g6, cap6, hv6⟩ := ownsRow_succ hown'
          have HV6 := Lib.hid (show lenOfV v' = AL.length + 1 by rw [hv6]; rfl)
          have HTB := Lib.hid (tilesOfBlock_any c0 A n c G m g bs x w5 (by omega) hl (by omega) ((HG.out.below B5.out (Nat.le_refl _)).more B5.out.size))
          clear hown' hgrow hat hv6
          go_wp2_with fail
          refine HTB.out.mono ?_
          rintro e w6 ⟨R, cap, rfl, hb6, hw6⟩
          have HB6 := Lib.hid hb6
          have hx7 := (Ext.refl w6).alloc (Obj.cells #[.slice (some ⟨b', (o' + 1), none⟩) t' (c' - 1), .slice R 4 cap] 44)
          have hs7 : (w6.alloc (Obj.cells #[.slice (some ⟨b', (o' + 1), none⟩) t' (c' - 1), .slice R 4 cap] 44)).heap.size = w6.heap.size + 1 := by simp
          have hr1 := ((T5.out.below hb6).more hb6.size)
          rw [hTl'] at hr1
          have HC := Lib.hid (concat64_any w6.heap.size 2 (some ⟨b', (o' + 1), none⟩) R t' (c' - 1) 4 cap (vis (ints TH')) (vis (blkI bs x)) (w6.alloc (Obj.cells #[.slice (some ⟨b', (o' + 1), none⟩) t' (c' - 1), .slice R 4 cap] 44)) (by simp at hsm; omega) (vis_one64 _) (vis_one64 _) (Blk.new w6 _ _) ((hr1.alloc (Nat.le_refl _) _).more (by rw [hs7]; omega)) (reads_ir ((hw6.ext hx7).ir) rfl))
          have HB7 := Lib.hid (hx7.below (Nat.le_refl w6.heap.size))
          clear hb6 hx7 hw6 hr1
          go_wp2_with fail
          refine HC.out.mono ?_
          rintro e w8 ⟨v8, rfl, hb8, hown8⟩
          have B58 := Lib.hid (HB6.out.trans ((HB7.out.mono HB6.out.size).trans (hb8.mono (by rw [hs7]; have := HB6.out.size; omega))))
          have B8 := Lib.hid (B5.out.trans (B58.out.mono B5.out.size))
          rw [blkI_st HOK.out hxm, show vis (ints TH') ++ vis (ints (stT bs x)) = vis (ints (TH' ++ stT bs x)) by rw [ints_app]; simp [vis]] at hown8
          obtain ⟨A8, cap8, hv8, hcap8, -⟩ := own_iwr hown8 (by rw [ints_len, List.length_append, hTl']; rfl)
          have T8 := Lib.hid (Tg.fresh (v := v') (by rw [List.length_append, hTl']; rfl) hown8 hv8 (fun k hk => by have := (O5.out.lt k hk).2; have := HB6.out.size; rw [hs7]; omega))
          have O8 := Lib.hid (own_belowB O5.out B58.out)
          subst hv8
          clear hb8 hown8 hs7
          go_wp2_with fail
          go_roundw
          case rel => exact ⟨TH' ++ stT bs x, AL ++ [x], A8, t' + 4, cap8, rfl, by rw [List.length_append, hTl']; rfl, hcap8, T8.out, by rw [List.length_append]; exact O8.out, by rw [HV6.out, List.length_append]; rfl, HS.out.fresh hx rfl, B8.out⟩
          case measure => show (17 - lenOfV v') * 5 + (t' + 4) < (17 - AL.length) * 5 + (t' + 1); rw [HV6.out]; omega
end Go.Proofs.Ytnmgkchkbchfaaa
