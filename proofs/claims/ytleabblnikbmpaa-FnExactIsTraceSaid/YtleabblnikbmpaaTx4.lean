/- IsTrace; the program's side. -/
import Derived.Test.YtleabblnikbmpaaTx3
import Derived.Test.YtleabblnikbmpaaOvr2
namespace Go.Proofs.Ytleabblnikbmpaa
set_option linter.unusedVariables false
set_option linter.unusedSimpArgs false
open Go.RowKit Go.Sort

/-- The words that are reached along a word. -/
def runT (K : List Cq) : List Int → (Nat → Bool) → (Nat → Bool)
  | [], p => p
  | c :: r, p => runT K r (ndW K c.toNat p (fun _ => true))
theorem runT_snoc (K : List Cq) : ∀ (xs : List Int) (c : Int) (p : Nat → Bool), runT K (xs ++ [c]) p = ndW K c.toNat (runT K xs p) (fun _ => true)
  | [], _, _ => rfl
  | _ :: r, c, _ => runT_snoc K r c _
theorem runT_take (K : List Cq) (xs : List Int) {k : Nat} (hk : k < xs.length) : runT K (xs.take (k + 1)) (fun _ => true) = ndW K (xs.getD k 0).toNat (runT K (xs.take k) (fun _ => true)) (fun _ => true) := by
  rw [List.take_succ_eq_append_getElem hk, runT_snoc]
  simp [List.getD, hk]
/-- The code of IsTrace. -/
def itCode (c0 : Int) (ts : List Tl) (h : Int) (xs : List Int) : Int := tcCode c0 ts h (decide (wordCode c0 ts xs = 0))
def itB (C : Nat) (ts : List Tl) (h : Nat) (xs : List Int) : Bool := anyQ (C ^ h) (runT (KK C ts h) xs (fun _ => true))
theorem word_in {c0 : Int} {ts : List Tl} {xs : List Int} (hs : isSet c0 ts = true) (h : wordCode c0 ts xs = 0) : (1 ≤ xs.length ∧ xs.length ≤ 20) ∧ ∀ k, k < xs.length → 0 ≤ xs.getD k 0 ∧ xs.getD k 0 < c0 := by
  unfold wordCode at h
  rw [if_pos hs] at h
  by_cases hh : (1 ≤ xs.length ∧ xs.length ≤ 20) ∧ isWord c0 xs = true
  · refine ⟨hh.1, fun k hk => ?_⟩
    have := List.all_eq_true.1 hh.2 k (List.mem_range.2 hk)
    simpa using this
  · rw [if_neg hh] at h; omega

set_option maxRecDepth 100000 in
set_option maxHeartbeats 2000000 in
theorem implIsTrace_0 (C : Nat) (A : Option Addr) (n c : Nat) (ts : List Tl) (h : Nat) (B : Option Addr) (m d : Nat) (xs : List Int) (w : World) (hl : ts.length = n) (hA : TR w w.heap.size A ts) (hlx : xs.length = m) (hB : IR w w.heap.size B xs) (hz : itCode (C : Int) ts (h : Int) xs = 0) :
    Calls Try.prog 37 #[.agg #[.int .i64 (C : Int), .slice A n c], .int .i64 (h : Int), .slice B m d] w (BoolRes w (itB C ts h xs) 0) := by
  obtain ⟨hs, h1, h3, hg⟩ := tcCode_zero hz
  have hwc : wordCode (C : Int) ts xs = 0 := by simpa using hg
  obtain ⟨⟨hx1, hx2⟩, hxc⟩ := word_in hs hwc
  have hn := isSet_len hs
  rw [hl] at hn
  have hcc := isSet_col hs
  have hch : ∀ W, Below w.heap.size w W → Calls Try.prog 72 #[.agg #[.int .i64 (C : Int), .slice A n c], .int .i64 (h : Int), .int .i64 3] W _ := fun W hW => checkHeightM_any (C : Int) A n c ts (h : Int) 3 W (by omega) hl ((hA.below hW (Nat.le_refl _)).more hW.size)
  have hcd : hCodeM (C : Int) ts (h : Int) 3 = 0 := by unfold hCodeM; rw [if_pos hs, if_pos ⟨h1, h3⟩]
  rw [hcd] at hch
  have hcw : ∀ W, Below w.heap.size w W → Calls Try.prog 73 #[.agg #[.int .i64 (C : Int), .slice A n c], .slice B m d] W _ := fun W hW => checkWord_any (C : Int) A n c ts B m d xs W (by omega) hl ((hA.below hW (Nat.le_refl _)).more hW.size) (by omega) hlx ((hB.below hW (Nat.le_refl _)).more hW.size)
  rw [hwc] at hcw
  have hst : ∀ W, Below w.heap.size w W → Calls Try.prog 74 #[.agg #[.int .i64 (C : Int), .slice A n c], .int .i64 (h : Int)] W _ := fun W hW => searchTraces_0 C A n c ts h W hl ((hA.below hW (Nat.le_refl _)).more hW.size) hs (by omega) (by omega)
  have hkm := kk_mem (h := h) hs (by omega)
  have hp := pow_216 (C := C) (h := h) (by omega) (by omega)
  have hp1 : 1 ≤ C ^ h := Nat.one_le_pow _ _ (by omega)
  have hkl : (KK C ts h).length ≤ 4096 := by rw [KK_len]; exact cols_4096 (by omega) (by omega)
  unfold itB BoolRes
  have HAF := Lib.hid (fun (gU gA gR gO qr qo : Nat) (p q : Nat → Bool) (cc : Nat) (W : World) h1 h2 h3 h4 => after_any C (C ^ h) (KK C ts h) gU gA gR gO qr qo p q cc W (by omega) (by omega) h1 (fun x hx => (hkm x hx).2) h2 h3 h4)
  have HCH := Lib.hid hch
  have HCW := Lib.hid hcw
  have HST := Lib.hid hst
  have HB := Lib.hid hB
  have HXC := Lib.hid hxc
  have HRT := Lib.hid (fun k (hk : k < xs.length) => runT_take (KK C ts h) xs hk)
  clear hch hcw hst hA hB hs hcd hwc hz hg hkm hkl hxc
  generalize KK C ts h = K at *
  generalize C ^ h = P at *
  go_enter Try.func37, Try.ntmps37
  go_wp2_with fail
  have hx0 := (Ext.refl w).alloc (Obj.cells #[.int .i64 (C : Int), .slice A n c] 30)
  have hS0 := Blk.new w 30 #[.int .i64 (C : Int), .slice A n c]
  generalize w.alloc (Obj.cells #[.int .i64 (C : Int), .slice A n c] 30) = W0 at *
  have H0 := Lib.hid (hx0.below (Nat.le_refl w.heap.size))
  have HS := Lib.hid hS0
  clear hx0 hS0
  refine (HCH.out _ H0.out).mono ?_
  rintro e w1 ⟨rfl, hx1⟩
  have H1 := Lib.hid (H0.out.trans (hx1.below H0.out.size))
  have HS1 := Lib.hid (HS.out.ext hx1)
  have r0 := HS1.out.rd 0 rfl
  have r1 := HS1.out.rd 1 rfl
  clear hx1
  go_wp2_with fail
  refine (HCW.out _ H1.out).mono ?_
  rintro e w2 ⟨rfl, hx2⟩
  have H2 := Lib.hid (H1.out.trans (hx2.below H1.out.size))
  have HS2 := Lib.hid (HS1.out.ext hx2)
  have r0 := HS2.out.rd 0 rfl
  have r1 := HS2.out.rd 1 rfl
  clear hx2
  go_wp2_with fail
  refine (HST.out _ H2.out).mono ?_
  rintro e w3 ⟨gU, gA, rfl, hb3, hts⟩
  have H3 := Lib.hid (H2.out.trans (hb3.mono H2.out.size))
  have HTS := Lib.hid hts
  clear hb3 hts r0 r1
  have hG4 := Blk.new w3 84 #[.slice (some ⟨gU, 0, none⟩) C C, .slice (some ⟨gA, 0, none⟩) P P]
  have e1 := hG4.rd 1 rfl
  go_wp2_with fail
  have hx4 := (Ext.refl w3).alloc (Obj.cells #[.slice (some ⟨gU, 0, none⟩) C C, .slice (some ⟨gA, 0, none⟩) P P] 84)
  have hsz4 : (w3.alloc (Obj.cells #[.slice (some ⟨gU, 0, none⟩) C C, .slice (some ⟨gA, 0, none⟩) P P] 84)).heap.size = w3.heap.size + 1 := by simp
  generalize w3.alloc (Obj.cells #[.slice (some ⟨gU, 0, none⟩) C C, .slice (some ⟨gA, 0, none⟩) P P] 84) = W4 at *
  have HG4 := Lib.hid hG4
  have H4 := Lib.hid (hx4.below (Nat.le_refl w3.heap.size))
  have HT4 := Lib.hid ((HTS.out.below (hx4.below (Nat.le_refl w3.heap.size)) (Nat.le_refl _)).more (show w3.heap.size ≤ W4.heap.size by omega))
  have HSZ4 := Lib.hid (show w3.heap.size < W4.heap.size by omega)
  clear hx4 hG4 hsz4 e1
  go_loopw [12, 40] (fun v ii wr => ∃ k g qq : Nat, k ≤ m ∧ ii = .int .i64 k ∧ v = .slice (some ⟨g, 0, none⟩) P qq ∧ BQ wr g P (runT K (xs.take k) (fun _ => true)) ∧ Below W4.heap.size W4 wr) (fun _ ii _ => m - (intOf ii).toNat)
  case atStart => exact ⟨0, gA, P, Nat.zero_le _, rfl, rfl, HT4.out.2.2.1, Below.refl _ _⟩
  case round =>
    obtain ⟨k, g, qq, hk, rfl, rfl, hq, hb⟩ := hrel
    have HQ := Lib.hid hq
    have HBB := Lib.hid hb
    have hszr := hb.size
    by_cases hlt : k < m
    · have hlt3 : (k : Int) < (m : Int) := by omega
      have hwb : Below w.heap.size w wr := H3.out.trans ((H4.out.mono H3.out.size).trans (hb.mono (by have := H3.out.size; have := HSZ4.out; omega)))
      obtain ⟨bx, ox, rfl, hbx, hcx⟩ := HB.out (by omega)
      have q1 := (hwb.cell (p := ⟨bx, ox + k, none⟩) hbx).trans (hcx k (by omega))
      obtain ⟨c0, hc0⟩ : ∃ c0 : Nat, xs.getD k 0 = (c0 : Int) := ⟨(xs.getD k 0).toNat, by have := (HXC.out k (by omega)).1; omega⟩
      have hcC : c0 < C := by have := (HXC.out k (by omega)).2; omega
      have HR := Lib.hid (HRT.out k (by omega))
      rw [hc0] at q1 HR
      rw [Int.toNat_natCast] at HR
      have hg4 := HG4.out.below hb HSZ4.out
      have g0 := hg4.rd 0 rfl
      have g1 := hg4.rd 1 rfl
      have HAA := Lib.hid (HAF.out gU gA g gA qq P (runT K (xs.take k) (fun _ => true)) (fun _ => true) c0 wr hcC ((HT4.out.below hb (Nat.le_refl _)).more hszr) HQ.out ((HT4.out.2.2.1).below hb HT4.out.2.1))
      clear hcx hc0 hwb hg4 hq hb
      go_wp2_with fail
      refine HAA.out.mono ?_
      rintro e w5 ⟨g5, rfl, hb5, hg5, hq5⟩
      have HQ5 := Lib.hid (show BQ w5 g5 P (runT K (xs.take (k + 1)) (fun _ => true)) by rw [HR.out]; exact hq5)
      have HB5 := Lib.hid (HBB.out.trans (hb5.mono HBB.out.size))
      clear hb5 hg5 hq5
      go_wp2_with fail
      go_roundw
      case rel => first | exact ⟨k + 1, g5, P, by omega, by go_num, rfl, HQ5.out, HB5.out⟩ | ((repeat apply Exists.intro); exact ⟨⟨k + 1, g5, P, by omega, by go_num, rfl, HQ5.out, HB5.out⟩, rfl⟩)
      case measure => simp [intOf]; omega
    · obtain rfl : k = m := by omega
      have HE := Lib.hid (isEmpty_any g P qq _ wr (by omega) hq)
      rw [List.take_of_length_le (by omega)] at HE
      have HBF := Lib.hid (H3.out.trans ((H4.out.mono H3.out.size).trans (hb.mono (by have := H3.out.size; have := HSZ4.out; omega))))
      obtain ⟨ans, hans⟩ : ∃ ans, ans = anyQ P (runT K xs fun _ => true) := ⟨_, rfl⟩
      rw [← hans] at HE
      have HAN := Lib.hid hans
      clear hq hb hans
      go_wp2_with fail
      refine HE.out.mono ?_
      rintro e w6 ⟨rfl, rfl⟩
      go_wp2_with fail
      go_ret2
      exact ⟨by rw [← HAN.out]; cases ans <;> rfl, HBF.out⟩

set_option maxRecDepth 100000 in
set_option maxHeartbeats 2000000 in
theorem implIsTrace_no (c0 : Int) (A : Option Addr) (n c : Nat) (ts : List Tl) (h : Int) (B : Option Addr) (m d : Nat) (xs : List Int) (w : World) (hn : n ≤ 1048576) (hl : ts.length = n) (hA : TR w w.heap.size A ts) (hm : m ≤ 1048576) (hlx : xs.length = m) (hB : IR w w.heap.size B xs) (hz : itCode c0 ts h xs ≠ 0) :
    Calls Try.prog 37 #[.agg #[.int .i64 c0, .slice A n c], .int .i64 h, .slice B m d] w (BoolRes w false (itCode c0 ts h xs)) := by
  have hch : ∀ W, Below w.heap.size w W → Calls Try.prog 72 #[.agg #[.int .i64 c0, .slice A n c], .int .i64 h, .int .i64 3] W _ := fun W hW => checkHeightM_any c0 A n c ts h 3 W (by omega) hl ((hA.below hW (Nat.le_refl _)).more hW.size)
  have hcw : ∀ W, Below w.heap.size w W → Calls Try.prog 73 #[.agg #[.int .i64 c0, .slice A n c], .slice B m d] W _ := fun W hW => checkWord_any c0 A n c ts B m d xs W (by omega) hl ((hA.below hW (Nat.le_refl _)).more hW.size) hm hlx ((hB.below hW (Nat.le_refl _)).more hW.size)
  unfold BoolRes
  have HCH := Lib.hid hch
  have HCW := Lib.hid hcw
  have HZ := Lib.hid hz
  by_cases hc : hCodeM c0 ts h 3 = 0
  · have hs : isSet c0 ts = true ∧ 1 ≤ h ∧ h ≤ 3 := by
      unfold hCodeM at hc
      by_cases hs : isSet c0 ts = true
      · rw [if_pos hs] at hc
        by_cases hh : 1 ≤ h ∧ h ≤ 3
        · exact ⟨hs, hh⟩
        · rw [if_neg hh] at hc; omega
      · rw [if_neg hs] at hc; omega
    have hw : wordCode c0 ts xs ≠ 0 := fun e => hz (by unfold itCode tcCode; rw [if_pos hs.1, decide_eq_true e, if_pos ⟨hs.2, rfl⟩])
    have HI := Lib.hid (show itCode c0 ts h xs = 2 by unfold itCode tcCode; rw [if_pos hs.1, decide_eq_false hw, if_neg (fun h => Bool.false_ne_true h.2)])
    have HW := Lib.hid (show wordCode c0 ts xs = 2 by
      unfold wordCode at hw ⊢
      rw [if_pos hs.1] at hw ⊢
      by_cases hh : (1 ≤ xs.length ∧ xs.length ≤ 20) ∧ isWord c0 xs = true
      · rw [if_pos hh] at hw; exact absurd rfl hw
      · rw [if_neg hh])
    rw [HI.out]
    rw [hc] at hch
    rw [HW.out] at hcw
    have HCH := Lib.hid hch
    have HCW := Lib.hid hcw
    clear hch hcw hA hB hz hc hs hw
    go_enter Try.func37, Try.ntmps37
    go_wp2_with fail
    have hx0 := (Ext.refl w).alloc (Obj.cells #[.int .i64 c0, .slice A n c] 30)
    have hS0 := Blk.new w 30 #[.int .i64 c0, .slice A n c]
    generalize w.alloc (Obj.cells #[.int .i64 c0, .slice A n c] 30) = W0 at *
    have H0 := Lib.hid (hx0.below (Nat.le_refl w.heap.size))
    have HS := Lib.hid hS0
    clear hx0 hS0
    refine (HCH.out _ H0.out).mono ?_
    rintro e w1 ⟨rfl, hx1⟩
    have H1 := Lib.hid (H0.out.trans (hx1.below H0.out.size))
    have HS1 := Lib.hid (HS.out.ext hx1)
    have r0 := HS1.out.rd 0 rfl
    have r1 := HS1.out.rd 1 rfl
    clear hx1
    go_wp2_with fail
    refine (HCW.out _ H1.out).mono ?_
    rintro e w2 ⟨rfl, hx2⟩
    have H2 := Lib.hid (H1.out.trans (hx2.below H1.out.size))
    clear hx2 r0 r1
    go_wp2_with fail
    go_ret2
    exact ⟨rfl, H2.out⟩
  · have HI := Lib.hid (show itCode c0 ts h xs = hCodeM c0 ts h 3 by
      unfold itCode tcCode
      unfold hCodeM at hc ⊢
      by_cases hs : isSet c0 ts = true
      · rw [if_pos hs] at hc ⊢
        rw [if_pos hs]
        by_cases hh : 1 ≤ h ∧ h ≤ 3
        · rw [if_pos hh] at hc; exact absurd rfl hc
        · rw [if_neg hh, if_neg (fun h => hh h.1)]
      · rw [if_neg hs, if_neg hs])
    rw [HI.out]
    have HC := Lib.hid hc
    generalize hCodeM c0 ts h 3 = code at *
    have hne : (code != 0) = true := by simp [hc]
    clear hch hcw hA hB hz hc
    go_enter Try.func37, Try.ntmps37
    go_wp2_with fail
    refine (HCH.out _ (((Ext.refl w).alloc _).below (Nat.le_refl _))).mono ?_
    rintro e w1 ⟨rfl, hx1⟩
    have H1 := Lib.hid ((((Ext.refl w).alloc _).trans hx1).below (Nat.le_refl w.heap.size))
    clear hx1
    go_wp2_with fail
    go_ret2
    exact ⟨rfl, H1.out⟩
end Go.Proofs.Ytleabblnikbmpaa
