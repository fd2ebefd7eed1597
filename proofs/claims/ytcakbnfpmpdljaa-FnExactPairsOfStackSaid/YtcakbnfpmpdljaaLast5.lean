/- The lasting tiles: the program's side, for tiles of any number of colours. -/
import Derived.Test.YtcakbnfpmpdljaaLast4
import Derived.Test.YtcakbnfpmpdljaaIs2
import Derived.Lib.Hide
namespace Go.Proofs.Ytcakbnfpmpdljaa
set_option linter.unusedVariables false
set_option linter.unusedSimpArgs false
open Go.RowKit Go.Sort

theorem numsOf_le (n : Nat) (p : Nat → Bool) : (numsOf n p).length ≤ n := by
  unfold numsOf
  rw [List.length_map]
  refine Nat.le_trans (List.length_filter_le _ _) ?_
  rw [List.length_range]
  exact Nat.le_refl _
theorem numsOf_in {n : Nat} {p : Nat → Bool} {k : Nat} (hk : k < (numsOf n p).length) : 0 ≤ (numsOf n p).getD k 0 ∧ (numsOf n p).getD k 0 < n := by
  have hm : (numsOf n p).getD k 0 ∈ numsOf n p := by
    have : (numsOf n p).getD k 0 = (numsOf n p)[k] := by simp [List.getD, hk]
    rw [this]
    exact List.getElem_mem hk
  unfold numsOf at hm
  obtain ⟨y, hy, e⟩ := List.mem_map.1 hm
  have := List.mem_range.1 (List.mem_filter.1 hy).1
  unfold numsOf
  rw [← e]
  omega
theorem upTo_nums (n : Nat) : upTo n = numsOf n fun _ => true := by
  unfold upTo numsOf
  rw [List.filter_eq_self.2 (fun _ _ => rfl)]
theorem keepP_iff {ts : List Tl} {n : Nat} {p : Nat → Bool} {x : Nat} : keepP ts n p x = true ↔ (∃ y, (y < n ∧ p y = true) ∧ westOf ts x y) ∧ (∃ y, (y < n ∧ p y = true) ∧ eastOf ts x y) := by
  unfold keepP westOf eastOf
  simp only [Bool.and_eq_true, List.any_eq_true, List.mem_range, decide_eq_true_eq]
  constructor
  · rintro ⟨⟨y, h1, h2, h3⟩, z, h4, h5, h6⟩
    exact ⟨⟨y, ⟨h1, h2⟩, h3⟩, z, ⟨h4, h5⟩, h6⟩
  · rintro ⟨⟨y, ⟨h1, h2⟩, h3⟩, z, ⟨h4, h5⟩, h6⟩
    exact ⟨⟨y, h1, h2, h3⟩, z, h4, h5, h6⟩
/-- Keeping those with neighbours keeps the lasting ones. -/
theorem keep_last {ts : List Tl} {n : Nat} (hl : ts.length = n) {p : Nat → Bool} (h : ∀ x, lastT ts x → p x = true) (x : Nat) (hx : lastT ts x) : (p x && keepP ts n p x) = true := by
  rw [h x hx, Bool.true_and, keepP_iff]
  obtain ⟨_, ⟨y, hy, hw⟩, z, hz, he⟩ := lastT_closed ts x hx
  exact ⟨⟨y, ⟨by have := lastT_lt hy; omega, h y hy⟩, hw⟩, z, ⟨by have := lastT_lt hz; omega, h z hz⟩, he⟩
theorem nums_last {ts : List Tl} {n : Nat} (hl : ts.length = n) {p : Nat → Bool} (h : ∀ x, lastT ts x → p x = true) (hk : ∀ x, x < n → p x = true → keepP ts n p x = true) : numsOf n p = lastL ts := by
  subst hl
  refine lastL_is fun x hx => ?_
  have := lastT_is (ts := ts) (P := fun x => x < ts.length ∧ p x = true) (fun x hx => ⟨lastT_lt hx, h x hx⟩) (fun x hx => ⟨hx.1, keepP_iff.1 (hk x hx.1 hx.2)⟩) x
  rw [← this]
  exact ⟨fun h => ⟨hx, h⟩, fun h => h.2⟩
theorem nums_same {ts : List Tl} {n : Nat} {p : Nat → Bool} (h : (numsOf n fun x => p x && keepP ts n p x).length = (numsOf n p).length) : ∀ x, x < n → p x = true → keepP ts n p x = true := by
  unfold numsOf at h
  rw [List.length_map, List.length_map, show (fun x => p x && keepP ts n p x) = (fun x => keepP ts n p x && p x) from funext fun x => Bool.and_comm _ _, ← List.filter_filter] at h
  intro x hx hp
  exact filter_all h x (List.mem_filter.2 ⟨List.mem_range.2 hx, hp⟩)
theorem nums_less (ts : List Tl) (n : Nat) (p : Nat → Bool) : (numsOf n fun x => p x && keepP ts n p x).length ≤ (numsOf n p).length := by
  unfold numsOf
  rw [List.length_map, List.length_map, show (fun x => p x && keepP ts n p x) = (fun x => keepP ts n p x && p x) from funext fun x => Bool.and_comm _ _, ← List.filter_filter]
  exact List.length_filter_le _ _
theorem iwr_more {w : World} {lo hi hi' : Nat} {A : Option Addr} {xs : List Int} (h : IWr w lo hi A xs) (hh : hi ≤ hi') : IWr w lo hi' A xs := fun h0 => by
  obtain ⟨b, off, t, cs, e, h1, h2, h3, h4⟩ := h h0
  exact ⟨b, off, t, cs, e, h1, by omega, h3, h4⟩
def lenOf : Value → Nat | .slice _ n _ => n | _ => 0

set_option maxRecDepth 100000 in
set_option maxHeartbeats 2000000 in
theorem lastingNumbers_any (C : Nat) (A : Option Addr) (n c : Nat) (ts : List Tl) (w : World) (hn : n ≤ 1048576) (hl : ts.length = n) (hA : TR w w.heap.size A ts) (hC : C ≤ 1048576) (hs : colOk C ts) :
    Calls Try.prog 105 #[.agg #[.int .i64 (C : Int), .slice A n c]] w fun e w' => ∃ A' cap, e = .returned (.slice A' (lastL ts).length cap) ∧ Below w.heap.size w w' ∧ IWr w' w.heap.size w'.heap.size A' (lastL ts) := by
  have HS := Lib.hid hs
  have HA := Lib.hid hA
  clear hs hA
  go_enter Try.func105, Try.ntmps105
  go_wp2_with fail
  obtain ⟨w1, hw1⟩ : ∃ w1, w.alloc (Obj.cells #[.int .i64 (C : Int), .slice A n c] 29) = w1 := ⟨_, rfl⟩
  have hE : Ext w w1 := by rw [← hw1]; exact (Ext.refl w).alloc _
  have hB : Blk w1 w.heap.size 29 #[.int .i64 (C : Int), .slice A n c] := by rw [← hw1]; exact Blk.new w _ _
  rw [hw1]
  clear hw1
  have HB1 := Lib.hid hB
  have HX := Lib.hid (hE.below (Nat.le_refl _))
  clear hE hB
  refine (tileNumbers_any (C : Int) A n c w1 hn).mono ?_
  rintro e w2 ⟨A2, cap2, rfl, hb, hw⟩
  have HB2 := Lib.hid (HB1.out.below hb HB1.out.lt)
  have HX2 := Lib.hid (HX.out.trans (hb.mono HX.out.size))
  have HW := Lib.hid (hw.low HX.out.size)
  clear hb hw
  go_wp2_with fail
  go_loopw [3] (fun v wr => ∃ (p : Nat → Bool) (A' : Option Addr) (cap : Nat), v = .slice A' (numsOf n p).length cap ∧ (∀ x, lastT ts x → p x = true) ∧ IWr wr w.heap.size wr.heap.size A' (numsOf n p) ∧ Blk wr w.heap.size 29 #[.int .i64 (C : Int), .slice A n c] ∧ Below w.heap.size w wr) (fun v _ => lenOf v)
  case atStart => exact ⟨fun _ => true, A2, cap2, by rw [← upTo_nums, upTo_len], fun _ _ => rfl, by rw [← upTo_nums]; exact HW.out, HB2.out, HX2.out⟩
  case round =>
    obtain ⟨p, A', cap, rfl, hp, hw, hbk, hbl⟩ := hrel
    have HP := Lib.hid hp
    have HW3 := Lib.hid hw
    have HBK := Lib.hid hbk
    have HBL := Lib.hid hbl
    have r0 := hbk.rd 0 rfl
    have r1 := hbk.rd 1 rfl
    have hle := numsOf_le n p
    have hbt := fun cq => between_any C A n c ts A' (numsOf n p).length cq (numsOf n p) wr hn hl ((HA.out.below hbl (Nat.le_refl _)).more hbl.size) hC HS.out (by omega) rfl hw.ir (fun k hk => numsOf_in hk)
    rw [betwN_nums] at hbt
    have hls := nums_less ts n p
    have hnx := nums_same (ts := ts) (n := n) (p := p)
    have HNX := Lib.hid hnx
    generalize hq : (fun x => p x && keepP ts n p x) = q at hbt hls HNX
    have HQ := Lib.hid hq
    have HBT := Lib.hid hbt
    generalize hxl : (numsOf n p).length = m at HBT hls HNX hle ⊢
    have HXL := Lib.hid hxl
    clear hp hw hbk hbl hbt hq hnx hxl
    go_wp2_with fail
    refine (HBT.out _).mono ?_
    rintro e w3 ⟨A3, cap3, rfl, hb3, hw3⟩
    have HB3 := Lib.hid hb3
    have HW4 := Lib.hid hw3
    clear hb3 hw3 r0 r1
    generalize hyl : (numsOf n q).length = m3 at hls HNX ⊢
    have HYL := Lib.hid hyl
    clear hyl
    by_cases hme : m3 = m
    · have hlast : numsOf n p = lastL ts := nums_last hl HP.out (HNX.out hme)
      subst hme
      have HL := Lib.hid hlast
      clear hlast
      go_wp2_with fail
      go_ret
      exact ⟨A', cap, by rw [← HL.out, HXL.out]; rfl, HBL.out.trans (HB3.out.mono HBL.out.size), by rw [← HL.out]; exact iwr_more (HW3.out.below HB3.out) HB3.out.size⟩
    · go_wp2_with fail
      go_roundw
      case rel => exact ⟨q, A3, cap3, by rw [HYL.out], fun x hx => by rw [← HQ.out]; exact keep_last hl HP.out x hx, HW4.out.low HBL.out.size, HBK.out.below HB3.out HBK.out.lt, HBL.out.trans (HB3.out.mono HBL.out.size)⟩
      case measure => simp [lenOf]; omega

end Go.Proofs.Ytcakbnfpmpdljaa
