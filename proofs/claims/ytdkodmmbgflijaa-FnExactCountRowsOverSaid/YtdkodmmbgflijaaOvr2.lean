/- The program's words' codes, and the tiles under a colour. -/
import Derived.Test.YtdkodmmbgflijaaOvr1
namespace Go.Proofs.Ytdkodmmbgflijaa
set_option linter.unusedVariables false
set_option linter.unusedSimpArgs false
open Go.RowKit Go.Sort

theorem wc1 {c0 : Int} {ts : List Tl} {xs : List Int} (hs : isSet c0 ts = false) : wordCode c0 ts xs = 1 := by simp [wordCode, hs]
theorem wc2 {c0 : Int} {ts : List Tl} {xs : List Int} (hs : isSet c0 ts = true) (h : ¬ ((1 ≤ xs.length ∧ xs.length ≤ 20) ∧ isWord c0 xs = true)) : wordCode c0 ts xs = 2 := by unfold wordCode; rw [if_pos hs, if_neg h]
theorem wc0 {c0 : Int} {ts : List Tl} {xs : List Int} (hs : isSet c0 ts = true) (h : (1 ≤ xs.length ∧ xs.length ≤ 20) ∧ isWord c0 xs = true) : wordCode c0 ts xs = 0 := by unfold wordCode; rw [if_pos hs, if_pos h]

theorem areB_word (c : Int) (xs : List Int) : areB c xs = isWord c xs := by
  rw [Bool.eq_iff_iff]
  unfold areB isWord
  rw [List.all_eq_true, List.all_eq_true]
  constructor
  · intro h k hk
    have hk' := List.mem_range.1 hk
    rw [show xs.getD k 0 = xs[k] by simp [List.getD, hk']]
    exact h _ (List.getElem_mem hk')
  · intro h x hx
    obtain ⟨k, hk, rfl⟩ := List.getElem_of_mem hx
    have := h k (List.mem_range.2 hk)
    rw [show xs.getD k 0 = xs[k] by simp [List.getD, hk]] at this
    exact this
set_option maxRecDepth 100000 in
set_option maxHeartbeats 1000000 in
theorem checkWord_any (c0 : Int) (A : Option Addr) (n c : Nat) (ts : List Tl) (B : Option Addr) (m d : Nat) (xs : List Int) (w : World) (hn : n ≤ 1048576) (hl : ts.length = n) (hA : TR w w.heap.size A ts) (hm : m ≤ 1048576) (hlx : xs.length = m) (hB : IR w w.heap.size B xs) :
    Calls Try.prog 90 #[.agg #[.int .i64 c0, .slice A n c], .slice B m d] w fun e w' => e = .returned (.int .i64 (wordCode c0 ts xs)) ∧ Ext w w' := by
  have his : ∀ W, Ext w W → Calls Try.prog 18 #[.agg #[.int .i64 c0, .slice A n c]] W _ := fun W hW => isSet_any c0 A n c ts W (by omega) hl ((hA.ext hW (Nat.le_refl _)).more (hW.below (Nat.le_refl _)).size)
  have HI := Lib.hid his
  clear his hA
  have hlc := fun W => isRowLength_any (m : Int) W
  generalize hz : wordCode c0 ts xs = z
  have HZ := Lib.hid hz
  clear hz
  cases hs : isSet c0 ts with
  | false =>
    rw [hs] at HI
    have HS := Lib.hid hs
    clear hs
    clear hlc
    go_enter Try.func90, Try.ntmps90
    go_wp2_with fail
    refine (HI.out _ ((Ext.refl w).alloc _)).mono ?_
    rintro e w1 ⟨rfl, hx⟩
    have HX := Lib.hid (((Ext.refl w).alloc _).trans hx)
    clear hx
    go_wp2_with fail
    go_ret
    exact ⟨ret_i (by rw [← HZ.out, wc1 HS.out]), HX.out⟩
  | true =>
    rw [hs] at HI
    have HS := Lib.hid hs
    clear hs
    by_cases hok : 1 ≤ m ∧ m ≤ 20
    · rw [decide_eq_true (show 1 ≤ (m : Int) ∧ (m : Int) ≤ 20 by omega)] at hlc
      have HOK := Lib.hid hok
      have hac : ∀ W, Ext w W → Calls Try.prog 100 #[.slice B m d, .int .i64 c0] W _ := fun W hW => areColours_raw B m d xs c0 W (by omega) hlx (fun h => by obtain ⟨bx, ox, e, _, hc⟩ := (hB.ext hW (Nat.le_refl _)) (by omega); exact ⟨bx, ox, e, fun k hk => hc k (by omega)⟩)
      generalize hab : areB c0 xs = ab at hac
      have HAB := Lib.hid hab
      have HC := Lib.hid hac
      clear hok hac hab hB
      go_enter Try.func90, Try.ntmps90
      go_wp2_with fail
      refine (HI.out _ ((Ext.refl w).alloc _)).mono ?_
      rintro e w1 ⟨rfl, hx⟩
      have HB1 := Lib.hid ((Blk.new w 29 #[.int .i64 c0, .slice A n c]).ext hx)
      have HX := Lib.hid (((Ext.refl w).alloc _).trans hx)
      clear hx
      go_wp2_with fail
      refine (hlc _).mono ?_
      rintro e w1' ⟨rfl, rfl⟩
      clear hlc
      have r0 := HB1.out.rd 0 rfl
      go_wp2_with fail
      refine (HC.out _ HX.out).mono ?_
      rintro e w2 ⟨rfl, rfl⟩
      clear r0
      cases ab with
      | false =>
        go_wp2_with fail
        go_ret
        exact ⟨ret_i (by rw [← HZ.out, wc2 HS.out (fun h => by rw [← areB_word, HAB.out] at h; exact absurd h.2 (by decide))]), HX.out⟩
      | true =>
        go_wp2_with fail
        go_ret
        exact ⟨ret_i (by rw [← HZ.out, wc0 HS.out ⟨by rw [hlx]; exact HOK.out, by rw [← areB_word]; exact HAB.out⟩]), HX.out⟩
    · rw [decide_eq_false (show ¬ (1 ≤ (m : Int) ∧ (m : Int) ≤ 20) by omega)] at hlc
      have HOK := Lib.hid hok
      clear hok hB
      go_enter Try.func90, Try.ntmps90
      go_wp2_with fail
      refine (HI.out _ ((Ext.refl w).alloc _)).mono ?_
      rintro e w1 ⟨rfl, hx⟩
      have HX := Lib.hid (((Ext.refl w).alloc _).trans hx)
      clear hx
      go_wp2_with fail
      refine (hlc _).mono ?_
      rintro e w1' ⟨rfl, rfl⟩
      clear hlc
      go_wp2_with fail
      go_ret
      exact ⟨ret_i (by rw [← HZ.out, wc2 HS.out (fun h => HOK.out (by rw [← hlx]; exact h.1))]), HX.out⟩

/-- The tiles with this north colour. -/
def withN (ts : List Tl) (y : Int) : List Tl := ts.filter fun t => decide (t.2.1 = y)
theorem withN_snoc (ts : List Tl) (y : Int) {k : Nat} (hk : k < ts.length) : withN (ts.take (k + 1)) y = withN (ts.take k) y ++ (if (ts.getD k T0).2.1 = y then [ts.getD k T0] else []) := by
  rw [take_snoc ts hk]
  unfold withN
  rw [List.filter_append]
  congr 1
  by_cases h : (ts.getD k T0).2.1 = y <;> simp only [List.filter_cons, List.filter_nil, h, decide_true, decide_false, if_true, if_false, Bool.false_eq_true]
theorem withN_le (ts : List Tl) (y : Int) (k : Nat) : (withN (ts.take k) y).length ≤ k := by
  unfold withN
  have := List.length_filter_le (fun t : Tl => decide (t.2.1 = y)) (ts.take k)
  have h2 := List.length_take_le k ts
  omega

set_option maxRecDepth 100000 in
set_option maxHeartbeats 1000000 in
theorem tilesWithNorth_any (c0 : Int) (A : Option Addr) (n c : Nat) (ts : List Tl) (y : Int) (w : World) (hn : n ≤ 1048576) (hl : ts.length = n) (hA : TR w w.heap.size A ts) :
    Calls Try.prog 91 #[.agg #[.int .i64 c0, .slice A n c], .int .i64 y] w fun e w' => ∃ A' cap, e = .returned (.slice A' (withN ts y).length cap) ∧ Below w.heap.size w w' ∧ TW w' w.heap.size A' (withN ts y) := by
  obtain ⟨i0, hi, hz0, hz1, hz2⟩ := info_parts info_tile
  have HI := Lib.hid (And.intro hi (And.intro hz0 (And.intro hz1 hz2)))
  clear hi hz0 hz1 hz2
  go_enter Try.func91, Try.ntmps91
  go_wp2_with fail
  obtain ⟨W0, hW0⟩ : ∃ W0, w.alloc (Obj.cells #[.int .i64 c0, .slice A n c] 29) = W0 := ⟨_, rfl⟩
  have hs0 : W0.heap.size = w.heap.size + 1 := by rw [← hW0]; simp
  have hE : Ext w W0 := by rw [← hW0]; exact (Ext.refl w).alloc _
  have HH := Lib.hid (And.intro hs0 hE)
  rw [hW0]
  clear hW0 hs0 hE
  go_loopw [5, 11] (fun v i wr => ∃ k : Nat, k ≤ n ∧ i = .int .i64 k ∧ wr.ownsRow W0.heap.size 60 4 v (withN (ts.take k) y).length (flat (withN (ts.take k) y)) ∧ Below W0.heap.size W0 wr) (fun _ i _ => n - (intOf i).toNat)
  case atStart => exact ⟨0, Nat.zero_le _, rfl, World.ownsRow_nil _ _ _ _, Below.refl _ _⟩
  case round =>
    obtain ⟨k, hk, rfl, hown, hb⟩ := hrel
    have HO := Lib.hid hown
    have HB := Lib.hid hb
    have hE2 := (HH.out.2.below (Nat.le_refl _)).trans (hb.mono (by have := HH.out.1; omega))
    by_cases hlt : k < n
    · obtain ⟨b, o, rfl, hbl, ht⟩ := (hA.below hE2 (Nat.le_refl _)) (by omega)
      replace ht := ht k (by omega)
      have hst := withN_snoc ts y (k := k) (by omega)
      have hle := withN_le ts y k
      generalize ts.getD k T0 = t at ht hst
      obtain ⟨x0, x1, x2, x3⟩ := t
      obtain ⟨c0', c1, c2, c3⟩ := ht
      simp only at c0' c1 c2 c3 hst
      have HST := Lib.hid hst
      clear hown hb hA hE2 hst
      generalize hms : withN (ts.take k) y = us at HO HST hle
      have HMS := Lib.hid hms
      clear hms
      generalize hlu : us.length = lu at HO hle
      have HLU := Lib.hid hlu
      clear hlu
      by_cases hy : x1 = y
      · subst hy
        have hbe : (x1 == x1) = true := by simp
        go_wp2_with (at_builtin; refine wpList_append_own _ rfl _ _ 27 rfl W0.heap.size 60 i0 _ 4 32 Try.underlying27 HI.out.1 HI.out.2.1 HI.out.2.2.1 HI.out.2.2.2 rfl (by decide) _ lu _ rfl ((HO.out.alloc _).alloc _) ⟨wr.heap.size + 1, 0, none⟩ 1 1 [.int .i64 x0, .int .i64 x1, .int .i64 x2, .int .i64 x3] rfl rfl ?c1 ?c2 ?c3 ?c4 ?c5 ?_)
        case c2 => exact ⟨rfl, rfl, rfl, rfl⟩
        case c3 => unfold maxLen; omega
        case c4 => omega
        case c5 => have := HB.out.size; simp; omega
        intro v' w3 hown' hgrow _
        have e1 : withN (ts.take (k + 1)) x1 = us ++ [(x0, x1, x2, x3)] := by rw [HST.out]; simp
        have O3 := Lib.hid (show w3.ownsRow W0.heap.size 60 4 v' (withN (ts.take (k + 1)) x1).length (flat (withN (ts.take (k + 1)) x1)) by rw [e1, flat_snoc, List.length_append, HLU.out]; exact hown')
        have B3 := Lib.hid (((HB.out.alloc HB.out.size _).alloc (by have := HB.out.size; simp; omega) _).grown hgrow (by have := HB.out.size; simp; omega) (fun j hj => (HO.out.lt j hj).1))
        clear hown' hgrow HO HB c0' c1 c2 c3 e1
        go_wp2_with fail
        go_roundw
        case rel => exact ⟨k + 1, by omega, by go_num, O3.out, B3.out⟩
        case measure => simp [intOf]; omega
      · have hbe : (x1 == y) = false := by simp [hy]
        go_wp2_with fail
        go_roundw
        case rel =>
          have e1 : withN (ts.take (k + 1)) y = us := by rw [HST.out, if_neg hy, List.append_nil]
          exact ⟨k + 1, by omega, by go_num, by rw [e1, HLU.out]; exact HO.out.alloc _, HB.out.alloc HB.out.size _⟩
        case measure => simp [intOf]; omega
    · clear hb hA hE2
      obtain rfl : k = n := by omega
      rw [List.take_of_length_le (by omega)] at hown HO
      obtain ⟨A2, cap2, rfl, htw⟩ := own_tw hown rfl
      have HT := Lib.hid htw
      clear hown htw HO
      go_wp2_with fail
      go_ret
      exact ⟨A2, cap2, rfl, (HH.out.2.below (Nat.le_refl _)).trans (HB.out.mono (by have := HH.out.1; omega)), HT.out.low (by have := HH.out.1; omega)⟩
end Go.Proofs.Ytdkodmmbgflijaa
