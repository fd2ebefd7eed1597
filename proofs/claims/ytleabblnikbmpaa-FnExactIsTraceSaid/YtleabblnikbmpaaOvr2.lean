/- The program's words' codes, and the tiles under a colour. -/
import Derived.Test.YtleabblnikbmpaaOvr1
namespace Go.Proofs.Ytleabblnikbmpaa
set_option linter.unusedVariables false
set_option linter.unusedSimpArgs false
open Go.RowKit Go.Sort

theorem wc1 {c0 : Int} {ts : List Tl} {xs : List Int} (hs : isSet c0 ts = false) : wordCode c0 ts xs = 1 := by simp [wordCode, hs]
theorem wc2 {c0 : Int} {ts : List Tl} {xs : List Int} (hs : isSet c0 ts = true) (h : ¬ ((1 ≤ xs.length ∧ xs.length ≤ 20) ∧ isWord c0 xs = true)) : wordCode c0 ts xs = 2 := by unfold wordCode; rw [if_pos hs, if_neg h]
theorem wc0 {c0 : Int} {ts : List Tl} {xs : List Int} (hs : isSet c0 ts = true) (h : (1 ≤ xs.length ∧ xs.length ≤ 20) ∧ isWord c0 xs = true) : wordCode c0 ts xs = 0 := by unfold wordCode; rw [if_pos hs, if_pos h]

theorem areB_word (c : Int) (xs : List Int) : areB c xs = isWord c xs := by
  rw [Bool.eq_iff_iff]
  unfold areB isWord
  rw [List.all_eq_true, List.all_eq_true]
  constructor
  · intro h k hk
    have hk' := List.mem_range.1 hk
    rw [show xs.getD k 0 = xs[k] by simp [List.getD, hk']]
    exact h _ (List.getElem_mem hk')
  · intro h x hx
    obtain ⟨k, hk, rfl⟩ := List.getElem_of_mem hx
    have := h k (List.mem_range.2 hk)
    rw [show xs.getD k 0 = xs[k] by simp [List.getD, hk]] at this
    exact this
set_option maxRecDepth 100000 in
set_option maxHeartbeats 1000000 in
theorem checkWord_any (c0 : Int) (A : Option Addr) (n c : Nat) (ts : List Tl) (B : Option Addr) (m d : Nat) (xs : List Int) (w : World) (hn : n ≤ 1048576) (hl : ts.length = n) (hA : TR w w.heap.size A ts) (hm : m ≤ 1048576) (hlx : xs.length = m) (hB : IR w w.heap.size B xs) :
    Calls Try.prog 73 #[.agg #[.int .i64 c0, .slice A n c], .slice B m d] w fun e w' => e = .returned (.int .i64 (wordCode c0 ts xs)) ∧ Ext w w' := by
  have his : ∀ W, Ext w W → Calls Try.prog 82 #[.agg #[.int .i64 c0, .slice A n c]] W _ := fun W hW => isSet_any c0 A n c ts W (by omega) hl ((hA.ext hW (Nat.le_refl _)).more (hW.below (Nat.le_refl _)).size)
  have HI := Lib.hid his
  clear his hA
  have hlc := fun W => isRowLength_any (m : Int) W
  generalize hz : wordCode c0 ts xs = z
  have HZ := Lib.hid hz
  clear hz
  cases hs : isSet c0 ts with
  | false =>
    rw [hs] at HI
    have HS := Lib.hid hs
    clear hs
    clear hlc
    go_enter Try.func73, Try.ntmps73
    go_wp2_with fail
    refine (HI.out _ ((Ext.refl w).alloc _)).mono ?_
    rintro e w1 ⟨rfl, hx⟩
    have HX := Lib.hid (((Ext.refl w).alloc _).trans hx)
    clear hx
    go_wp2_with fail
    go_ret
    exact ⟨ret_i (by rw [← HZ.out, wc1 HS.out]), HX.out⟩
  | true =>
    rw [hs] at HI
    have HS := Lib.hid hs
    clear hs
    by_cases hok : 1 ≤ m ∧ m ≤ 20
    · rw [decide_eq_true (show 1 ≤ (m : Int) ∧ (m : Int) ≤ 20 by omega)] at hlc
      have HOK := Lib.hid hok
      have hac : ∀ W, Ext w W → Calls Try.prog 117 #[.slice B m d, .int .i64 c0] W _ := fun W hW => areColours_raw B m d xs c0 W (by omega) hlx (fun h => by obtain ⟨bx, ox, e, _, hc⟩ := (hB.ext hW (Nat.le_refl _)) (by omega); exact ⟨bx, ox, e, fun k hk => hc k (by omega)⟩)
      generalize hab : areB c0 xs = ab at hac
      have HAB := Lib.hid hab
      have HC := Lib.hid hac
      clear hok hac hab hB
      go_enter Try.func73, Try.ntmps73
      go_wp2_with fail
      refine (HI.out _ ((Ext.refl w).alloc _)).mono ?_
      rintro e w1 ⟨rfl, hx⟩
      have HB1 := Lib.hid ((Blk.new w 30 #[.int .i64 c0, .slice A n c]).ext hx)
      have HX := Lib.hid (((Ext.refl w).alloc _).trans hx)
      clear hx
      go_wp2_with fail
      refine (hlc _).mono ?_
      rintro e w1' ⟨rfl, rfl⟩
      clear hlc
      have r0 := HB1.out.rd 0 rfl
      go_wp2_with fail
      refine (HC.out _ HX.out).mono ?_
      rintro e w2 ⟨rfl, rfl⟩
      clear r0
      cases ab with
      | false =>
        go_wp2_with fail
        go_ret
        exact ⟨ret_i (by rw [← HZ.out, wc2 HS.out (fun h => by rw [← areB_word, HAB.out] at h; exact absurd h.2 (by decide))]), HX.out⟩
      | true =>
        go_wp2_with fail
        go_ret
        exact ⟨ret_i (by rw [← HZ.out, wc0 HS.out ⟨by rw [hlx]; exact HOK.out, by rw [← areB_word]; exact HAB.out⟩]), HX.out⟩
    · rw [decide_eq_false (show ¬ (1 ≤ (m : Int) ∧ (m : Int) ≤ 20) by omega)] at hlc
      have HOK := Lib.hid hok
      clear hok hB
      go_enter Try.func73, Try.ntmps73
      go_wp2_with fail
      refine (HI.out _ ((Ext.refl w).alloc _)).mono ?_
      rintro e w1 ⟨rfl, hx⟩
      have HX := Lib.hid (((Ext.refl w).alloc _).trans hx)
      clear hx
      go_wp2_with fail
      refine (hlc _).mono ?_
      rintro e w1' ⟨rfl, rfl⟩
      clear hlc
      go_wp2_with fail
      go_ret
      exact ⟨ret_i (by rw [← HZ.out, wc2 HS.out (fun h => HOK.out (by rw [← hlx]; exact h.1))]), HX.out⟩

/-- The tiles with this north colour. -/
def withN (ts : List Tl) (y : Int) : List Tl := ts.filter fun t => decide (t.2.1 = y)
theorem withN_snoc (ts : List Tl) (y : Int) {k : Nat} (hk : k < ts.length) : withN (ts.take (k + 1)) y = withN (ts.take k) y ++ (if (ts.getD k T0).2.1 = y then [ts.getD k T0] else []) := by
  rw [take_snoc ts hk]
  unfold withN
  rw [List.filter_append]
  congr 1
  by_cases h : (ts.getD k T0).2.1 = y <;> simp only [List.filter_cons, List.filter_nil, h, decide_true, decide_false, if_true, if_false, Bool.false_eq_true]
theorem withN_le (ts : List Tl) (y : Int) (k : Nat) : (withN (ts.take k) y).length ≤ k := by
  unfold withN
  have := List.length_filter_le (fun t : Tl => decide (t.2.1 = y)) (ts.take k)
  have h2 := List.length_take_le k ts
  omega

end Go.Proofs.Ytleabblnikbmpaa
