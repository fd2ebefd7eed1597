/- Lists that rename colours: whether a list is one, on both sides. -/
import Derived.Test.YtjbnmkiidongmaaInts
import Derived.Test.YtjbnmkiidongmaaGrow
import Derived.Lib.Hide
namespace Go.Proofs.Ytjbnmkiidongmaa
set_option linter.unusedVariables false
set_option linter.unusedSimpArgs false
open Go.RowKit Go.Sort

/-- Has p each of the numbers 0 to c - 1 once? -/
def isRen (p : List Int) (c : Int) : Bool := decide ((p.length : Int) = c) && (p.all (fun x => decide (0 ≤ x ∧ x < c)) && decide p.Nodup)
theorem iren_len {p : List Int} {c : Int} (h : ¬ (p.length : Int) = c) : isRen p c = false := by simp [isRen, h]
theorem iren_bad {p : List Int} {c : Int} {k : Nat} (hk : k < p.length) (h : ¬ (0 ≤ p.getD k 0 ∧ p.getD k 0 < c)) : isRen p c = false := by
  have : p.all (fun x => decide (0 ≤ x ∧ x < c)) = false := by
    rw [List.all_eq_false]
    exact ⟨p.getD k 0, by simp [List.getD, hk], by simpa using h⟩
  unfold isRen
  rw [this]
  simp
theorem itake_nodup {p : List Int} {k : Nat} (hk : k < p.length) (h : p.Nodup) : p.getD k 0 ∉ p.take k := by
  intro hm
  have h2 : (p.take (k + 1)).Nodup := h.sublist (List.take_sublist _ _)
  rw [List.take_succ_eq_append_getElem hk, List.nodup_append] at h2
  exact h2.2.2 _ hm _ (List.mem_singleton.2 rfl) (by simp [List.getD, hk])
theorem iren_dup {p : List Int} {c : Int} {k : Nat} (hk : k < p.length) (h : p.getD k 0 ∈ p.take k) : isRen p c = false := by
  have : decide p.Nodup = false := decide_eq_false fun hn => itake_nodup hk hn h
  simp [isRen, this]
theorem iren_all {p : List Int} {c : Int} (hl : (p.length : Int) = c) (h1 : ∀ j, j < p.length → 0 ≤ p.getD j 0 ∧ p.getD j 0 < c) (h2 : p.Nodup) : isRen p c = true := by
  have : p.all (fun x => decide (0 ≤ x ∧ x < c)) = true := by
    rw [List.all_eq_true]
    intro x hx
    obtain ⟨i, hi, rfl⟩ := List.mem_iff_getElem.1 hx
    have := h1 i hi
    rw [decide_eq_true_eq]
    simpa [List.getD, hi] using this
  unfold isRen
  rw [this]
  simp [hl, h2]
theorem itake_snoc' (xs : List Int) {k : Nat} (hk : k < xs.length) : xs.take (k + 1) = xs.take k ++ [xs.getD k 0] := by
  rw [List.take_succ_eq_append_getElem hk]
  simp [List.getD, hk]
theorem inodup_snoc {p : List Int} {k : Nat} (hk : k < p.length) (h : (p.take k).Nodup) (hn : p.getD k 0 ∉ p.take k) : (p.take (k + 1)).Nodup := by
  rw [itake_snoc' p hk, List.nodup_append]
  refine ⟨h, by simp, fun a ha b hb => ?_⟩
  rw [List.mem_singleton] at hb
  subst hb
  exact fun e => hn (e ▸ ha)

/-- Block g tells, for each number below sz, whether it is in the list. -/
def SeenB (w : World) (g : Nat) (t : TypeId) (sz : Nat) (p : List Int) : Prop := ∃ cs, Blk w g t cs ∧ cs.size = sz ∧ ∀ x : Nat, x < sz → cs[x]? = some (.bool (decide ((x : Int) ∈ p)))
theorem SeenB.start {w : World} {g : Nat} {t : TypeId} {cs : Array Value} (hb : Blk w g t cs) (h : ∀ x : Nat, x < cs.size → cs[x]? = some (.bool false)) : SeenB w g t cs.size [] := ⟨cs, hb, rfl, fun x hx => by simpa using h x hx⟩
theorem SeenB.at_ {w : World} {g : Nat} {t : TypeId} {sz : Nat} {p : List Int} (h : SeenB w g t sz p) {x : Nat} (hx : x < sz) : w.cell? ⟨g, x, none⟩ = some (.bool (decide ((x : Int) ∈ p))) ∧ w.frozen? ⟨g, x, none⟩ = false := by
  obtain ⟨cs, hb, hs, hc⟩ := h
  exact ⟨(hb.cell x).trans (hc x hx), hb.frozen x⟩
theorem SeenB.below {w w' : World} {g : Nat} {t : TypeId} {sz : Nat} {p : List Int} (h : SeenB w g t sz p) (hx : Below w.heap.size w w') : SeenB w' g t sz p := by
  obtain ⟨cs, hb, hs, hc⟩ := h
  exact ⟨cs, hb.below hx hb.lt, hs, hc⟩
theorem SeenB.step {w : World} {g : Nat} {t : TypeId} {sz : Nat} {p : List Int} (h : SeenB w g t sz p) {x : Nat} (hx : x < sz) : SeenB (w.setCell ⟨g, x, none⟩ (.bool true)) g t sz (p ++ [(x : Int)]) := by
  obtain ⟨cs, hb, hs, hc⟩ := h
  refine ⟨cs.setIfInBounds x (.bool true), hb.set_ _ _, by simpa using hs, fun y hy => ?_⟩
  rw [Array.getElem?_setIfInBounds]
  by_cases e : x = y
  · subst e
    rw [if_pos rfl, if_pos (by omega)]
    simp
  · rw [if_neg e, hc y hy]
    have : ¬ ((y : Int) = (x : Int)) := by omega
    simp [this]

set_option maxRecDepth 100000 in
set_option maxHeartbeats 1000000 in
theorem isRenaming_any (A : Option Addr) (m d : Nat) (p : List Int) (c : Int) (w : World) (hm : m ≤ 1048576) (hl : p.length = m) (hc : 1 ≤ c ∧ c ≤ 6) (hA : IR w w.heap.size A p) :
    Calls Try.prog 78 #[.slice A m d, .int .i64 c] w fun e w' => e = .returned (.bool (isRen p c)) ∧ Below w.heap.size w w' := by
  obtain ⟨c, rfl⟩ : ∃ n : Nat, c = (n : Int) := ⟨c.toNat, by omega⟩
  generalize hr : isRen p (c : Int) = r
  have HR := Lib.hid hr
  clear hr
  by_cases hmc : m = c
  · subst hmc
    go_enter Try.func78, Try.ntmps78
    go_wp2_with fail
    go_loopw [14] (fun i wr => ∃ k : Nat, k ≤ m ∧ i = .int .i64 k ∧ (∀ j, j < k → 0 ≤ p.getD j 0 ∧ p.getD j 0 < m) ∧ (p.take k).Nodup ∧ SeenB wr w.heap.size 110 6 (p.take k) ∧ Below w.heap.size w wr) (fun i _ => m - (intOf i).toNat)
    case atStart => exact ⟨0, Nat.zero_le _, rfl, fun j hj => absurd hj (Nat.not_lt_zero _), by simp, SeenB.start (Blk.new w _ #[.bool false, .bool false, .bool false, .bool false, .bool false, .bool false]) (fun x hx => by
      have hx' : x < 6 := hx
      obtain rfl | rfl | rfl | rfl | rfl | rfl : x = 0 ∨ x = 1 ∨ x = 2 ∨ x = 3 ∨ x = 4 ∨ x = 5 := by omega
      all_goals rfl), (Below.refl _ _).alloc (Nat.le_refl _) _⟩
    case round =>
      obtain ⟨k, hk, rfl, h1, h2, hs, hb⟩ := hrel
      have H1 := Lib.hid h1
      have H2 := Lib.hid h2
      have HS := Lib.hid hs
      have HB := Lib.hid hb
      clear h1 h2 hs
      by_cases hlt : k < m
      · obtain ⟨bx, ox, rfl, -, hcx⟩ := (hA.below hb (Nat.le_refl _)) (by omega)
        have q1 := hcx k (by omega)
        generalize hX : p.getD k 0 = x at q1
        have EX := Lib.hid hX
        clear hcx hA hX hb
        by_cases g1 : x < 0
        · go_wp2_with fail
          go_ret
          exact ⟨ret_b (by rw [← HR.out, iren_bad (k := k) (by omega) (by rw [EX.out]; omega)]), HB.out⟩
        · by_cases g2 : (m : Int) ≤ x
          · go_wp2_with fail
            go_ret
            exact ⟨ret_b (by rw [← HR.out, iren_bad (k := k) (by omega) (by rw [EX.out]; omega)]), HB.out⟩
          · obtain ⟨x, rfl⟩ : ∃ n : Nat, x = (n : Int) := ⟨x.toNat, by omega⟩
            have hx6 : x < 6 := by omega
            have hx6' : (x : Int) < 6 := by omega
            obtain ⟨q2, z2⟩ := HS.out.at_ hx6
            generalize hz : decide ((x : Int) ∈ p.take k) = z at q2
            have HZ := Lib.hid hz
            clear hz
            cases z
            · go_wp2_with fail
              have S2 := Lib.hid (HS.out.step hx6)
              have hnm : p.getD k 0 ∉ p.take k := by rw [EX.out]; exact of_decide_eq_false HZ.out
              have e2 : p.take k ++ [(x : Int)] = p.take (k + 1) := by rw [itake_snoc' p (by omega), EX.out]
              have H3 := Lib.hid (inodup_snoc (by omega) H2.out hnm)
              have E2 := Lib.hid e2
              clear hnm e2
              go_roundw
              case rel =>
                refine ⟨k + 1, by omega, by go_num, ?_, H3.out, by rw [← E2.out]; exact S2.out, HB.out.setCell (Nat.le_refl _) _⟩
                intro j hj
                by_cases hjk : j = k
                · subst hjk
                  rw [EX.out]
                  omega
                · exact H1.out j (by omega)
              case measure => simp [intOf]; omega
            · go_wp2_with fail
              go_ret
              exact ⟨ret_b (by rw [← HR.out, iren_dup (k := k) (by omega) (by rw [EX.out]; exact of_decide_eq_true HZ.out)]), HB.out⟩
      · obtain rfl : k = m := by omega
        clear hA hb
        go_wp2_with fail
        go_ret
        exact ⟨ret_b (by rw [← HR.out, iren_all (by omega) (fun j hj => H1.out j (by omega)) (by have := H2.out; rwa [List.take_of_length_le (by omega)] at this)]), HB.out⟩
  · have hmc' : ((m : Int) != (c : Int)) = true := by simp; omega
    have hmc2 : ¬ ((m : Int) = (c : Int)) := by omega
    go_enter Try.func78, Try.ntmps78
    go_wp2_with fail
    go_ret
    exact ⟨ret_b (by rw [← HR.out, iren_len (by omega)]), Below.refl _ _⟩

theorem info_bool : (Try.prog.info? 4).map (fun i => (i.zero, i.size, i.bytes)) = some (some (.bool false), 1, 1) := by kernel_rfl
theorem made_false {n : Nat} {cs : Array Value} (h : cs = madeCells (Value.cells (.bool false)) (n * 1)) : cs.size = n ∧ ∀ x : Nat, x < cs.size → cs[x]? = some (.bool false) := by
  have hs : cs.size = n := by rw [h, size_madeCells, Nat.mul_one]
  refine ⟨hs, fun x hx => ?_⟩
  subst h
  rw [Array.getElem?_eq_getElem hx]
  simp [madeCells, Value.cells, Nat.mod_one]
set_option maxRecDepth 100000 in
set_option maxHeartbeats 1000000 in
theorem l01Order_any (A : Option Addr) (m d : Nat) (p : List Int) (c : Int) (w : World) (hm : m ≤ 1048576) (hl : p.length = m) (hc : 1 ≤ c ∧ c ≤ 6) (hA : IR w w.heap.size A p) :
    Calls Try.prog 76 #[.slice A m d, .int .i64 c] w fun e w' => e = .returned (.bool (isRen p c)) ∧ Below w.heap.size w w' := by
  obtain ⟨c, rfl⟩ : ∃ n : Nat, c = (n : Int) := ⟨c.toNat, by omega⟩
  generalize hr : isRen p (c : Int) = r
  have HR := Lib.hid hr
  clear hr
  obtain ⟨i0, hi, hz0, hz1, hz2⟩ := info_parts info_bool
  have hmk := fun W => run_make_rowN (P := Try.prog) 79 4 i0 _ (by kernel_rfl) hi hz0 .i64 .i64 c c (Nat.le_refl _) (by rw [hz2]; omega) (by omega) W
  rw [hz1] at hmk
  generalize hcs : madeCells (Value.cells (.bool false)) (c * 1) = cs0 at hmk
  have hfa := made_false hcs.symm
  have HF := Lib.hid hfa
  clear hcs hfa hi hz0 hz1 hz2
  have hw1 : IntKind.i64.wrap (c : Int) = c := IntWalk.i64_in _ (by omega)
  have hw2 : IntKind.i64.wrap ((c : Int) - 1) = (c : Int) - 1 := IntWalk.i64_in _ (by omega)
  go_enter Try.func76, Try.ntmps76
  go_wp2_with fail
  clear hmk hw1
  go_loopw [6] (fun i wr => ∃ k : Nat, k ≤ m ∧ i = .int .i64 k ∧ (∀ j, j < k → 0 ≤ p.getD j 0 ∧ p.getD j 0 < c) ∧ (p.take k).Nodup ∧ SeenB wr w.heap.size 4 c (p.take k) ∧ Below w.heap.size w wr) (fun i _ => m - (intOf i).toNat)
  case atStart => exact ⟨0, Nat.zero_le _, rfl, fun j hj => absurd hj (Nat.not_lt_zero _), by simp, by have := SeenB.start (Blk.new w 4 cs0) HF.out.2; rw [HF.out.1] at this; simpa using this, (Below.refl _ _).alloc (Nat.le_refl _) _⟩
  case round =>
    obtain ⟨k, hk, rfl, h1, h2, hs, hb⟩ := hrel
    have H1 := Lib.hid h1
    have H2 := Lib.hid h2
    have HS := Lib.hid hs
    have HB := Lib.hid hb
    clear h1 h2 hs
    by_cases hlt : k < m
    · obtain ⟨bx, ox, rfl, -, hcx⟩ := (hA.below hb (Nat.le_refl _)) (by omega)
      have q1 := hcx k (by omega)
      generalize hX : p.getD k 0 = x at q1
      have EX := Lib.hid hX
      clear hcx hA hX hb
      have hin := fun W => l01In_any x 0 ((c : Int) - 1) W
      by_cases g1 : 0 ≤ x ∧ x < (c : Int)
      · obtain ⟨x, rfl⟩ : ∃ n : Nat, x = (n : Int) := ⟨x.toNat, by omega⟩
        rw [decide_eq_true (show 0 ≤ (x : Int) ∧ (x : Int) ≤ (c : Int) - 1 by omega)] at hin
        have hx6 : x < c := by omega
        have hx6' : (x : Int) < (c : Int) := by omega
        obtain ⟨q2, z2⟩ := HS.out.at_ hx6
        generalize hz : decide ((x : Int) ∈ p.take k) = z at q2
        have HZ := Lib.hid hz
        clear hz g1
        cases z
        · go_wp2_with (go_at_call 59; with_reducible refine (hin _).mono ?_; rintro e w' ⟨rfl, rfl⟩)
          have S2 := Lib.hid (HS.out.step hx6)
          have hnm : p.getD k 0 ∉ p.take k := by rw [EX.out]; exact of_decide_eq_false HZ.out
          have e2 : p.take k ++ [(x : Int)] = p.take (k + 1) := by rw [itake_snoc' p (by omega), EX.out]
          have H3 := Lib.hid (inodup_snoc (by omega) H2.out hnm)
          have E2 := Lib.hid e2
          clear hnm e2
          go_roundw
          case rel =>
            refine ⟨k + 1, by omega, by go_num, ?_, H3.out, by rw [← E2.out]; exact S2.out, HB.out.setCell (Nat.le_refl _) _⟩
            intro j hj
            by_cases hjk : j = k
            · subst hjk
              rw [EX.out]
              omega
            · exact H1.out j (by omega)
          case measure => simp [intOf]; omega
        · go_wp2_with (go_at_call 59; with_reducible refine (hin _).mono ?_; rintro e w' ⟨rfl, rfl⟩)
          go_ret
          exact ⟨ret_b (by rw [← HR.out, iren_dup (k := k) (by omega) (by rw [EX.out]; exact of_decide_eq_true HZ.out)]), HB.out⟩
      · rw [decide_eq_false (show ¬ (0 ≤ x ∧ x ≤ (c : Int) - 1) by omega)] at hin
        have G1 := Lib.hid g1
        clear g1
        go_wp2_with (go_at_call 59; with_reducible refine (hin _).mono ?_; rintro e w' ⟨rfl, rfl⟩)
        go_ret
        exact ⟨ret_b (by rw [← HR.out, iren_bad (k := k) (by omega) (by rw [EX.out]; exact G1.out)]), HB.out⟩
    · obtain rfl : k = m := by omega
      clear hA hb
      go_wp2_with fail
      go_ret
      refine ⟨ret_b ?_, HB.out⟩
      rw [← HR.out]
      by_cases e : k = c
      · subst e
        rw [iren_all (by omega) (fun j hj => H1.out j (by omega)) (by have := H2.out; rwa [List.take_of_length_le (by omega)] at this)]
        simp
      · rw [iren_len (by omega)]
        have : ¬ ((k : Int) = (c : Int)) := by omega
        simp [this]
end Go.Proofs.Ytjbnmkiidongmaa
